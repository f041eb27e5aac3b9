/- Where a header of a kind stands: the program's Where and the document's. -/
import Derived.Test.YthdgfhllieknlaaJj
namespace Go.Proofs.Ythdgfhllieknlaa
open Go.ChangeShapes Go.WideShapes Go.ChangeAt Go.RowKit
set_option maxRecDepth 10000

/-- Where the first header of a kind stands. -/
def fnd (k : Int) : Nat → Hs → Option Nat
  | _, [] => none
  | n, x :: r => if x.1 = k then some n else fnd k (n + sz x.1) r

def whO (k : Int) : Option Nat → Int × Int × Bool × Int
  | some n => ((n : Int), ((sz k : Nat) : Int), true, 0)
  | none => (0, 0, false, 0)
def wh (zs : List Int) (k : Int) : Int × Int × Bool × Int := if 1 ≤ k ∧ k ≤ 6 then (if (PE zs).1 = 0 then whO k (fnd k 0 (PE zs).2) else (0, 0, false, (PE zs).1)) else (0, 0, false, 120)
def whV (r : Int × Int × Bool × Int) : Value := .tuple #[.agg #[.int .i64 r.1, .int .i64 r.2.1], .bool r.2.2.1, .int .i64 r.2.2.2]

/-- The result's box, and what was there before. -/
structure RJ (w u : World) : Prop where
  box : ∃ x y : Value, u.heap[w.heap.size]? = some (.cells [x, y].toArray 52 (0, 0))
  old : Below w.heap.size w u
theorem RJ.first (w : World) : RJ w (w.alloc (.cells [Value.int .i64 0, Value.int .i64 0].toArray 52)) := ⟨⟨_, _, heap_alloc_new w _⟩, (Below.refl _ _).alloc (Nat.le_refl _) _⟩
theorem RJ.below {w u v : World} (h : RJ w u) (b : Below u.heap.size u v) : RJ w v := by
  obtain ⟨⟨x, y, hb⟩, ho⟩ := h
  exact ⟨⟨x, y, (b.block _ (Array.getElem?_eq_some_iff.1 hb).1).trans hb⟩, ho.trans (b.mono ho.size)⟩
theorem RJ.there {w u : World} (h : RJ w u) : u.there w.heap.size 0 2 := by
  obtain ⟨⟨x, y, hb⟩, ho⟩ := h
  exact there_block hb
theorem RJ.lt {w u : World} (h : RJ w u) : w.heap.size < u.heap.size := by
  obtain ⟨⟨x, y, hb⟩, ho⟩ := h
  exact (Array.getElem?_eq_some_iff.1 hb).1
theorem RJ.done {w u : World} (h : RJ w u) (x y : Value) : (u.setCells w.heap.size 0 [x, y]).heap[w.heap.size]? = some (.cells [x, y].toArray 52 (0, 0)) ∧ Below w.heap.size w (u.setCells w.heap.size 0 [x, y]) := by
  obtain ⟨⟨x', y', hb⟩, ho⟩ := h
  have hk := (Kept.refl (fun k => k = w.heap.size) u).setCells w.heap.size 0 [x, y] (fun _ => rfl)
  exact ⟨heap_whole (L := [x', y']) hb rfl, ho.trans (hk.below ho.size (fun k hk => by omega))⟩
theorem rg_one (x y : Int) : [Value.int .i64 x, Value.int .i64 y].toArray.all (·.oneCell') = true := all_oneCell_toArray (by intro v hv; simp at hv; rcases hv with rfl | rfl <;> rfl)
theorem info_rg : (Try.prog.info? 52).map (·.size) = some 2 := by kernel_rfl

/-- Both boxes: the result's and the row of what is found. -/
def wkT (w : World) (x y : Value) (e : TypeId) (size : Nat) (v : Value) (n : Nat) (xs : List Value) : List Thing := [cellsT w.heap.size [x, y].toArray 52, rowT (w.heap.size + 1) e size v n xs]

theorem fnd_at (k : Int) (out : Hs) (i : Nat) (x : Int × List Value) (h : out[i]? = some x) (n : Nat) : fnd k n (out.drop i) = if x.1 = k then some n else fnd k (n + sz x.1) (out.drop (i + 1)) := by
  obtain ⟨hlt, he⟩ := List.getElem?_eq_some_iff.1 h
  rw [← List.getElem_cons_drop hlt, he, fnd]

set_option maxHeartbeats 2000000 in
theorem where_any (k : Int) (a : Option Addr) (n c : Nat) (zs : List Int) (w : World) (k0 : 0 ≤ k) (k1 : k ≤ 255) (hz' : zs.length = n) (hB : Bs w a zs) (hc : n ≤ c) :
    Calls Try.prog 14 #[.slice a n c, .int .u8 k] w fun e w' => e = .returned (whV (wh zs k)) ∧ Below w.heap.size w w' := by
  have J1 := Hid.mk' (RJ.first w)
  have HB := Hid.mk' hB
  have HWK : Hid (∀ u, Below w.heap.size w u → Calls Try.prog 21 #[.slice a n c] u fun e w' => ∃ v, e = .returned (.tuple #[v, .int .i64 (PE zs).1]) ∧ w'.ownsRow u.heap.size 71 75 v (PE zs).2.length (fC 0 (PE zs).2) ∧ Below u.heap.size u w') := Hid.mk' (fun u hu => walk_any a n c zs u hz' (hB.below hu) hc)
  clear hB hz'
  unfold wh
  by_cases hk : 1 ≤ k ∧ k ≤ 6
  · obtain ⟨k2, k3⟩ := hk
    rw [if_pos ⟨k2, k3⟩]
    by_cases hE : (PE zs).1 = 0
    · obtain ⟨ok, fits, one, few⟩ := PE_ok HB.out.bytes hE
      rw [hE] at HWK
      rw [if_pos hE]
      obtain ⟨out, HO⟩ : ∃ out, Hid ((PE zs).2 = out) := ⟨_, rfl⟩
      rw [HO.out] at ok one few HWK
      rw [HO.out]
      clear hE fits HO
      have OK := Hid.mk' ok
      clear ok
      obtain ⟨N, HN⟩ : ∃ N, Hid (out.length = N) := ⟨_, rfl⟩
      rw [HN.out] at one few HWK
      obtain ⟨R, HR⟩ : ∃ R, Hid (fnd k 0 out = R) := ⟨_, rfl⟩
      rw [HR.out]
      go_enter Try.func14, Try.ntmps14
      go_wp2_with fail
      refine (HWK.out _ J1.out.old).mono ?_
      rintro e w1 ⟨v, rfl, own1, b1⟩
      obtain ⟨gl, cl, rfl, hcl⟩ := own_some own1 (by omega)
      have J2 := Hid.mk' (J1.out.below b1)
      have OW := Hid.mk' own1
      clear own1 b1 HWK J1
      go_wp2_with fail
      go_loopg [29] N (fun f s29 wr => ∃ i : Nat, s29 = .int .i64 i ∧ i ≤ N ∧ N - i ≤ f ∧ Hid (fnd k (hTot (out.take i)) (out.drop i) = R) ∧ Hid (Below w1.heap.size w1 wr))
      case atStart => exact ⟨0, rfl, by omega, by omega, HR, Below.refl _ _⟩
      case round =>
        obtain ⟨i, rfl, hi, hf, HF0, HBL⟩ := hrel
        have J3 := Hid.mk' (J2.out.below HBL.out)
        by_cases hlt : i < N
        · obtain ⟨⟨kx, L⟩, hx⟩ : ∃ x, out[i]? = some x := ⟨_, List.getElem?_eq_getElem (by rw [HN.out]; exact hlt)⟩
          have KX := Hid.mk' (OK.out (kx, L) (List.mem_of_getElem? hx))
          have KH := Hid.mk' (hk_hh KX.out)
          obtain ⟨B, hB⟩ := fC_at out i kx L hx
          have HTP := Hid.mk' (take_push out i kx L hx)
          have HLA : Hid ((fC 0 (out.take i)).length = i * 75) := Hid.mk' (by rw [fC_len _ _ (OK.out.take i), List.length_take, HN.out, Nat.min_eq_left hi])
          have hFA := HF0.out
          rw [fnd_at k out i _ hx] at hFA
          obtain ⟨P, HP⟩ : ∃ P, Hid (hTot (out.take i) = P) := ⟨_, rfl⟩
          obtain ⟨s, HSZ⟩ : ∃ s, Hid (sz kx = s) := ⟨_, rfl⟩
          obtain ⟨H, HHk⟩ : ∃ H, Hid (hk kx L = H) := ⟨_, rfl⟩
          have hc0 : H[0]? = some (.int .u8 kx) := by rw [← HHk.out]; rfl
          rw [HHk.out, HSZ.out, HP.out] at hB
          rw [HHk.out] at KH
          obtain ⟨F, HF⟩ : ∃ F, Hid (H ++ [Value.int .i64 P, Value.int .i64 s] = F) := ⟨_, rfl⟩
          rw [HF.out] at hB
          have hh73 := Hid.mk' (hh_len KH.out)
          have hF75 : Hid (F.length = 75) := Hid.mk' (by rw [← HF.out, List.length_append, hh73.out]; rfl)
          have hF1 : Hid (F.toArray.all (·.oneCell') = true) := Hid.mk' (all_oneCell_toArray (by
            rw [← HF.out]; intro u hu
            rcases List.mem_append.1 hu with hu | hu
            · exact hh_mem KH.out u hu
            · simp at hu; rcases hu with rfl | rfl <;> rfl))
          have RG : Hid (wr.rangeAt gl (i * 75) F) := Hid.mk' (range_own (Kept.owns OW.out (Kept.of_below (S := fun _ => False) HBL.out) (fun _ _ h => h)) hB HLA.out)
          have f0 : F[0]? = some (.int .u8 kx) := by rw [← HF.out, List.getElem?_append_left (by rw [hh73.out]; omega)]; exact hc0
          have F0 : F.toArray[0]? = some (.int .u8 kx) := by simpa using f0
          have J4 : Hid (RJ w (wr.alloc (.cells F.toArray 71))) := Hid.mk' (J3.out.below ((Below.refl _ _).alloc (Nat.le_refl _) _))
          have R4 : Hid ((wr.alloc (.cells F.toArray 71)).rangeAt wr.heap.size 73 [.int .i64 P, .int .i64 s]) := Hid.mk' (by
            intro j v hv
            have hlt := (List.getElem?_eq_some_iff.1 hv).1
            rw [World.cell?_alloc_new, List.getElem?_toArray, ← HF.out, List.getElem?_append_right (by rw [hh73.out]; omega), hh73.out, Nat.add_sub_cancel_left]
            exact hv)
          have T4 := Hid.mk' J4.out.there
          clear hB hx hc0
          by_cases hkx : kx = k
          · subst hkx
            rw [if_pos rfl, HP.out] at hFA
            subst hFA
            go_wp2_with (first
              | refine wpList_load_mid rfl 71 _ rfl gl (i * 75) rfl F _ RG.out Try.underlying71 rfl (by rw [hF75.out]; exact info_f75) ?_
              | refine wpList_store_new rfl 71 _ _ rfl _ _ F rfl rfl (by rw [hF75.out]; rfl) (by rw [hF75.out]; exact info_f75) hF1.out ?_
              | refine wpList_load_mid rfl 52 _ rfl wr.heap.size 73 rfl [.int .i64 P, .int .i64 s] _ R4.out Try.underlying52 rfl info_rg ?_
              | refine wpList_store_mid rfl 52 _ _ rfl w.heap.size 0 [Value.int .i64 P, Value.int .i64 s].toArray rfl rfl T4.out info_rg (rg_one _ _) ?_)
            obtain ⟨D1, D2⟩ := J4.out.done (.int .i64 P) (.int .i64 s)
            refine ret_cell_tmp2 rfl w.heap.size 52 [.int .i64 P, .int .i64 s] (0, 0) _ rfl D1 Try.underlying52 rfl info_rg rfl ?_
            refine ⟨?_, D2⟩
            show _ = Ending.returned (.tuple #[.agg #[.int .i64 P, .int .i64 ((sz kx : Nat) : Int)], .bool true, .int .i64 0])
            rw [HSZ.out]; rfl
          · rw [if_neg hkx] at hFA
            have HFA : Hid (fnd k (hTot (out.take (i + 1))) (out.drop (i + 1)) = R) := Hid.mk' (by rw [HTP.out, hTot_app]; simpa [hTot] using hFA)
            have B4 : Hid (Below w1.heap.size w1 (wr.alloc (.cells F.toArray 71))) := Hid.mk' (HBL.out.alloc HBL.out.size _)
            clear hFA
            go_wp2_with (first
              | refine wpList_load_mid rfl 71 _ rfl gl (i * 75) rfl F _ RG.out Try.underlying71 rfl (by rw [hF75.out]; exact info_f75) ?_
              | refine wpList_store_new rfl 71 _ _ rfl _ _ F rfl rfl (by rw [hF75.out]; rfl) (by rw [hF75.out]; exact info_f75) hF1.out ?_)
            go_roundg (N - (i + 1))
            case measure => omega
            case rel => exact ⟨i + 1, by go_num, by omega, by omega, HFA, B4⟩
        · have hiN : i = N := by omega
          have hR : R = none := by
            rw [← HF0.out, List.drop_of_length_le (by rw [HN.out]; omega)]; rfl
          subst hR
          have T3 := Hid.mk' J3.out.there
          go_wp2_with (first | refine wpList_store_mid rfl 52 _ _ rfl w.heap.size 0 [Value.int .i64 0, Value.int .i64 0].toArray rfl rfl T3.out info_rg (rg_one _ _) ?_)
          obtain ⟨D1, D2⟩ := J3.out.done (.int .i64 0) (.int .i64 0)
          refine ret_cell_tmp2 rfl w.heap.size 52 [.int .i64 0, .int .i64 0] (0, 0) _ rfl D1 Try.underlying52 rfl info_rg rfl ?_
          exact ⟨rfl, D2⟩
    · rw [if_neg hE]
      have hd := Hid.mk' (PE_err hE)
      obtain ⟨E, HE⟩ : ∃ E, Hid ((PE zs).1 = E) := ⟨_, rfl⟩
      rw [HE.out] at hE HWK hd
      rw [HE.out]
      have hEb : (E == 0) = false := by simpa using hE
      go_enter Try.func14, Try.ntmps14
      go_wp2_with fail
      refine (HWK.out _ J1.out.old).mono ?_
      rintro e w1 ⟨v, rfl, own1, b1⟩
      have J2 := Hid.mk' (J1.out.below b1)
      have T2 := Hid.mk' J2.out.there
      clear own1 b1 HWK
      go_wp2_with (first | refine wpList_store_mid rfl 52 _ _ rfl w.heap.size 0 [Value.int .i64 0, Value.int .i64 0].toArray rfl rfl T2.out info_rg (rg_one _ _) ?_)
      obtain ⟨D1, D2⟩ := J2.out.done (.int .i64 0) (.int .i64 0)
      refine ret_cell_tmp2 rfl w.heap.size 52 [.int .i64 0, .int .i64 0] (0, 0) _ rfl D1 Try.underlying52 rfl info_rg rfl ?_
      exact ⟨rfl, D2⟩
  · rw [if_neg hk]
    by_cases hk1 : k < 1
    · go_enter Try.func14, Try.ntmps14
      go_wp2
      refine ret_cell_tmp2 rfl w.heap.size 52 [.int .i64 0, .int .i64 0] (0, 0) _ rfl (heap_alloc_new w _) Try.underlying52 rfl info_rg rfl ?_
      exact ⟨rfl, J1.out.old⟩
    · have hk6 : 6 < k := by omega
      go_enter Try.func14, Try.ntmps14
      go_wp2
      refine ret_cell_tmp2 rfl w.heap.size 52 [.int .i64 0, .int .i64 0] (0, 0) _ rfl (heap_alloc_new w _) Try.underlying52 rfl info_rg rfl ?_
      exact ⟨rfl, J1.out.old⟩
end Go.Proofs.Ythdgfhllieknlaa
