/- The contract of the statements' own 'shows' of layer 4. -/
import Derived.Test.YtbinedhgjmfceaaHs
namespace Go.Proofs.Ytbinedhgjmfceaa
open Go.ChangeShapes Go.WideShapes Go.ChangeAt Go.RowKit

theorem bs_at {w : World} {base : Nat} {t : TypeId} {a : Option Addr} {n c m : Nat} {X : List Int} (h : w.ownsRow base t 1 (.slice a n c) m (X.map (Value.int .u8))) (hm : X.length = m) (hb : Bytes X) (hl : m ≤ 140737488355328) : Bs w a X := by
  subst hm
  exact bs_rw h hb hl

section
variable {w : World} {F : Nat → Prop} {sl pl : List Nat} {σ : St} {i s : Nat}

theorem shown_gone (hi : σ.hs[i]? = some none) : σ.shown i = [] ∧ σ.cnt i = 0 := by
  unfold St.shown St.cnt; simp [hi]
theorem shown_live {j : Nat} {G : Gr} (hi : σ.hs[i]? = some (some j)) (hG : σ.gs[j]? = some G) : σ.shown i = G.B ∧ σ.cnt i = many σ.hs j := by
  unfold St.shown St.cnt; simp [hi, hG]

theorem sh_handle (h : Shs pgS w F sl pl σ) (hs : sl[i]? = some s) : σ.hs[i]? = some none ∨ ∃ j G, σ.hs[i]? = some (some j) ∧ σ.gs[j]? = some G := by
  have hl := h.len
  have hlt := (List.getElem?_eq_some_iff.1 hs).1
  obtain ⟨o, ho⟩ : ∃ o, σ.hs[i]? = some o := ⟨_, List.getElem?_eq_getElem (by omega)⟩
  cases o with
  | none => exact .inl ho
  | some j => exact .inr ⟨j, _, ho, List.getElem?_eq_getElem (h.rng ho)⟩
theorem rd_handle (h : Shs dcS w F sl pl σ) (hs : sl[i]? = some s) : σ.hs[i]? = some none ∨ ∃ j G, σ.hs[i]? = some (some j) ∧ σ.gs[j]? = some G := by
  have hl := h.len
  have hlt := (List.getElem?_eq_some_iff.1 hs).1
  obtain ⟨o, ho⟩ : ∃ o, σ.hs[i]? = some o := ⟨_, List.getElem?_eq_getElem (by omega)⟩
  cases o with
  | none => exact .inl ho
  | some j => exact .inr ⟨j, _, ho, List.getElem?_eq_getElem (h.rng ho)⟩

theorem sh_shown (h : Shs pgS w F sl pl σ) (hs : sl[i]? = some s) : Bytes (σ.shown i) ∧ (σ.shown i).length ≤ 2048 := by
  rcases sh_handle h hs with hi | ⟨j, G, hi, hG⟩
  · rw [(shown_gone hi).1]
    exact ⟨fun z hz => by simp at hz, by simp⟩
  · rw [(shown_live hi hG).1]
    have := sh_factsG h hG
    exact ⟨this.1, this.2.1⟩

theorem sh_bytes_any (h : Shs pgS w F sl pl σ) (hs : sl[i]? = some s) :
    Calls Try.prog 18 #[.pointer (some ⟨s, 0, none⟩)] w fun e w' => ∃ v, e = .returned v ∧ w'.ownsRow w.heap.size 5 1 v (σ.shown i).length ((σ.shown i).map (Value.int .u8)) ∧ Below w.heap.size w w' := by
  rcases sh_handle h hs with hi | ⟨j, G, hi, hG⟩
  · rw [(shown_gone hi).1]
    exact (sbytes_bad _ 40 w (sh_bad h hs hi)).mono fun e w' ⟨k1, k2⟩ => ⟨_, k1, World.ownsRow_nil _ _ _ _, by rw [← k2]; exact Below.refl _ _⟩
  · rw [(shown_live hi hG).1]
    exact sh_bytes h hs hi hG
theorem rd_bytes_any (h : Shs dcS w F sl pl σ) (hs : sl[i]? = some s) :
    Calls Try.prog 38 #[.pointer (some ⟨s, 0, none⟩)] w fun e w' => ∃ v, e = .returned v ∧ w'.ownsRow w.heap.size 5 1 v (σ.shown i).length ((σ.shown i).map (Value.int .u8)) ∧ Below w.heap.size w w' := by
  rcases rd_handle h hs with hi | ⟨j, G, hi, hG⟩
  · rw [(shown_gone hi).1]
    exact (rsbytes_gone s w (rd_gone h hs hi)).mono fun e w' ⟨k1, k2⟩ => ⟨_, k1, World.ownsRow_nil _ _ _ _, by rw [← k2]; exact Below.refl _ _⟩
  · rw [(shown_live hi hG).1]
    exact rd_bytes h hs hi hG
theorem sh_len_any (h : Shs pgS w F sl pl σ) (hs : sl[i]? = some s) :
    Calls Try.prog 24 #[.pointer (some ⟨s, 0, none⟩)] w fun e w' => e = .returned (.int .i64 ((σ.shown i).length : Int)) ∧ Dr w w' := by
  rcases sh_handle h hs with hi | ⟨j, G, hi, hG⟩
  · rw [(shown_gone hi).1]
    exact (slen_bad _ 40 w (sh_bad h hs hi)).mono fun e w' ⟨k1, k2⟩ => ⟨k1, by rw [← k2]; exact Dr.refl _⟩
  · rw [(shown_live hi hG).1]
    exact sh_len h hs hi hG
theorem rd_len_any (h : Shs dcS w F sl pl σ) (hs : sl[i]? = some s) :
    Calls Try.prog 39 #[.pointer (some ⟨s, 0, none⟩)] w fun e w' => e = .returned (.int .i64 ((σ.shown i).length : Int)) ∧ w = w' := by
  rcases rd_handle h hs with hi | ⟨j, G, hi, hG⟩
  · rw [(shown_gone hi).1]
    exact rslen_gone s w (rd_gone h hs hi)
  · rw [(shown_live hi hG).1]
    exact rd_len h hs hi hG
theorem sh_count_any (h : Shs pgS w F sl pl σ) (hs : sl[i]? = some s) :
    Calls Try.prog 21 #[.pointer (some ⟨s, 0, none⟩)] w fun e w' => e = .returned (.int .i64 (σ.cnt i : Int)) ∧ w = w' := by
  rcases sh_handle h hs with hi | ⟨j, G, hi, hG⟩
  · rw [(shown_gone hi).2]
    exact count_bad _ 40 w (sh_bad h hs hi)
  · rw [(shown_live hi hG).2]
    exact sh_count h hs hi
theorem rd_count_any (h : Shs dcS w F sl pl σ) (hs : sl[i]? = some s) :
    Calls Try.prog 40 #[.pointer (some ⟨s, 0, none⟩)] w fun e w' => e = .returned (.int .i64 (σ.cnt i : Int)) ∧ w = w' := by
  rcases rd_handle h hs with hi | ⟨j, G, hi, hG⟩
  · rw [(shown_gone hi).2]
    exact rcount_gone s w (rd_gone h hs hi)
  · rw [(shown_live hi hG).2]
    exact rd_count h hs hi
end

set_option maxHeartbeats 4000000 in
set_option maxRecDepth 100000 in
theorem shows4 (W w : World) (xb N M : Nat) (h : Pls W w xb N M) (hN1 : 1 ≤ N) (hN : N ≤ 12) :
    Calls Try.prog 10 #[.pointer (some ⟨xb, 0, none⟩)] w fun e w' => e = .returned (.bool true) ∧ Pls W w' xb N M := by
  obtain ⟨F, sl, pl, F', ml, ql, σ, lv, mv, h1, hsl, hml, hP⟩ := h.is
  obtain ⟨ga, ca, gm, cm, rfl, rfl⟩ := plL_some h1 hN1
  have HSL := Hid.mk' hsl
  have HML := Hid.mk' hml
  have HPI := Hid.mk' hP
  have H0 := Hid.mk' h1
  clear h h1 hsl hml hP
  go_enter Try.func10, Try.ntmps10
  go_wp2_with fail
  go_loopg [3] N (fun f s3 wr => ∃ i : Nat, s3 = .int .i64 i ∧ i ≤ N ∧ N - i ≤ f ∧ Hid (Heap W wr (plL W F sl pl F' ml ql σ xb (.slice (some ⟨ga, 0, none⟩) N ca) (.slice (some ⟨gm, 0, none⟩) N cm) N)))
  case atStart => exact ⟨0, rfl, by omega, by omega, H0⟩
  case round =>
    clear H0
    obtain ⟨i, rfl, hi1, hi2, hH⟩ := hrel
    obtain ⟨x0, x1, -, -⟩ := both_at hH.out 2 rfl
    by_cases hin : i < N
    · have hsp : (i : Int) < (N : Int) := by omega
      obtain ⟨si, hsi⟩ : ∃ sk, sl[i]? = some sk := ⟨_, List.getElem?_eq_getElem (by rw [HSL.out]; exact hin)⟩
      obtain ⟨mi, hmi⟩ : ∃ mk, ml[i]? = some mk := ⟨_, List.getElem?_eq_getElem (by rw [HML.out]; exact hin)⟩
      have HSI := Hid.mk' hsi
      have HMI := Hid.mk' hmi
      have hc1 := (hH.out.cellAt 3 rfl i (ptr si) (by simp [hsi])).1
      have hc2 := (hH.out.cellAt 4 rfl i (ptr mi) (by simp [hmi])).1
      unfold ptr at hc1 hc2
      obtain ⟨hby, hbl⟩ := sh_shown (hH.out.shs 0 rfl) hsi
      have KB := Hid.mk' (fun (u : World) (h : Shs pgS u F sl pl σ) => sh_bytes_any h hsi)
      have KR := Hid.mk' (fun (u : World) (h : Shs dcS u F' ml ql σ) => rd_bytes_any h hmi)
      have KL := Hid.mk' (fun (u : World) (h : Shs pgS u F sl pl σ) => sh_len_any h hsi)
      have KM := Hid.mk' (fun (u : World) (h : Shs dcS u F' ml ql σ) => rd_len_any h hmi)
      have KC := Hid.mk' (fun (u : World) (h : Shs pgS u F sl pl σ) => sh_count_any h hsi)
      have KD := Hid.mk' (fun (u : World) (h : Shs dcS u F' ml ql σ) => rd_count_any h hmi)
      generalize σ.shown i = X at *
      generalize σ.cnt i = C at *
      obtain ⟨nx, hnx⟩ : ∃ n, n = X.length := ⟨_, rfl⟩
      rw [← hnx] at hbl KB KR KL KM
      have HNX := Hid.mk' hnx.symm
      have HBY := Hid.mk' hby
      have b0 := lt_of_cell x0
      have b1 := lt_of_cell hc1
      clear hsi hmi hnx hby
      have HD := Hid.mk' (hH.out.below ((Below.refl _ _).drew))
      go_wp2_with fail
      go_region_held3 (fun w' => w'.cell? ⟨xb, 0, none⟩ = some (.slice (some ⟨ga, 0, none⟩) N ca) ∧ w'.cell? ⟨ga, i, none⟩ = some (.pointer (some ⟨si, 0, none⟩))) (go_keep) (first | (go_at_call 18; have hh := L2; refine (KB.out w2 ((H2.out.tail).shs 0 rfl)).mono ?_; rintro e w3 ⟨v3, rfl, hown3, b3⟩; obtain ⟨a3, c3, rfl⟩ := own_slice hown3; have H3 := Hid.mk' (H2.out.add b3 (rowT W.heap.size 5 1 (.slice a3 nx c3) nx (X.map (Value.int .u8))) (ownsRow_base hown3 H2.out.old.size) (fun k hk => (hown3.lt k hk).1)); have u0 := (b3.cell (p := ⟨xb, 0, none⟩) (lt_of_cell t0)).trans t0; have u1 := (b3.cell (p := ⟨ga, i, none⟩) (lt_of_cell t1)).trans t1; clear b3 hown3 hh) | (go_at_call 18; refine (KB.out wr.drew (HD.out.shs 0 rfl)).mono ?_; rintro e w2 ⟨v2, rfl, hown2, b2⟩; obtain ⟨a2, c2, rfl⟩ := own_slice hown2; have H2 := Hid.mk' (HD.out.add b2 (rowT W.heap.size 5 1 (.slice a2 nx c2) nx (X.map (Value.int .u8))) (ownsRow_base hown2 HD.out.old.size) (fun k hk => (hown2.lt k hk).1)); have b2 := ((Below.refl wr.heap.size wr).drew).trans b2; have L2 := Hid.mk' b2; have t0 := (b2.cell (p := ⟨xb, 0, none⟩) b0).trans x0; have t1 := (b2.cell (p := ⟨ga, i, none⟩) b1).trans hc1; clear b2 hown2))
      clear HD L2 H2 t0 t1 u0 u1 hc1 hc2 x0 x1 hH
      obtain ⟨y0, y1, -, -⟩ := both_at H3.out 4 rfl
      have hd2 := (H3.out.cellAt (g := gm) (c := cm) (n := N) (xs := ml.map ptr) 6 rfl i (ptr mi) (by simp [HMI.out])).1
      unfold ptr at hd2
      go_wp2_with fail
      refine (KR.out w3 (H3.out.shs 3 rfl)).mono ?_
      rintro e w4 ⟨v4, rfl, hown4, b4⟩
      obtain ⟨a4, c4, rfl⟩ := own_slice hown4
      have H4 := Hid.mk' (H3.out.add b4 (rowT W.heap.size 5 1 (.slice a4 nx c4) nx (X.map (Value.int .u8))) (ownsRow_base hown4 H3.out.old.size) (fun k hk => (hown4.lt k hk).1))
      clear hown4 b4 H3 y0 y1 hd2
      obtain ⟨y0, y1, -, -⟩ := both_at H4.out 5 rfl
      have hd1 := (H4.out.cellAt (g := ga) (c := ca) (n := N) (xs := sl.map ptr) 6 rfl i (ptr si) (by simp [HSI.out])).1
      have hd2 := (H4.out.cellAt (g := gm) (c := cm) (n := N) (xs := ml.map ptr) 7 rfl i (ptr mi) (by simp [HMI.out])).1
      unfold ptr at hd1 hd2
      have BS2 := Hid.mk' (bs_at (show w4.ownsRow W.heap.size 5 1 (.slice a2 nx c2) nx (X.map (Value.int .u8)) from H4.out.get (i := 2) rfl) HNX.out HBY.out (by omega))
      have BS4 := Hid.mk' (bs_at (show w4.ownsRow W.heap.size 5 1 (.slice a4 nx c4) nx (X.map (Value.int .u8)) from H4.out.get (i := 0) rfl) HNX.out HBY.out (by omega))
      go_wp2_with fail
      go_quiet (first | (go_at_call 17; exact Calls.quiet_of (eq_same4 a2 a4 nx c2 c4 X _ HNX.out (Dr.bs ⟨_, rfl⟩ BS2.out) (Dr.bs ⟨_, rfl⟩ BS4.out))) | (go_at_call 24; exact Calls.quiet_of (KL.out _ ((H4.out.dr' ⟨_, rfl⟩).shs 3 rfl))) | (go_at_call 39; exact quiet_same4 (KM.out _ ((H4.out.dr' ⟨_, rfl⟩).shs 4 rfl))) | (go_at_call 21; exact quiet_same4 (KC.out _ ((H4.out.dr' ⟨_, rfl⟩).shs 3 rfl))) | (go_at_call 40; exact quiet_same4 (KD.out _ ((H4.out.dr' ⟨_, rfl⟩).shs 4 rfl))))
      have H5 := Hid.mk' (H4.out.dr' (w' := w4.drewN nq) ⟨nq, rfl⟩)
      clear H4 y0 y1 hd1 hd2 BS2 BS4
      generalize w4.drewN nq = w5 at *
      have H5' : Hid (Heap W w5 (rowT W.heap.size 5 1 (.slice a4 nx c4) nx (X.map (Value.int .u8)) :: rowT W.heap.size 5 1 (.slice a3 nx c3) nx (X.map (Value.int .u8)) :: rowT W.heap.size 5 1 (.slice a2 nx c2) nx (X.map (Value.int .u8)) :: plL W F sl pl F' ml ql σ xb (.slice (some ⟨ga, 0, none⟩) N ca) (.slice (some ⟨gm, 0, none⟩) N cm) N)) := H5
      clear H5
      go_wp2_with fail
      go_loopg [7] nx (fun f s7 wy => ∃ (k : Nat) (Y : List Int), s7 = .int .i64 k ∧ k ≤ nx ∧ nx - k ≤ f ∧ Hid (Heap W wy (rowT W.heap.size 5 1 (.slice a4 nx c4) nx (X.map (Value.int .u8)) :: rowT W.heap.size 5 1 (.slice a3 nx c3) nx (X.map (Value.int .u8)) :: rowT W.heap.size 5 1 (.slice a2 nx c2) nx (Y.map (Value.int .u8)) :: plL W F sl pl F' ml ql σ xb (.slice (some ⟨ga, 0, none⟩) N ca) (.slice (some ⟨gm, 0, none⟩) N cm) N)))
      case atStart => exact ⟨0, X, rfl, by omega, by omega, H5'⟩
      case round =>
        clear H5'
        obtain ⟨k, Y, rfl, hk, hf, hH⟩ := hrel
        by_cases hlt : k < nx
        · have hown : wr.ownsRow W.heap.size 5 1 (.slice a2 nx c2) nx (Y.map (Value.int .u8)) := hH.out.get (i := 2) rfl
          obtain ⟨gx, cx, hax, -⟩ := own_some hown (by omega)
          simp only [Value.slice.injEq] at hax
          obtain ⟨rfl, -, rfl⟩ := hax
          have hYl : Y.length = nx := by have := hown.1; simpa using this
          obtain ⟨cc, ff⟩ := own_byte (by rw [hYl]; exact hown) hYl k hlt
          generalize Y.getD k 0 = z at cc
          have hst : Hid (∀ y : Int, Heap W (wr.setCell ⟨gx, k, none⟩ (.int .u8 y)) (rowT W.heap.size 5 1 (.slice a4 nx c4) nx (X.map (Value.int .u8)) :: rowT W.heap.size 5 1 (.slice a3 nx c3) nx (X.map (Value.int .u8)) :: rowT W.heap.size 5 1 (.slice (some ⟨gx, 0, none⟩) nx c2) nx ((Y.set k y).map (Value.int .u8)) :: plL W F sl pl F' ml ql σ xb (.slice (some ⟨ga, 0, none⟩) N ca) (.slice (some ⟨gm, 0, none⟩) N cm) N)) := fun y => by
            rw [List.map_set]; exact hH.out.stored 2 rfl k (.int .u8 y)
          have hsp : (k : Int) < (nx : Int) := by omega
          clear hown hYl hH
          go_wp2_with fail
          go_roundg (nx - (k + 1))
          case measure => omega
          case rel => exact ⟨k + 1, Y.set k _, by go_num, by omega, by omega, hst.out _⟩
        · have BS3 := Hid.mk' (bs_at (show wr.ownsRow W.heap.size 5 1 (.slice a3 nx c3) nx (X.map (Value.int .u8)) from hH.out.get (i := 1) rfl) HNX.out HBY.out (by omega))
          have BS4 := Hid.mk' (bs_at (show wr.ownsRow W.heap.size 5 1 (.slice a4 nx c4) nx (X.map (Value.int .u8)) from hH.out.get (i := 0) rfl) HNX.out HBY.out (by omega))
          go_wp2_with fail
          refine (eq_same4 a3 a4 nx c3 c4 X wr HNX.out BS3.out BS4.out).mono ?_
          rintro e w6 ⟨rfl, d6⟩
          have H6 := Hid.mk' (hH.out.dr' d6)
          have BS6 := Hid.mk' (Dr.bs d6 BS4.out)
          clear d6 BS3 BS4 hH
          obtain ⟨y0, y1, -, -⟩ := both_at H6.out 5 rfl
          have hd1 := (H6.out.cellAt (g := ga) (c := ca) (n := N) (xs := sl.map ptr) 6 rfl i (ptr si) (by simp [HSI.out])).1
          unfold ptr at hd1
          go_wp2_with fail
          refine (KB.out w6 (H6.out.shs 3 rfl)).mono ?_
          rintro e w7 ⟨v7, rfl, hown7, b7⟩
          obtain ⟨a7, c7, rfl⟩ := own_slice hown7
          have H7 := Hid.mk' (H6.out.below b7)
          have BS7 := Hid.mk' (bs_at hown7 HNX.out HBY.out (by omega))
          have BS8 := Hid.mk' (BS6.out.below b7)
          clear hown7 b7 BS6 H6 y0 y1 hd1
          go_wp2_with fail
          refine (eq_same4 a7 a4 nx c7 c4 X w7 HNX.out BS7.out BS8.out).mono ?_
          rintro e w8 ⟨rfl, d8⟩
          have H8 : Hid (Heap W w8 (plL W F sl pl F' ml ql σ xb (.slice (some ⟨ga, 0, none⟩) N ca) (.slice (some ⟨gm, 0, none⟩) N cm) N)) := (H7.out.dr' d8).tail.tail.tail
          clear d8 BS7 BS8 H7
          go_wp2_with fail
          go_roundg (N - (i + 1))
          case measure => omega
          case rel => exact ⟨i + 1, by go_num, by omega, by omega, H8⟩
    · have HF : Hid (Pls W wr xb N M) := ⟨F, sl, pl, F', ml, ql, σ, _, _, hH.out, HSL.out, HML.out, HPI.out⟩
      clear hH
      go_wp2_with fail
      go_ret
      exact ⟨rfl, HF.out⟩
end Go.Proofs.Ytbinedhgjmfceaa
