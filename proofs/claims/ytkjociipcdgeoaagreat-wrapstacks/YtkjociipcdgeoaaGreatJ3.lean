/- Several texts in one (Jg Ji Jj Jk Jl Jm). -/
import Derived.Test.YtkjociipcdgeoaaGreatJ2
import Derived.Deep.LoopGhost
import Derived.Deep.CutRange
namespace Go.Proofs.YtkjociipcdgeoaaGreat
open Go.ChangeShapes Go.WideShapes Go.ChangeAt Go.RowKit

set_option maxRecDepth 10000

/-- What is behind the first bytes of a slice. -/
def subA (a : Option Addr) (c M : Nat) : Option Addr := if c = M then a else a.map (fun x => x.add M)

theorem bs_sub {w : World} {a : Option Addr} {zs : List Int} (h : Bs w a zs) (c M : Nat) (hc : zs.length ≤ c) : Bs w (subA a c M) (zs.drop M) := by
  have hl := h.len
  unfold subA
  by_cases e : c = M
  · rw [if_pos e]
    exact ⟨by rw [List.length_drop]; omega, fun z hz => h.bytes z (List.mem_of_mem_drop hz), .inl (by rw [List.length_drop]; omega)⟩
  · rw [if_neg e]
    rcases h.lies with h0 | ⟨b, off, rfl, hc⟩
    · exact ⟨by rw [List.length_drop]; omega, fun z hz => h.bytes z (List.mem_of_mem_drop hz), .inl (by rw [List.length_drop]; omega)⟩
    · rw [Option.map_some, addr_add]
      exact h.drop M

theorem Heap.front {W w : World} {L M : List Thing} (h : Heap W w (L ++ M)) : Heap W w L :=
  ⟨fun T hT => h.all T (List.mem_append_left _ hT), (List.pairwise_append.1 h.apart).1, fun T hT => h.high T (List.mem_append_left _ hT), h.old⟩

/-- A row of cells that was laid just now. -/
theorem cells_laid (w : World) (t : TypeId) (L : List Value) : ∀ (j : Nat) (u : Value), L[j]? = some u → (w.alloc (.cells L.toArray t)).cell? ((⟨w.heap.size, 0, none⟩ : Addr).add j) = some u := by
  intro j u hj
  rw [addr_add, World.cell?_alloc_new, Nat.zero_add, List.getElem?_toArray]
  exact hj

/-- Where the walk stands. -/
structure WkI (zs : List Int) (out : Hs) (k : Int) (m : Bool) : Prop where
  ok : HsOk out
  fits : hTot out ≤ zs.length
  few : out.length ≤ 8
  more : m = true → 1 ≤ k ∧ k ≤ 6 ∧ PE zs = pe (8 - out.length) k out (zs.drop (hTot out))
  done : m = false → PE zs = (0, out)

theorem WkI.first (zs : List Int) : WkI zs [] 1 true := ⟨HsOk.nil, by simp [hTot], by simp, fun _ => ⟨by omega, by omega, by simp [PE, hTot]⟩, fun h => by cases h⟩

theorem WkI.many {zs : List Int} {out : Hs} {k : Int} (h : WkI zs out k true) (he : out.length = 8) : PE zs = (3, []) := by
  rw [(h.more rfl).2.2, he]; rfl

theorem WkI.bad {zs : List Int} {out : Hs} {k : Int} (h : WkI zs out k true) (hl : out.length < 8) (he : ¬ rE k (zs.drop (hTot out)) = 0) : PE zs = (rE k (zs.drop (hTot out)), []) := by
  rw [(h.more rfl).2.2, show 8 - out.length = (7 - out.length) + 1 by omega, pe, if_neg he]

theorem WkI.next {zs : List Int} {out : Hs} {k : Int} (h : WkI zs out k true) (hb : Bytes zs) (hl : out.length < 8) (he : rE k (zs.drop (hTot out)) = 0) :
    WkI zs (out ++ [(k, rL k (zs.drop (hTot out)))]) (nx (hk k (rL k (zs.drop (hTot out))))) (!(nx (hk k (rL k (zs.drop (hTot out)))) == 0)) := by
  obtain ⟨k0, k1, hp⟩ := h.more rfl
  have hlen := rE_len k0 k1 he
  rw [List.length_drop] at hlen
  have hf := h.fits
  have hbd : Bytes (zs.drop (hTot out)) := fun z hz => hb z (List.mem_of_mem_drop hz)
  have t2 : hTot (out ++ [(k, rL k (zs.drop (hTot out)))]) = hTot out + sz k := by rw [hTot_app]; simp [hTot]
  rw [show 8 - out.length = (7 - out.length) + 1 by omega, pe, if_pos he] at hp
  refine ⟨h.ok.push (rL_hd k0 k1 hbd), by rw [t2]; omega, by simp; omega, fun hm => ?_, fun hm => ?_⟩
  · have hn : ¬ nx (hk k (rL k (zs.drop (hTot out)))) = 0 := by simpa using hm
    have hbd := nx_bd (hk k (rL k (zs.drop (hTot out))))
    rw [if_neg hn] at hp
    refine ⟨by omega, by omega, ?_⟩
    rw [hp, t2, List.drop_drop]
    congr 1
    simp
  · have hn : nx (hk k (rL k (zs.drop (hTot out)))) = 0 := by simpa using hm
    rw [if_pos hn] at hp
    exact hp

set_option maxRecDepth 10000

theorem info_head : (Tryz.prog.info? 41).map (fun i => (i.zero, i.size, i.bytes)) = some (some (.agg hz.toArray), 73, 100) := by kernel_rfl

theorem subA_none {a : Option Addr} {c M : Nat} (h : a = none → c = 0) (hM : M ≤ c) : subA a c M = none → c - M = 0 := by
  intro e
  unfold subA at e
  split at e
  · omega
  · cases a with
    | none => have := h rfl; omega
    | some x => simp at e

/-- What Peel answers: heads and what is behind them. -/
def plT (w : World) (zs : List Int) (va vr : Value) : List Thing := [rowT w.heap.size 41 73 va (PE zs).2.length (hsC (PE zs).2), rowT w.heap.size 5 1 vr (peR zs).length ((peR zs).map (Value.int .u8))]

theorem pl_err {w u : World} {zs : List Int} {E : Int} (h : PE zs = (E, [])) (hE : ¬ E = 0) (b : Below w.heap.size w u) : Heap w u (plT w zs (.slice none 0 0) (.slice none 0 0)) := by
  have hr : peR zs = [] := by unfold peR; rw [h, if_neg hE]
  unfold plT
  rw [hr, h]
  exact ((Heap.nil b).add (Below.refl _ _) (rowT w.heap.size 5 1 (.slice none 0 0) 0 []) (World.ownsRow_nil _ _ _ _) (fun k hk => by cases hk)).add (Below.refl _ _) (rowT w.heap.size 41 73 (.slice none 0 0) 0 (hsC [])) (World.ownsRow_nil _ _ _ _) (fun k hk => by cases hk)

set_option maxRecDepth 10000

theorem range_own {w : World} {base g n c size o : Nat} {e : TypeId} {xs A F B : List Value} (h : w.ownsRow base e size (.slice (some ⟨g, 0, none⟩) n c) n xs) (hx : xs = A ++ (F ++ B)) (hA : A.length = o) : w.rangeAt g o F := by
  intro j v hv
  have hlt := (List.getElem?_eq_some_iff.1 hv).1
  have hl : xs.length = n * size := h.1
  rw [h.cellAt (o + j) (by rw [← hl, hx, List.length_append, List.length_append, hA]; omega), hx, List.getElem?_append_right (by omega), hA, Nat.add_sub_cancel_left, List.getElem?_append_left hlt]
  exact hv

/-- What is found at a place. -/
theorem fC_at (out : Hs) (i : Nat) (k : Int) (L : List Value) (h : out[i]? = some (k, L)) : ∃ B, fC 0 out = fC 0 (out.take i) ++ ((hk k L ++ [Value.int .i64 (hTot (out.take i) : Nat), Value.int .i64 (sz k : Nat)]) ++ B) := by
  obtain ⟨hlt, he⟩ := List.getElem?_eq_some_iff.1 h
  have e : out = out.take i ++ (k, L) :: out.drop (i + 1) := by
    rw [← he, List.getElem_cons_drop hlt, List.take_append_drop]
  refine ⟨fC (hTot (out.take i) + sz k) (out.drop (i + 1)), ?_⟩
  conv => lhs; rw [e]
  rw [fC_app, fC, Nat.zero_add]

theorem HsOk.take {l : Hs} (h : HsOk l) (i : Nat) : HsOk (l.take i) := fun x hx => h x (List.mem_of_mem_take hx)

theorem take_push (out : Hs) (i : Nat) (k : Int) (L : List Value) (h : out[i]? = some (k, L)) : out.take (i + 1) = out.take i ++ [(k, L)] := by
  obtain ⟨hlt, he⟩ := List.getElem?_eq_some_iff.1 h
  rw [List.take_succ_eq_append_getElem hlt, he]

theorem hTot_take (l : Hs) (i : Nat) : hTot (l.take i) ≤ hTot l := by
  have := hTot_app (l.take i) (l.drop i)
  rw [List.take_append_drop] at this
  omega

theorem range_pre {w : World} {g o : Nat} {A B : List Value} (h : w.rangeAt g o (A ++ B)) : w.rangeAt g o A := fun j v hv => h j v (by rw [List.getElem?_append_left (List.getElem?_eq_some_iff.1 hv).1]; exact hv)

theorem grown_below {w w' : World} (h : w.grownBy w' none) : Below w.heap.size w w' :=
  ((Kept.refl (fun _ => False) w).grown h (fun k e _ => by cases e)).below (Nat.le_refl _) (fun _ _ h => h)

theorem pe_err : ∀ (n : Nat) (k : Int) (out : Hs) (zs : List Int), ¬ (pe n k out zs).1 = 0 → pe n k out zs = ((pe n k out zs).1, [])
  | 0, _, _, _, _ => rfl
  | n + 1, k, out, zs, h => by
    unfold pe at h ⊢
    by_cases hr : rE k zs = 0
    · rw [if_pos hr] at h ⊢
      by_cases hn : nx (hk k (rL k zs)) = 0
      · rw [if_pos hn] at h; exact absurd rfl h
      · rw [if_neg hn] at h ⊢
        exact pe_err n _ _ _ h
    · rw [if_neg hr]

theorem PE_err {zs : List Int} (h : ¬ (PE zs).1 = 0) : PE zs = ((PE zs).1, []) := pe_err 8 1 [] zs h

set_option maxRecDepth 10000

/-- Where the first header of a kind stands. -/
def fnd (k : Int) : Nat → Hs → Option Nat
  | _, [] => none
  | n, x :: r => if x.1 = k then some n else fnd k (n + sz x.1) r

def whO (k : Int) : Option Nat → Int × Int × Bool × Int
  | some n => ((n : Int), ((sz k : Nat) : Int), true, 0)
  | none => (0, 0, false, 0)

def wh (zs : List Int) (k : Int) : Int × Int × Bool × Int := if 1 ≤ k ∧ k ≤ 6 then (if (PE zs).1 = 0 then whO k (fnd k 0 (PE zs).2) else (0, 0, false, (PE zs).1)) else (0, 0, false, 120)

def whV (r : Int × Int × Bool × Int) : Value := .tuple #[.agg #[.int .i64 r.1, .int .i64 r.2.1], .bool r.2.2.1, .int .i64 r.2.2.2]

theorem rg_one (x y : Int) : [Value.int .i64 x, Value.int .i64 y].toArray.all (·.oneCell') = true := all_oneCell_toArray (by intro v hv; simp at hv; rcases hv with rfl | rfl <;> rfl)

theorem fnd_at (k : Int) (out : Hs) (i : Nat) (x : Int × List Value) (h : out[i]? = some x) (n : Nat) : fnd k n (out.drop i) = if x.1 = k then some n else fnd k (n + sz x.1) (out.drop (i + 1)) := by
  obtain ⟨hlt, he⟩ := List.getElem?_eq_some_iff.1 h
  rw [← List.getElem_cons_drop hlt, he, fnd]

set_option maxRecDepth 10000

theorem hsC_at (out : Hs) (i : Nat) (k : Int) (L : List Value) (h : out[i]? = some (k, L)) : ∃ B, hsC out = hsC (out.take i) ++ (hk k L ++ B) := by
  obtain ⟨hlt, he⟩ := List.getElem?_eq_some_iff.1 h
  have e : out = out.take i ++ (k, L) :: out.drop (i + 1) := by
    rw [← he, List.getElem_cons_drop hlt, List.take_append_drop]
  refine ⟨hsC (out.drop (i + 1)), ?_⟩
  conv => lhs; rw [e]
  simp [hsC]

/-- A head of a row of heads. -/
theorem head_range {w : World} {base g n c : Nat} {out : Hs} (h : w.ownsRow base 41 73 (.slice (some ⟨g, 0, none⟩) n c) n (hsC out)) (ok : HsOk out) (i : Nat) (k : Int) (L : List Value) (hx : out[i]? = some (k, L)) : w.rangeAt g (i * 73) (hk k L) := by
  obtain ⟨B, hB⟩ := hsC_at out i k L hx
  refine range_own h hB ?_
  rw [hsC_len _ (ok.take i), List.length_take, Nat.min_eq_left (Nat.le_of_lt (List.getElem?_eq_some_iff.1 hx).1)]

theorem head_kind {w : World} {base g n c : Nat} {out : Hs} (h : w.ownsRow base 41 73 (.slice (some ⟨g, 0, none⟩) n c) n (hsC out)) (ok : HsOk out) (i : Nat) (k : Int) (L : List Value) (hx : out[i]? = some (k, L)) : w.cell? ⟨g, i * 73, none⟩ = some (.int .u8 k) := by
  have := head_range h ok i k L hx 0 (.int .u8 k) rfl
  simpa using this

theorem sz_zero {k : Int} (h : ¬ (1 ≤ k ∧ k ≤ 6)) : sz k = 0 := by
  unfold sz
  rw [if_neg (by omega), if_neg (by omega), if_neg (by omega), if_neg (by omega), if_neg (by omega), if_neg (by omega)]

theorem sz_pos {k : Int} (h : 1 ≤ k ∧ k ≤ 6) : 0 < sz k ∧ sz k ≤ 40 := by
  rcases six h.1 h.2 with rfl | rfl | rfl | rfl | rfl | rfl <;> decide

/-- Two rows of the same heads are the same. -/
structure Hrow (w : World) (v : Value) (out : Hs) : Prop where
  own : ∃ base, w.ownsRow base 41 73 v out.length (hsC out)
  ok : HsOk out

set_option maxHeartbeats 2000000 in
theorem same_any (v1 v2 : Value) (out : Hs) (w : World) (few : out.length ≤ 8) (h1 : Hrow w v1 out) (h2 : Hrow w v2 out) : Calls Tryz.prog 22 #[v1, v2] w fun e w' => e = .returned (.bool true) ∧ Dr w w' := by
  obtain ⟨⟨b1, o1⟩, ok⟩ := h1
  obtain ⟨⟨b2, o2⟩, -⟩ := h2
  obtain ⟨a1, c1, e1⟩ := own_slice o1
  obtain ⟨a2, c2, e2⟩ := own_slice o2
  subst e1 e2
  have O1 := Hid.mk' o1
  have O2 := Hid.mk' o2
  have OK := Hid.mk' ok
  clear o1 o2 ok
  obtain ⟨N, HN⟩ : ∃ N, Hid (out.length = N) := ⟨_, rfl⟩
  rw [HN.out] at few O1 O2
  rw [HN.out]
  go_enter Tryz.func22, Tryz.ntmps22
  go_wp2_with fail
  go_loopg [5] N (fun f s5 wr => ∃ i : Nat, s5 = .int .i64 i ∧ i ≤ N ∧ N - i ≤ f ∧ Hid (Dr w wr))
  case atStart => exact ⟨0, rfl, by omega, by omega, Dr.refl _⟩
  case round =>
    obtain ⟨i, rfl, hi, hf, HD⟩ := hrel
    by_cases hlt : i < N
    · obtain ⟨g1, d1, e1, -⟩ := own_some O1.out (by omega)
      obtain ⟨g2, d2, e2, -⟩ := own_some O2.out (by omega)
      cases e1
      cases e2
      obtain ⟨⟨k, L⟩, hx⟩ : ∃ x, out[i]? = some x := ⟨_, List.getElem?_eq_getElem (by rw [HN.out]; exact hlt)⟩
      have KH := Hid.mk' (hk_hh (OK.out (k, L) (List.mem_of_getElem? hx)))
      have R1 := head_range O1.out OK.out i k L hx
      have R2 := head_range O2.out OK.out i k L hx
      obtain ⟨H, HHk⟩ : ∃ H, Hid (hk k L = H) := ⟨_, rfl⟩
      rw [HHk.out] at KH R1 R2
      have hh73 := Hid.mk' (hh_len KH.out)
      have hne := neq_same (t := 41) (L := H) (hh_eq KH.out)
      have S1 : wr.drew.rangeAt g1 (i * 73) H := fun j v hv => ((HD.out.more 1).cell _).trans (R1 j v hv)
      have S2 : wr.drew.rangeAt g2 (i * 73) H := fun j v hv => ((HD.out.more 1).cell _).trans (R2 j v hv)
      have RR := Hid.mk' (And.intro S1 S2)
      clear hx R1 R2 S1 S2
      go_wp2_with fail
      refine wp_region_held_drew (S := fun u => u.rangeAt g1 (i * 73) H ∧ u.rangeAt g2 (i * 73) H) (by kernel_rfl) RR.out (fun hHeld => ?_)
      change wpAnyH _ _ _ _ _ 9 #[false, false, false, false, false, false, false, false, false] _ _
      refine held_take 0 17 (.slice (some ⟨g1, 0, none⟩) N c1) rfl rfl (by kernel_rfl) (by kernel_rfl) (by kernel_rfl) (fun _ _ _ h => h) (Or.inl ⟨by rfl, fun u hu => ?_⟩) hHeld ?_
      · go_simp
      simp only [Act.put, List.setIfInBounds_toArray, List.set_cons_zero, List.set_cons_succ]
      refine held_take 1 18 (.int .i64 i) rfl rfl (by kernel_rfl) (by kernel_rfl) (by kernel_rfl) (fun _ _ _ h => h) (Or.inl ⟨by rfl, fun u hu => ?_⟩) hHeld ?_
      · go_simp
      simp only [Act.put, List.setIfInBounds_toArray, List.set_cons_zero, List.set_cons_succ]
      refine held_take 2 19 (.pointer (some ⟨g1, i * 73, none⟩)) rfl rfl (by kernel_rfl) (by kernel_rfl) (by kernel_rfl) (fun _ _ _ h => h) (Or.inl ⟨by rfl, fun u hu => ?_⟩) hHeld ?_
      · go_simp
      simp only [Act.put, List.setIfInBounds_toArray, List.set_cons_zero, List.set_cons_succ]
      refine held_take 3 20 (.agg H.toArray) rfl rfl (by kernel_rfl) (by kernel_rfl) (by kernel_rfl) (fun _ _ _ h => h) (yieldsIf_load_mid (by rfl) 41 _ rfl g1 (i * 73) rfl H _ (fun u hu => hu.1) Tryz.underlying41 rfl (by rw [hh73.out]; exact info_hh)) hHeld ?_
      simp only [Act.put, List.setIfInBounds_toArray, List.set_cons_zero, List.set_cons_succ]
      refine held_take 4 21 (.slice (some ⟨g2, 0, none⟩) N c2) rfl rfl (by kernel_rfl) (by kernel_rfl) (by kernel_rfl) (fun _ _ _ h => h) (Or.inl ⟨by rfl, fun u hu => ?_⟩) hHeld ?_
      · go_simp
      simp only [Act.put, List.setIfInBounds_toArray, List.set_cons_zero, List.set_cons_succ]
      refine held_take 5 22 (.int .i64 i) rfl rfl (by kernel_rfl) (by kernel_rfl) (by kernel_rfl) (fun _ _ _ h => h) (Or.inl ⟨by rfl, fun u hu => ?_⟩) hHeld ?_
      · go_simp
      simp only [Act.put, List.setIfInBounds_toArray, List.set_cons_zero, List.set_cons_succ]
      refine held_take 6 23 (.pointer (some ⟨g2, i * 73, none⟩)) rfl rfl (by kernel_rfl) (by kernel_rfl) (by kernel_rfl) (fun _ _ _ h => h) (Or.inl ⟨by rfl, fun u hu => ?_⟩) hHeld ?_
      · go_simp
      simp only [Act.put, List.setIfInBounds_toArray, List.set_cons_zero, List.set_cons_succ]
      refine held_take 7 24 (.agg H.toArray) rfl rfl (by kernel_rfl) (by kernel_rfl) (by kernel_rfl) (fun _ _ _ h => h) (yieldsIf_load_mid (by rfl) 41 _ rfl g2 (i * 73) rfl H _ (fun u hu => hu.2) Tryz.underlying41 rfl (by rw [hh73.out]; exact info_hh)) hHeld ?_
      simp only [Act.put, List.setIfInBounds_toArray, List.set_cons_zero, List.set_cons_succ]
      refine held_take 8 25 (.bool false) rfl rfl (by kernel_rfl) (by kernel_rfl) (by kernel_rfl) (fun _ _ _ h => h) (Or.inl ⟨by rfl, fun u hu => ?_⟩) hHeld ?_
      · go_simp
      simp only [Act.put, List.setIfInBounds_toArray, List.set_cons_zero, List.set_cons_succ]
      refine wpAnyH_done (by kernel_rfl) ?_ _
      have HD2 : Hid (Dr w wr.drew) := Hid.mk' (HD.out.more 1)
      clear HD RR hHeld
      go_wp2_with fail
      go_roundg (N - (i + 1))
      case measure => omega
      case rel => exact ⟨i + 1, by go_num, by omega, by omega, HD2⟩
    · go_wp2_with fail
      go_ret
      exact ⟨rfl, HD.out⟩

set_option maxRecDepth 10000

/-- A link header's bytes, of its cells. -/
def lB (L : List Value) (n : Nat) : List Int := K05.byB n ((L.take 6).map K07.un) (((L.drop 6).take 6).map K07.un) (num L 12)

theorem lB_of {d s : List Int} {t : Int} (h : K05.Lk d s t) (n : Nat) : lB (K05.lkC d s t) n = K05.byB n d s t := by
  have hd := h.dl
  have hs := h.sl
  have ld : (d.map (Value.int .u8)).length = 6 := by rw [List.length_map, hd]
  have ls : (s.map (Value.int .u8)).length = 6 := by rw [List.length_map, hs]
  have e1 : (K05.lkC d s t).take 6 = d.map (Value.int .u8) := by unfold K05.lkC; exact List.take_left' ld
  have e2 : ((K05.lkC d s t).drop 6).take 6 = s.map (Value.int .u8) := by unfold K05.lkC; rw [List.drop_left' ld]; exact List.take_left' ls
  unfold lB
  rw [e1, e2, K07.map_un, K07.map_un, num_of (K05.lkC_cell h)]

def bE (k : Int) (L : List Value) (ys : List Int) : Int := if k = 1 then K05.byE ys.length else if k = 2 then K06.byE L ys else if k = 3 then K07.byE L ys else if k = 4 then K08.byE L ys else if k = 5 then K09.byE L ys else K10.byE L ys

def bB (k : Int) (L : List Value) (ys : List Int) : List Int := if k = 1 then lB L ys.length else if k = 2 then K06.byB L ys else if k = 3 then K07.byB L ys else if k = 4 then K08.byB L ys else if k = 5 then K09.byB L ys else K10.byB L ys

/-- Whether a header of a kind may be. -/
def kC (k : Int) (L : List Value) : Int := if k = 2 then K06.ckE L else if k = 4 then K08.ckE L else if k = 5 then K09.ckE L else 0

theorem bE_ok {k : Int} {L : List Value} {ys : List Int} (h : KHd k L) (hc : kC k L = 0) (hl : ys.length + sz k ≤ 2048) : bE k L ys = 0 := by
  rcases six h.1 h.2.1 with rfl | rfl | rfl | rfl | rfl | rfl
  · have hl : ys.length + 14 ≤ 2048 := hl
    show K05.byE ys.length = 0
    unfold K05.byE; rw [if_pos (by omega)]
  · have hl : ys.length + 4 ≤ 2048 := hl
    have hc : K06.ckE L = 0 := hc
    show K06.byE L ys = 0
    unfold K06.byE; rw [if_pos hc, if_pos (by omega)]
  · have hl : ys.length + 20 ≤ 2048 := hl
    show K07.byE L ys = 0
    unfold K07.byE; rw [if_pos (by omega)]
  · have hl : ys.length + 40 ≤ 2048 := hl
    have hc : K08.ckE L = 0 := hc
    show K08.byE L ys = 0
    unfold K08.byE; rw [if_pos hc, if_pos (by omega)]
  · have hl : ys.length + 20 ≤ 2048 := hl
    have hc : K09.ckE L = 0 := hc
    show K09.byE L ys = 0
    unfold K09.byE; rw [if_pos hc, if_pos (by omega)]
  · have hl : ys.length + 8 ≤ 2048 := hl
    show K10.byE L ys = 0
    unfold K10.byE; rw [if_pos (by omega)]

theorem bB_bytes {k : Int} {L : List Value} {ys : List Int} (h : KHd k L) (hy : Bytes ys) : Bytes (bB k L ys) := by
  rcases six h.1 h.2.1 with rfl | rfl | rfl | rfl | rfl | rfl
  · obtain ⟨d, s, t, rfl, hx⟩ := h.2.2.1 rfl
    show Bytes (lB _ _)
    rw [lB_of hx]; exact K05.byB_bytes _ hx
  · exact K06.byB_bytes (h.2.2.2.1 rfl) hy
  · exact K07.byB_bytes (h.2.2.2.2.1 rfl) hy
  · exact K08.byB_bytes (h.2.2.2.2.2.1 rfl) hy
  · exact K09.byB_bytes (h.2.2.2.2.2.2.1 rfl) hy
  · exact K10.byB_bytes (h.2.2.2.2.2.2.2 rfl) hy

theorem bB_le {k : Int} {L : List Value} {ys : List Int} (h : KHd k L) : (bB k L ys).length ≤ 40 := by
  rcases six h.1 h.2.1 with rfl | rfl | rfl | rfl | rfl | rfl
  · obtain ⟨d, s, t, rfl, hx⟩ := h.2.2.1 rfl
    show (lB _ _).length ≤ 40
    rw [lB_of hx]; exact Nat.le_trans (K05.byB_length _ hx) (by omega)
  · exact Nat.le_trans (K06.byB_le (h.2.2.2.1 rfl)) (by omega)
  · exact Nat.le_trans (K07.byB_le (h.2.2.2.2.1 rfl)) (by omega)
  · exact Nat.le_trans (K08.byB_le (h.2.2.2.2.2.1 rfl)) (by omega)
  · exact Nat.le_trans (K09.byB_le (h.2.2.2.2.2.2.1 rfl)) (by omega)
  · exact Nat.le_trans (K10.byB_le (h.2.2.2.2.2.2.2 rfl)) (by omega)

/-- What was put on is read again. -/
theorem b_back {k : Int} {L : List Value} {ys : List Int} (h : KHd k L) (hy : Bytes ys) (he : bE k L ys = 0) : (bB k L ys).length = sz k ∧ rL k (bB k L ys ++ ys) = L ∧ rE k (bB k L ys ++ ys) = 0 := by
  rcases six h.1 h.2.1 with rfl | rfl | rfl | rfl | rfl | rfl
  · obtain ⟨d, s, t, rfl, hx⟩ := h.2.2.1 rfl
    have he : K05.byE ys.length = 0 := he
    have hn : ys.length ≤ 2034 := by unfold K05.byE at he; split at he <;> omega
    have eb : bB 1 (K05.lkC d s t) ys = K05.lkB d s t := by
      show lB _ _ = _
      rw [lB_of hx]; unfold K05.byB; rw [if_pos hn]
    rw [eb]
    have hl := K05.lkB_length hx
    obtain ⟨r1, r2, r3⟩ := K05.rd_lkB hx ys
    refine ⟨hl, ?_, ?_⟩
    · show K05.rdL _ = _
      unfold K05.rdL; rw [if_pos (by rw [List.length_append, hl]; omega), r1, r2, r3]
    · show K05.rdE _ = _
      unfold K05.rdE; rw [if_pos (by rw [List.length_append, hl]; omega)]
  · obtain ⟨h1, h2, h3, -⟩ := K06.m_back (h.2.2.2.1 rfl) hy he
    exact ⟨h1, h2, h3⟩
  · obtain ⟨h1, h2, h3, -⟩ := K07.m_back (h.2.2.2.2.1 rfl) hy he
    exact ⟨h1, h2, h3⟩
  · obtain ⟨h1, h2, h3, -⟩ := K08.m_back (h.2.2.2.2.2.1 rfl) hy he
    exact ⟨h1, h2, h3⟩
  · obtain ⟨h1, h2, h3, -⟩ := K09.m_back (h.2.2.2.2.2.2.1 rfl) hy he
    exact ⟨h1, h2, h3⟩
  · obtain ⟨h1, h2, h3, -⟩ := K10.m_back (h.2.2.2.2.2.2.2 rfl) hy he
    exact ⟨h1, h2, h3⟩

/-- A header's place in its head. -/
theorem hk_part {w : World} {g : Nat} {t : TypeId} {fz : Nat × Nat} {A L B : List Value} (H : List Value) (h : w.heap[g]? = some (.cells H.toArray t fz)) (hH : H = A ++ (L ++ B)) (n : Nat) (hA : A.length = n) : w.rangeAt g n L := by
  intro j v hv
  have hlt := (List.getElem?_eq_some_iff.1 hv).1
  rw [cell_of_row w g (n + j) _ _ _ h, List.getElem?_toArray, hH, List.getElem?_append_right (by omega), hA, Nat.add_sub_cancel_left, List.getElem?_append_left hlt]
  exact hv

/-- Headers put ahead of a payload, the last one first. -/
def wP : Hs → List Int → Option (List Int)
  | [], ys => some ys
  | x :: r, ys => match wP r ys with
    | some p => if bE x.1 x.2 p = 0 then some (bB x.1 x.2 p ++ p) else none
    | none => none

theorem wP_cons {x : Int × List Value} {r : Hs} {ys p : List Int} (h : wP (x :: r) ys = some p) : ∃ q, wP r ys = some q ∧ bE x.1 x.2 q = 0 ∧ p = bB x.1 x.2 q ++ q := by
  unfold wP at h
  split at h
  · rename_i q hq
    split at h
    · rename_i he
      cases h
      exact ⟨q, hq, he, rfl⟩
    · cases h
  · cases h

theorem wP_drop {out : Hs} {ys : List Int} : ∀ (m : Nat) {p : List Int}, wP out ys = some p → ∃ q, wP (out.drop m) ys = some q := by
  intro m
  induction m generalizing out with
  | zero => intro p h; exact ⟨p, by simpa using h⟩
  | succ m ih =>
    intro p h
    cases out with
    | nil => exact ⟨p, by simpa using h⟩
    | cons x r =>
      obtain ⟨q, hq, -, -⟩ := wP_cons h
      simpa using ih hq

end Go.Proofs.YtkjociipcdgeoaaGreat
