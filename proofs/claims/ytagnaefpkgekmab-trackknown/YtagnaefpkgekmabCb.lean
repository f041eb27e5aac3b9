/- Lists of what is known in memory (Ks); the contracts of isPointer, Check, Bytes. -/
import Derived.Test.YtagnaefpkgekmabCa
import Derived.Test.YtagnaefpkgekmabBu
import Derived.OwnWalk
import Derived.Deep.CutBlock
namespace Go.Proofs.Ytagnaefpkgekmab
open Go.ChangeShapes Go.WideShapes Go.ChangeAt Go.RowKit
set_option maxRecDepth 10000

def iv : Value → Int | .int _ q => q | _ => 0
def In64 (n : Int) : Prop := -9223372036854775808 ≤ n ∧ n ≤ 9223372036854775807
/-- Pairs lie from a place on. -/
def Lkn (w : World) (b off : Nat) (l : List Kn) : Prop := ∀ (k : Nat) (i n : Int), l[k]? = some (i, n) → w.cell? ⟨b, off + k * 2, none⟩ = some (.int .i64 i) ∧ w.cell? ⟨b, off + k * 2 + 1, none⟩ = some (.int .i64 n)
theorem Lkn.below {w w' : World} {b off : Nat} {l : List Kn} (h : Lkn w b off l) (hb : Below w.heap.size w w') : Lkn w' b off l := by
  intro k i n hk
  obtain ⟨h0, h1⟩ := h k i n hk
  exact ⟨(hb.cell (lt_of_cell h0)).trans h0, (hb.cell (lt_of_cell h1)).trans h1⟩
/-- A list of what is known, in memory. -/
structure Ks (w : World) (v : Value) (l : List Kn) : Prop where
  lies : ∃ a c, v = .slice a l.length c ∧ (l = [] ∨ ∃ b off, a = some ⟨b, off, none⟩ ∧ Lkn w b off l)
  inb : ∀ p ∈ l, In64 p.1 ∧ In64 p.2
  len : l.length ≤ 140737488355328
theorem Ks.below {w w' : World} {v : Value} {l : List Kn} (h : Ks w v l) (hb : Below w.heap.size w w') : Ks w' v l := by
  obtain ⟨a, c, e, hl⟩ := h.lies
  refine ⟨⟨a, c, e, ?_⟩, h.inb, h.len⟩
  rcases hl with h0 | ⟨b, off, ea, hC⟩
  · exact .inl h0
  · exact .inr ⟨b, off, ea, hC.below hb⟩
theorem ks_nil (w : World) (a : Option Addr) (c : Nat) : Ks w (.slice a 0 c) [] := ⟨⟨a, c, rfl, .inl rfl⟩, by simp, by simp⟩
/-- What stands at a place. -/
theorem lkn_at {w : World} {a : Option Addr} {l : List Kn} (h : l = [] ∨ ∃ b off, a = some ⟨b, off, none⟩ ∧ Lkn w b off l) (hb : ∀ p ∈ l, In64 p.1 ∧ In64 p.2) {k : Nat} (hk : k < l.length) :
    ∃ b off, a = some ⟨b, off, none⟩ ∧ b < w.heap.size ∧ w.cell? ⟨b, off + k * 2, none⟩ = some (.int .i64 (idA l k)) ∧ w.cell? ⟨b, off + k * 2 + 1, none⟩ = some (.int .i64 (bA l k)) ∧ In64 (idA l k) ∧ In64 (bA l k) := by
  rcases h with rfl | ⟨b, off, ea, hC⟩
  · simp at hk
  · obtain ⟨h0, h1⟩ := hC k _ _ (getA hk)
    have := hb _ (List.mem_of_getElem? (getA hk))
    exact ⟨b, off, ea, lt_of_cell h0, h0, h1, this.1, this.2⟩

theorem ispointer_any (n : Int) (w : World) : Calls Try.prog 16 #[.int .i64 n] w fun e w' => e = .returned (.bool (isId n)) ∧ w = w' := by
  go_enter Try.func16, Try.ntmps16
  go_wp2_with fail
  all_goals
    go_ret
    refine ⟨ret_bool ?_, rfl⟩
    first | rfl | (simp [isId, *]; done) | (rw [Bool.eq_iff_iff]; simp [isId]; omega)

/-- The cells of a pair that was boxed just now. -/
theorem cells2 (w : World) (i n : Int) (t : TypeId) : (w.alloc (.cells #[.int .i64 i, .int .i64 n] t)).cell? ⟨w.heap.size, 0, none⟩ = some (.int .i64 i) ∧ (w.alloc (.cells #[.int .i64 i, .int .i64 n] t)).cell? ⟨w.heap.size, 1, none⟩ = some (.int .i64 n) :=
  ⟨World.cell?_alloc_new _ _ _ _, World.cell?_alloc_new _ _ _ _⟩

set_option maxHeartbeats 1000000 in
theorem check_any (v : Value) (l : List Kn) (w : World) (h : Ks w v l) : Calls Try.prog 4 #[v] w fun e w' => e = .returned (.int .i64 (ckN l)) ∧ Below w.heap.size w w' := by
  obtain ⟨a, c, rfl, hl⟩ := h.lies
  have hlen := h.len
  have HB := Hid.mk' h.inb
  have HL := Hid.mk' hl
  clear h hl
  obtain ⟨n, hn⟩ : ∃ n, l.length = n := ⟨_, rfl⟩
  rw [hn] at hlen ⊢
  obtain ⟨E, hE⟩ : ∃ E, Hid (ckN l = E) := ⟨_, rfl⟩
  rw [hE.out]
  have HN := Hid.mk' hn
  by_cases h257 : 257 < n
  · go_enter Try.func4, Try.ntmps4
    go_wp2_with fail
    go_ret
    exact ⟨ret_int (by rw [← hE.out]; unfold ckN; rw [if_pos (by rw [HN.out]; exact h257)]), Below.refl _ _⟩
  · have HE : Hid (E = if okF (-1) l then 0 else 2) := Hid.mk' (by rw [← hE.out]; unfold ckN; rw [if_neg (by rw [HN.out]; exact h257)])
    clear hn hE
    go_enter Try.func4, Try.ntmps4
    go_wp2_with fail
    go_loopw [3, 11] (fun d r wr => ∃ (k : Nat) (la : Int), d = .int .i64 la ∧ r = .int .i64 k ∧ Hid (laA l k = la ∧ okF (-1) l = okF (laA l k) (l.drop k)) ∧ k ≤ n ∧ Below w.heap.size w wr) (fun _ r _ => ((n : Int) - iv r).toNat)
    case atStart => exact ⟨0, -1, rfl, rfl, Hid.mk' ⟨rfl, rfl⟩, Nat.zero_le _, Below.refl _ _⟩
    case round =>
      obtain ⟨k, la, rfl, rfl, HK, hk, hb⟩ := hrel
      by_cases hkn : k < n
      · obtain ⟨b, off, ea, hbl, c0, c1, i0, i1⟩ := lkn_at HL.out HB.out (show k < l.length by rw [HN.out]; exact hkn)
        subst ea
        have hblt : b < wr.heap.size := Nat.lt_of_lt_of_le hbl hb.size
        have d0 := (hb.cell (p := ⟨b, off + k * 2, none⟩) hbl).trans c0
        have d1 := (hb.cell (p := ⟨b, off + k * 2 + 1, none⟩) hbl).trans c1
        have hS := Hid.mk' (ok_step (l := l) (k := k) (by rw [HN.out]; exact hkn))
        have HK2 := Hid.mk' (show laA l (k + 1) = idA l k from rfl)
        clear c0 c1 hbl
        generalize idA l k = I at *
        generalize bA l k = N at *
        obtain ⟨q0, q1⟩ := i0
        obtain ⟨q2, q3⟩ := i1
        have hlk : (k : Int) < (n : Int) := by omega
        by_cases g1 : I ≤ la
        · have HF : Hid (E = 2) := Hid.mk' (by rw [HE.out, HK.out.2, hS.out, HK.out.1, decide_eq_false (by omega)]; rfl)
          go_wp2_with fail
          go_ret
          exact ⟨ret_int HF.out.symm, hb.alloc hb.size _⟩
        · have KP := fun u => ispointer_any I u
          by_cases g2 : isId I = true
          · rw [g2] at KP
            by_cases g3 : N < 1
            · have HF : Hid (E = 2) := Hid.mk' (by rw [HE.out, HK.out.2, hS.out, show okB N = false by unfold okB; rw [decide_eq_false (by omega)]; rfl]; simp)
              go_wp2_with (go_at_call 16; refine (KP _).mono ?_; rintro e u ⟨rfl, rfl⟩)
              go_ret
              exact ⟨ret_int HF.out.symm, hb.alloc hb.size _⟩
            · by_cases g4 : 2048 < N
              · have HF : Hid (E = 2) := Hid.mk' (by rw [HE.out, HK.out.2, hS.out, show okB N = false by unfold okB; rw [decide_eq_false (p := N ≤ 2048) (by omega), Bool.and_false]]; simp)
                go_wp2_with (go_at_call 16; refine (KP _).mono ?_; rintro e u ⟨rfl, rfl⟩)
                go_ret
                exact ⟨ret_int HF.out.symm, hb.alloc hb.size _⟩
              · have HF : Hid (okF (-1) l = okF (laA l (k + 1)) (l.drop (k + 1))) := Hid.mk' (by rw [HK.out.2, hS.out, HK.out.1, g2, decide_eq_true (by omega : la < I), show okB N = true by unfold okB; rw [decide_eq_true (by omega : 1 ≤ N), decide_eq_true (by omega : N ≤ 2048)]; rfl]; rfl)
                go_wp2_with (go_at_call 16; refine (KP _).mono ?_; rintro e u ⟨rfl, rfl⟩)
                go_roundw
                case rel => exact ⟨k + 1, I, rfl, by go_num, Hid.mk' ⟨HK2.out, HF.out⟩, hkn, hb.alloc hb.size _⟩
                case measure => simp [iv]; omega
          · have g2' : isId I = false := by simpa using g2
            rw [g2'] at KP
            have HF : Hid (E = 2) := Hid.mk' (by rw [HE.out, HK.out.2, hS.out, g2']; simp)
            go_wp2_with (go_at_call 16; refine (KP _).mono ?_; rintro e u ⟨rfl, rfl⟩)
            go_ret
            exact ⟨ret_int HF.out.symm, hb.alloc hb.size _⟩
      · have hlk : ¬ (k : Int) < (n : Int) := by omega
        have HF : Hid (E = 0) := Hid.mk' (by rw [HE.out, HK.out.2, ok_end (by rw [HN.out]; exact hkn)]; rfl)
        go_wp2_with fail
        go_ret
        exact ⟨ret_int HF.out.symm, hb⟩

set_option maxHeartbeats 1000000 in
theorem bytes_any (v : Value) (l : List Kn) (z : Int) (w : World) (h : Ks w v l) : Calls Try.prog 13 #[v, .int .i64 z] w fun e w' => e = .returned (.int .i64 (byN l z)) ∧ Below w.heap.size w w' := by
  obtain ⟨a, c, rfl, hl⟩ := h.lies
  have hlen := h.len
  have HB := Hid.mk' h.inb
  have HL := Hid.mk' hl
  clear h hl
  obtain ⟨n, hn⟩ : ∃ n, l.length = n := ⟨_, rfl⟩
  rw [hn] at hlen ⊢
  obtain ⟨E, hE⟩ : ∃ E, Hid (byN l z = E) := ⟨_, rfl⟩
  rw [hE.out]
  have HN := Hid.mk' hn
  clear hn
  go_enter Try.func13, Try.ntmps13
  go_wp2_with fail
  go_loopw [9] (fun r wr => ∃ (k : Nat), r = .int .i64 k ∧ Hid (E = byN (l.drop k) z) ∧ k ≤ n ∧ Below w.heap.size w wr) (fun r _ => ((n : Int) - iv r).toNat)
  case atStart => exact ⟨0, rfl, Hid.mk' (by rw [← hE.out]; rfl), Nat.zero_le _, Below.refl _ _⟩
  case round =>
    obtain ⟨k, rfl, HK, hk, hb⟩ := hrel
    by_cases hkn : k < n
    · obtain ⟨b, off, ea, hbl, c0, c1, i0, i1⟩ := lkn_at HL.out HB.out (show k < l.length by rw [HN.out]; exact hkn)
      subst ea
      have hblt : b < wr.heap.size := Nat.lt_of_lt_of_le hbl hb.size
      have d0 := (hb.cell (p := ⟨b, off + k * 2, none⟩) hbl).trans c0
      have d1 := (hb.cell (p := ⟨b, off + k * 2 + 1, none⟩) hbl).trans c1
      have hS := Hid.mk' (by_step (l := l) (k := k) (by rw [HN.out]; exact hkn) z)
      clear c0 c1 hbl
      generalize idA l k = I at *
      generalize bA l k = N at *
      have hlk : (k : Int) < (n : Int) := by omega
      by_cases g1 : I = z
      · have HF : Hid (N = E) := Hid.mk' (by rw [HK.out, hS.out, if_pos g1])
        go_wp2_with fail
        go_ret
        exact ⟨ret_int HF.out, hb.alloc hb.size _⟩
      · have HF : Hid (E = byN (l.drop (k + 1)) z) := Hid.mk' (by rw [HK.out, hS.out, if_neg g1])
        go_wp2_with fail
        go_roundw
        case rel => exact ⟨k + 1, by go_num, HF, hkn, hb.alloc hb.size _⟩
        case measure => simp [iv]; omega
    · have hlk : ¬ (k : Int) < (n : Int) := by omega
      have HF : Hid (0 = E) := Hid.mk' (by rw [HK.out, by_end (by rw [HN.out]; exact hkn)])
      go_wp2_with fail
      go_ret
      exact ⟨ret_int HF.out, hb⟩
end Go.Proofs.Ytagnaefpkgekmab
