/- The contracts of span.without, span.common, span.ordered, span.apart. -/
import Derived.Test.YtpmbdnmiokkknabDd
namespace Go.Proofs.Ytpmbdnmiokkknab
open Go.ChangeShapes Go.WideShapes Go.ChangeAt Go.RowKit
set_option maxRecDepth 10000
set_option linter.unusedVariables false

/-- A span without another one's number. -/
def woS (al ah bl bh : Int) : Int × Int := if al = ah ∨ ¬ bl = bh then (al, ah) else if bl = al then (al + 1, ah) else if bl = ah then (al, ah - 1) else (al, ah)

theorem B3.setA0 {w u : World} {al ah bl bh x y : Int} (h : B3 w u al ah bl bh x y) (v : Int) : B3 w (u.setCell ⟨w.heap.size, 0, none⟩ (.int .u64 v)) v ah bl bh x y := by
  refine ⟨below_set h.old (Nat.le_refl _) 0 _, ?_, h.B.other 0 _ (by omega), h.Z.other 0 _ (by omega)⟩
  exact ⟨Go.heap_setCell_same u w.heap.size 0 #[.int .u64 al, .int .u64 ah] 24 (.int .u64 v) h.A.blk⟩
theorem B3.setA1 {w u : World} {al ah bl bh x y : Int} (h : B3 w u al ah bl bh x y) (v : Int) : B3 w (u.setCell ⟨w.heap.size, 1, none⟩ (.int .u64 v)) al v bl bh x y := by
  refine ⟨below_set h.old (Nat.le_refl _) 1 _, ?_, h.B.other 1 _ (by omega), h.Z.other 1 _ (by omega)⟩
  exact ⟨Go.heap_setCell_same u w.heap.size 1 #[.int .u64 al, .int .u64 ah] 24 (.int .u64 v) h.A.blk⟩

set_option maxHeartbeats 1000000 in
theorem without_any (al ah bl bh : Int) (w : World) (h : U4 al ah bl bh) (ha : al ≤ ah) :
    Calls Try.prog 37 #[spV (al, ah), spV (bl, bh)] w fun e w' => e = .returned (spV (woS al ah bl bh)) ∧ Below w.heap.size w w' := by
  have HB : Hid (∀ w1, Below _ _ w1 → B3 w w1 al ah bl bh 0 0) := Hid.mk' (fun w1 b => (B3.start w al ah bl bh 0 0).below b)
  obtain ⟨a0, a1, a2, a3, b0, b1, b2, b3⟩ := h
  by_cases s1 : al = ah
  · have e1 : decide (al = ah) = true := decide_eq_true s1
    have e : woS al ah bl bh = (al, ah) := by unfold woS; rw [if_pos (.inl s1)]
    rw [e]
    clear e s1 ha
    go_enter Try.func37, Try.ntmps37
    go_wp2_with fail
    refine (single_any _ _ _).mono ?_
    rintro e w1 ⟨rfl, b1⟩
    rw [e1]
    have X := HB.out w1 b1
    obtain ⟨c0, c1, d0, d1, z0, z1, f0, f1⟩ := X.facts
    have X := Hid.mk' X
    clear b1
    go_wp2_with fail
    obtain ⟨k0, k1, K⟩ := X.out.done al ah
    refine ret_sp rfl rfl k0 k1 rfl ?_
    exact ⟨rfl, K⟩
  · have e1 : decide (al = ah) = false := decide_eq_false s1
    have hlt : al < ah := by omega
    by_cases s2 : bl = bh
    · have e2 : decide (bl = bh) = true := decide_eq_true s2
      by_cases t1 : bl = al
      · have e : woS al ah bl bh = (al + 1, ah) := by unfold woS; rw [if_neg (fun k => k.elim s1 (fun j => j s2)), if_pos t1]
        have q1 : (bl == al) = true := by simp [t1]
        rw [e]
        clear e s1 s2 ha t1
        go_enter Try.func37, Try.ntmps37
        go_wp2_with fail
        refine (single_any _ _ _).mono ?_
        rintro e w1 ⟨rfl, b1⟩
        rw [e1]
        have X := HB.out w1 b1
        obtain ⟨c0, c1, d0, d1, z0, z1, f0, f1⟩ := X.facts
        have X := Hid.mk' X
        clear b1
        go_wp2_with fail
        refine (single_any _ _ _).mono ?_
        rintro e w2 ⟨rfl, b1⟩
        rw [e2]
        have X := X.out.below b1
        obtain ⟨c0, c1, d0, d1, z0, z1, f0, f1⟩ := X.facts
        have g0 := X.A.fz 0
        have X := Hid.mk' X
        clear b1
        go_wp2_with fail
        obtain ⟨k0, k1, K⟩ := (X.out.setA0 (al + 1)).done (al + 1) ah
        refine ret_sp rfl rfl k0 k1 rfl ?_
        exact ⟨rfl, K⟩
      · have q1 : (bl == al) = false := by simp [t1]
        by_cases t2 : bl = ah
        · have e : woS al ah bl bh = (al, ah - 1) := by unfold woS; rw [if_neg (fun k => k.elim s1 (fun j => j s2)), if_neg t1, if_pos t2]
          have q2 : (bl == ah) = true := by simp [t2]
          rw [e]
          clear e s1 s2 ha t1 t2
          go_enter Try.func37, Try.ntmps37
          go_wp2_with fail
          refine (single_any _ _ _).mono ?_
          rintro e w1 ⟨rfl, b1⟩
          rw [e1]
          have X := HB.out w1 b1
          obtain ⟨c0, c1, d0, d1, z0, z1, f0, f1⟩ := X.facts
          have X := Hid.mk' X
          clear b1
          go_wp2_with fail
          refine (single_any _ _ _).mono ?_
          rintro e w2 ⟨rfl, b1⟩
          rw [e2]
          have X := X.out.below b1
          obtain ⟨c0, c1, d0, d1, z0, z1, f0, f1⟩ := X.facts
          have g0 := X.A.fz 1
          have X := Hid.mk' X
          clear b1
          go_wp2_with fail
          obtain ⟨k0, k1, K⟩ := (X.out.setA1 (ah - 1)).done al (ah - 1)
          refine ret_sp rfl rfl k0 k1 rfl ?_
          exact ⟨rfl, K⟩
        · have e : woS al ah bl bh = (al, ah) := by unfold woS; rw [if_neg (fun k => k.elim s1 (fun j => j s2)), if_neg t1, if_neg t2]
          have q2 : (bl == ah) = false := by simp [t2]
          rw [e]
          clear e s1 s2 ha t1 t2
          go_enter Try.func37, Try.ntmps37
          go_wp2_with fail
          refine (single_any _ _ _).mono ?_
          rintro e w1 ⟨rfl, b1⟩
          rw [e1]
          have X := HB.out w1 b1
          obtain ⟨c0, c1, d0, d1, z0, z1, f0, f1⟩ := X.facts
          have X := Hid.mk' X
          clear b1
          go_wp2_with fail
          refine (single_any _ _ _).mono ?_
          rintro e w2 ⟨rfl, b1⟩
          rw [e2]
          have X := X.out.below b1
          obtain ⟨c0, c1, d0, d1, z0, z1, f0, f1⟩ := X.facts
          have X := Hid.mk' X
          clear b1
          go_wp2_with fail
          obtain ⟨k0, k1, K⟩ := X.out.done al ah
          refine ret_sp rfl rfl k0 k1 rfl ?_
          exact ⟨rfl, K⟩
    · have e2 : decide (bl = bh) = false := decide_eq_false s2
      have e : woS al ah bl bh = (al, ah) := by unfold woS; rw [if_pos (.inr s2)]
      rw [e]
      clear e s1 s2 ha
      go_enter Try.func37, Try.ntmps37
      go_wp2_with fail
      refine (single_any _ _ _).mono ?_
      rintro e w1 ⟨rfl, b1⟩
      rw [e1]
      have X := HB.out w1 b1
      obtain ⟨c0, c1, d0, d1, z0, z1, f0, f1⟩ := X.facts
      have X := Hid.mk' X
      clear b1
      go_wp2_with fail
      refine (single_any _ _ _).mono ?_
      rintro e w2 ⟨rfl, b1⟩
      rw [e2]
      have X := X.out.below b1
      obtain ⟨c0, c1, d0, d1, z0, z1, f0, f1⟩ := X.facts
      have X := Hid.mk' X
      clear b1
      go_wp2_with fail
      obtain ⟨k0, k1, K⟩ := X.out.done al ah
      refine ret_sp rfl rfl k0 k1 rfl ?_
      exact ⟨rfl, K⟩
end Go.Proofs.Ytpmbdnmiokkknab
