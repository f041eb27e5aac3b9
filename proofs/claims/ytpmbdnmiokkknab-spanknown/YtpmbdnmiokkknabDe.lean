/- The contract of span.or. -/
import Derived.Test.YtpmbdnmiokkknabDd
namespace Go.Proofs.Ytpmbdnmiokkknab
open Go.ChangeShapes Go.WideShapes Go.ChangeAt Go.RowKit
set_option maxRecDepth 10000
set_option linter.unusedVariables false

set_option maxHeartbeats 1000000 in
theorem or_any (al ah bl bh : Int) (w : World) (h : U4 al ah bl bh) :
    Calls Try.prog 25 #[spV (al, ah), spV (bl, bh)] w fun e w' => e = .returned (spV (dOr al ah bl bh)) ∧ Below w.heap.size w w' := by
  obtain ⟨a0, a1, a2, a3, b0, b1, b2, b3⟩ := h
  have HB : Hid (∀ w1, Below _ _ w1 → B3 w w1 al ah bl bh 0 0) := Hid.mk' (fun w1 b => (B3.start w al ah bl bh 0 0).below b)
  have hx1 : ∀ (u : World) ts t, (Builtin.min_ ts t #[.int .u64 ah, .int .u64 bh]).run Try.prog u = .ok (.int .u64 (mn ah bh)) u := fun u ts t => by rw [run_min_int2]; rfl
  have hx2 : ∀ (u : World) ts t, (Builtin.max_ ts t #[.int .u64 ah, .int .u64 bh]).run Try.prog u = .ok (.int .u64 (mx ah bh)) u := fun u ts t => by rw [run_max_int2]; rfl
  have hx3 : ∀ (u : World) ts t, (Builtin.max_ ts t #[.int .u64 al, .int .u64 bl]).run Try.prog u = .ok (.int .u64 (mx al bl)) u := fun u ts t => by rw [run_max_int2]; rfl
  obtain ⟨l1, l2, l3⟩ := mx_le ah bh
  have HF := Hid.mk' (fun u => filled_any (mx ah bh) u (by omega) (by omega))
  clear l1 l2 l3 a0 a1 a2 a3 b0 b1 b2 b3
  by_cases s1 : al = ah
  · have e1 : decide (al = ah) = true := decide_eq_true s1
    by_cases s2 : bl = bh
    · have e2 : decide (bl = bh) = true := decide_eq_true s2
      have e : dOr al ah bl bh = (bits .or .u64 al bl, bits .or .u64 al bl) := by unfold dOr; rw [if_pos ⟨s1, s2⟩]
      rw [e]
      clear s1 s2 e
      go_enter Try.func25, Try.ntmps25
      go_wp2_with fail
      refine (single_any _ _ _).mono ?_
      rintro e w1 ⟨rfl, b1⟩
      rw [e1]
      have X := HB.out w1 b1
      obtain ⟨c0, c1, d0, d1, z0, z1, f0, f1⟩ := X.facts
      have X := Hid.mk' X
      clear b1
      go_wp2_with fail
      refine (single_any _ _ _).mono ?_
      rintro e w2 ⟨rfl, b1⟩
      rw [e2]
      have X := X.out.below b1
      obtain ⟨c0, c1, d0, d1, z0, z1, f0, f1⟩ := X.facts
      have X := Hid.mk' X
      clear b1
      go_wp2_with fail
      refine (one_any _ _).mono ?_
      rintro e w3 ⟨rfl, b1⟩
      have X := X.out.below b1
      obtain ⟨c0, c1, d0, d1, z0, z1, f0, f1⟩ := X.facts
      have X := Hid.mk' X
      clear b1
      go_wp2_with fail
      obtain ⟨k0, k1, K⟩ := X.out.done (bits .or .u64 al bl) (bits .or .u64 al bl)
      refine ret_sp rfl rfl k0 k1 rfl ?_
      exact ⟨rfl, K⟩
    · have e2 : decide (bl = bh) = false := decide_eq_false s2
      have e : dOr al ah bl bh = (mx al bl, fl (mx ah bh)) := by unfold dOr; rw [if_neg (fun k => s2 k.2)]
      rw [e]
      clear s1 s2 e
      generalize mx ah bh = MH at *
      generalize mx al bl = ML at *
      generalize mn ah bh = NH at *
      go_enter Try.func25, Try.ntmps25
      go_wp2_with fail
      refine (single_any _ _ _).mono ?_
      rintro e w1 ⟨rfl, b1⟩
      rw [e1]
      have X := HB.out w1 b1
      obtain ⟨c0, c1, d0, d1, z0, z1, f0, f1⟩ := X.facts
      have X := Hid.mk' X
      clear b1
      go_wp2_with fail
      refine (single_any _ _ _).mono ?_
      rintro e w2 ⟨rfl, b1⟩
      rw [e2]
      have X := X.out.below b1
      obtain ⟨c0, c1, d0, d1, z0, z1, f0, f1⟩ := X.facts
      have X := Hid.mk' X
      clear b1
      go_wp2_with fail
      clear hx1
      have hne : ¬ (w.heap.size + 1 + 1 = w.heap.size) := by omega
      go_region_held3 (fun w' => w'.cell? ⟨w.heap.size, 0, none⟩ = some (.int .u64 al) ∧ w'.cell? ⟨w.heap.size, 1, none⟩ = some (.int .u64 ah) ∧ w'.cell? ⟨w.heap.size + 1, 0, none⟩ = some (.int .u64 bl) ∧ w'.cell? ⟨w.heap.size + 1, 1, none⟩ = some (.int .u64 bh)) (go_keep) (first | (go_at_call 36; refine (HF.out _).mono ?_; rintro e w4 ⟨rfl, rfl⟩))
      all_goals
        go_wp2_with fail
        obtain ⟨k0, k1, K⟩ := (X.out.dr ⟨_, rfl⟩).done ML (fl MH)
        refine ret_sp rfl rfl k0 k1 rfl ?_
        exact ⟨rfl, K⟩
  · have e1 : decide (al = ah) = false := decide_eq_false s1
    have e : dOr al ah bl bh = (mx al bl, fl (mx ah bh)) := by unfold dOr; rw [if_neg (fun k => s1 k.1)]
    rw [e]
    clear s1 e
    generalize mx ah bh = MH at *
    generalize mx al bl = ML at *
    generalize mn ah bh = NH at *
    go_enter Try.func25, Try.ntmps25
    go_wp2_with fail
    refine (single_any _ _ _).mono ?_
    rintro e w1 ⟨rfl, b1⟩
    rw [e1]
    have X := HB.out w1 b1
    obtain ⟨c0, c1, d0, d1, z0, z1, f0, f1⟩ := X.facts
    have X := Hid.mk' X
    clear b1
    go_wp2_with fail
    clear hx1
    have hne : ¬ (w.heap.size + 1 + 1 = w.heap.size) := by omega
    go_region_held3 (fun w' => w'.cell? ⟨w.heap.size, 0, none⟩ = some (.int .u64 al) ∧ w'.cell? ⟨w.heap.size, 1, none⟩ = some (.int .u64 ah) ∧ w'.cell? ⟨w.heap.size + 1, 0, none⟩ = some (.int .u64 bl) ∧ w'.cell? ⟨w.heap.size + 1, 1, none⟩ = some (.int .u64 bh)) (go_keep) (first | (go_at_call 36; refine (HF.out _).mono ?_; rintro e w4 ⟨rfl, rfl⟩))
    all_goals
      go_wp2_with fail
      obtain ⟨k0, k1, K⟩ := (X.out.dr ⟨_, rfl⟩).done ML (fl MH)
      refine ret_sp rfl rfl k0 k1 rfl ?_
      exact ⟨rfl, K⟩
end Go.Proofs.Ytpmbdnmiokkknab
