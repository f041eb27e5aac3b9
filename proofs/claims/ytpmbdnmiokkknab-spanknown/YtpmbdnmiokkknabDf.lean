/- The contracts of span.shl, span.shr. -/
import Derived.Test.YtpmbdnmiokkknabDd
namespace Go.Proofs.Ytpmbdnmiokkknab
open Go.ChangeShapes Go.WideShapes Go.ChangeAt Go.RowKit
set_option maxRecDepth 10000
set_option linter.unusedVariables false

theorem shr_any (al ah bl bh : Int) (w : World) (b0 : 0 ≤ bl) (b1 : bl ≤ 63) :
    Calls Try.prog 28 #[spV (al, ah), spV (bl, bh)] w fun e w' => e = .returned (spV (dShr al ah bl)) ∧ Below w.heap.size w w' := by
  unfold dShr
  go_enter Try.func28, Try.ntmps28
  go_wp2_with fail
  refine ret_sp rfl rfl (celln (by simp) rfl) (celln (by simp) rfl) rfl ?_
  exact ⟨rfl, bl3 _ _ _ _⟩

theorem pow_pos (k : Nat) : (0 : Int) < 2 ^ k := by
  have := Nat.two_pow_pos k
  have e : ((2 ^ k : Nat) : Int) = 2 ^ k := Int.natCast_pow 2 k
  omega
theorem shl_back (x : Int) (k : Nat) (h0 : 0 ≤ x) : IntKind.u64.wrap (x * 2 ^ k) / 2 ^ k = x ↔ x * 2 ^ k < 18446744073709551616 := by
  rw [wrap64]
  have hp := pow_pos k
  have hx : 0 ≤ x * 2 ^ k := Int.mul_nonneg h0 (Int.le_of_lt hp)
  constructor
  · intro h
    have h2 : x * 2 ^ k ≤ (x * 2 ^ k) % 18446744073709551616 := by
      have := Int.ediv_mul_le ((x * 2 ^ k) % 18446744073709551616) (Int.ne_of_gt hp)
      rw [h] at this
      exact this
    generalize x * 2 ^ k = X at *
    omega
  · intro h
    rw [Int.emod_eq_of_lt hx h, Int.mul_ediv_cancel _ (Int.ne_of_gt hp)]

theorem shl_any (al ah bl bh : Int) (w : World) (a2 : 0 ≤ ah) (b0 : 0 ≤ bl) (b1 : bl ≤ 63) :
    Calls Try.prog 27 #[spV (al, ah), spV (bl, bh)] w fun e w' => e = .returned (spV (dShl al ah bl)) ∧ Below w.heap.size w w' := by
  have HB : Hid (∀ w1, Below _ _ w1 → B3 w w1 al ah bl bh 0 0) := Hid.mk' (fun w1 b => (B3.start w al ah bl bh 0 0).below b)
  by_cases hc : ah * 2 ^ bl.toNat < 18446744073709551616
  · have e : dShl al ah bl = (IntKind.u64.wrap (al * 2 ^ bl.toNat), IntKind.u64.wrap (ah * 2 ^ bl.toNat)) := by unfold dShl; rw [if_pos (.inl hc), wrap64, wrap64]
    rw [e]
    have hk := (shl_back ah bl.toNat a2).2 hc
    clear e hc
    go_enter Try.func27, Try.ntmps27
    go_wp2_with fail
    refine ret_sp rfl rfl (celln (by simp) rfl) (celln (by simp) rfl) rfl ?_
    exact ⟨rfl, bl3 _ _ _ _⟩
  · have hk : ¬ IntKind.u64.wrap (ah * 2 ^ bl.toNat) / 2 ^ bl.toNat = ah := fun h => hc ((shl_back ah bl.toNat a2).1 h)
    by_cases s1 : al = ah
    · have e : dShl al ah bl = (IntKind.u64.wrap (al * 2 ^ bl.toNat), IntKind.u64.wrap (ah * 2 ^ bl.toNat)) := by unfold dShl; rw [if_pos (.inr s1), wrap64, wrap64]
      have e1 : decide (al = ah) = true := decide_eq_true s1
      rw [e]
      clear e hc s1
      go_enter Try.func27, Try.ntmps27
      go_wp2_with fail
      refine (single_any _ _ _).mono ?_
      rintro e w1 ⟨rfl, b1⟩
      rw [e1]
      have X := HB.out w1 b1
      obtain ⟨c0, c1, d0, d1, z0, z1, f0, f1⟩ := X.facts
      have X := Hid.mk' X
      clear b1
      go_wp2_with fail
      obtain ⟨k0, k1, K⟩ := X.out.done (IntKind.u64.wrap (al * 2 ^ bl.toNat)) (IntKind.u64.wrap (ah * 2 ^ bl.toNat))
      refine ret_sp rfl rfl k0 k1 rfl ?_
      exact ⟨rfl, K⟩
    · have e : dShl al ah bl = allS := by unfold dShl; rw [if_neg (fun j => j.elim hc s1)]
      have e1 : decide (al = ah) = false := decide_eq_false s1
      rw [e]
      clear e hc s1
      go_enter Try.func27, Try.ntmps27
      go_wp2_with fail
      refine (single_any _ _ _).mono ?_
      rintro e w1 ⟨rfl, b1⟩
      rw [e1]
      have X := Hid.mk' (HB.out w1 b1)
      clear b1
      go_wp2_with fail
      refine (all_any _).mono ?_
      rintro e w3 ⟨rfl, b1⟩
      have X := X.out.below b1
      obtain ⟨c0, c1, d0, d1, z0, z1, f0, f1⟩ := X.facts
      have X := Hid.mk' X
      clear b1
      go_wp2_with fail
      obtain ⟨k0, k1, K⟩ := X.out.done 0 18446744073709551615
      refine ret_sp rfl rfl k0 k1 rfl ?_
      exact ⟨rfl, K⟩
end Go.Proofs.Ytpmbdnmiokkknab
