/- The document's Check. -/
import Derived.Test.YtagnaefpkgekmaaCi
namespace Go.Proofs.Ytagnaefpkgekmaa
open Go.ChangeShapes Go.WideShapes Go.ChangeAt Go.RowKit Go.Maps Go.Sort Go.Shelf
set_option maxRecDepth 10000

theorem turn_name {P : Program} {f : Nat} {args : Array Value} {w : World} {x : Ending} (h : Calls P f args w fun e w' => e = x ∧ w = w') : Calls P f args w fun e w' => e = x ∧ w' = w :=
  h.mono fun _ _ ⟨h1, h2⟩ => ⟨h1, h2.symm⟩

set_option maxHeartbeats 2000000 in
theorem rcheck_any (v : Value) (l : List Kn) (w : World) (h : Ks w v l) : Calls Try.prog 11 #[v] w fun e w' => e = .returned (.int .i64 (ckN l)) ∧ Below w.heap.size w w' := by
  obtain ⟨a, c, rfl, hl⟩ := h.lies
  have hlen := h.len
  have HB := Hid.mk' h.inb
  have HL := Hid.mk' hl
  clear h hl
  obtain ⟨n, hn⟩ : ∃ n, l.length = n := ⟨_, rfl⟩
  rw [hn] at hlen ⊢
  obtain ⟨E, hE⟩ : ∃ E, Hid (ckN l = E) := ⟨_, rfl⟩
  rw [hE.out]
  have HN := Hid.mk' hn
  by_cases h257 : 257 < n
  · go_enter Try.func11, Try.ntmps11
    go_wp2_with fail
    go_ret
    exact ⟨ret_int (by rw [← hE.out]; unfold ckN; rw [if_pos (by rw [HN.out]; exact h257)]), Below.refl _ _⟩
  · have HE : Hid (E = if okF (-1) l then 0 else 2) := Hid.mk' (by rw [← hE.out]; unfold ckN; rw [if_neg (by rw [HN.out]; exact h257)])
    clear hn hE
    go_enter Try.func11, Try.ntmps11
    go_wp2_with fail
    go_loopw [3] (fun r wr => ∃ (k : Nat), r = .int .i64 k ∧ Hid (okF (-1) l = okF (laA l k) (l.drop k)) ∧ k ≤ n ∧ Hid (Dr w wr)) (fun r _ => ((n : Int) - iv r).toNat)
    case atStart => exact ⟨0, rfl, Hid.mk' rfl, Nat.zero_le _, Hid.mk' (Dr.refl _)⟩
    case round =>
      obtain ⟨k, rfl, HK, hk, hD⟩ := hrel
      by_cases hkn : k < n
      · obtain ⟨b, off, ea, hbl, c0, c1, i0, i1⟩ := lkn_at HL.out HB.out (show k < l.length by rw [HN.out]; exact hkn)
        subst ea
        have d0 := (hD.out.cell _).trans c0
        have d1 := (hD.out.cell _).trans c1
        have hS := Hid.mk' (ok_step (l := l) (k := k) (by rw [HN.out]; exact hkn))
        have hlk : (k : Int) < (n : Int) := by omega
        have KI := fun u => turn_name (rid_any (idA l k) u)
        have KW := fun u => turn_name (within00_any (bA l k) 1 2048 u)
        have HOB : Hid (okB (bA l k) = (decide (1 ≤ bA l k) && decide (bA l k ≤ 2048))) := Hid.mk' rfl
        have HPB : Hid (k = 0 ∨ ∃ m, k = m + 1 ∧ laA l k = idA l m ∧ wr.cell? ⟨b, off + m * 2, none⟩ = some (.int .i64 (idA l m)) ∧ In64 (idA l m)) := Hid.mk' (by
          cases k with
          | zero => exact .inl rfl
          | succ m =>
            obtain ⟨b2, off2, ea2, _, f0, _, i2, _⟩ := lkn_at HL.out HB.out (show m < l.length by rw [HN.out]; omega)
            simp only [Option.some.injEq, Addr.mk.injEq, and_true] at ea2
            obtain ⟨rfl, rfl⟩ := ea2
            exact .inr ⟨m, rfl, rfl, (hD.out.cell _).trans f0, i2⟩)
        have HLZ : Hid (k = 0 → laA l k = -1) := Hid.mk' (fun e => by subst e; rfl)
        clear c0 c1
        generalize hI : idA l k = I at *
        have HI2 : Hid (laA l (k + 1) = I) := Hid.mk' hI
        clear hI
        generalize bA l k = N at *
        generalize laA l k = LA at *
        have HFAIL : Hid (LA < I → isId I = true → okB N = true → okF (-1) l = okF (laA l (k + 1)) (l.drop (k + 1))) := Hid.mk' (fun q1 q2 q3 => by rw [HK.out, hS.out, decide_eq_true q1, q2, q3]; rfl)
        have HBAD : Hid (¬ (LA < I ∧ isId I = true ∧ okB N = true) → E = 2) := Hid.mk' (fun q => by
          rw [HE.out, HK.out, hS.out]
          by_cases q1 : LA < I
          · by_cases q2 : isId I = true
            · by_cases q3 : okB N = true
              · exact absurd ⟨q1, q2, q3⟩ q
              · rw [show okB N = false by simpa using q3]; simp
            · rw [show isId I = false by simpa using q2]; simp
          · rw [decide_eq_false q1]; rfl)
        by_cases g2 : isId I = true
        · obtain ⟨gi0, gi1⟩ := (isId_iff I).1 g2
          rw [g2] at KI
          obtain ⟨OB, hOB⟩ : ∃ OB, (decide (1 ≤ N) && decide (N ≤ 2048)) = OB := ⟨_, rfl⟩
          rw [hOB] at KW HOB
          clear hOB
          rcases HPB.out with hk0 | ⟨m, hkm, hLm, f0, im⟩
          · have hLA := HLZ.out hk0
            subst hk0
            have e0 : wr.cell? ⟨b, off, none⟩ = some (.int .i64 I) := by simpa using d0
            have e1 : wr.cell? ⟨b, off + 1, none⟩ = some (.int .i64 N) := by simpa using d1
            clear d0 d1
            go_wp2_with fail
            go_quiet (first
              | (go_at_call 36; exact Calls.quiet_of_same (KI _))
              | (go_at_call 37; exact Calls.quiet_of_same (KW _)))
            cases OB with
            | true =>
              have HF := Hid.mk' (HFAIL.out (by omega) g2 HOB.out)
              go_wp2_with fail
              go_roundw
              case rel => exact ⟨0 + 1, by go_num, HF, hkn, Hid.mk' (hD.out.more _)⟩
              case measure => simp [iv]; omega
            | false =>
              have HF := Hid.mk' (HBAD.out (fun q => by have q3 := q.2.2; rw [HOB.out] at q3; cases q3))
              go_wp2_with fail
              go_ret
              exact ⟨ret_int HF.out.symm, (hD.out.more _).below _⟩
          · obtain ⟨im0, im1⟩ := im
            have hkz : (0 : Int) < (k : Int) := by omega
            have hkzn : 0 < k := by omega
            have hw1 : IntKind.i64.wrap ((k : Int) - 1) = (m : Int) := by rw [IntWalk.i64_in _ ⟨by omega, by omega⟩]; omega
            have hmn : (m : Int) < (n : Int) := by omega
            rw [hLm] at HFAIL HBAD
            clear hkm hLm HPB HLZ
            by_cases g1 : I ≤ idA l m
            · have HF := Hid.mk' (HBAD.out (fun q => by have := q.1; omega))
              have hd : decide (I ≤ idA l m) = true := decide_eq_true g1
              generalize idA l m = IM at *
              go_wp2_with fail
              go_quiet (first
                | (go_at_call 36; exact Calls.quiet_of_same (KI _))
                | (go_at_call 37; exact Calls.quiet_of_same (KW _)))
              go_wp2_with fail
              go_ret
              exact ⟨ret_int HF.out.symm, (hD.out.more _).below _⟩
            · have hd : decide (I ≤ idA l m) = false := decide_eq_false g1
              generalize idA l m = IM at *
              go_wp2_with fail
              go_quiet (first
                | (go_at_call 36; exact Calls.quiet_of_same (KI _))
                | (go_at_call 37; exact Calls.quiet_of_same (KW _)))
              cases OB with
              | true =>
                have HF := Hid.mk' (HFAIL.out (by omega) g2 HOB.out)
                go_wp2_with fail
                go_roundw
                case rel => exact ⟨k + 1, by go_num, HF, hkn, Hid.mk' (hD.out.more _)⟩
                case measure => simp [iv]; omega
              | false =>
                have HF := Hid.mk' (HBAD.out (fun q => by have q3 := q.2.2; rw [HOB.out] at q3; cases q3))
                go_wp2_with fail
                go_ret
                exact ⟨ret_int HF.out.symm, (hD.out.more _).below _⟩
        · have g2' : isId I = false := by simpa using g2
          rw [g2'] at KI
          have HF := Hid.mk' (HBAD.out (fun q => g2 q.2.1))
          go_wp2_with fail
          go_quiet (first
            | (go_at_call 36; exact Calls.quiet_of_same (KI _))
            | (go_at_call 37; exact Calls.quiet_of_same (KW _)))
          go_wp2_with fail
          go_ret
          exact ⟨ret_int HF.out.symm, (hD.out.more _).below _⟩
      · have hlk : ¬ (k : Int) < (n : Int) := by omega
        have HF : Hid (E = 0) := Hid.mk' (by rw [HE.out, HK.out, ok_end (by rw [HN.out]; exact hkn)]; rfl)
        go_wp2_with fail
        go_ret
        exact ⟨ret_int HF.out.symm, hD.out.below _⟩
end Go.Proofs.Ytagnaefpkgekmaa
