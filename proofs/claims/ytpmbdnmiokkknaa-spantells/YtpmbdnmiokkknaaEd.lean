/- The walk of SpanTells. -/
import Derived.Test.YtpmbdnmiokkknaaEb
namespace Go.Proofs.Ytpmbdnmiokkknaa
open Go.ChangeShapes Go.WideShapes Go.ChangeAt Go.RowKit
set_option maxRecDepth 10000
set_option linter.unusedVariables false

set_option maxHeartbeats 4000000 in
theorem tells_ints (al ah bl bh n : Int) (W : World) :
    Calls Try.prog 3 #[spV (al, ah), spV (bl, bh), .int .u64 n] W fun e w' => e = .returned (.bool true) ∧ Below W.heap.size W w' := by
  have K1 := Hid.mk' (fun u => check_any al ah u)
  have K2 := Hid.mk' (fun u => rcheck_any al ah u)
  have K3 := Hid.mk' (fun u => has_any al ah n u)
  have K4 := Hid.mk' (fun u => rhas_any al ah n u)
  have K5 := Hid.mk' (fun u => join_any al ah bl bh u)
  have K6 := Hid.mk' (fun u => rjoin_any al ah bl bh u)
  have K7 := Hid.mk' (fun u => under_any al ah bl bh u)
  have K8 := Hid.mk' (fun u => runder_any al ah bl bh u)
  have K9 := Hid.mk' (fun u => works_any u)
  have A1 := Hid.mk' (fun u => all_any u)
  have A2 := Hid.mk' (fun u => rall_any u)
  have X2 := Hid.mk' (((BxE.nil W).add al ah).add bl bh).out
  generalize ckS al ah = CK at *
  generalize hasB al ah n = HV at *
  generalize joS al ah bl bh = JS at *
  generalize unB al ah bl bh = UV at *
  obtain ⟨j1, j2⟩ := JS
  have q1 := fun u => sp_eq_same n n u
  have q2 := fun u => sp_eq_same 0 18446744073709551615 u
  have q3 := fun u => sp_eq_same j1 j2 u
  go_enter Try.func3, Try.ntmps3
  go_wp2_with fail
  refine (one_any n _).mono ?_
  rintro e w1 ⟨rfl, hb⟩
  have Y1 := Hid.mk' (X2.out.below hb)
  clear hb
  go_wp2_with fail
  refine (rone_any n _).mono ?_
  rintro e w2 ⟨rfl, hb⟩
  have Y2 := Hid.mk' (Y1.out.below hb)
  clear hb
  go_wp2_with fail
  refine (A1.out _).mono ?_
  rintro e w3 ⟨rfl, hb⟩
  have Y3 := Hid.mk' (Y2.out.below hb)
  clear hb
  go_wp2_with fail
  refine (A2.out _).mono ?_
  rintro e v0 ⟨rfl, hb⟩
  have X := Y3.out.below hb
  obtain ⟨c0, c1, d0, d1⟩ := twoB X
  have X := Hid.mk' X
  clear hb
  go_wp2_with fail
  go_region_held3 (fun w' => w'.cell? ⟨W.heap.size, 0, none⟩ = some (.int .u64 al) ∧ w'.cell? ⟨W.heap.size, 1, none⟩ = some (.int .u64 ah) ∧ w'.cell? ⟨W.heap.size + 1, 0, none⟩ = some (.int .u64 bl) ∧ w'.cell? ⟨W.heap.size + 1, 1, none⟩ = some (.int .u64 bh)) (go_keep) (first
    | (go_at_call 13; refine (K1.out v0.drew).mono ?_; rintro e x1 ⟨rfl, hb⟩; have X1 := X.out.below (((Below.refl v0.heap.size v0).drew).trans hb); obtain ⟨a0x1, a1x1, b0x1, b1x1⟩ := twoB X1; have X1 := Hid.mk' X1; clear hb)
    | (go_at_call 14; refine (K2.out x1).mono ?_; rintro e x2 ⟨rfl, hb⟩; have X2 := X1.out.below hb; obtain ⟨a0x2, a1x2, b0x2, b1x2⟩ := twoB X2; have X2 := Hid.mk' X2; clear hb)
    | (go_at_call 15; refine (K3.out x2).mono ?_; rintro e x3 ⟨rfl, hb⟩; have X3 := X2.out.below hb; obtain ⟨a0x3, a1x3, b0x3, b1x3⟩ := twoB X3; have X3 := Hid.mk' X3; clear hb)
    | (go_at_call 16; refine (K4.out x3).mono ?_; rintro e x4 ⟨rfl, hb⟩; have X4 := X3.out.below hb; obtain ⟨a0x4, a1x4, b0x4, b1x4⟩ := twoB X4; have X4 := Hid.mk' X4; clear hb)
    | (go_at_call 17; refine (K5.out x4).mono ?_; rintro e x5 ⟨rfl, hb⟩; have X5 := X4.out.below hb; obtain ⟨a0x5, a1x5, b0x5, b1x5⟩ := twoB X5; have X5 := Hid.mk' X5; clear hb)
    | (go_at_call 18; refine (K6.out x5).mono ?_; rintro e x6 ⟨rfl, hb⟩; have X6 := X5.out.below hb; obtain ⟨a0x6, a1x6, b0x6, b1x6⟩ := twoB X6; have X6 := Hid.mk' X6; clear hb)
    | (go_at_call 19; refine (K7.out x6).mono ?_; rintro e x7 ⟨rfl, hb⟩; have X7 := X6.out.below hb; obtain ⟨a0x7, a1x7, b0x7, b1x7⟩ := twoB X7; have X7 := Hid.mk' X7; clear hb)
    | (go_at_call 20; refine (K8.out x7).mono ?_; rintro e x8 ⟨rfl, hb⟩; have X8 := X7.out.below hb; obtain ⟨a0x8, a1x8, b0x8, b1x8⟩ := twoB X8; have X8 := Hid.mk' X8; clear hb)
    | (go_at_call 21; refine (K9.out x8).mono ?_; rintro e x9 ⟨rfl, hb⟩; have X9 := X8.out.below hb; obtain ⟨a0x9, a1x9, b0x9, b1x9⟩ := twoB X9; have X9 := Hid.mk' X9; clear hb))
  all_goals
    go_wp2_with fail
    go_ret
    exact ⟨rfl, X9.out.old⟩

theorem walkSpanTells (m0 m1 : sh24.M) (x2 : Int) (W : World) (o0 : sh24.ok W m0) (o1 : sh24.ok W m1) (h2 : (Lit.int .u64 x2).wf = true) :
    Calls Try.prog 3 #[.agg (sh24.cs m0).toArray, .agg (sh24.cs m1).toArray, .int .u64 x2] W fun e w' => e = .returned (.bool true) ∧ Below W.heap.size W w' := by
  obtain ⟨al, ah⟩ := m0
  obtain ⟨bl, bh⟩ := m1
  exact tells_ints al ah bl bh x2 W
end Go.Proofs.Ytpmbdnmiokkknaa
