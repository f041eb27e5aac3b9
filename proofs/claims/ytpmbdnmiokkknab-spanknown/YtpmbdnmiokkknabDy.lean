/- The law's to, works. -/
import Derived.Test.YtpmbdnmiokkknabDg
import Derived.Test.YtpmbdnmiokkknabDm
namespace Go.Proofs.Ytpmbdnmiokkknab
open Go.ChangeShapes Go.WideShapes Go.ChangeAt Go.RowKit
set_option maxRecDepth 10000
set_option linter.unusedVariables false

theorem to_any (a b : Int) (w : World) : Calls Try.prog 7 #[.int .u64 a, .int .u64 b] w fun e w' => e = .returned (spV (a, b)) ∧ Below w.heap.size w w' := by
  go_enter Try.func7, Try.ntmps7
  go_wp2_with fail
  refine ret_sp rfl rfl (celln rfl rfl) (celln rfl rfl) rfl ?_
  exact ⟨rfl, bl1 _ _⟩

theorem doW1 (u : World) : Calls Try.prog 9 #[.int .u8 4, spV (1, 5), spV (10, 20)] u fun e w' => e = .returned (.tuple #[spV (11, 25), .int .i64 0]) ∧ Below u.heap.size u w' := by
  have h := do_any 4 1 5 10 20 u (by constructor <;> decide)
  rw [show doS 4 1 5 10 20 = (11, 25) by decide, show doE 4 1 5 10 20 = 0 by decide] at h
  exact h
theorem doW2 (u : World) : Calls Try.prog 9 #[.int .u8 10, spV (4, 9), spV (1, 2)] u fun e w' => e = .returned (.tuple #[spV (4, 15), .int .i64 0]) ∧ Below u.heap.size u w' := by
  have h := do_any 10 4 9 1 2 u (by constructor <;> decide)
  rw [show doS 10 4 9 1 2 = (4, 15) by decide, show doE 10 4 9 1 2 = 0 by decide] at h
  exact h
theorem cutW1 (u : World) : Calls Try.prog 10 #[.int .u8 29, .bool true, spV (0, 9), spV (5, 5)] u fun e w' => e = .returned (.tuple #[spV (0, 4), spV (5, 5), .bool true, .int .i64 0]) ∧ Below u.heap.size u w' := by
  have h := pcut_any 29 true 0 9 5 5 u (by constructor <;> decide)
  rw [show ctX 29 true 0 9 5 5 = (0, 4) by decide, show ctY 29 true 0 9 5 5 = (5, 5) by decide, show ctC 29 true 0 9 5 5 = true by decide, show ctE 29 0 9 5 5 = 0 by decide] at h
  exact h
theorem cutW2 (u : World) : Calls Try.prog 10 #[.int .u8 29, .bool true, spV (7, 9), spV (5, 5)] u fun e w' => e = .returned (.tuple #[spV (0, 0), spV (0, 0), .bool false, .int .i64 0]) ∧ Below u.heap.size u w' := by
  have h := pcut_any 29 true 7 9 5 5 u (by constructor <;> decide)
  rw [show ctX 29 true 7 9 5 5 = (0, 0) by decide, show ctY 29 true 7 9 5 5 = (0, 0) by decide, show ctC 29 true 7 9 5 5 = false by decide, show ctE 29 7 9 5 5 = 0 by decide] at h
  exact h
theorem cmpW (u : World) : Calls Try.prog 12 #[.int .u8 32, .int .u64 5, .int .u64 5] u fun e w' => e = .returned (.tuple #[.bool true, .int .i64 0]) ∧ u = w' := by
  have h := compare_any 32 5 5 u
  rw [show cmB 32 5 5 = true by decide, show cmE 32 = 0 by decide] at h
  exact h

set_option maxHeartbeats 4000000 in
theorem works_any (w : World) : Calls Try.prog 5 #[] w fun e w' => e = .returned (.bool true) ∧ Below w.heap.size w w' := by
  go_enter Try.func5, Try.ntmps5
  have K0 := Hid.mk' (Below.refl w.heap.size w)
  go_wp2_with fail
  refine (to_any 1 5 _).mono ?_
  rintro e w1 ⟨rfl, hb⟩
  have K1 := Hid.mk' (K0.out.trans (hb.mono K0.out.size))
  clear hb
  go_wp2_with fail
  refine (to_any 10 20 _).mono ?_
  rintro e w2 ⟨rfl, hb⟩
  have K2 := Hid.mk' (K1.out.trans (hb.mono K1.out.size))
  clear hb
  go_wp2_with fail
  refine (doW1 _).mono ?_
  rintro e w3 ⟨rfl, hb⟩
  have K3 := Hid.mk' (K2.out.trans (hb.mono K2.out.size))
  clear hb
  go_wp2_with fail
  refine (to_any 4 9 _).mono ?_
  rintro e w4 ⟨rfl, hb⟩
  have A4 : Hid (Box w4 w3.heap.size 11 25) := Hid.mk' ((Box.new w3 11 25 rfl).below hb)
  have hb := (bl1 w3 (spO 11 25)).trans (hb.mono ((bl1 w3 (spO 11 25))).size)
  have K4 := Hid.mk' (K3.out.trans (hb.mono K3.out.size))
  clear hb
  go_wp2_with fail
  refine (to_any 1 2 _).mono ?_
  rintro e w5 ⟨rfl, hb⟩
  have K5 := Hid.mk' (K4.out.trans (hb.mono K4.out.size))
  have A5 := Hid.mk' (A4.out.below hb)
  clear hb
  go_wp2_with fail
  refine (doW2 _).mono ?_
  rintro e w6 ⟨rfl, hb⟩
  have K6 := Hid.mk' (K5.out.trans (hb.mono K5.out.size))
  have A6 := Hid.mk' (A5.out.below hb)
  clear hb
  go_wp2_with fail
  refine (to_any 0 9 _).mono ?_
  rintro e w7 ⟨rfl, hb⟩
  have B7 : Hid (Box w7 w6.heap.size 4 15) := Hid.mk' ((Box.new w6 4 15 rfl).below hb)
  have hb := (bl1 w6 (spO 4 15)).trans (hb.mono ((bl1 w6 (spO 4 15))).size)
  have K7 := Hid.mk' (K6.out.trans (hb.mono K6.out.size))
  have A7 := Hid.mk' (A6.out.below hb)
  clear hb
  go_wp2_with fail
  refine (one_any 5 _).mono ?_
  rintro e w8 ⟨rfl, hb⟩
  have K8 := Hid.mk' (K7.out.trans (hb.mono K7.out.size))
  have A8 := Hid.mk' (A7.out.below hb)
  have B8 := Hid.mk' (B7.out.below hb)
  clear hb
  go_wp2_with fail
  refine (cutW1 _).mono ?_
  rintro e w9 ⟨rfl, hb⟩
  have K9 := Hid.mk' (K8.out.trans (hb.mono K8.out.size))
  have A9 := Hid.mk' (A8.out.below hb)
  have B9 := Hid.mk' (B8.out.below hb)
  clear hb
  go_wp2_with fail
  refine (to_any 7 9 _).mono ?_
  rintro e w10 ⟨rfl, hb⟩
  have C10 : Hid (Box w10 w9.heap.size 0 4) := Hid.mk' (((Box.new w9 0 4 rfl).alloc (spO 5 5)).below hb)
  have D10 : Hid (Box w10 (w9.heap.size + 1) 5 5) := Hid.mk' ((Box.new (w9.alloc (spO 0 4)) 5 5 (by simp)).below hb)
  have hb := (bl2 w9 (spO 0 4) (spO 5 5)).trans (hb.mono ((bl2 w9 (spO 0 4) (spO 5 5))).size)
  have K10 := Hid.mk' (K9.out.trans (hb.mono K9.out.size))
  have A10 := Hid.mk' (A9.out.below hb)
  have B10 := Hid.mk' (B9.out.below hb)
  clear hb
  go_wp2_with fail
  refine (one_any 5 _).mono ?_
  rintro e w11 ⟨rfl, hb⟩
  have K11 := Hid.mk' (K10.out.trans (hb.mono K10.out.size))
  have A11 := Hid.mk' (A10.out.below hb)
  have B11 := Hid.mk' (B10.out.below hb)
  have C11 := Hid.mk' (C10.out.below hb)
  have D11 := Hid.mk' (D10.out.below hb)
  clear hb
  go_wp2_with fail
  refine (cutW2 _).mono ?_
  rintro e w12 ⟨rfl, hb⟩
  have K12 := Hid.mk' (K11.out.trans (hb.mono K11.out.size))
  have A12 := Hid.mk' (A11.out.below hb)
  have B12 := Hid.mk' (B11.out.below hb)
  have C12 := Hid.mk' (C11.out.below hb)
  have D12 := Hid.mk' (D11.out.below hb)
  clear hb
  go_wp2_with fail
  refine (cmpW _).mono ?_
  rintro e v0 ⟨rfl, rfl⟩
  go_wp2_with fail
  obtain ⟨v0, hv0⟩ : ∃ v0, v0 = (w12.alloc (spO 0 0)).alloc (spO 0 0) := ⟨_, rfl⟩
  have hb := bl2 w12 (spO 0 0) (spO 0 0)
  rw [← hv0] at hb ⊢
  clear hv0
  have K := Hid.mk' (K12.out.trans (hb.mono K12.out.size))
  have A := Hid.mk' (A12.out.below hb)
  have B := Hid.mk' (B12.out.below hb)
  have C := Hid.mk' (C12.out.below hb)
  have D := Hid.mk' (D12.out.below hb)
  clear hb
  have a0 := A.out.c0
  have a1 := A.out.c1
  have b0 := B.out.c0
  have b1 := B.out.c1
  have c0 := C.out.c0
  have c1 := C.out.c1
  have d0 := D.out.c0
  have d1 := D.out.c1
  have q1 := fun u => sp_eq 11 25 11 25 u
  have q2 := fun u => sp_eq 4 15 4 15 u
  have q3 := fun u => sp_eq 0 4 0 4 u
  have q4 := fun u => sp_eq 5 5 5 5 u
  simp only [decide_true, Bool.and_self] at q1 q2 q3 q4
  go_region_held3 (fun w' => w'.cell? ⟨w3.heap.size, 0, none⟩ = some (.int .u64 11) ∧ w'.cell? ⟨w3.heap.size, 1, none⟩ = some (.int .u64 25) ∧ w'.cell? ⟨w6.heap.size, 0, none⟩ = some (.int .u64 4) ∧ w'.cell? ⟨w6.heap.size, 1, none⟩ = some (.int .u64 15) ∧ w'.cell? ⟨w9.heap.size, 0, none⟩ = some (.int .u64 0) ∧ w'.cell? ⟨w9.heap.size, 1, none⟩ = some (.int .u64 4) ∧ w'.cell? ⟨w9.heap.size + 1, 0, none⟩ = some (.int .u64 5) ∧ w'.cell? ⟨w9.heap.size + 1, 1, none⟩ = some (.int .u64 5)) (go_keep) (first
    | (go_at_call 7; have hh := Kx3; clear hh; refine (to_any 5 5 x3).mono ?_; rintro e x4 ⟨rfl, hb⟩; have Kx4 := Hid.mk' (Kx3.out.trans (hb.mono Kx3.out.size)); have Ax4 := Hid.mk' (Ax3.out.below hb); have a0x4 := Ax4.out.c0; have a1x4 := Ax4.out.c1; have Bx4 := Hid.mk' (Bx3.out.below hb); have b0x4 := Bx4.out.c0; have b1x4 := Bx4.out.c1; have Cx4 := Hid.mk' (Cx3.out.below hb); have c0x4 := Cx4.out.c0; have c1x4 := Cx4.out.c1; have Dx4 := Hid.mk' (Dx3.out.below hb); have d0x4 := Dx4.out.c0; have d1x4 := Dx4.out.c1; clear hb)
    | (go_at_call 7; have hh := Kx2; clear hh; refine (to_any 0 4 x2).mono ?_; rintro e x3 ⟨rfl, hb⟩; have Kx3 := Hid.mk' (Kx2.out.trans (hb.mono Kx2.out.size)); have Ax3 := Hid.mk' (Ax2.out.below hb); have a0x3 := Ax3.out.c0; have a1x3 := Ax3.out.c1; have Bx3 := Hid.mk' (Bx2.out.below hb); have b0x3 := Bx3.out.c0; have b1x3 := Bx3.out.c1; have Cx3 := Hid.mk' (Cx2.out.below hb); have c0x3 := Cx3.out.c0; have c1x3 := Cx3.out.c1; have Dx3 := Hid.mk' (Dx2.out.below hb); have d0x3 := Dx3.out.c0; have d1x3 := Dx3.out.c1; clear hb)
    | (go_at_call 7; have hh := Kx1; clear hh; refine (to_any 4 15 x1).mono ?_; rintro e x2 ⟨rfl, hb⟩; have Kx2 := Hid.mk' (Kx1.out.trans (hb.mono Kx1.out.size)); have Ax2 := Hid.mk' (Ax1.out.below hb); have a0x2 := Ax2.out.c0; have a1x2 := Ax2.out.c1; have Bx2 := Hid.mk' (Bx1.out.below hb); have b0x2 := Bx2.out.c0; have b1x2 := Bx2.out.c1; have Cx2 := Hid.mk' (Cx1.out.below hb); have c0x2 := Cx2.out.c0; have c1x2 := Cx2.out.c1; have Dx2 := Hid.mk' (Dx1.out.below hb); have d0x2 := Dx2.out.c0; have d1x2 := Dx2.out.c1; clear hb)
    | (go_at_call 7; refine (to_any 11 25 v0.drew).mono ?_; rintro e x1 ⟨rfl, hb⟩; have Kx1 := Hid.mk' (K.out.trans ((((Below.refl v0.heap.size v0).drew).trans hb).mono K.out.size)); have Ax1 := Hid.mk' (A.out.below (((Below.refl v0.heap.size v0).drew).trans hb)); have a0x1 := Ax1.out.c0; have a1x1 := Ax1.out.c1; have Bx1 := Hid.mk' (B.out.below (((Below.refl v0.heap.size v0).drew).trans hb)); have b0x1 := Bx1.out.c0; have b1x1 := Bx1.out.c1; have Cx1 := Hid.mk' (C.out.below (((Below.refl v0.heap.size v0).drew).trans hb)); have c0x1 := Cx1.out.c0; have c1x1 := Cx1.out.c1; have Dx1 := Hid.mk' (D.out.below (((Below.refl v0.heap.size v0).drew).trans hb)); have d0x1 := Dx1.out.c0; have d1x1 := Dx1.out.c1; clear hb))
  all_goals
    go_wp2_with fail
    go_ret
    exact ⟨rfl, Kx4.out⟩
end Go.Proofs.Ytpmbdnmiokkknab
