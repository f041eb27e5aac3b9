/- FlowKnown's region, operation by operation. -/
import Derived.Test.YtffjddabjjcjpaaKa7
namespace Go.Proofs.Ytffjddabjjcjpaa
open Go.ChangeShapes Go.WideShapes Go.ChangeAt Go.RowKit Go.Great
set_option maxRecDepth 20000
variable {g1 g2 g3 gm : Nat}

theorem st7_0 : St7 g1 g2 g3 gm 0 (Op.move (Operand.tmp 4)) := fun o a w K Q ho he hd hK => wp_value (w' := w) (a.eval (.tmp 4)) (by unfold execOp; simp only [ho]; rfl) (hK _ _ (by { show Cd w (a.tmps.getD 4 undef) _; rw [he.t4]; exact cd_many w 257 he.lm (by omega) }) (Below.refl _ _))
theorem st7_1 : St7 g1 g2 g3 gm 1 (Op.load 37 (Operand.tmp 2)) := st_load2 1 rfl
theorem st7_2 : St7 g1 g2 g3 gm 2 (Op.call { callee := Callee.value (Operand.func 17), args := #[Operand.const (Value.int IntKind.u8 0)], argTypes := #[5] }) := st_call 2 _ _ _ (0, 0, 0, 0, 0) _ rfl (run_op _) (op_is _)
theorem st7_3 : St7 g1 g2 g3 gm 3 (Op.buildSlice 22 2 #[(0, Operand.tmp 43), (1, Operand.tmp 44)]) := st_build 3 2 2 _ rfl rfl (by decide) (by kernel_rfl) (fun a w hd => by { have h0 : a.eval (.tmp 43) = insQ (36, 0, 0, 0, 0) := val7 hd (j := 1) (by decide) rfl; have h1 : a.eval (.tmp 44) = insQ (0, 0, 0, 0, 0) := val7 hd (j := 2) (by decide) rfl; simp only [List.map_toArray, List.map_cons, List.map_nil, h0, h1]; rfl })
theorem st7_4 : St7 g1 g2 g3 gm 4 (Op.load 37 (Operand.tmp 1)) := st_load1 4 rfl
theorem st7_5 : St7 g1 g2 g3 gm 5 (Op.load 37 (Operand.tmp 2)) := st_load2 5 rfl
theorem st7_6 : St7 g1 g2 g3 gm 6 (Op.buildSlice 22 2 #[(0, Operand.tmp 46), (1, Operand.tmp 47)]) := st_build 6 3 2 _ rfl rfl (by decide) (by kernel_rfl) (fun a w hd => by { have h0 : a.eval (.tmp 46) = insQ (34, 0, 0, 0, 0) := val7 hd (j := 4) (by decide) rfl; have h1 : a.eval (.tmp 47) = insQ (36, 0, 0, 0, 0) := val7 hd (j := 5) (by decide) rfl; simp only [List.map_toArray, List.map_cons, List.map_nil, h0, h1]; rfl })
theorem st7_7 : St7 g1 g2 g3 gm 7 (Op.call { callee := Callee.value (Operand.func 18), args := #[Operand.const (Value.int IntKind.i32 2)], argTypes := #[21] }) := st_call 7 _ _ _ (33, 0, 0, 0, 2) _ rfl (run_rep _) (rep_is _)
theorem st7_8 : St7 g1 g2 g3 gm 8 (Op.load 37 (Operand.tmp 2)) := st_load2 8 rfl
theorem st7_9 : St7 g1 g2 g3 gm 9 (Op.buildSlice 22 2 #[(0, Operand.tmp 49), (1, Operand.tmp 50)]) := st_build 9 4 2 _ rfl rfl (by decide) (by kernel_rfl) (fun a w hd => by { have h0 : a.eval (.tmp 49) = insQ (33, 0, 0, 0, 2) := val7 hd (j := 7) (by decide) rfl; have h1 : a.eval (.tmp 50) = insQ (36, 0, 0, 0, 0) := val7 hd (j := 8) (by decide) rfl; simp only [List.map_toArray, List.map_cons, List.map_nil, h0, h1]; rfl })
theorem st7_10 : St7 g1 g2 g3 gm 10 (Op.load 37 (Operand.tmp 3)) := st_load3 10 rfl
theorem st7_11 : St7 g1 g2 g3 gm 11 (Op.buildSlice 22 1 #[(0, Operand.tmp 52)]) := st_build 11 5 1 _ rfl rfl (by decide) (by kernel_rfl) (fun a w hd => by { have h0 : a.eval (.tmp 52) = insQ (1, 0, 0, 0, 1) := val7 hd (j := 10) (by decide) rfl; simp only [List.map_toArray, List.map_cons, List.map_nil, h0]; rfl })
theorem st7_12 : St7 g1 g2 g3 gm 12 (Op.call { callee := Callee.value (Operand.func 19), args := #[Operand.const (Value.int IntKind.i16 0)], argTypes := #[35] }) := st_call 12 _ _ _ (22, 0, 0, 0, 0) _ rfl (run_jump _) (jump_is _)
theorem st7_13 : St7 g1 g2 g3 gm 13 (Op.call { callee := Callee.value (Operand.func 19), args := #[Operand.const (Value.int IntKind.i16 0)], argTypes := #[35] }) := st_call 13 _ _ _ (22, 0, 0, 0, 0) _ rfl (run_jump _) (jump_is _)
theorem st7_14 : St7 g1 g2 g3 gm 14 (Op.load 37 (Operand.tmp 2)) := st_load2 14 rfl
theorem st7_15 : St7 g1 g2 g3 gm 15 (Op.buildSlice 22 3 #[(0, Operand.tmp 54), (1, Operand.tmp 55), (2, Operand.tmp 56)]) := st_build 15 6 3 _ rfl rfl (by decide) (by kernel_rfl) (fun a w hd => by { have h0 : a.eval (.tmp 54) = insQ (22, 0, 0, 0, 0) := val7 hd (j := 12) (by decide) rfl; have h1 : a.eval (.tmp 55) = insQ (22, 0, 0, 0, 0) := val7 hd (j := 13) (by decide) rfl; have h2 : a.eval (.tmp 56) = insQ (36, 0, 0, 0, 0) := val7 hd (j := 14) (by decide) rfl; simp only [List.map_toArray, List.map_cons, List.map_nil, h0, h1, h2]; rfl })
theorem st7_16 : St7 g1 g2 g3 gm 16 (Op.call { callee := Callee.value (Operand.func 19), args := #[Operand.const (Value.int IntKind.i16 1)], argTypes := #[35] }) := st_call 16 _ _ _ (22, 0, 0, 1, 0) _ rfl (run_jump _) (jump_is _)
theorem st7_17 : St7 g1 g2 g3 gm 17 (Op.load 37 (Operand.tmp 2)) := st_load2 17 rfl
theorem st7_18 : St7 g1 g2 g3 gm 18 (Op.buildSlice 22 2 #[(0, Operand.tmp 58), (1, Operand.tmp 59)]) := st_build 18 7 2 _ rfl rfl (by decide) (by kernel_rfl) (fun a w hd => by { have h0 : a.eval (.tmp 58) = insQ (22, 0, 0, 1, 0) := val7 hd (j := 16) (by decide) rfl; have h1 : a.eval (.tmp 59) = insQ (36, 0, 0, 0, 0) := val7 hd (j := 17) (by decide) rfl; simp only [List.map_toArray, List.map_cons, List.map_nil, h0, h1]; rfl })
theorem st7_19 : St7 g1 g2 g3 gm 19 (Op.call { callee := Callee.value (Operand.func 19), args := #[Operand.const (Value.int IntKind.i16 1)], argTypes := #[35] }) := st_call 19 _ _ _ (22, 0, 0, 1, 0) _ rfl (run_jump _) (jump_is _)
theorem st7_20 : St7 g1 g2 g3 gm 20 (Op.call { callee := Callee.value (Operand.func 18), args := #[Operand.const (Value.int IntKind.i32 2)], argTypes := #[21] }) := st_call 20 _ _ _ (33, 0, 0, 0, 2) _ rfl (run_rep _) (rep_is _)
theorem st7_21 : St7 g1 g2 g3 gm 21 (Op.load 37 (Operand.tmp 1)) := st_load1 21 rfl
theorem st7_22 : St7 g1 g2 g3 gm 22 (Op.load 37 (Operand.tmp 2)) := st_load2 22 rfl
theorem st7_23 : St7 g1 g2 g3 gm 23 (Op.buildSlice 22 4 #[(0, Operand.tmp 61), (1, Operand.tmp 62), (2, Operand.tmp 63), (3, Operand.tmp 64)]) := st_build 23 8 4 _ rfl rfl (by decide) (by kernel_rfl) (fun a w hd => by { have h0 : a.eval (.tmp 61) = insQ (22, 0, 0, 1, 0) := val7 hd (j := 19) (by decide) rfl; have h1 : a.eval (.tmp 62) = insQ (33, 0, 0, 0, 2) := val7 hd (j := 20) (by decide) rfl; have h2 : a.eval (.tmp 63) = insQ (34, 0, 0, 0, 0) := val7 hd (j := 21) (by decide) rfl; have h3 : a.eval (.tmp 64) = insQ (36, 0, 0, 0, 0) := val7 hd (j := 22) (by decide) rfl; simp only [List.map_toArray, List.map_cons, List.map_nil, h0, h1, h2, h3]; rfl })
theorem st7_24 : St7 g1 g2 g3 gm 24 (Op.call { callee := Callee.value (Operand.func 18), args := #[Operand.const (Value.int IntKind.i32 2)], argTypes := #[21] }) := st_call 24 _ _ _ (33, 0, 0, 0, 2) _ rfl (run_rep _) (rep_is _)
theorem st7_25 : St7 g1 g2 g3 gm 25 (Op.call { callee := Callee.value (Operand.func 19), args := #[Operand.const (Value.int IntKind.i16 0)], argTypes := #[35] }) := st_call 25 _ _ _ (22, 0, 0, 0, 0) _ rfl (run_jump _) (jump_is _)
theorem st7_26 : St7 g1 g2 g3 gm 26 (Op.load 37 (Operand.tmp 1)) := st_load1 26 rfl
theorem st7_27 : St7 g1 g2 g3 gm 27 (Op.load 37 (Operand.tmp 2)) := st_load2 27 rfl
theorem st7_28 : St7 g1 g2 g3 gm 28 (Op.buildSlice 22 4 #[(0, Operand.tmp 66), (1, Operand.tmp 67), (2, Operand.tmp 68), (3, Operand.tmp 69)]) := st_build 28 9 4 _ rfl rfl (by decide) (by kernel_rfl) (fun a w hd => by { have h0 : a.eval (.tmp 66) = insQ (33, 0, 0, 0, 2) := val7 hd (j := 24) (by decide) rfl; have h1 : a.eval (.tmp 67) = insQ (22, 0, 0, 0, 0) := val7 hd (j := 25) (by decide) rfl; have h2 : a.eval (.tmp 68) = insQ (34, 0, 0, 0, 0) := val7 hd (j := 26) (by decide) rfl; have h3 : a.eval (.tmp 69) = insQ (36, 0, 0, 0, 0) := val7 hd (j := 27) (by decide) rfl; simp only [List.map_toArray, List.map_cons, List.map_nil, h0, h1, h2, h3]; rfl })
theorem st7_29 : St7 g1 g2 g3 gm 29 (Op.call { callee := Callee.value (Operand.func 18), args := #[Operand.const (Value.int IntKind.i32 2)], argTypes := #[21] }) := st_call 29 _ _ _ (33, 0, 0, 0, 2) _ rfl (run_rep _) (rep_is _)
theorem st7_30 : St7 g1 g2 g3 gm 30 (Op.call { callee := Callee.value (Operand.func 19), args := #[Operand.const (Value.int IntKind.i16 1)], argTypes := #[35] }) := st_call 30 _ _ _ (22, 0, 0, 1, 0) _ rfl (run_jump _) (jump_is _)
theorem st7_31 : St7 g1 g2 g3 gm 31 (Op.load 37 (Operand.tmp 1)) := st_load1 31 rfl
theorem st7_32 : St7 g1 g2 g3 gm 32 (Op.load 37 (Operand.tmp 2)) := st_load2 32 rfl
theorem st7_33 : St7 g1 g2 g3 gm 33 (Op.buildSlice 22 4 #[(0, Operand.tmp 71), (1, Operand.tmp 72), (2, Operand.tmp 73), (3, Operand.tmp 74)]) := st_build 33 10 4 _ rfl rfl (by decide) (by kernel_rfl) (fun a w hd => by { have h0 : a.eval (.tmp 71) = insQ (33, 0, 0, 0, 2) := val7 hd (j := 29) (by decide) rfl; have h1 : a.eval (.tmp 72) = insQ (22, 0, 0, 1, 0) := val7 hd (j := 30) (by decide) rfl; have h2 : a.eval (.tmp 73) = insQ (34, 0, 0, 0, 0) := val7 hd (j := 31) (by decide) rfl; have h3 : a.eval (.tmp 74) = insQ (36, 0, 0, 0, 0) := val7 hd (j := 32) (by decide) rfl; simp only [List.map_toArray, List.map_cons, List.map_nil, h0, h1, h2, h3]; rfl })
theorem st7_34 : St7 g1 g2 g3 gm 34 (Op.call { callee := Callee.value (Operand.func 18), args := #[Operand.const (Value.int IntKind.i32 2)], argTypes := #[21] }) := st_call 34 _ _ _ (33, 0, 0, 0, 2) _ rfl (run_rep _) (rep_is _)
theorem st7_35 : St7 g1 g2 g3 gm 35 (Op.call { callee := Callee.value (Operand.func 18), args := #[Operand.const (Value.int IntKind.i32 2)], argTypes := #[21] }) := st_call 35 _ _ _ (33, 0, 0, 0, 2) _ rfl (run_rep _) (rep_is _)
theorem st7_36 : St7 g1 g2 g3 gm 36 (Op.call { callee := Callee.value (Operand.func 18), args := #[Operand.const (Value.int IntKind.i32 2)], argTypes := #[21] }) := st_call 36 _ _ _ (33, 0, 0, 0, 2) _ rfl (run_rep _) (rep_is _)
theorem st7_37 : St7 g1 g2 g3 gm 37 (Op.call { callee := Callee.value (Operand.func 18), args := #[Operand.const (Value.int IntKind.i32 2)], argTypes := #[21] }) := st_call 37 _ _ _ (33, 0, 0, 0, 2) _ rfl (run_rep _) (rep_is _)
theorem st7_38 : St7 g1 g2 g3 gm 38 (Op.load 37 (Operand.tmp 1)) := st_load1 38 rfl
theorem st7_39 : St7 g1 g2 g3 gm 39 (Op.load 37 (Operand.tmp 1)) := st_load1 39 rfl
theorem st7_40 : St7 g1 g2 g3 gm 40 (Op.load 37 (Operand.tmp 1)) := st_load1 40 rfl
theorem st7_41 : St7 g1 g2 g3 gm 41 (Op.load 37 (Operand.tmp 1)) := st_load1 41 rfl
theorem st7_42 : St7 g1 g2 g3 gm 42 (Op.load 37 (Operand.tmp 2)) := st_load2 42 rfl
theorem st7_43 : St7 g1 g2 g3 gm 43 (Op.buildSlice 22 9 #[(0, Operand.tmp 76), (1, Operand.tmp 77), (2, Operand.tmp 78), (3, Operand.tmp 79), (4, Operand.tmp 80), (5, Operand.tmp 81), (6, Operand.tmp 82), (7, Operand.tmp 83), (8, Operand.tmp 84)]) := st_build 43 11 9 _ rfl rfl (by decide) (by kernel_rfl) (fun a w hd => by { have h0 : a.eval (.tmp 76) = insQ (33, 0, 0, 0, 2) := val7 hd (j := 34) (by decide) rfl; have h1 : a.eval (.tmp 77) = insQ (33, 0, 0, 0, 2) := val7 hd (j := 35) (by decide) rfl; have h2 : a.eval (.tmp 78) = insQ (33, 0, 0, 0, 2) := val7 hd (j := 36) (by decide) rfl; have h3 : a.eval (.tmp 79) = insQ (33, 0, 0, 0, 2) := val7 hd (j := 37) (by decide) rfl; have h4 : a.eval (.tmp 80) = insQ (34, 0, 0, 0, 0) := val7 hd (j := 38) (by decide) rfl; have h5 : a.eval (.tmp 81) = insQ (34, 0, 0, 0, 0) := val7 hd (j := 39) (by decide) rfl; have h6 : a.eval (.tmp 82) = insQ (34, 0, 0, 0, 0) := val7 hd (j := 40) (by decide) rfl; have h7 : a.eval (.tmp 83) = insQ (34, 0, 0, 0, 0) := val7 hd (j := 41) (by decide) rfl; have h8 : a.eval (.tmp 84) = insQ (36, 0, 0, 0, 0) := val7 hd (j := 42) (by decide) rfl; simp only [List.map_toArray, List.map_cons, List.map_nil, h0, h1, h2, h3, h4, h5, h6, h7, h8]; rfl })
theorem st7_44 : St7 g1 g2 g3 gm 44 (Op.call { callee := Callee.value (Operand.func 18), args := #[Operand.const (Value.int IntKind.i32 2)], argTypes := #[21] }) := st_call 44 _ _ _ (33, 0, 0, 0, 2) _ rfl (run_rep _) (rep_is _)
theorem st7_45 : St7 g1 g2 g3 gm 45 (Op.load 37 (Operand.tmp 2)) := st_load2 45 rfl
theorem st7_46 : St7 g1 g2 g3 gm 46 (Op.load 37 (Operand.tmp 1)) := st_load1 46 rfl
theorem st7_47 : St7 g1 g2 g3 gm 47 (Op.load 37 (Operand.tmp 2)) := st_load2 47 rfl
theorem st7_48 : St7 g1 g2 g3 gm 48 (Op.buildSlice 22 4 #[(0, Operand.tmp 86), (1, Operand.tmp 87), (2, Operand.tmp 88), (3, Operand.tmp 89)]) := st_build 48 12 4 _ rfl rfl (by decide) (by kernel_rfl) (fun a w hd => by { have h0 : a.eval (.tmp 86) = insQ (33, 0, 0, 0, 2) := val7 hd (j := 44) (by decide) rfl; have h1 : a.eval (.tmp 87) = insQ (36, 0, 0, 0, 0) := val7 hd (j := 45) (by decide) rfl; have h2 : a.eval (.tmp 88) = insQ (34, 0, 0, 0, 0) := val7 hd (j := 46) (by decide) rfl; have h3 : a.eval (.tmp 89) = insQ (36, 0, 0, 0, 0) := val7 hd (j := 47) (by decide) rfl; simp only [List.map_toArray, List.map_cons, List.map_nil, h0, h1, h2, h3]; rfl })
theorem st7_49 : St7 g1 g2 g3 gm 49 (Op.move (Operand.tmp 4)) := fun o a w K Q ho he hd hK => wp_value (w' := w) (a.eval (.tmp 4)) (by unfold execOp; simp only [ho]; rfl) (hK _ _ (by { show a.tmps.getD 4 undef = _; exact he.t4 }) (Below.refl _ _))
theorem st7_50 : St7 g1 g2 g3 gm 50 (Op.slice 22 (Operand.tmp 91) none (some (Operand.const (Value.int IntKind.i64 256))) none) := fun o a w K Q ho he hd hK => by
  have h91 : a.eval (.tmp 91) = .slice (some ⟨gm, 0, none⟩) 257 257 := hd 49 (by decide)
  refine wp_value (w' := w) (.slice (some ⟨gm, 0, none⟩) 256 257) ?_ (hK _ _ (cd_many w 256 he.lm (by omega)) (Below.refl _ _))
  unfold execOp
  simp only [ho, h91]
  go_simp
theorem st7_51 : St7 g1 g2 g3 gm 51 (Op.call { callee := Callee.value (Operand.func 18), args := #[Operand.const (Value.int IntKind.i32 1)], argTypes := #[21] }) := st_call 51 _ _ _ (33, 0, 0, 0, 1) _ rfl (run_rep _) (rep_is _)
theorem st7_52 : St7 g1 g2 g3 gm 52 (Op.load 37 (Operand.tmp 1)) := st_load1 52 rfl
theorem st7_53 : St7 g1 g2 g3 gm 53 (Op.load 37 (Operand.tmp 1)) := st_load1 53 rfl
theorem st7_54 : St7 g1 g2 g3 gm 54 (Op.load 37 (Operand.tmp 2)) := st_load2 54 rfl
theorem st7_55 : St7 g1 g2 g3 gm 55 (Op.buildSlice 22 4 #[(0, Operand.tmp 93), (1, Operand.tmp 94), (2, Operand.tmp 95), (3, Operand.tmp 96)]) := st_build 55 14 4 _ rfl rfl (by decide) (by kernel_rfl) (fun a w hd => by { have h0 : a.eval (.tmp 93) = insQ (33, 0, 0, 0, 1) := val7 hd (j := 51) (by decide) rfl; have h1 : a.eval (.tmp 94) = insQ (34, 0, 0, 0, 0) := val7 hd (j := 52) (by decide) rfl; have h2 : a.eval (.tmp 95) = insQ (34, 0, 0, 0, 0) := val7 hd (j := 53) (by decide) rfl; have h3 : a.eval (.tmp 96) = insQ (36, 0, 0, 0, 0) := val7 hd (j := 54) (by decide) rfl; simp only [List.map_toArray, List.map_cons, List.map_nil, h0, h1, h2, h3]; rfl })
theorem st7_56 : St7 g1 g2 g3 gm 56 (Op.call { callee := Callee.value (Operand.func 18), args := #[Operand.const (Value.int IntKind.i32 2)], argTypes := #[21] }) := st_call 56 _ _ _ (33, 0, 0, 0, 2) _ rfl (run_rep _) (rep_is _)
theorem st7_57 : St7 g1 g2 g3 gm 57 (Op.load 37 (Operand.tmp 1)) := st_load1 57 rfl
theorem st7_58 : St7 g1 g2 g3 gm 58 (Op.buildSlice 22 2 #[(0, Operand.tmp 98), (1, Operand.tmp 99)]) := st_build 58 15 2 _ rfl rfl (by decide) (by kernel_rfl) (fun a w hd => by { have h0 : a.eval (.tmp 98) = insQ (33, 0, 0, 0, 2) := val7 hd (j := 56) (by decide) rfl; have h1 : a.eval (.tmp 99) = insQ (34, 0, 0, 0, 0) := val7 hd (j := 57) (by decide) rfl; simp only [List.map_toArray, List.map_cons, List.map_nil, h0, h1]; rfl })
theorem st7_59 : St7 g1 g2 g3 gm 59 (Op.call { callee := Callee.value (Operand.func 18), args := #[Operand.const (Value.int IntKind.i32 2)], argTypes := #[21] }) := st_call 59 _ _ _ (33, 0, 0, 0, 2) _ rfl (run_rep _) (rep_is _)
theorem st7_60 : St7 g1 g2 g3 gm 60 (Op.call { callee := Callee.value (Operand.func 19), args := #[Operand.const (Value.int IntKind.i16 2)], argTypes := #[35] }) := st_call 60 _ _ _ (22, 0, 0, 2, 0) _ rfl (run_jump _) (jump_is _)
theorem st7_61 : St7 g1 g2 g3 gm 61 (Op.call { callee := Callee.value (Operand.func 18), args := #[Operand.const (Value.int IntKind.i32 2)], argTypes := #[21] }) := st_call 61 _ _ _ (33, 0, 0, 0, 2) _ rfl (run_rep _) (rep_is _)
theorem st7_62 : St7 g1 g2 g3 gm 62 (Op.load 37 (Operand.tmp 1)) := st_load1 62 rfl
theorem st7_63 : St7 g1 g2 g3 gm 63 (Op.load 37 (Operand.tmp 1)) := st_load1 63 rfl
theorem st7_64 : St7 g1 g2 g3 gm 64 (Op.load 37 (Operand.tmp 2)) := st_load2 64 rfl
theorem st7_65 : St7 g1 g2 g3 gm 65 (Op.buildSlice 22 6 #[(0, Operand.tmp 101), (1, Operand.tmp 102), (2, Operand.tmp 103), (3, Operand.tmp 104), (4, Operand.tmp 105), (5, Operand.tmp 106)]) := st_build 65 16 6 _ rfl rfl (by decide) (by kernel_rfl) (fun a w hd => by { have h0 : a.eval (.tmp 101) = insQ (33, 0, 0, 0, 2) := val7 hd (j := 59) (by decide) rfl; have h1 : a.eval (.tmp 102) = insQ (22, 0, 0, 2, 0) := val7 hd (j := 60) (by decide) rfl; have h2 : a.eval (.tmp 103) = insQ (33, 0, 0, 0, 2) := val7 hd (j := 61) (by decide) rfl; have h3 : a.eval (.tmp 104) = insQ (34, 0, 0, 0, 0) := val7 hd (j := 62) (by decide) rfl; have h4 : a.eval (.tmp 105) = insQ (34, 0, 0, 0, 0) := val7 hd (j := 63) (by decide) rfl; have h5 : a.eval (.tmp 106) = insQ (36, 0, 0, 0, 0) := val7 hd (j := 64) (by decide) rfl; simp only [List.map_toArray, List.map_cons, List.map_nil, h0, h1, h2, h3, h4, h5]; rfl })
theorem st7_66 : St7 g1 g2 g3 gm 66 (Op.call { callee := Callee.value (Operand.func 19), args := #[Operand.const (Value.int IntKind.i16 0)], argTypes := #[35] }) := st_call 66 _ _ _ (22, 0, 0, 0, 0) _ rfl (run_jump _) (jump_is _)
theorem st7_67 : St7 g1 g2 g3 gm 67 (Op.call { callee := Callee.value (Operand.func 18), args := #[Operand.const (Value.int IntKind.i32 2)], argTypes := #[21] }) := st_call 67 _ _ _ (33, 0, 0, 0, 2) _ rfl (run_rep _) (rep_is _)
theorem st7_68 : St7 g1 g2 g3 gm 68 (Op.load 37 (Operand.tmp 1)) := st_load1 68 rfl
theorem st7_69 : St7 g1 g2 g3 gm 69 (Op.load 37 (Operand.tmp 2)) := st_load2 69 rfl
theorem st7_70 : St7 g1 g2 g3 gm 70 (Op.buildSlice 22 4 #[(0, Operand.tmp 108), (1, Operand.tmp 109), (2, Operand.tmp 110), (3, Operand.tmp 111)]) := st_build 70 17 4 _ rfl rfl (by decide) (by kernel_rfl) (fun a w hd => by { have h0 : a.eval (.tmp 108) = insQ (22, 0, 0, 0, 0) := val7 hd (j := 66) (by decide) rfl; have h1 : a.eval (.tmp 109) = insQ (33, 0, 0, 0, 2) := val7 hd (j := 67) (by decide) rfl; have h2 : a.eval (.tmp 110) = insQ (34, 0, 0, 0, 0) := val7 hd (j := 68) (by decide) rfl; have h3 : a.eval (.tmp 111) = insQ (36, 0, 0, 0, 0) := val7 hd (j := 69) (by decide) rfl; simp only [List.map_toArray, List.map_cons, List.map_nil, h0, h1, h2, h3]; rfl })
theorem st7_71 : St7 g1 g2 g3 gm 71 (Op.load 37 (Operand.tmp 2)) := st_load2 71 rfl
theorem st7_72 : St7 g1 g2 g3 gm 72 (Op.call { callee := Callee.value (Operand.func 19), args := #[Operand.const (Value.int IntKind.i16 0)], argTypes := #[35] }) := st_call 72 _ _ _ (22, 0, 0, 0, 0) _ rfl (run_jump _) (jump_is _)
theorem st7_73 : St7 g1 g2 g3 gm 73 (Op.buildSlice 22 2 #[(0, Operand.tmp 113), (1, Operand.tmp 114)]) := st_build 73 18 2 _ rfl rfl (by decide) (by kernel_rfl) (fun a w hd => by { have h0 : a.eval (.tmp 113) = insQ (36, 0, 0, 0, 0) := val7 hd (j := 71) (by decide) rfl; have h1 : a.eval (.tmp 114) = insQ (22, 0, 0, 0, 0) := val7 hd (j := 72) (by decide) rfl; simp only [List.map_toArray, List.map_cons, List.map_nil, h0, h1]; rfl })
theorem st7_74 : St7 g1 g2 g3 gm 74 (Op.load 37 (Operand.tmp 1)) := st_load1 74 rfl
theorem st7_75 : St7 g1 g2 g3 gm 75 (Op.call { callee := Callee.value (Operand.func 17), args := #[Operand.const (Value.int IntKind.u8 0)], argTypes := #[5] }) := st_call 75 _ _ _ (0, 0, 0, 0, 0) _ rfl (run_op _) (op_is _)
theorem st7_76 : St7 g1 g2 g3 gm 76 (Op.load 37 (Operand.tmp 2)) := st_load2 76 rfl
theorem st7_77 : St7 g1 g2 g3 gm 77 (Op.buildSlice 22 3 #[(0, Operand.tmp 116), (1, Operand.tmp 117), (2, Operand.tmp 118)]) := st_build 77 19 3 _ rfl rfl (by decide) (by kernel_rfl) (fun a w hd => by { have h0 : a.eval (.tmp 116) = insQ (34, 0, 0, 0, 0) := val7 hd (j := 74) (by decide) rfl; have h1 : a.eval (.tmp 117) = insQ (0, 0, 0, 0, 0) := val7 hd (j := 75) (by decide) rfl; have h2 : a.eval (.tmp 118) = insQ (36, 0, 0, 0, 0) := val7 hd (j := 76) (by decide) rfl; simp only [List.map_toArray, List.map_cons, List.map_nil, h0, h1, h2]; rfl })
set_option maxHeartbeats 2000000 in
theorem st7_78 : St7 g1 g2 g3 gm 78 (Op.buildSlice 48 20 #[(0, Operand.const (Value.slice none 0 0)), (1, Operand.tmp 42), (2, Operand.tmp 45), (3, Operand.tmp 48), (4, Operand.tmp 51), (5, Operand.tmp 53), (6, Operand.tmp 57), (7, Operand.tmp 60), (8, Operand.tmp 65), (9, Operand.tmp 70), (10, Operand.tmp 75), (11, Operand.tmp 85), (12, Operand.tmp 90), (13, Operand.tmp 92), (14, Operand.tmp 97), (15, Operand.tmp 100), (16, Operand.tmp 107), (17, Operand.tmp 112), (18, Operand.tmp 115), (19, Operand.tmp 119)]) := fun o a w K Q ho he hd hK => by
  have hcd : ∀ k, k < 20 → ∃ u, (#[.slice none 0 0, a.eval (.tmp 42), a.eval (.tmp 45), a.eval (.tmp 48), a.eval (.tmp 51), a.eval (.tmp 53), a.eval (.tmp 57), a.eval (.tmp 60), a.eval (.tmp 65), a.eval (.tmp 70), a.eval (.tmp 75), a.eval (.tmp 85), a.eval (.tmp 90), a.eval (.tmp 92), a.eval (.tmp 97), a.eval (.tmp 100), a.eval (.tmp 107), a.eval (.tmp 112), a.eval (.tmp 115), a.eval (.tmp 119)] : Array Value)[k]? = some u ∧ Cd w u (cdK.getD k []) := by
    intro k hk
    match k, hk with
    | 0, _ => exact ⟨_, rfl, ⟨⟨none, 0, rfl, Nat.le_refl _, .inl rfl⟩, fun k p d s o i hk => by simp [cdK] at hk⟩⟩
    | 1, _ => exact ⟨_, rfl, hd 0 (by decide)⟩
    | 2, _ => exact ⟨_, rfl, hd 3 (by decide)⟩
    | 3, _ => exact ⟨_, rfl, hd 6 (by decide)⟩
    | 4, _ => exact ⟨_, rfl, hd 9 (by decide)⟩
    | 5, _ => exact ⟨_, rfl, hd 11 (by decide)⟩
    | 6, _ => exact ⟨_, rfl, hd 15 (by decide)⟩
    | 7, _ => exact ⟨_, rfl, hd 18 (by decide)⟩
    | 8, _ => exact ⟨_, rfl, hd 23 (by decide)⟩
    | 9, _ => exact ⟨_, rfl, hd 28 (by decide)⟩
    | 10, _ => exact ⟨_, rfl, hd 33 (by decide)⟩
    | 11, _ => exact ⟨_, rfl, hd 43 (by decide)⟩
    | 12, _ => exact ⟨_, rfl, hd 48 (by decide)⟩
    | 13, _ => exact ⟨_, rfl, hd 50 (by decide)⟩
    | 14, _ => exact ⟨_, rfl, hd 55 (by decide)⟩
    | 15, _ => exact ⟨_, rfl, hd 58 (by decide)⟩
    | 16, _ => exact ⟨_, rfl, hd 65 (by decide)⟩
    | 17, _ => exact ⟨_, rfl, hd 70 (by decide)⟩
    | 18, _ => exact ⟨_, rfl, hd 73 (by decide)⟩
    | 19, _ => exact ⟨_, rfl, hd 77 (by decide)⟩
    | k + 20, h => omega
  obtain ⟨⟨a1, c1, e1, -⟩, -⟩ := (show Cd w (a.eval (.tmp 42)) (cdK.getD 1 []) from hd 0 (by decide))
  obtain ⟨⟨a2, c2, e2, -⟩, -⟩ := (show Cd w (a.eval (.tmp 45)) (cdK.getD 2 []) from hd 3 (by decide))
  obtain ⟨⟨a3, c3, e3, -⟩, -⟩ := (show Cd w (a.eval (.tmp 48)) (cdK.getD 3 []) from hd 6 (by decide))
  obtain ⟨⟨a4, c4, e4, -⟩, -⟩ := (show Cd w (a.eval (.tmp 51)) (cdK.getD 4 []) from hd 9 (by decide))
  obtain ⟨⟨a5, c5, e5, -⟩, -⟩ := (show Cd w (a.eval (.tmp 53)) (cdK.getD 5 []) from hd 11 (by decide))
  obtain ⟨⟨a6, c6, e6, -⟩, -⟩ := (show Cd w (a.eval (.tmp 57)) (cdK.getD 6 []) from hd 15 (by decide))
  obtain ⟨⟨a7, c7, e7, -⟩, -⟩ := (show Cd w (a.eval (.tmp 60)) (cdK.getD 7 []) from hd 18 (by decide))
  obtain ⟨⟨a8, c8, e8, -⟩, -⟩ := (show Cd w (a.eval (.tmp 65)) (cdK.getD 8 []) from hd 23 (by decide))
  obtain ⟨⟨a9, c9, e9, -⟩, -⟩ := (show Cd w (a.eval (.tmp 70)) (cdK.getD 9 []) from hd 28 (by decide))
  obtain ⟨⟨a10, c10, e10, -⟩, -⟩ := (show Cd w (a.eval (.tmp 75)) (cdK.getD 10 []) from hd 33 (by decide))
  obtain ⟨⟨a11, c11, e11, -⟩, -⟩ := (show Cd w (a.eval (.tmp 85)) (cdK.getD 11 []) from hd 43 (by decide))
  obtain ⟨⟨a12, c12, e12, -⟩, -⟩ := (show Cd w (a.eval (.tmp 90)) (cdK.getD 12 []) from hd 48 (by decide))
  obtain ⟨⟨a13, c13, e13, -⟩, -⟩ := (show Cd w (a.eval (.tmp 92)) (cdK.getD 13 []) from hd 50 (by decide))
  obtain ⟨⟨a14, c14, e14, -⟩, -⟩ := (show Cd w (a.eval (.tmp 97)) (cdK.getD 14 []) from hd 55 (by decide))
  obtain ⟨⟨a15, c15, e15, -⟩, -⟩ := (show Cd w (a.eval (.tmp 100)) (cdK.getD 15 []) from hd 58 (by decide))
  obtain ⟨⟨a16, c16, e16, -⟩, -⟩ := (show Cd w (a.eval (.tmp 107)) (cdK.getD 16 []) from hd 65 (by decide))
  obtain ⟨⟨a17, c17, e17, -⟩, -⟩ := (show Cd w (a.eval (.tmp 112)) (cdK.getD 17 []) from hd 70 (by decide))
  obtain ⟨⟨a18, c18, e18, -⟩, -⟩ := (show Cd w (a.eval (.tmp 115)) (cdK.getD 18 []) from hd 73 (by decide))
  obtain ⟨⟨a19, c19, e19, -⟩, -⟩ := (show Cd w (a.eval (.tmp 119)) (cdK.getD 19 []) from hd 77 (by decide))
  have hb : Try.prog.builtSlice 22 20 [(0, .slice none 0 0), (1, a.eval (.tmp 42)), (2, a.eval (.tmp 45)), (3, a.eval (.tmp 48)), (4, a.eval (.tmp 51)), (5, a.eval (.tmp 53)), (6, a.eval (.tmp 57)), (7, a.eval (.tmp 60)), (8, a.eval (.tmp 65)), (9, a.eval (.tmp 70)), (10, a.eval (.tmp 75)), (11, a.eval (.tmp 85)), (12, a.eval (.tmp 90)), (13, a.eval (.tmp 92)), (14, a.eval (.tmp 97)), (15, a.eval (.tmp 100)), (16, a.eval (.tmp 107)), (17, a.eval (.tmp 112)), (18, a.eval (.tmp 115)), (19, a.eval (.tmp 119))] = some #[.slice none 0 0, a.eval (.tmp 42), a.eval (.tmp 45), a.eval (.tmp 48), a.eval (.tmp 51), a.eval (.tmp 53), a.eval (.tmp 57), a.eval (.tmp 60), a.eval (.tmp 65), a.eval (.tmp 70), a.eval (.tmp 75), a.eval (.tmp 85), a.eval (.tmp 90), a.eval (.tmp 92), a.eval (.tmp 97), a.eval (.tmp 100), a.eval (.tmp 107), a.eval (.tmp 112), a.eval (.tmp 115), a.eval (.tmp 119)] := by
    rw [e1, e2, e3, e4, e5, e6, e7, e8, e9, e10, e11, e12, e13, e14, e15, e16, e17, e18, e19]
    kernel_rfl
  unfold Program.builtSlice at hb
  cases hie : Try.prog.info? 22 with
  | none => simp [hie] at hb
  | some ie =>
    simp only [hie] at hb
    cases hz : ie.zero with
    | none => simp [hz] at hb
    | some z =>
      simp only [hz] at hb
      by_cases hc : 20 * ie.size > 2 ^ 24 ∨ 20 * ie.size = 0
      · simp [hc] at hb
      · rw [if_neg hc] at hb
        refine wp_buildSlice 48 22 20 _ ho _ ie z Try.underlying48 hie hz (fun h' => hc (Or.inl h')) (fun h' => hc (Or.inr h')) (by { simp only [List.map_toArray, List.map_cons, List.map_nil]; exact hb }) ?_
        refine hK _ _ ⟨w.heap.size, rfl, fun k hk => ?_⟩ ((Below.refl _ _).alloc (Nat.le_refl _) _)
        obtain ⟨u, h1, h2⟩ := hcd k hk
        exact ⟨u, (World.cell?_alloc_new _ _ _ _).trans h1, h2.below ((Below.refl _ _).alloc (Nat.le_refl _) _)⟩
theorem st7_79 : St7 g1 g2 g3 gm 79 (Op.assign (Operand.tmp 120)) := fun o a w K Q ho he hd hK => wp_value (w' := w) (a.eval (.tmp 120)) (by unfold execOp; simp only [ho]; rfl) (hK _ _ (hd 78 (by decide)) (Below.refl _ _))
def OL7 : List Op := [Op.move (Operand.tmp 4),
  Op.load 37 (Operand.tmp 2),
  Op.call { callee := Callee.value (Operand.func 17), args := #[Operand.const (Value.int IntKind.u8 0)], argTypes := #[5] },
  Op.buildSlice 22 2 #[(0, Operand.tmp 43), (1, Operand.tmp 44)],
  Op.load 37 (Operand.tmp 1),
  Op.load 37 (Operand.tmp 2),
  Op.buildSlice 22 2 #[(0, Operand.tmp 46), (1, Operand.tmp 47)],
  Op.call { callee := Callee.value (Operand.func 18), args := #[Operand.const (Value.int IntKind.i32 2)], argTypes := #[21] },
  Op.load 37 (Operand.tmp 2),
  Op.buildSlice 22 2 #[(0, Operand.tmp 49), (1, Operand.tmp 50)],
  Op.load 37 (Operand.tmp 3),
  Op.buildSlice 22 1 #[(0, Operand.tmp 52)],
  Op.call { callee := Callee.value (Operand.func 19), args := #[Operand.const (Value.int IntKind.i16 0)], argTypes := #[35] },
  Op.call { callee := Callee.value (Operand.func 19), args := #[Operand.const (Value.int IntKind.i16 0)], argTypes := #[35] },
  Op.load 37 (Operand.tmp 2),
  Op.buildSlice 22 3 #[(0, Operand.tmp 54), (1, Operand.tmp 55), (2, Operand.tmp 56)],
  Op.call { callee := Callee.value (Operand.func 19), args := #[Operand.const (Value.int IntKind.i16 1)], argTypes := #[35] },
  Op.load 37 (Operand.tmp 2),
  Op.buildSlice 22 2 #[(0, Operand.tmp 58), (1, Operand.tmp 59)],
  Op.call { callee := Callee.value (Operand.func 19), args := #[Operand.const (Value.int IntKind.i16 1)], argTypes := #[35] },
  Op.call { callee := Callee.value (Operand.func 18), args := #[Operand.const (Value.int IntKind.i32 2)], argTypes := #[21] },
  Op.load 37 (Operand.tmp 1),
  Op.load 37 (Operand.tmp 2),
  Op.buildSlice 22 4 #[(0, Operand.tmp 61), (1, Operand.tmp 62), (2, Operand.tmp 63), (3, Operand.tmp 64)],
  Op.call { callee := Callee.value (Operand.func 18), args := #[Operand.const (Value.int IntKind.i32 2)], argTypes := #[21] },
  Op.call { callee := Callee.value (Operand.func 19), args := #[Operand.const (Value.int IntKind.i16 0)], argTypes := #[35] },
  Op.load 37 (Operand.tmp 1),
  Op.load 37 (Operand.tmp 2),
  Op.buildSlice 22 4 #[(0, Operand.tmp 66), (1, Operand.tmp 67), (2, Operand.tmp 68), (3, Operand.tmp 69)],
  Op.call { callee := Callee.value (Operand.func 18), args := #[Operand.const (Value.int IntKind.i32 2)], argTypes := #[21] },
  Op.call { callee := Callee.value (Operand.func 19), args := #[Operand.const (Value.int IntKind.i16 1)], argTypes := #[35] },
  Op.load 37 (Operand.tmp 1),
  Op.load 37 (Operand.tmp 2),
  Op.buildSlice 22 4 #[(0, Operand.tmp 71), (1, Operand.tmp 72), (2, Operand.tmp 73), (3, Operand.tmp 74)],
  Op.call { callee := Callee.value (Operand.func 18), args := #[Operand.const (Value.int IntKind.i32 2)], argTypes := #[21] },
  Op.call { callee := Callee.value (Operand.func 18), args := #[Operand.const (Value.int IntKind.i32 2)], argTypes := #[21] },
  Op.call { callee := Callee.value (Operand.func 18), args := #[Operand.const (Value.int IntKind.i32 2)], argTypes := #[21] },
  Op.call { callee := Callee.value (Operand.func 18), args := #[Operand.const (Value.int IntKind.i32 2)], argTypes := #[21] },
  Op.load 37 (Operand.tmp 1),
  Op.load 37 (Operand.tmp 1),
  Op.load 37 (Operand.tmp 1),
  Op.load 37 (Operand.tmp 1),
  Op.load 37 (Operand.tmp 2),
  Op.buildSlice 22 9 #[(0, Operand.tmp 76), (1, Operand.tmp 77), (2, Operand.tmp 78), (3, Operand.tmp 79), (4, Operand.tmp 80), (5, Operand.tmp 81), (6, Operand.tmp 82), (7, Operand.tmp 83), (8, Operand.tmp 84)],
  Op.call { callee := Callee.value (Operand.func 18), args := #[Operand.const (Value.int IntKind.i32 2)], argTypes := #[21] },
  Op.load 37 (Operand.tmp 2),
  Op.load 37 (Operand.tmp 1),
  Op.load 37 (Operand.tmp 2),
  Op.buildSlice 22 4 #[(0, Operand.tmp 86), (1, Operand.tmp 87), (2, Operand.tmp 88), (3, Operand.tmp 89)],
  Op.move (Operand.tmp 4),
  Op.slice 22 (Operand.tmp 91) none (some (Operand.const (Value.int IntKind.i64 256))) none,
  Op.call { callee := Callee.value (Operand.func 18), args := #[Operand.const (Value.int IntKind.i32 1)], argTypes := #[21] },
  Op.load 37 (Operand.tmp 1),
  Op.load 37 (Operand.tmp 1),
  Op.load 37 (Operand.tmp 2),
  Op.buildSlice 22 4 #[(0, Operand.tmp 93), (1, Operand.tmp 94), (2, Operand.tmp 95), (3, Operand.tmp 96)],
  Op.call { callee := Callee.value (Operand.func 18), args := #[Operand.const (Value.int IntKind.i32 2)], argTypes := #[21] },
  Op.load 37 (Operand.tmp 1),
  Op.buildSlice 22 2 #[(0, Operand.tmp 98), (1, Operand.tmp 99)],
  Op.call { callee := Callee.value (Operand.func 18), args := #[Operand.const (Value.int IntKind.i32 2)], argTypes := #[21] },
  Op.call { callee := Callee.value (Operand.func 19), args := #[Operand.const (Value.int IntKind.i16 2)], argTypes := #[35] },
  Op.call { callee := Callee.value (Operand.func 18), args := #[Operand.const (Value.int IntKind.i32 2)], argTypes := #[21] },
  Op.load 37 (Operand.tmp 1),
  Op.load 37 (Operand.tmp 1),
  Op.load 37 (Operand.tmp 2),
  Op.buildSlice 22 6 #[(0, Operand.tmp 101), (1, Operand.tmp 102), (2, Operand.tmp 103), (3, Operand.tmp 104), (4, Operand.tmp 105), (5, Operand.tmp 106)],
  Op.call { callee := Callee.value (Operand.func 19), args := #[Operand.const (Value.int IntKind.i16 0)], argTypes := #[35] },
  Op.call { callee := Callee.value (Operand.func 18), args := #[Operand.const (Value.int IntKind.i32 2)], argTypes := #[21] },
  Op.load 37 (Operand.tmp 1),
  Op.load 37 (Operand.tmp 2),
  Op.buildSlice 22 4 #[(0, Operand.tmp 108), (1, Operand.tmp 109), (2, Operand.tmp 110), (3, Operand.tmp 111)],
  Op.load 37 (Operand.tmp 2),
  Op.call { callee := Callee.value (Operand.func 19), args := #[Operand.const (Value.int IntKind.i16 0)], argTypes := #[35] },
  Op.buildSlice 22 2 #[(0, Operand.tmp 113), (1, Operand.tmp 114)],
  Op.load 37 (Operand.tmp 1),
  Op.call { callee := Callee.value (Operand.func 17), args := #[Operand.const (Value.int IntKind.u8 0)], argTypes := #[5] },
  Op.load 37 (Operand.tmp 2),
  Op.buildSlice 22 3 #[(0, Operand.tmp 116), (1, Operand.tmp 117), (2, Operand.tmp 118)],
  Op.buildSlice 48 20 #[(0, Operand.const (Value.slice none 0 0)), (1, Operand.tmp 42), (2, Operand.tmp 45), (3, Operand.tmp 48), (4, Operand.tmp 51), (5, Operand.tmp 53), (6, Operand.tmp 57), (7, Operand.tmp 60), (8, Operand.tmp 65), (9, Operand.tmp 70), (10, Operand.tmp 75), (11, Operand.tmp 85), (12, Operand.tmp 90), (13, Operand.tmp 92), (14, Operand.tmp 97), (15, Operand.tmp 100), (16, Operand.tmp 107), (17, Operand.tmp 112), (18, Operand.tmp 115), (19, Operand.tmp 119)],
  Op.assign (Operand.tmp 120)]
theorem all7 : ∀ p ∈ OL7.zipIdx, St7 g1 g2 g3 gm p.2 p.1 := by
  refine List.forall_mem_cons.2 ⟨st7_0, ?_⟩
  refine List.forall_mem_cons.2 ⟨st7_1, ?_⟩
  refine List.forall_mem_cons.2 ⟨st7_2, ?_⟩
  refine List.forall_mem_cons.2 ⟨st7_3, ?_⟩
  refine List.forall_mem_cons.2 ⟨st7_4, ?_⟩
  refine List.forall_mem_cons.2 ⟨st7_5, ?_⟩
  refine List.forall_mem_cons.2 ⟨st7_6, ?_⟩
  refine List.forall_mem_cons.2 ⟨st7_7, ?_⟩
  refine List.forall_mem_cons.2 ⟨st7_8, ?_⟩
  refine List.forall_mem_cons.2 ⟨st7_9, ?_⟩
  refine List.forall_mem_cons.2 ⟨st7_10, ?_⟩
  refine List.forall_mem_cons.2 ⟨st7_11, ?_⟩
  refine List.forall_mem_cons.2 ⟨st7_12, ?_⟩
  refine List.forall_mem_cons.2 ⟨st7_13, ?_⟩
  refine List.forall_mem_cons.2 ⟨st7_14, ?_⟩
  refine List.forall_mem_cons.2 ⟨st7_15, ?_⟩
  refine List.forall_mem_cons.2 ⟨st7_16, ?_⟩
  refine List.forall_mem_cons.2 ⟨st7_17, ?_⟩
  refine List.forall_mem_cons.2 ⟨st7_18, ?_⟩
  refine List.forall_mem_cons.2 ⟨st7_19, ?_⟩
  refine List.forall_mem_cons.2 ⟨st7_20, ?_⟩
  refine List.forall_mem_cons.2 ⟨st7_21, ?_⟩
  refine List.forall_mem_cons.2 ⟨st7_22, ?_⟩
  refine List.forall_mem_cons.2 ⟨st7_23, ?_⟩
  refine List.forall_mem_cons.2 ⟨st7_24, ?_⟩
  refine List.forall_mem_cons.2 ⟨st7_25, ?_⟩
  refine List.forall_mem_cons.2 ⟨st7_26, ?_⟩
  refine List.forall_mem_cons.2 ⟨st7_27, ?_⟩
  refine List.forall_mem_cons.2 ⟨st7_28, ?_⟩
  refine List.forall_mem_cons.2 ⟨st7_29, ?_⟩
  refine List.forall_mem_cons.2 ⟨st7_30, ?_⟩
  refine List.forall_mem_cons.2 ⟨st7_31, ?_⟩
  refine List.forall_mem_cons.2 ⟨st7_32, ?_⟩
  refine List.forall_mem_cons.2 ⟨st7_33, ?_⟩
  refine List.forall_mem_cons.2 ⟨st7_34, ?_⟩
  refine List.forall_mem_cons.2 ⟨st7_35, ?_⟩
  refine List.forall_mem_cons.2 ⟨st7_36, ?_⟩
  refine List.forall_mem_cons.2 ⟨st7_37, ?_⟩
  refine List.forall_mem_cons.2 ⟨st7_38, ?_⟩
  refine List.forall_mem_cons.2 ⟨st7_39, ?_⟩
  refine List.forall_mem_cons.2 ⟨st7_40, ?_⟩
  refine List.forall_mem_cons.2 ⟨st7_41, ?_⟩
  refine List.forall_mem_cons.2 ⟨st7_42, ?_⟩
  refine List.forall_mem_cons.2 ⟨st7_43, ?_⟩
  refine List.forall_mem_cons.2 ⟨st7_44, ?_⟩
  refine List.forall_mem_cons.2 ⟨st7_45, ?_⟩
  refine List.forall_mem_cons.2 ⟨st7_46, ?_⟩
  refine List.forall_mem_cons.2 ⟨st7_47, ?_⟩
  refine List.forall_mem_cons.2 ⟨st7_48, ?_⟩
  refine List.forall_mem_cons.2 ⟨st7_49, ?_⟩
  refine List.forall_mem_cons.2 ⟨st7_50, ?_⟩
  refine List.forall_mem_cons.2 ⟨st7_51, ?_⟩
  refine List.forall_mem_cons.2 ⟨st7_52, ?_⟩
  refine List.forall_mem_cons.2 ⟨st7_53, ?_⟩
  refine List.forall_mem_cons.2 ⟨st7_54, ?_⟩
  refine List.forall_mem_cons.2 ⟨st7_55, ?_⟩
  refine List.forall_mem_cons.2 ⟨st7_56, ?_⟩
  refine List.forall_mem_cons.2 ⟨st7_57, ?_⟩
  refine List.forall_mem_cons.2 ⟨st7_58, ?_⟩
  refine List.forall_mem_cons.2 ⟨st7_59, ?_⟩
  refine List.forall_mem_cons.2 ⟨st7_60, ?_⟩
  refine List.forall_mem_cons.2 ⟨st7_61, ?_⟩
  refine List.forall_mem_cons.2 ⟨st7_62, ?_⟩
  refine List.forall_mem_cons.2 ⟨st7_63, ?_⟩
  refine List.forall_mem_cons.2 ⟨st7_64, ?_⟩
  refine List.forall_mem_cons.2 ⟨st7_65, ?_⟩
  refine List.forall_mem_cons.2 ⟨st7_66, ?_⟩
  refine List.forall_mem_cons.2 ⟨st7_67, ?_⟩
  refine List.forall_mem_cons.2 ⟨st7_68, ?_⟩
  refine List.forall_mem_cons.2 ⟨st7_69, ?_⟩
  refine List.forall_mem_cons.2 ⟨st7_70, ?_⟩
  refine List.forall_mem_cons.2 ⟨st7_71, ?_⟩
  refine List.forall_mem_cons.2 ⟨st7_72, ?_⟩
  refine List.forall_mem_cons.2 ⟨st7_73, ?_⟩
  refine List.forall_mem_cons.2 ⟨st7_74, ?_⟩
  refine List.forall_mem_cons.2 ⟨st7_75, ?_⟩
  refine List.forall_mem_cons.2 ⟨st7_76, ?_⟩
  refine List.forall_mem_cons.2 ⟨st7_77, ?_⟩
  refine List.forall_mem_cons.2 ⟨st7_78, ?_⟩
  refine List.forall_mem_cons.2 ⟨st7_79, ?_⟩
  exact fun p hp => by cases hp
end Go.Proofs.Ytffjddabjjcjpaa
