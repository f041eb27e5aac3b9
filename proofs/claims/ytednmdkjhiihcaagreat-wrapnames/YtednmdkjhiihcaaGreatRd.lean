/- Stage 12: find. (Made by a generator: six kinds.) -/
import Derived.Test.YtednmdkjhiihcaaGreatRc
namespace Go.Proofs.YtednmdkjhiihcaaGreat
open Go.ChangeShapes Go.WideShapes Go.ChangeAt Go.RowKit
set_option maxRecDepth 10000

set_option maxHeartbeats 1000000 in
theorem find_no (k : Int) (w : World) (k0 : 0 ≤ k) (k1 : k ≤ 255) (h : ¬ (1 ≤ k ∧ k ≤ 6)) : Calls Tryz.prog 30 #[.int .u8 k] w fun e w' => e = .returned (.tuple #[.agg dz.toArray, .int .i64 120]) ∧ Below w.heap.size w w' := by
  have B1 : Hid (Below w.heap.size w (w.alloc (.cells dz.toArray 96))) := Hid.mk' ((Below.refl _ _).alloc (Nat.le_refl _) _)
  have R1 : Hid ((w.alloc (.cells dz.toArray 96)).heap[w.heap.size]? = some (.cells dz.toArray 96 (0, 0))) := Hid.mk' (heap_alloc_new w _)
  by_cases hk : k = 0
  · subst hk
    go_enter Tryz.func30, Tryz.ntmps30
    go_wp2_with (first | refine wpList_store_new rfl 96 _ _ rfl _ _ dz rfl rfl rfl (by kernel_rfl) (by kernel_rfl) ?_)
    refine ret_cell_tmp rfl w.heap.size 96 dz (0, 0) _ rfl R1.out Tryz.underlying96 rfl (by exact info_dk) rfl ?_
    exact ⟨rfl, B1.out⟩
  · have h1 : ¬ k < 1 := by omega
    have h1d : decide (k < 1) = false := by simp; omega
    have h6 : 6 < k := by omega
    go_enter Tryz.func30, Tryz.ntmps30
    go_wp2_with (first | refine wpList_store_new rfl 96 _ _ rfl _ _ dz rfl rfl rfl (by kernel_rfl) (by kernel_rfl) ?_)
    refine ret_cell_tmp rfl w.heap.size 96 dz (0, 0) _ rfl R1.out Tryz.underlying96 rfl (by exact info_dk) rfl ?_
    exact ⟨rfl, B1.out⟩


set_option maxHeartbeats 1000000 in
theorem find_1 (w : World) : Calls Tryz.prog 30 #[.int .u8 1] w fun e w' => ∃ g, e = .returned (.tuple #[.agg (dk 1 g).toArray, .int .i64 0]) ∧ Bk 1 w' g ∧ Below w.heap.size w w' := by
  have J0 : Hid (OJ 96 5 w (w.alloc (.cells dz.toArray 96))) := Hid.mk' (OJ.first w dz rfl)
  go_enter Tryz.func30, Tryz.ntmps30
  go_wp2_with fail
  refine (kinds_any _).mono ?_
  rintro e w1 ⟨g1, g2, g3, g4, g5, g6, rfl, ⟨x1, x2, x3, x4, x5, x6⟩, ⟨m1, m2, m3, m4, m5, m6⟩, b1⟩
  have J1 := Hid.mk' (J0.out.below b1)
  have X := Hid.mk' x1
  have M : Hid (w.heap.size < g1) := Hid.mk' (Nat.lt_trans J0.out.lt m1)

  have hix : ∀ u : World, Sem.run Tryz.prog (Instr.index 111 (.agg (kdC g1 g2 g3 g4 g5 g6).toArray) (.int .u8 1)) u = .ok (.agg (dk 1 g1).toArray) u := by intro u; kernel_rfl
  have hlen : Hid ((dk 1 g1).toArray.size = 5) := Hid.mk' rfl
  have hone := Hid.mk' (dk_one 1 g1)
  clear x1 x2 x3 x4 x5 x6 m1 m2 m3 m4 m5 m6 b1 J0

  go_wp2_with (first
    | refine wpList_store_mid rfl 96 _ _ rfl w.heap.size 0 (dk 1 g1).toArray rfl rfl J1.out.there (by kernel_rfl) hone.out ?_)
  obtain ⟨D1, D2, D3⟩ := J1.out.done (dk 1 g1) rfl
  refine ret_cell_tmp rfl w.heap.size 96 (dk 1 g1) (0, 0) _ rfl D1 Tryz.underlying96 rfl (by kernel_rfl) rfl ?_
  exact ⟨g1, rfl, X.out.kept D3 M.out, D2⟩


set_option maxHeartbeats 1000000 in
theorem find_2 (w : World) : Calls Tryz.prog 30 #[.int .u8 2] w fun e w' => ∃ g, e = .returned (.tuple #[.agg (dk 2 g).toArray, .int .i64 0]) ∧ Bk 2 w' g ∧ Below w.heap.size w w' := by
  have J0 : Hid (OJ 96 5 w (w.alloc (.cells dz.toArray 96))) := Hid.mk' (OJ.first w dz rfl)
  go_enter Tryz.func30, Tryz.ntmps30
  go_wp2_with fail
  refine (kinds_any _).mono ?_
  rintro e w1 ⟨g1, g2, g3, g4, g5, g6, rfl, ⟨x1, x2, x3, x4, x5, x6⟩, ⟨m1, m2, m3, m4, m5, m6⟩, b1⟩
  have J1 := Hid.mk' (J0.out.below b1)
  have X := Hid.mk' x2
  have M : Hid (w.heap.size < g2) := Hid.mk' (Nat.lt_trans J0.out.lt m2)

  have hix : ∀ u : World, Sem.run Tryz.prog (Instr.index 111 (.agg (kdC g1 g2 g3 g4 g5 g6).toArray) (.int .u8 2)) u = .ok (.agg (dk 2 g2).toArray) u := by intro u; kernel_rfl
  have hlen : Hid ((dk 2 g2).toArray.size = 5) := Hid.mk' rfl
  have hone := Hid.mk' (dk_one 2 g2)
  clear x1 x2 x3 x4 x5 x6 m1 m2 m3 m4 m5 m6 b1 J0

  go_wp2_with (first
    | refine wpList_store_mid rfl 96 _ _ rfl w.heap.size 0 (dk 2 g2).toArray rfl rfl J1.out.there (by kernel_rfl) hone.out ?_)
  obtain ⟨D1, D2, D3⟩ := J1.out.done (dk 2 g2) rfl
  refine ret_cell_tmp rfl w.heap.size 96 (dk 2 g2) (0, 0) _ rfl D1 Tryz.underlying96 rfl (by kernel_rfl) rfl ?_
  exact ⟨g2, rfl, X.out.kept D3 M.out, D2⟩


set_option maxHeartbeats 1000000 in
theorem find_3 (w : World) : Calls Tryz.prog 30 #[.int .u8 3] w fun e w' => ∃ g, e = .returned (.tuple #[.agg (dk 3 g).toArray, .int .i64 0]) ∧ Bk 3 w' g ∧ Below w.heap.size w w' := by
  have J0 : Hid (OJ 96 5 w (w.alloc (.cells dz.toArray 96))) := Hid.mk' (OJ.first w dz rfl)
  go_enter Tryz.func30, Tryz.ntmps30
  go_wp2_with fail
  refine (kinds_any _).mono ?_
  rintro e w1 ⟨g1, g2, g3, g4, g5, g6, rfl, ⟨x1, x2, x3, x4, x5, x6⟩, ⟨m1, m2, m3, m4, m5, m6⟩, b1⟩
  have J1 := Hid.mk' (J0.out.below b1)
  have X := Hid.mk' x3
  have M : Hid (w.heap.size < g3) := Hid.mk' (Nat.lt_trans J0.out.lt m3)

  have hix : ∀ u : World, Sem.run Tryz.prog (Instr.index 111 (.agg (kdC g1 g2 g3 g4 g5 g6).toArray) (.int .u8 3)) u = .ok (.agg (dk 3 g3).toArray) u := by intro u; kernel_rfl
  have hlen : Hid ((dk 3 g3).toArray.size = 5) := Hid.mk' rfl
  have hone := Hid.mk' (dk_one 3 g3)
  clear x1 x2 x3 x4 x5 x6 m1 m2 m3 m4 m5 m6 b1 J0

  go_wp2_with (first
    | refine wpList_store_mid rfl 96 _ _ rfl w.heap.size 0 (dk 3 g3).toArray rfl rfl J1.out.there (by kernel_rfl) hone.out ?_)
  obtain ⟨D1, D2, D3⟩ := J1.out.done (dk 3 g3) rfl
  refine ret_cell_tmp rfl w.heap.size 96 (dk 3 g3) (0, 0) _ rfl D1 Tryz.underlying96 rfl (by kernel_rfl) rfl ?_
  exact ⟨g3, rfl, X.out.kept D3 M.out, D2⟩


set_option maxHeartbeats 1000000 in
theorem find_4 (w : World) : Calls Tryz.prog 30 #[.int .u8 4] w fun e w' => ∃ g, e = .returned (.tuple #[.agg (dk 4 g).toArray, .int .i64 0]) ∧ Bk 4 w' g ∧ Below w.heap.size w w' := by
  have J0 : Hid (OJ 96 5 w (w.alloc (.cells dz.toArray 96))) := Hid.mk' (OJ.first w dz rfl)
  go_enter Tryz.func30, Tryz.ntmps30
  go_wp2_with fail
  refine (kinds_any _).mono ?_
  rintro e w1 ⟨g1, g2, g3, g4, g5, g6, rfl, ⟨x1, x2, x3, x4, x5, x6⟩, ⟨m1, m2, m3, m4, m5, m6⟩, b1⟩
  have J1 := Hid.mk' (J0.out.below b1)
  have X := Hid.mk' x4
  have M : Hid (w.heap.size < g4) := Hid.mk' (Nat.lt_trans J0.out.lt m4)

  have hix : ∀ u : World, Sem.run Tryz.prog (Instr.index 111 (.agg (kdC g1 g2 g3 g4 g5 g6).toArray) (.int .u8 4)) u = .ok (.agg (dk 4 g4).toArray) u := by intro u; kernel_rfl
  have hlen : Hid ((dk 4 g4).toArray.size = 5) := Hid.mk' rfl
  have hone := Hid.mk' (dk_one 4 g4)
  clear x1 x2 x3 x4 x5 x6 m1 m2 m3 m4 m5 m6 b1 J0

  go_wp2_with (first
    | refine wpList_store_mid rfl 96 _ _ rfl w.heap.size 0 (dk 4 g4).toArray rfl rfl J1.out.there (by kernel_rfl) hone.out ?_)
  obtain ⟨D1, D2, D3⟩ := J1.out.done (dk 4 g4) rfl
  refine ret_cell_tmp rfl w.heap.size 96 (dk 4 g4) (0, 0) _ rfl D1 Tryz.underlying96 rfl (by kernel_rfl) rfl ?_
  exact ⟨g4, rfl, X.out.kept D3 M.out, D2⟩


set_option maxHeartbeats 1000000 in
theorem find_5 (w : World) : Calls Tryz.prog 30 #[.int .u8 5] w fun e w' => ∃ g, e = .returned (.tuple #[.agg (dk 5 g).toArray, .int .i64 0]) ∧ Bk 5 w' g ∧ Below w.heap.size w w' := by
  have J0 : Hid (OJ 96 5 w (w.alloc (.cells dz.toArray 96))) := Hid.mk' (OJ.first w dz rfl)
  go_enter Tryz.func30, Tryz.ntmps30
  go_wp2_with fail
  refine (kinds_any _).mono ?_
  rintro e w1 ⟨g1, g2, g3, g4, g5, g6, rfl, ⟨x1, x2, x3, x4, x5, x6⟩, ⟨m1, m2, m3, m4, m5, m6⟩, b1⟩
  have J1 := Hid.mk' (J0.out.below b1)
  have X := Hid.mk' x5
  have M : Hid (w.heap.size < g5) := Hid.mk' (Nat.lt_trans J0.out.lt m5)

  have hix : ∀ u : World, Sem.run Tryz.prog (Instr.index 111 (.agg (kdC g1 g2 g3 g4 g5 g6).toArray) (.int .u8 5)) u = .ok (.agg (dk 5 g5).toArray) u := by intro u; kernel_rfl
  have hlen : Hid ((dk 5 g5).toArray.size = 5) := Hid.mk' rfl
  have hone := Hid.mk' (dk_one 5 g5)
  clear x1 x2 x3 x4 x5 x6 m1 m2 m3 m4 m5 m6 b1 J0

  go_wp2_with (first
    | refine wpList_store_mid rfl 96 _ _ rfl w.heap.size 0 (dk 5 g5).toArray rfl rfl J1.out.there (by kernel_rfl) hone.out ?_)
  obtain ⟨D1, D2, D3⟩ := J1.out.done (dk 5 g5) rfl
  refine ret_cell_tmp rfl w.heap.size 96 (dk 5 g5) (0, 0) _ rfl D1 Tryz.underlying96 rfl (by kernel_rfl) rfl ?_
  exact ⟨g5, rfl, X.out.kept D3 M.out, D2⟩


set_option maxHeartbeats 1000000 in
theorem find_6 (w : World) : Calls Tryz.prog 30 #[.int .u8 6] w fun e w' => ∃ g, e = .returned (.tuple #[.agg (dk 6 g).toArray, .int .i64 0]) ∧ Bk 6 w' g ∧ Below w.heap.size w w' := by
  have J0 : Hid (OJ 96 5 w (w.alloc (.cells dz.toArray 96))) := Hid.mk' (OJ.first w dz rfl)
  go_enter Tryz.func30, Tryz.ntmps30
  go_wp2_with fail
  refine (kinds_any _).mono ?_
  rintro e w1 ⟨g1, g2, g3, g4, g5, g6, rfl, ⟨x1, x2, x3, x4, x5, x6⟩, ⟨m1, m2, m3, m4, m5, m6⟩, b1⟩
  have J1 := Hid.mk' (J0.out.below b1)
  have X := Hid.mk' x6
  have M : Hid (w.heap.size < g6) := Hid.mk' (Nat.lt_trans J0.out.lt m6)

  have hix : ∀ u : World, Sem.run Tryz.prog (Instr.index 111 (.agg (kdC g1 g2 g3 g4 g5 g6).toArray) (.int .u8 6)) u = .ok (.agg (dk 6 g6).toArray) u := by intro u; kernel_rfl
  have hlen : Hid ((dk 6 g6).toArray.size = 5) := Hid.mk' rfl
  have hone := Hid.mk' (dk_one 6 g6)
  clear x1 x2 x3 x4 x5 x6 m1 m2 m3 m4 m5 m6 b1 J0

  go_wp2_with (first
    | refine wpList_store_mid rfl 96 _ _ rfl w.heap.size 0 (dk 6 g6).toArray rfl rfl J1.out.there (by kernel_rfl) hone.out ?_)
  obtain ⟨D1, D2, D3⟩ := J1.out.done (dk 6 g6) rfl
  refine ret_cell_tmp rfl w.heap.size 96 (dk 6 g6) (0, 0) _ rfl D1 Tryz.underlying96 rfl (by kernel_rfl) rfl ?_
  exact ⟨g6, rfl, X.out.kept D3 M.out, D2⟩


theorem find_any (k : Int) (w : World) (h0 : 1 ≤ k) (h1 : k ≤ 6) : Calls Tryz.prog 30 #[.int .u8 k] w fun e w' => ∃ g, e = .returned (.tuple #[.agg (dk k g).toArray, .int .i64 0]) ∧ Bk k w' g ∧ Below w.heap.size w w' := by
  rcases six h0 h1 with rfl | rfl | rfl | rfl | rfl | rfl
  · exact find_1 w
  · exact find_2 w
  · exact find_3 w
  · exact find_4 w
  · exact find_5 w
  · exact find_6 w
end Go.Proofs.YtednmdkjhiihcaaGreat
