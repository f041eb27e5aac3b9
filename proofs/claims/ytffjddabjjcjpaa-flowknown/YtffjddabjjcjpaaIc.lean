/- The contracts of the document's Row, Has, Within, off, imm, Check, Args; insn.arguments. -/
import Derived.Test.YtffjddabjjcjpaaIa
import Derived.Test.YtffjddabjjcjpaaBw
namespace Go.Proofs.Ytffjddabjjcjpaa
open Go.ChangeShapes Go.WideShapes Go.ChangeAt Go.RowKit
set_option maxRecDepth 10000

set_option maxHeartbeats 1000000 in
theorem row_any (p : Int) (w : World) (p0 : 0 ≤ p) (p1 : p ≤ 255) : Calls Try.prog 40 #[.int .u8 p] w fun e w' => e = .returned (.tuple #[.string ⟨(rowN p).toArray⟩, .bool (okN p)]) ∧ w' = w := by
  have key : ∀ (s : ByteArray) (b : Bool), s = ⟨(rowN p).toArray⟩ → b = okN p → Ending.returned (.tuple #[.string s, .bool b]) = .returned (.tuple #[.string ⟨(rowN p).toArray⟩, .bool (okN p)]) := by
    rintro s b rfl rfl; rfl
  go_enter Try.func40, Try.ntmps40
  go_wp2_with fail
  all_goals
    go_ret2
    refine ⟨key _ _ ?_ ?_, rfl⟩
    all_goals simp only [beq_iff_eq, beq_eq_false_iff_ne, ne_eq] at *
    · first | (subst_vars; rfl) | (unfold rowN; simp [*])
    · first | (subst_vars; rfl) | (unfold okN; symm; apply decide_eq_false; omega)

theorem has_any (s : ByteArray) (c : Int) (w : World) (hs : s.size ≤ 1000) : Calls Try.prog 41 #[.string s, .int .u8 c] w fun e w' => e = .returned (.bool (hasB s.data.toList c)) ∧ w' = w := by
  go_enter Try.func41, Try.ntmps41
  go_wp2_with fail
  go_loop [5] (fun i => ∃ k : Nat, k ≤ s.size ∧ i = .int .i64 k ∧ Hid (∀ b ∈ s.data.toList.take k, ¬ (b.toNat : Int) = c)) (fun i => s.size - (intOf i).toNat)
  case atStart => exact ⟨0, Nat.zero_le _, rfl, Hid.mk' (by intro b hb; simp at hb)⟩
  case round =>
    obtain ⟨k, hk, rfl, HB⟩ := hrel
    by_cases hlt : k < s.size
    · have hsn : s.data.toList.take (k + 1) = s.data.toList.take k ++ [s[k]] := by
        rw [List.take_succ_eq_append_getElem (by simpa using hlt)]; rfl
      have HS := Hid.mk' hsn
      have hm : Hid (s[k] ∈ s.data.toList) := Hid.mk' (List.mem_of_getElem? (i := k) (by
        rw [List.getElem?_eq_getElem (by simpa using hlt)]; rfl))
      clear hsn
      by_cases he : (s[k].toNat : Int) = c
      · go_wp2_with fail
        go_ret
        refine ⟨ret_bool ?_, rfl⟩
        symm
        unfold hasB
        rw [List.any_eq_true]
        exact ⟨s[k], hm.out, by simpa using he⟩
      · go_wp2_with fail
        go_round
        case rel =>
          refine ⟨k + 1, by omega, by go_num, Hid.mk' ?_⟩
          rw [HS.out]
          intro b hb
          rcases List.mem_append.1 hb with hb | hb
          · exact HB.out b hb
          · rw [List.mem_singleton.1 hb]; exact he
        case measure => simp [intOf]; omega
    · go_wp2_with fail
      go_ret
      refine ⟨ret_bool ?_, rfl⟩
      symm
      have hB := HB.out
      rw [List.take_of_length_le (by simp; omega)] at hB
      unfold hasB
      rw [List.any_eq_false]
      intro b hb
      simpa using hB b hb

theorem within_any (n a b : Int) (w : World) : Calls Try.prog 46 #[.int .i64 n, .int .i64 a, .int .i64 b] w fun e w' => e = .returned (.bool (decide (a ≤ n) && decide (n ≤ b))) ∧ w' = w := by
  go_enter Try.func46, Try.ntmps46
  go_wp2_with fail
  all_goals
    go_ret
    exact ⟨ret_bool (by first | rfl | (rw [Bool.eq_iff_iff]; simp [*]; done) | (rw [Bool.eq_iff_iff]; simp [*]; omega)), rfl⟩

/-- How many registers a helper reads. -/
def argN (i : Int) : Int := if i = 1 ∨ i = 8 then 2 else if i = 2 ∨ i = 5 then 3 else if 16 ≤ i then 3 else 1


end Go.Proofs.Ytffjddabjjcjpaa
