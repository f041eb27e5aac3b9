/- The document's names, Op, Name. -/
import Derived.Test.YtmiiddkpmfiocaaIf
import Derived.Lib.SlicesS
namespace Go.Proofs.Ytmiiddkpmfiocaa
open Go.ChangeShapes Go.WideShapes Go.ChangeAt Go.RowKit
set_option maxRecDepth 10000

/-- The text of a number. -/
def nmS (k : Nat) : ByteArray := ⟨(nmL.getD k []).toArray⟩

theorem nm_cells : ∀ k, k < 37 → (nmL.map (fun l => Value.string ⟨l.toArray⟩)).toArray[k]? = some (.string (nmS k)) := by
  intro k hk
  have : k < nmL.length := by rw [nmL_len]; exact hk
  simp [nmS, this]

theorem names_any (w : World) : Calls Try.prog 40 #[] w fun e w' => e = .returned (.slice (some ⟨w.heap.size, 0, none⟩) 37 37) ∧ (∀ k, k < 37 → w'.cell? ⟨w.heap.size, k, none⟩ = some (.string (nmS k))) ∧ Below w.heap.size w w' := by
  go_enter Try.func40, Try.ntmps40
  go_wp2_with fail
  go_ret
  refine ⟨rfl, fun k hk => ?_, (Below.refl _ _).alloc (Nat.le_refl _) _⟩
  rw [World.cell?_alloc_new]
  exact nm_cells k hk

set_option maxHeartbeats 1000000 in
theorem rop_any (s : ByteArray) (w : World) : Calls Try.prog 22 #[.string s] w fun e w' => e = .returned (.tuple #[.int .u8 (opN s.data.toList : Nat), .bool (isN (opN s.data.toList))]) ∧ Below w.heap.size w w' := by
  have HQ : Hid (∀ k, k < 37 → 1 ≤ k → nmS k = s → opN s.data.toList = k) := Hid.mk' (fun k h1 h2 e => by
    rw [← e]; show opN (nmL.getD k []).toArray.toList = k
    exact name_opN k h2 (by omega))
  have HZ : Hid ((∀ k, k < 37 → 1 ≤ k → ¬ nmS k = s) → opN s.data.toList = 0) := Hid.mk' (fun h => by
    by_cases e : opN s.data.toList = 0
    · exact e
    · have h1 := opN_name _ e
      have h2 := opN_bounds s.data.toList
      refine absurd ?_ (h (opN s.data.toList) (by omega) (by omega))
      unfold nmS
      rw [List.getD_eq_getElem?_getD, h1]
      cases s; simp)
  go_enter Try.func22, Try.ntmps22
  go_wp2_with fail
  go_loopw [4] (fun i wr => ∃ k : Nat, 1 ≤ k ∧ k ≤ 37 ∧ i = .int .i64 k ∧ Hid (∀ j, j < k → 1 ≤ j → ¬ nmS j = s) ∧ Hid (Below w.heap.size w wr)) (fun i _ => 37 - (intOf i).toNat)
  case atStart => exact ⟨1, by omega, by omega, rfl, Hid.mk' (fun j h1 h2 => by omega), Hid.mk' (Below.refl _ _)⟩
  case round =>
    obtain ⟨k, hk1, hk, rfl, HN, HB⟩ := hrel
    by_cases hlt : k < 37
    · have hsp : (k : Int) < 37 := by omega
      have hsp0 : (0 : Int) ≤ k := by omega
      go_wp2_with fail
      refine (names_any _).mono ?_
      rintro e w1 ⟨rfl, -, b1⟩
      go_wp2_with fail
      refine (names_any _).mono ?_
      rintro e w2 ⟨rfl, hc2, b2⟩
      have hck := hc2 k hlt
      have HB2 : Hid (Below w.heap.size w w2) := Hid.mk' ((HB.out.trans (b1.mono HB.out.size)).trans (b2.mono (Nat.le_trans HB.out.size b1.size)))
      clear hc2 b1 b2
      have HK : Hid (nmS k = s → opN s.data.toList = k) := Hid.mk' (HQ.out k hlt hk1)
      by_cases he : nmS k = s
      · have HE : Hid (Ending.returned (.tuple #[.int .u8 (k : Int), .bool true]) = Ending.returned (.tuple #[.int .u8 (opN s.data.toList : Nat), .bool (isN (opN s.data.toList))])) := Hid.mk' (by
          rw [HK.out he]
          have : isN k = true := by simp [isN]; omega
          rw [this])
        rw [he] at hck
        go_wp2_with fail
        go_ret2
        exact ⟨HE.out, HB2.out⟩
      · have he' : ((nmS k).toList == s.toList) = false := (Lib.bytes_beq_false_iff _ _).2 he
        go_wp2_with fail
        go_roundw
        case rel =>
          refine ⟨k + 1, by omega, by omega, by go_num, Hid.mk' (fun j h1 h2 => ?_), HB2⟩
          by_cases e : j = k
          · subst e; exact he
          · exact HN.out j (by omega) h2
        case measure => simp [intOf]; omega
    · have hk' : k = 37 := by omega
      subst hk'
      have h0 : Hid (Ending.returned (.tuple #[.int .u8 0, .bool false]) = Ending.returned (.tuple #[.int .u8 (opN s.data.toList : Nat), .bool (isN (opN s.data.toList))])) := Hid.mk' (by
        rw [HZ.out HN.out]; rfl)
      go_wp2_with fail
      refine (names_any _).mono ?_
      rintro e w1 ⟨rfl, -, b1⟩
      have HB2 : Hid (Below w.heap.size w w1) := Hid.mk' (HB.out.trans (b1.mono HB.out.size))
      go_wp2_with fail
      go_ret2
      exact ⟨h0.out, HB2.out⟩

set_option maxHeartbeats 1000000 in
theorem rname_any (p : Int) (w : World) (p0 : 0 ≤ p) (p1 : p ≤ 255) : Calls Try.prog 24 #[.int .u8 p] w fun e w' => e = .returned (.string ⟨(nmN p).toArray⟩) ∧ Below w.heap.size w w' := by
  have HO : Hid (¬ (1 ≤ p ∧ p ≤ 36) → nmN p = []) := Hid.mk' (fun h => nmN_out p h p0)
  obtain ⟨k, rfl⟩ := Int.eq_ofNat_of_zero_le p0
  have HS : Hid (nmS k = ⟨(nmN k).toArray⟩) := Hid.mk' rfl
  go_enter Try.func24, Try.ntmps24
  go_wp2_with fail
  refine (names_any _).mono ?_
  rintro e w1 ⟨rfl, -, b1⟩
  by_cases h : k < 37
  · have hsp : (k : Int) < 37 := by omega
    go_wp2_with fail
    refine (names_any _).mono ?_
    rintro e w2 ⟨rfl, hc2, b2⟩
    have hck := hc2 k h
    have HB2 : Hid (Below w.heap.size w w2) := Hid.mk' (b1.trans (b2.mono b1.size))
    clear hc2 b1 b2
    go_wp2_with fail
    go_ret
    exact ⟨congrArg (fun z => Ending.returned (.string z)) HS.out, HB2.out⟩
  · have hsp : ¬ (k : Int) < 37 := by omega
    have h0 := HO.out (by omega)
    go_wp2_with fail
    go_ret
    exact ⟨congrArg (fun z => Ending.returned (.string ⟨List.toArray z⟩)) h0.symm, b1⟩
end Go.Proofs.Ytmiiddkpmfiocaa
