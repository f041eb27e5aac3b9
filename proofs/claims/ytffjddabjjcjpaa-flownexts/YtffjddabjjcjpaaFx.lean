/- The law's kept. -/
import Derived.Test.YtffjddabjjcjpaaFv
import Derived.Deep.QuietTactic
import Derived.Laws.StructEq
namespace Go.Proofs.Ytffjddabjjcjpaa
open Go.ChangeShapes Go.WideShapes Go.ChangeAt Go.RowKit
set_option maxRecDepth 10000
variable {L : List Q5}

set_option maxHeartbeats 4000000 in
theorem kept_any (g c' : Nat) (v : Value) (w : World) (hv : Cd w v L) (hbig : L.length * 12 ≤ 140737488351232) (hX : Lie w g 0 (L ++ [m5, m5, m5])) (hc' : L.length + 3 ≤ c') :
    Calls Try.prog 12 #[.slice (some ⟨g, 0, none⟩) L.length c', v] w fun e w' => e = .returned (.bool true) ∧ Dr w w' := by
  obtain ⟨a, c, rfl, hc, hl⟩ := hv.lies
  clear hv
  obtain ⟨n, hn⟩ : ∃ n, L.length = n := ⟨_, rfl⟩
  rw [hn] at hc hbig hc' ⊢
  have HL := Hid.mk' hn
  have HX := Hid.mk' hX
  have HLies := Hid.mk' hl
  clear hn hl hX
  have hn3 : ((n : Int) + 3) ≤ (c' : Int) := by omega
  have hn3' : (n : Int) + 3 ≤ 9223372036854775807 := by omega
  go_enter Try.func12, Try.ntmps12
  go_wp2_with fail
  go_loopw [6] (fun i wr => ∃ k : Nat, k ≤ n + 3 ∧ i = .int .i64 k ∧ Hid (Dr w wr)) (fun i _ => n + 3 - (intOf i).toNat)
  case atStart => exact ⟨0, by omega, rfl, Hid.mk' (Dr.refl _)⟩
  case round =>
    obtain ⟨k, hk, rfl, hD⟩ := hrel
    by_cases hlt : k < n + 3
    · have hlk : (k : Int) < (n : Int) + 3 := by omega
      by_cases hkn : k < n
      · have hkn' : (k : Int) < (n : Int) := by omega
        have hkn4 : ¬ n ≤ k := by omega
        have hkn5 : ¬ (n : Int) ≤ (k : Int) := by omega
        rcases HLies.out with h0 | ⟨b, off, rfl, hC⟩
        · have := HL.out; rw [h0] at this; simp at this; omega
        obtain ⟨p, d, s, o, i, hq, -, -, -⟩ := at_get (L := L) (k := k) (by rw [HL.out]; exact hkn)
        have hq2 : (L ++ [m5, m5, m5])[k]? = some (p, d, s, o, i) := by rw [List.getElem?_append_left (by rw [HL.out]; exact hkn)]; exact hq
        obtain ⟨c0, c1, c2, c3, c4⟩ := hC k _ _ _ _ _ hq
        obtain ⟨e0, e1, e2, e3, e4⟩ := HX.out k _ _ _ _ _ hq2
        rw [Nat.zero_add] at e0 e1 e2 e3 e4
        have c0 := (hD.out.cell _).trans c0
        have c1 := (hD.out.cell _).trans c1
        have c2 := (hD.out.cell _).trans c2
        have c3 := (hD.out.cell _).trans c3
        have c4 := (hD.out.cell _).trans c4
        have e0 := (hD.out.cell _).trans e0
        have e1 := (hD.out.cell _).trans e1
        have e2 := (hD.out.cell _).trans e2
        have e3 := (hD.out.cell _).trans e3
        have e4 := (hD.out.cell _).trans e4
        clear hq hq2 hC HX HLies
        go_wp2_with fail
        refine wp_region_quiet_lit (by kernel_rfl) (by kernel_rfl) ?_
        repeat (with_reducible refine wpQuiet_step (fun K hK => ?_); go_simp; with_reducible refine hK _ ?_; clear hK K)
        refine wpQuiet_nil ?_
        rintro _ ⟨nq, rfl⟩
        go_wp2_with fail
        go_roundw
        case rel => exact ⟨k + 1, hlt, by go_num, Hid.mk' (hD.out.more _)⟩
        case measure => simp [intOf]; omega
      · have hkn' : ¬ (k : Int) < (n : Int) := by omega
        have hkn2 : (n : Int) ≤ (k : Int) := by omega
        have hkn4 : n ≤ k := by omega
        have hq2 : (L ++ [m5, m5, m5])[k]? = some (200, 0, 0, 0, 0) := by
          rw [List.getElem?_append_right (by rw [HL.out]; omega), HL.out]
          have : k - n = 0 ∨ k - n = 1 ∨ k - n = 2 := by omega
          rcases this with e | e | e <;> rw [e] <;> rfl
        obtain ⟨e0, e1, e2, e3, e4⟩ := HX.out k _ _ _ _ _ hq2
        rw [Nat.zero_add] at e0 e1 e2 e3 e4
        have e0 := (hD.out.cell _).trans e0
        have e1 := (hD.out.cell _).trans e1
        have e2 := (hD.out.cell _).trans e2
        have e3 := (hD.out.cell _).trans e3
        have e4 := (hD.out.cell _).trans e4
        clear hq2 HX HLies
        go_wp2_with fail
        refine wp_region_quiet_lit (by kernel_rfl) (by kernel_rfl) ?_
        repeat (with_reducible refine wpQuiet_step (fun K hK => ?_); go_simp; with_reducible refine hK _ ?_; clear hK K)
        refine wpQuiet_nil ?_
        rintro _ ⟨nq, rfl⟩
        go_wp2_with fail
        go_roundw
        case rel => exact ⟨k + 1, hlt, by go_num, Hid.mk' (hD.out.more _)⟩
        case measure => simp [intOf]; omega
    · have hlk : ¬ (k : Int) < (n : Int) + 3 := by omega
      go_wp2_with fail
      go_ret
      exact ⟨rfl, hD.out⟩
end Go.Proofs.Ytffjddabjjcjpaa
