/- The walk of SumsNames (closed). -/
import Derived.Test.YtogkgchcjjoplabSw
namespace Go.Proofs.Ytogkgchcjjoplab
open Go.ChangeShapes Go.WideShapes Go.ChangeAt Go.RowKit

theorem info_u8 : (Try.prog.info? 5).map (fun i => (i.zero, i.size, i.bytes)) = some (some (.int .u8 0), 1, 1) := by kernel_rfl

theorem tot_full (zs : List Int) : ∀ m : Nat, (∀ j, j < 2 * m → zs.getD j 0 = 255) → tot zs (2 * m) = 65535 * (m : Int)
  | 0, _ => rfl
  | m + 1, h => by
    have ih := tot_full zs m (fun j hj => h j (by omega))
    rw [show 2 * (m + 1) = 2 * m + 1 + 1 from by omega]
    simp only [tot]
    rw [ih, h (2 * m) (by omega), h (2 * m + 1) (by omega), wt_even _ (by omega), wt_odd _ (by omega)]
    omega

theorem su_full (zs : List Int) (h : ∀ j, j < 5001 → zs.getD j 0 = 255) : su zs 5000 = 65535 ∧ su zs 5001 = 65280 := by
  have h1 := tot_full zs 2500 (fun j hj => h j (by omega))
  have h2 : tot zs 5001 = tot zs 5000 + zs.getD 5000 0 * wt 5000 := rfl
  rw [h 5000 (by omega), wt_even 5000 (by decide)] at h2
  have h3 : tot zs 5000 = 65535 * 2500 := h1
  rw [h3] at h2
  constructor
  · unfold su; rw [h3]; decide +kernel
  · unfold su; rw [h2]; decide +kernel

theorem su_take (zs : List Int) (k : Nat) : su (zs.take k) k = su zs k := by
  unfold su
  rw [tot_congr _ zs k (fun i hi => by rw [List.getD_eq_getElem?_getD, List.getD_eq_getElem?_getD, List.getElem?_take_of_lt hi])]

theorem Bs.take {w : World} {a : Option Addr} {zs : List Int} (h : Bs w a zs) (k : Nat) (hk : k ≤ zs.length) : Bs w a (zs.take k) := by
  have e : (zs.take k).length = k := by rw [List.length_take]; omega
  have hl := h.len
  refine ⟨by rw [e]; omega, fun z hz => h.bytes z (List.mem_of_mem_take hz), ?_⟩
  rw [e]
  rcases h.lies with h0 | ⟨b, off, rfl, hc⟩
  · exact .inl (by omega)
  · refine .inr ⟨b, off, rfl, fun i hi => ?_⟩
    rw [hc i (by omega), List.getD_eq_getElem?_getD, List.getD_eq_getElem?_getD, List.getElem?_take_of_lt hi]

/-- An empty slice can be read anywhere. -/
theorem bs_nil (w : World) (a : Option Addr) : Bs w a [] := ⟨by simp, fun z hz => by simp at hz, .inl rfl⟩

set_option maxRecDepth 100000 in
set_option maxHeartbeats 4000000 in
theorem walkSumsNames (W : World) :
    Calls Try.prog 3 #[] W fun e w' => e = .returned (.bool true) ∧ Below W.heap.size W w' := by
  obtain ⟨i0, hi, hz0, hz1, hz2⟩ := info_parts info_u8
  obtain ⟨C, HC⟩ : ∃ C, Hid (madeCells #[.int .u8 0] 5001 = C) := ⟨_, rfl⟩
  have hmk : ∀ u : World, (Instr.makeSlice 22 (.int .i64 5001) (.int .i64 5001)).run Try.prog u =
      .ok (.slice (some ⟨u.heap.size, 0, none⟩) 5001 5001) (u.alloc (.cells C 5)) := fun u => by
    have h := run_make (P := Try.prog) u 22 5 i0 (.int .u8 0) Try.underlying22 hi hz0 .i64 .i64 5001 5001 (by omega) (Int.le_refl _) (by rw [hz2]; omega) (by omega)
    have e : (5001 : Int).toNat = 5001 := rfl
    rw [e] at h
    rw [← HC.out]
    simpa [hz1, Value.cells] using h
  have hCl : C.toList = (List.replicate 5001 (0 : Int)).map (Value.int .u8) := by
    rw [← HC.out, toList_madeCells_one, List.map_replicate]
  have hCs : C.size = 5001 * 1 := by rw [← Array.length_toList, hCl, List.length_map, List.length_replicate]
  have hown0 := World.ownsRow_lit (base := W.heap.size) (size := 1) (e := 5) W C 5001 (Nat.le_refl _) (by decide) hCs
  rw [hCl] at hown0
  have HO : Hid ((W.alloc (.cells C 5)).ownsRow W.heap.size 5 1 (.slice (some ⟨W.heap.size, 0, none⟩) 5001 5001) 5001 ((List.replicate 5001 (0 : Int)).map (Value.int .u8))) := hown0
  clear hown0 hCl hCs
  have b0 : Below W.heap.size W (W.alloc (.cells C 5)) := (Below.refl _ _).alloc (Nat.le_refl _) _
  go_enter Try.func3, Try.ntmps3
  go_wp2_with fail
  go_loopw [2] (fun i wr => ∃ (k : Nat) (zs : List Int), k ≤ 5001 ∧ i = .int .i64 k ∧ zs.length = 5001 ∧ Bytes zs ∧ Hid (∀ j, j < k → zs.getD j 0 = 255) ∧ Hid (wr.ownsRow W.heap.size 5 1 (.slice (some ⟨W.heap.size, 0, none⟩) 5001 5001) 5001 (zs.map (Value.int .u8))) ∧ Below W.heap.size W wr) (fun i _ => 5001 - (intOf i).toNat)
  case atStart => exact ⟨0, List.replicate 5001 0, Nat.zero_le _, rfl, List.length_replicate, (fun z hz => by have := List.eq_of_mem_replicate hz; omega), (fun j hj => by omega), HO, b0⟩
  case round =>
    obtain ⟨k, zs, hk, rfl, hzl, hzb, hpre, hown, hbel⟩ := hrel
    have HZ : Hid (zs.length = 5001) := hzl
    by_cases hlt : k < 5001
    · have kc := hown.out.cellAt k (by omega)
      have kf := hown.out.frozenAt k
      rw [List.getElem?_map, List.getElem?_eq_getElem (by omega), Option.map_some] at kc
      generalize Value.int .u8 zs[k] = v0 at kc
      have hn := (hown.out.stored k (.int .u8 255)).1
      rw [← List.map_set] at hn
      have HN : Hid ((wr.setCell ⟨W.heap.size, k, none⟩ (.int .u8 255)).ownsRow W.heap.size 5 1 (.slice (some ⟨W.heap.size, 0, none⟩) 5001 5001) 5001 ((zs.set k 255).map (Value.int .u8))) := hn
      clear hn hzl
      go_wp2_with fail
      go_roundw
      case rel =>
        refine ⟨k + 1, zs.set k 255, hlt, by go_num, by rw [List.length_set]; exact HZ.out, ?_, ?_, HN, hbel.setCell (Nat.le_refl _) _⟩
        · intro z hz
          rcases List.mem_or_eq_of_mem_set hz with h2 | rfl
          · exact hzb z h2
          · omega
        · intro j hj
          have hz := HZ.out
          by_cases hjk : j = k
          · subst hjk; simp [List.getD_eq_getElem?_getD, hz, hlt]
          · rw [List.getD_eq_getElem?_getD, List.getElem?_set_ne (fun e => hjk e.symm), ← List.getD_eq_getElem?_getD]
            exact hpre.out j (by omega)
      case measure => simp [intOf]; omega
    · obtain rfl : k = 5001 := by omega
      have hsu := su_full zs hpre.out
      clear hzl hmk HC HO b0 hpre
      have hz5 := HZ.out
      have hown' := hown.out
      rw [← hz5] at hown'
      have o0 : Bs wr (some ⟨W.heap.size, 0, none⟩) zs := by
        refine ⟨by omega, hzb, .inr ⟨W.heap.size, 0, rfl, fun i hi => ?_⟩⟩
        have := hown.out.cellAt i (by omega)
        rw [Nat.zero_add, this]
        simp [hi]
      clear hown hown' hz5 hk hlt
      obtain ⟨hs1, hs2⟩ := hsu
      have HS1 : Hid (su zs 5000 = 65535) := hs1
      have HS2 : Hid (su zs 5001 = 65280) := hs2
      clear hs1 hs2
      have hlen0 : (zs.take 5000).length = 5000 := by rw [List.length_take]; have := HZ.out; omega
      have HL0 : Hid ((zs.take 5000).length = 5000) := hlen0
      clear hlen0
      go_wp2_with fail
      refine (diff_bad _ _ _ _ 1 1 _ (by omega) (by omega) (by omega)).mono ?_
      rintro e w1 ⟨rfl, d1⟩
      have bw1 : Below W.heap.size W w1 := ((hbel.alloc hbel.size _).alloc (by have := hbel.size; simp; omega) _).trans (d1.below _)
      have ow1 := o0.below (((((Below.refl _ _).alloc (Nat.le_refl _) (.cells #[.int .u8 10] 5))).alloc (by simp) (.cells #[.int .u8 11] 5)).trans (d1.below _))
      clear d1 hbel o0
      go_wp2_with fail
      refine (diff_bad _ _ _ _ 2 4 _ (by omega) (by omega) (by omega)).mono ?_
      rintro e w2 ⟨rfl, d2⟩
      have bw2 : Below W.heap.size W w2 := ((bw1.alloc bw1.size _).alloc (by have := bw1.size; simp; omega) _).trans (d2.below _)
      have ow2 := ow1.below (((((Below.refl _ _).alloc (Nat.le_refl _) (.cells #[.int .u8 0, .int .u8 1] 5))).alloc (by simp) (.cells #[.int .u8 0, .int .u8 1, .int .u8 2, .int .u8 3] 5)).trans (d2.below _))
      clear d2 bw1 ow1
      go_wp2_with fail
      refine (diff_good _ _ _ _ [] [] _ (bs_nil _ _) (bs_nil _ _) 0 rfl rfl rfl).mono ?_
      rintro e w3 ⟨rfl, d3⟩
      rw [show fo (su [] 0 + (65535 - su [] 0)) = 65535 from by decide +kernel]
      have bw3 : Below W.heap.size W w3 := (bw2.alloc bw2.size _).trans (d3.below _)
      have ow3 := ow2.below (((Below.refl _ _).alloc (Nat.le_refl _) (.cells #[] 5)).trans (d3.below _))
      clear d3 bw2 ow2
      go_wp2_with fail
      refine (sum_any none 0 [] _ (bs_nil _ _)).mono ?_
      rintro e w4 ⟨rfl, d4⟩
      rw [show su [] ([] : List Int).length = 0 from by decide +kernel]
      have bw4 : Below W.heap.size W w4 := bw3.trans (d4.below _)
      have ow4 := d4.bs ow3
      clear d4 bw3 ow3
      have sw5 : Bs (w4.alloc (.cells #[.int .u8 1, .int .u8 2] 5)) (some ⟨w4.heap.size, 0, none⟩) [1, 2] := bs_new w4 [1, 2] 5 (by unfold Bytes; simp) (by simp)
      go_wp2_with fail
      refine (sum_any _ _ [1, 2] _ sw5).mono ?_
      rintro e w5 ⟨rfl, dw5⟩
      rw [show su [1, 2] ([1, 2] : List Int).length = 258 from by decide +kernel]
      have bw5 : Below W.heap.size W w5 := (bw4.alloc bw4.size _).trans (dw5.below _)
      have ow5 := ow4.below (((Below.refl _ _).alloc (Nat.le_refl _) (.cells #[.int .u8 1, .int .u8 2] 5)).trans (dw5.below _))
      clear sw5 dw5 bw4 ow4
      have sw6 : Bs (w5.alloc (.cells #[.int .u8 255, .int .u8 255] 5)) (some ⟨w5.heap.size, 0, none⟩) [255, 255] := bs_new w5 [255, 255] 5 (by unfold Bytes; simp) (by simp)
      go_wp2_with fail
      refine (sum_any _ _ [255, 255] _ sw6).mono ?_
      rintro e w6 ⟨rfl, dw6⟩
      rw [show su [255, 255] ([255, 255] : List Int).length = 65535 from by decide +kernel]
      have bw6 : Below W.heap.size W w6 := (bw5.alloc bw5.size _).trans (dw6.below _)
      have ow6 := ow5.below (((Below.refl _ _).alloc (Nat.le_refl _) (.cells #[.int .u8 255, .int .u8 255] 5)).trans (dw6.below _))
      clear sw6 dw6 bw5 ow5
      have sw7 : Bs (w6.alloc (.cells #[.int .u8 255, .int .u8 255, .int .u8 0, .int .u8 1] 5)) (some ⟨w6.heap.size, 0, none⟩) [255, 255, 0, 1] := bs_new w6 [255, 255, 0, 1] 5 (by unfold Bytes; simp) (by simp)
      go_wp2_with fail
      refine (sum_any _ _ [255, 255, 0, 1] _ sw7).mono ?_
      rintro e w7 ⟨rfl, dw7⟩
      rw [show su [255, 255, 0, 1] ([255, 255, 0, 1] : List Int).length = 1 from by decide +kernel]
      have bw7 : Below W.heap.size W w7 := (bw6.alloc bw6.size _).trans (dw7.below _)
      have ow7 := ow6.below (((Below.refl _ _).alloc (Nat.le_refl _) (.cells #[.int .u8 255, .int .u8 255, .int .u8 0, .int .u8 1] 5)).trans (dw7.below _))
      clear sw7 dw7 bw6 ow6
      have sw8 : Bs (w7.alloc (.cells #[.int .u8 255, .int .u8 255, .int .u8 255, .int .u8 255, .int .u8 0, .int .u8 1] 5)) (some ⟨w7.heap.size, 0, none⟩) [255, 255, 255, 255, 0, 1] := bs_new w7 [255, 255, 255, 255, 0, 1] 5 (by unfold Bytes; simp) (by simp)
      go_wp2_with fail
      refine (sum_any _ _ [255, 255, 255, 255, 0, 1] _ sw8).mono ?_
      rintro e w8 ⟨rfl, dw8⟩
      rw [show su [255, 255, 255, 255, 0, 1] ([255, 255, 255, 255, 0, 1] : List Int).length = 1 from by decide +kernel]
      have bw8 : Below W.heap.size W w8 := (bw7.alloc bw7.size _).trans (dw8.below _)
      have ow8 := ow7.below (((Below.refl _ _).alloc (Nat.le_refl _) (.cells #[.int .u8 255, .int .u8 255, .int .u8 255, .int .u8 255, .int .u8 0, .int .u8 1] 5)).trans (dw8.below _))
      clear sw8 dw8 bw7 ow7
      go_wp2_with fail
      refine (field_any none 0 [] _ (bs_nil _ _)).mono ?_
      rintro e w9 ⟨rfl, d9⟩
      rw [show 65535 - su [] ([] : List Int).length = 65535 from by decide +kernel]
      have bw9 : Below W.heap.size W w9 := bw8.trans (d9.below _)
      have ow9 := d9.bs ow8
      clear d9 bw8 ow8
      have sw10 : Bs (w9.alloc (.cells #[.int .u8 255, .int .u8 255] 5)) (some ⟨w9.heap.size, 0, none⟩) [255, 255] := bs_new w9 [255, 255] 5 (by unfold Bytes; simp) (by simp)
      go_wp2_with fail
      refine (field_any _ _ [255, 255] _ sw10).mono ?_
      rintro e w10 ⟨rfl, dw10⟩
      rw [show 65535 - su [255, 255] ([255, 255] : List Int).length = 0 from by decide +kernel]
      have bw10 : Below W.heap.size W w10 := (bw9.alloc bw9.size _).trans (dw10.below _)
      have ow10 := ow9.below (((Below.refl _ _).alloc (Nat.le_refl _) (.cells #[.int .u8 255, .int .u8 255] 5)).trans (dw10.below _))
      clear sw10 dw10 bw9 ow9
      go_wp2_with fail
      refine (add_any _ _ _ (by omega) (by omega) (by omega) (by omega)).mono ?_
      rintro e w' ⟨rfl, rfl⟩
      rw [show fo (65535 + 65535) = 65535 from by decide +kernel]
      go_wp2_with fail
      refine (sub_any _ _ _ (by omega) (by omega) (by omega) (by omega)).mono ?_
      rintro e w' ⟨rfl, rfl⟩
      rw [show fo (5 + (65535 - 5)) = 65535 from by decide +kernel]
      go_wp2_with fail
      refine (same_any _ _ _ (by omega) (by omega) (by omega) (by omega)).mono ?_
      rintro e w' ⟨rfl, rfl⟩
      rw [show ((1 : Int) % 65535 == 2 % 65535) = false from by decide +kernel]
      go_wp2_with fail
      refine (update_any _ _ _ _ (by omega) (by omega) (by omega) (by omega) (by omega) (by omega)).mono ?_
      rintro e w' ⟨rfl, rfl⟩
      rw [show upd 0 0 0 = 0 from by decide +kernel]
      go_wp2_with fail
      refine (awake_any _).mono ?_
      rintro e w11 ⟨rfl, b11⟩
      have bw11 : Below W.heap.size W w11 := bw10.trans (b11.mono bw10.size)
      have ow11 := ow10.below b11
      clear b11 bw10 ow10
      have c1 := sum_any (some ⟨W.heap.size, 0, none⟩) 5001 (zs.take 5000) w11 (ow11.take 5000 (by have := HZ.out; omega))
      rw [HL0.out, su_take, HS1.out] at c1
      go_wp2_with fail
      refine c1.mono ?_
      rintro e w12 ⟨rfl, d12⟩
      clear c1
      have c2 := sum_any (some ⟨W.heap.size, 0, none⟩) 5001 zs w12 (d12.bs ow11)
      rw [HZ.out, HS2.out] at c2
      go_wp2_with fail
      refine c2.mono ?_
      rintro e w13 ⟨rfl, d13⟩
      clear c2
      go_wp2_with fail
      go_ret
      exact ⟨rfl, (bw11.trans (d12.below _)).trans (d13.below _)⟩
end Go.Proofs.Ytogkgchcjjoplab
