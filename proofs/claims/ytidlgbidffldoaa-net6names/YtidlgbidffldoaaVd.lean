/- The contract of net6.Read, where it reads a header. -/
import Derived.Test.YtidlgbidffldoaaVc
import Derived.Test.YtidlgbidffldoaaGd
namespace Go.Proofs.Ytidlgbidffldoaa
open Go.ChangeShapes Go.WideShapes Go.ChangeAt Go.RowKit

set_option maxHeartbeats 1000000 in
theorem lread_ok (b off : Nat) (n c : Nat) (zs : List Int) (w : World) (hz : zs.length = n) (hB : Bs w (some ⟨b, off, none⟩) zs) (hn : 40 ≤ n) (hc : n ≤ c) (hq : rdQ zs) :
    Calls Try.prog 17 #[.slice (some ⟨b, off, none⟩) n c] w fun e w' => e = .returned (.tuple #[.agg (rdC zs).toArray, .int .i64 0]) ∧ Below w.heap.size w w' := by
  obtain ⟨RES, HRES⟩ : ∃ RES, Hid (rdC zs = RES) := ⟨_, rfl⟩
  rw [HRES.out]
  have hln : n ≤ 140737488355328 := by rw [← hz]; exact hB.len
  have J1 := Hid.mk' (RdJ.first w)
  have KG : Hid (∀ (u : World) (k : Nat), RdJ w u → k + 2 ≤ n → Calls Try.prog 25 #[.slice (some ⟨b, off, none⟩) n c, .int .i64 k] u fun e u' => e = .returned (.int .u16 (rdV zs k)) ∧ Dr u u') := Hid.mk' (fun u k h hk => get16_any b off n c k zs u hz (hB.below h.old) hk)
  have KW : Hid (∀ (u : World) (k : Nat), RdJ w u → k + 4 ≤ n → Calls Try.prog 24 #[.slice (some ⟨b, off, none⟩) n c, .int .i64 k] u fun e u' => e = .returned (.int .u32 (rdW zs k)) ∧ Dr u u') := Hid.mk' (fun u k h hk => get32_any b off n c k zs u hz (hB.below h.old) hk)
  obtain ⟨hx, h4⟩ := hq
  rw [hz] at h4
  have H4 := Hid.mk' h4
  have CE : Hid (∀ u, RdJ w u → u.cell? ⟨b, off + 6, none⟩ = some (.int .u8 (zs.getD 6 0)) ∧ u.cell? ⟨b, off + 7, none⟩ = some (.int .u8 (zs.getD 7 0))) := Hid.mk' (fun u h => by
    rcases (hB.below h.old).lies with h0 | ⟨b', off', e, hc⟩
    · omega
    · cases e; exact ⟨hc 6 (by omega), hc 7 (by omega)⟩)
  have HB := Hid.mk' hB
  have HN := Hid.mk' hz
  have v0 := rdW_bd hB.bytes 0
  have HN6 := Hid.mk' (n6_of hB.bytes (by rw [hz]; exact hn))
  clear hB hz h4
  obtain ⟨M, HM⟩ : ∃ M, Hid (rdW zs 0 = M) := ⟨_, rfl⟩
  rw [HM.out] at hx v0
  obtain ⟨v00, v01⟩ := v0
  obtain ⟨x6, HX6⟩ : ∃ x, Hid (zs.getD 6 0 = x) := ⟨_, rfl⟩
  obtain ⟨x7, HX7⟩ : ∃ x, Hid (zs.getD 7 0 = x) := ⟨_, rfl⟩
  rw [HX6.out, HX7.out] at CE
  have hxb : (M / 268435456 != 6) = false := by simpa using hx
  have hnb : ((n : Int) - 40 != (n : Int) - 40) = false := by simp
  have hand := and20 M v00 v01
  have hw8 : IntKind.u8.wrap (M / 1048576) = M / 1048576 % 256 := by rw [IntKind.wrap_u8]
  have k6 : (6 : Int) < (n : Int) := by omega
  have k7 : (7 : Int) < (n : Int) := by omega
  go_enter Try.func17, Try.ntmps17
  go_wp2_with (first | (go_at_call 24; refine (KW.out _ 0 J1.out (by omega)).mono ?_; rw [HM.out]; rintro e w2 ⟨rfl, d2⟩; have J2 := Hid.mk' (J1.out.dr d2); clear d2) | (go_at_call 25; refine (KG.out _ 4 J2.out (by omega)).mono ?_; rw [H4.out]; rintro e w3 ⟨rfl, d3⟩; have J3 := Hid.mk' (J2.out.dr d3); clear d3))
  obtain ⟨q6, q7⟩ := CE.out _ J3.out
  have hlt5 : b < w3.heap.size := lt_of_cell q6
  have hne5 : ¬ b = w3.heap.size := by omega
  clear J1 J2
  refine wp_region_held_drew (S := fun w' => w'.cell? ⟨b, off + 6, none⟩ = some (.int .u8 x6) ∧ w'.cell? ⟨b, off + 7, none⟩ = some (.int .u8 x7)) (by kernel_rfl) ⟨q6, q7⟩ (fun hHeld => ?_)
  change wpAnyH _ _ _ _ _ 14 #[false, false, false, false, false, false, false, false, false, false, false, false, false, false] _ _
  refine held_take 0 25 (.int .u32 M) rfl rfl (by kernel_rfl) (by kernel_rfl) (by kernel_rfl) (fun _ _ _ h => h) (Or.inl ⟨by rfl, fun u hu => ?_⟩) hHeld ?_
  · obtain ⟨u6, u7⟩ := hu; go_simp
  simp only [Act.put, List.setIfInBounds_toArray, List.set_cons_zero, List.set_cons_succ]
  refine held_take 1 26 (.int .u32 (M / 1048576)) rfl rfl (by kernel_rfl) (by kernel_rfl) (by kernel_rfl) (fun _ _ _ h => h) (Or.inl ⟨by rfl, fun u hu => ?_⟩) hHeld ?_
  · obtain ⟨u6, u7⟩ := hu; go_simp
  simp only [Act.put, List.setIfInBounds_toArray, List.set_cons_zero, List.set_cons_succ]
  refine held_take 2 27 (.int .u8 (M / 1048576 % 256)) rfl rfl (by kernel_rfl) (by kernel_rfl) (by kernel_rfl) (fun _ _ _ h => h) (Or.inl ⟨by rfl, fun u hu => ?_⟩) hHeld ?_
  · obtain ⟨u6, u7⟩ := hu; go_simp
  simp only [Act.put, List.setIfInBounds_toArray, List.set_cons_zero, List.set_cons_succ]
  refine held_take 3 28 (.int .u32 M) rfl rfl (by kernel_rfl) (by kernel_rfl) (by kernel_rfl) (fun _ _ _ h => h) (Or.inl ⟨by rfl, fun u hu => ?_⟩) hHeld ?_
  · obtain ⟨u6, u7⟩ := hu; go_simp
  simp only [Act.put, List.setIfInBounds_toArray, List.set_cons_zero, List.set_cons_succ]
  refine held_take 4 29 (.int .u32 (M % 1048576)) rfl rfl (by kernel_rfl) (by kernel_rfl) (by kernel_rfl) (fun _ _ _ h => h) (Or.inl ⟨by rfl, fun u hu => ?_⟩) hHeld ?_
  · obtain ⟨u6, u7⟩ := hu; go_simp
  simp only [Act.put, List.setIfInBounds_toArray, List.set_cons_zero, List.set_cons_succ]
  refine held_take 5 30 (.slice (some ⟨b, off, none⟩) n c) rfl rfl (by kernel_rfl) (by kernel_rfl) (by kernel_rfl) (fun _ _ _ h => h) (Or.inl ⟨by rfl, fun u hu => ?_⟩) hHeld ?_
  · obtain ⟨u6, u7⟩ := hu; go_simp
  simp only [Act.put, List.setIfInBounds_toArray, List.set_cons_zero, List.set_cons_succ]
  refine held_take 6 31 (.pointer (some ⟨b, off + 6, none⟩)) rfl rfl (by kernel_rfl) (by kernel_rfl) (by kernel_rfl) (fun _ _ _ h => h) (Or.inl ⟨by rfl, fun u hu => ?_⟩) hHeld ?_
  · obtain ⟨u6, u7⟩ := hu; go_simp
  simp only [Act.put, List.setIfInBounds_toArray, List.set_cons_zero, List.set_cons_succ]
  refine held_take 7 32 (.int .u8 x6) rfl rfl (by kernel_rfl) (by kernel_rfl) (by kernel_rfl) (fun _ _ _ h => h) (Or.inl ⟨by rfl, fun u hu => ?_⟩) hHeld ?_
  · obtain ⟨u6, u7⟩ := hu; go_simp
  simp only [Act.put, List.setIfInBounds_toArray, List.set_cons_zero, List.set_cons_succ]
  refine held_take 8 33 (.slice (some ⟨b, off, none⟩) n c) rfl rfl (by kernel_rfl) (by kernel_rfl) (by kernel_rfl) (fun _ _ _ h => h) (Or.inl ⟨by rfl, fun u hu => ?_⟩) hHeld ?_
  · obtain ⟨u6, u7⟩ := hu; go_simp
  simp only [Act.put, List.setIfInBounds_toArray, List.set_cons_zero, List.set_cons_succ]
  refine held_take 9 34 (.pointer (some ⟨b, off + 7, none⟩)) rfl rfl (by kernel_rfl) (by kernel_rfl) (by kernel_rfl) (fun _ _ _ h => h) (Or.inl ⟨by rfl, fun u hu => ?_⟩) hHeld ?_
  · obtain ⟨u6, u7⟩ := hu; go_simp
  simp only [Act.put, List.setIfInBounds_toArray, List.set_cons_zero, List.set_cons_succ]
  refine held_take 10 35 (.int .u8 x7) rfl rfl (by kernel_rfl) (by kernel_rfl) (by kernel_rfl) (fun _ _ _ h => h) (Or.inl ⟨by rfl, fun u hu => ?_⟩) hHeld ?_
  · obtain ⟨u6, u7⟩ := hu; go_simp
  simp only [Act.put, List.setIfInBounds_toArray, List.set_cons_zero, List.set_cons_succ]
  refine held_take 11 36 (.agg #[.int .u8 (M / 1048576 % 256), .int .u32 (M % 1048576), .int .u8 x6, .int .u8 x7, .int .u8 0, .int .u8 0, .int .u8 0, .int .u8 0, .int .u8 0, .int .u8 0, .int .u8 0, .int .u8 0, .int .u8 0, .int .u8 0, .int .u8 0, .int .u8 0, .int .u8 0, .int .u8 0, .int .u8 0, .int .u8 0, .int .u8 0, .int .u8 0, .int .u8 0, .int .u8 0, .int .u8 0, .int .u8 0, .int .u8 0, .int .u8 0, .int .u8 0, .int .u8 0, .int .u8 0, .int .u8 0, .int .u8 0, .int .u8 0, .int .u8 0, .int .u8 0]) rfl rfl (by kernel_rfl) (by kernel_rfl) (by kernel_rfl) (fun _ _ _ h => h) (Or.inl ⟨by rfl, fun u hu => ?_⟩) hHeld ?_
  · obtain ⟨u6, u7⟩ := hu; go_simp
  simp only [Act.put, List.setIfInBounds_toArray, List.set_cons_zero, List.set_cons_succ]
  refine held_one 12 (by kernel_rfl) rfl (fun K hK => ?_)
  go_simp
  have HA : Hid (∀ L : List Value, (w3.drew.alloc (.cells L.toArray 25)).cell? ⟨b, off + 6, none⟩ = some (.int .u8 x6) ∧ (w3.drew.alloc (.cells L.toArray 25)).cell? ⟨b, off + 7, none⟩ = some (.int .u8 x7)) := Hid.mk' (fun L => ⟨(((Below.refl _ _).alloc (Nat.le_refl _) _).cell (B := w3.drew.heap.size) hlt5).trans hHeld.1, (((Below.refl _ _).alloc (Nat.le_refl _) _).cell (B := w3.drew.heap.size) hlt5).trans hHeld.2⟩)
  refine hK.out _ _ (HA.out hd0) (fun hH2 => ?_)
  clear hK K
  simp only [List.setIfInBounds_toArray, List.set_cons_zero, List.set_cons_succ]
  refine held_store_new (w := w3.drew) 13 (by kernel_rfl) rfl rfl rfl 25 _ _ rfl 25 hd0 [.int .u8 (M / 1048576 % 256), .int .u32 (M % 1048576), .int .u8 x6, .int .u8 x7, .int .u8 0, .int .u8 0, .int .u8 0, .int .u8 0, .int .u8 0, .int .u8 0, .int .u8 0, .int .u8 0, .int .u8 0, .int .u8 0, .int .u8 0, .int .u8 0, .int .u8 0, .int .u8 0, .int .u8 0, .int .u8 0, .int .u8 0, .int .u8 0, .int .u8 0, .int .u8 0, .int .u8 0, .int .u8 0, .int .u8 0, .int .u8 0, .int .u8 0, .int .u8 0, .int .u8 0, .int .u8 0, .int .u8 0, .int .u8 0, .int .u8 0, .int .u8 0] rfl rfl rfl info_hd ?_ (HA.out _) ?_
  · exact n6C_one (M / 1048576 % 256) (M % 1048576) x6 x7 [0, 0, 0, 0, 0, 0, 0, 0, 0, 0, 0, 0, 0, 0, 0, 0] [0, 0, 0, 0, 0, 0, 0, 0, 0, 0, 0, 0, 0, 0, 0, 0]
  refine wpAnyH_done (by kernel_rfl) ?_ _
  obtain ⟨W7, hW7⟩ : ∃ W7, W7 = w3.drew.alloc (.cells ([.int .u8 (M / 1048576 % 256), .int .u32 (M % 1048576), .int .u8 x6, .int .u8 x7, .int .u8 0, .int .u8 0, .int .u8 0, .int .u8 0, .int .u8 0, .int .u8 0, .int .u8 0, .int .u8 0, .int .u8 0, .int .u8 0, .int .u8 0, .int .u8 0, .int .u8 0, .int .u8 0, .int .u8 0, .int .u8 0, .int .u8 0, .int .u8 0, .int .u8 0, .int .u8 0, .int .u8 0, .int .u8 0, .int .u8 0, .int .u8 0, .int .u8 0, .int .u8 0, .int .u8 0, .int .u8 0, .int .u8 0, .int .u8 0, .int .u8 0, .int .u8 0] : List Value).toArray 25) := ⟨_, rfl⟩
  rw [← hW7]
  have J7 : Hid (RdJ w W7) := Hid.mk' (by rw [hW7]; exact (J3.out.dr ⟨1, rfl⟩).below ((Below.refl _ _).alloc (Nat.le_refl _) _))
  have SZ : Hid (w.heap.size < w3.heap.size) := Hid.mk' (Array.getElem?_eq_some_iff.1 J3.out.box).1
  obtain ⟨HD, HHD⟩ : ∃ HD : List Value, Hid ([.int .u8 (M / 1048576 % 256), .int .u32 (M % 1048576), .int .u8 x6, .int .u8 x7] = HD) := ⟨_, rfl⟩
  obtain ⟨Q4, HQ4⟩ : ∃ Q4 : List Value, Hid ((List.replicate 16 (0 : Int)).map (Value.int .u8) = Q4) := ⟨_, rfl⟩
  have Q7 : Hid (W7.heap[w3.heap.size]? = some (.cells (HD ++ (Q4 ++ Q4)).toArray 25 (0, 0))) := Hid.mk' (by rw [hW7, ← HHD.out, ← HQ4.out]; exact heap_alloc_new w3.drew _)
  have hhl : Hid (HD.length = 4) := Hid.mk' (by rw [← HHD.out]; rfl)
  have hql : Hid (Q4.length = 16) := Hid.mk' (by rw [← HQ4.out]; simp)
  clear hW7 q6 q7 hlt5 hne5 J3 hHeld hH2 HA hw8 hand hxb hnb
  have c8 : (8 : Int) ≤ (c : Int) := by omega
  have c24 : (24 : Int) ≤ (c : Int) := by omega
  have c40 : (40 : Int) ≤ (c : Int) := by omega
  have n8 : ¬ c = 8 := by omega
  have n24 : ¬ c = 24 := by omega
  go_wp2_with fail
  have T7 : Hid (Bs W7.drew (some ⟨b, off + 8, none⟩) ((zs.drop 8).take 16)) := (((HB.out.below J7.out.old).below ((Below.refl _ _).drew)).drop 8).take 16 (by rw [List.length_drop, HN.out]; omega)
  go_region_law (refine step_copy rfl _ _ rfl w3.heap.size 4 16 16 (c - 8) (some ⟨b, off + 8, none⟩) rfl rfl ((zs.drop 8).take 16) _ 25 Q7.out T7.out HN6.out.sl (by simp [hhl.out, hql.out]) ?_; intro w8 hg8 hk8; have Q8 := Hid.mk' hg8; have K8 := Hid.mk' hk8; clear hg8 hk8)
  have J8 : Hid (RdJ w w8) := Hid.mk' ⟨(K8.out.block w.heap.size (by have := (Array.getElem?_eq_some_iff.1 J7.out.box).1; exact this) (by have := SZ.out; omega)).trans J7.out.box, J7.out.old.drew.trans (K8.out.below J7.out.old.size (fun k hk => by have := SZ.out; omega))⟩
  rw [put_mid _ _ _ _ 4 hhl.out.symm (by rw [List.length_map, HN6.out.sl, hql.out])] at Q8
  clear K8 J7 Q7 T7
  go_wp2_with fail
  have T8 : Hid (Bs w8.drew (some ⟨b, off + 24, none⟩) ((zs.drop 24).take 16)) := (((HB.out.below J8.out.old).below ((Below.refl _ _).drew)).drop 24).take 16 (by rw [List.length_drop, HN.out]; omega)
  rw [← List.append_nil Q4, ← List.append_assoc] at Q8
  go_region_law (refine step_copy rfl _ _ rfl w3.heap.size 20 16 16 (c - 24) (some ⟨b, off + 24, none⟩) rfl rfl ((zs.drop 24).take 16) _ 25 Q8.out T8.out HN6.out.dl (by simp only [List.length_append, List.length_map, hhl.out, hql.out, HN6.out.sl]; omega) ?_; intro w9 hg9 hk9; have Q9 := Hid.mk' hg9; have K9 := Hid.mk' hk9; clear hg9 hk9)
  have J9 : Hid (RdJ w w9) := Hid.mk' ⟨(K9.out.block w.heap.size (by have := (Array.getElem?_eq_some_iff.1 J8.out.box).1; exact this) (by have := SZ.out; omega)).trans J8.out.box, J8.out.old.drew.trans (K9.out.below J8.out.old.size (fun k hk => by have := SZ.out; omega))⟩
  rw [put_mid _ _ _ _ 20 (by simp only [List.length_append, List.length_map, hhl.out, HN6.out.sl]) (by rw [List.length_map, HN6.out.dl, hql.out]), List.append_nil, List.append_assoc] at Q9
  have HLR : Hid (HD ++ (((zs.drop 8).take 16).map (Value.int .u8) ++ ((zs.drop 24).take 16).map (Value.int .u8)) = RES) := Hid.mk' (by rw [← HRES.out, ← HHD.out, ← HX6.out, ← HX7.out, ← HM.out]; rfl)
  have hlr : Hid (RES.length = 36) := Hid.mk' (by rw [← HRES.out]; exact n6C_length HN6.out)
  have hone : Hid (RES.toArray.all (·.oneCell') = true) := Hid.mk' (by rw [← HRES.out]; exact n6C_one _ _ _ _ _ _)
  rw [HLR.out] at Q9
  have hth : Hid (w9.there w.heap.size 0 RES.toArray.size) := Hid.mk' (by
    have e : RES.toArray.size = hd0.toArray.size := by rw [List.size_toArray, hlr.out]; rfl
    rw [e]; exact J9.out.there)
  clear K9 J8 Q8 T8
  go_wp2_with (first | refine wpList_store_mid rfl 25 _ _ rfl w.heap.size 0 RES.toArray rfl rfl hth.out (by rw [List.size_toArray, hlr.out]; exact info_hd) hone.out ?_ | refine wpList_load_mid rfl 25 _ rfl w3.heap.size 0 rfl RES _ (range_block Q9.out) Try.underlying25 rfl (by rw [hlr.out]; exact info_hd) ?_)
  refine ret_cell_tmp rfl w.heap.size 25 RES (0, 0) _ rfl (J9.out.done RES hlr.out).1 Try.underlying25 rfl (by rw [hlr.out]; exact info_hd) rfl ?_
  exact ⟨rfl, (J9.out.done RES hlr.out).2⟩

end Go.Proofs.Ytidlgbidffldoaa
