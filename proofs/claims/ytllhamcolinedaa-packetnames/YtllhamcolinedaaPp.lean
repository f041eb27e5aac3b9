/- The contract of the statements' own 'done', where Data is written to or appended to. -/
import Derived.Test.YtllhamcolinedaaPo
namespace Go.Proofs.Ytllhamcolinedaa
open Go.ChangeShapes Go.WideShapes Go.ChangeAt Go.RowKit

theorem cell_one_laid (w : World) (a : Value) (t : TypeId) : ∀ j u, [a][j]? = some u → (w.alloc (.cells #[a] t)).cell? ((⟨w.heap.size, 0, none⟩ : Addr).add j) = some u := by
  intro j u hj
  rw [addr_add, Nat.zero_add, World.cell?_alloc_new]
  match j, hj with
  | 0, hj => simpa using hj

theorem olds_of {w : World} {x : Addr} {B : List Int} (h : Bs w (some x) B) : ∀ b, (some x) = some b → ∀ j u, (B.map (Value.int .u8))[j]? = some u → w.cell? (b.add j) = some u := by
  intro b hb j u hj
  cases hb
  have hlt : j < B.length := by have := (List.getElem?_eq_some_iff.1 hj).1; simpa using this
  rcases h.lies with h0 | ⟨b', off, e, hc⟩
  · omega
  · cases e
    rw [addr_add, hc j hlt]
    simp [hlt] at hj
    simp [hlt, hj]

theorem Dn.dr {W : World} {N : Nat} {S : Nat → Prop} {w w' : World} {p q m : Nat} (h : Dn W N S w p q m) (k : Dr w w') : Dn W N S w' p q m := by
  obtain ⟨B', a', d', m', h1, h2⟩ := h
  exact ⟨B', a', d', m', P2.dr h1 k, h2⟩

/-- What was appended last. -/
theorem last_cell {w : World} {base n c : Nat} {a : Option Addr} {olds : List Value} {z : Value} (h : w.ownsRow base 5 1 (.slice a (n + 1) c) (n + 1) (olds ++ [z])) (hl : olds.length = n) : ∃ g, a = some ⟨g, 0, none⟩ ∧ w.cell? ⟨g, n, none⟩ = some z := by
  rcases h.2 with ⟨_, h0⟩ | ⟨g, cap, cur, e, _⟩
  · omega
  · simp only [Value.slice.injEq] at e
    obtain ⟨rfl, -, -⟩ := e
    refine ⟨g, rfl, ?_⟩
    rw [h.cellAt n (by omega), List.getElem?_append_right (by omega), hl]
    simp

set_option maxHeartbeats 2000000 in
set_option maxRecDepth 100000 in
theorem done_app (W : World) (N : Nat) (S : Nat → Prop) (w : World) (p q : Nat) (B : List Int) (a d m : Nat) (kd n x k v : Int) (h : Pl W N S w p q B a d m)
    (hbr : ∀ u : World, Calls Try.prog 14 #[.int .i64 kd, .int .i64 6] u fun e w' => e = .returned (.int .i64 5) ∧ u = w') :
    Calls Try.prog 12 #[.pointer (some ⟨p, 0, none⟩), .pointer (some ⟨q, 0, none⟩), .agg #[.int .i64 kd, .int .i64 n, .int .i64 x, .int .i64 k, .int .u64 v]] w fun e w' => e = .returned (.bool true) ∧ Dn W N S w' p q m := by
  obtain ⟨i0, hif, hz0, hz1, hz2⟩ := info_parts info_u8
  obtain ⟨hl, ha, hd, _, hbb⟩ := h.bounds
  have H := Hid.mk' h
  have HBB := Hid.mk' hbb
  clear h hbb
  go_enter Try.func12, Try.ntmps12
  go_wp2_with fail
  refine (hbr _).mono ?_
  rintro e w1 ⟨rfl, hw1⟩
  obtain ⟨P1, B1, e0, e1, e2, e3, e4⟩ := done_start H.out hw1
  clear hw1 e1 e2 e3 e4
  obtain ⟨g, A, D, bv, h1, -, -, h4, -⟩ := P1.out.is
  obtain ⟨xb, cb, rfl, -, -⟩ := h4.bs
  obtain ⟨nb, hnb⟩ : ∃ n, n = B.length := ⟨_, rfl⟩
  have hdata := data_any p g A B D m w1 h1
  have r0 := h4.cells.1
  rw [← hnb] at hdata r0 hl
  have HNB := Hid.mk' hnb.symm
  have K1 := Hid.mk' h1
  have R0 := Hid.mk' r0
  clear hnb h1 h4 r0
  go_wp2_with fail
  refine hdata.mono ?_
  rintro e w2 ⟨rfl, d2⟩
  have r2 := (d2.cell _).trans R0.out
  have P2' := Hid.mk' (P1.out.dr d2)
  have K2 := Hid.mk' (K1.out.dr d2)
  have f0 := P2'.out.box e0
  clear d2 hdata P1 K1 R0 e0
  go_wp2_with fail
  refine (hbr _).mono ?_
  rintro e w3 ⟨rfl, rfl⟩
  have BB : Hid (Bs w2 (some ⟨g, pO A B, none⟩) B) := K2.out.bs
  have L1 : Hid (Below w2.heap.size w2 (w2.alloc (.cells #[.int .u8 238] 5))) := (Below.refl _ _).alloc (Nat.le_refl _) _
  have O1 := Hid.mk' (olds_of (BB.out.below L1.out))
  obtain ⟨olds, holds⟩ : ∃ olds, olds = B.map (Value.int .u8) := ⟨_, rfl⟩
  rw [← holds] at O1
  have HOL : Hid (olds.length = nb) := Hid.mk' (by rw [holds, List.length_map]; exact HNB.out)
  have HOE := Hid.mk' holds
  clear holds
  go_wp2_with (first | (at_builtin; have q5 := B5.out; clear q5; refine wpList_append_grows _ rfl _ _ 22 rfl 5 i0 (.int .u8 0) 1 1 Try.underlying22 hif hz0 hz1 hz2 rfl (by decide) (some ⟨g, pO A B, none⟩) nb nb olds rfl (by simp) (by rw [HOL.out, Nat.mul_one]) O5.out ⟨w5.heap.size, 0, none⟩ 1 1 [.int .u8 17] rfl rfl (cell_one_laid _ _ _) (by intro u hu; simp at hu; subst hu; rfl) (by omega) (by unfold maxLen; omega) (by omega) ?_; intro v6 w6 hown6 hgr6; obtain ⟨a6, c6, rfl⟩ := own_slice hown6; have B6 : Hid (Below w5.heap.size w5 w6) := L5.out.grown hgr6 (by simp) (by simp); obtain ⟨g6, hg6, c66⟩ := last_cell hown6 HOL.out; subst hg6; obtain ⟨g5, hg5, c55⟩ := last_cell (Kept.owns OW5.out (Kept.of_below (S := fun _ => False) B6.out) (fun _ _ h => h)) HOL.out; subst hg5; clear hown6 hgr6) | (at_builtin; refine wpList_append_grows _ rfl _ _ 22 rfl 5 i0 (.int .u8 0) 1 1 Try.underlying22 hif hz0 hz1 hz2 rfl (by decide) (some ⟨g, pO A B, none⟩) nb nb olds rfl (by simp) (by rw [HOL.out, Nat.mul_one]) O1.out ⟨w2.heap.size, 0, none⟩ 1 1 [.int .u8 238] rfl rfl (cell_one_laid _ _ _) (by intro u hu; simp at hu; subst hu; rfl) (by omega) (by unfold maxLen; omega) (by omega) ?_; intro v5 w5 hown5 hgr5; obtain ⟨a5, c5, rfl⟩ := own_slice hown5; have B5 : Hid (Below w2.heap.size w2 w5) := L1.out.grown hgr5 (by simp) (by simp); have OW5 := Hid.mk' (ownsRow_base hown5 (by simp : w2.heap.size ≤ _)); have L5 : Hid (Below w5.heap.size w5 (w5.alloc (.cells #[.int .u8 17] 5))) := (Below.refl _ _).alloc (Nat.le_refl _) _; have O5 := Hid.mk' (olds_of ((BB.out.below B5.out).below L5.out)); rw [← HOE.out] at O5; clear hown5 hgr5))
  have HF : Hid (Dn W N S w6 p q m) := ⟨_, _, _, _, P2.less H.out B1.out ((P2'.out.below B5.out).below B6.out), by omega⟩
  clear P2' B5 B6 B1 OW5 L5 O5 L1 O1 K2
  go_wp2_with fail
  go_ret
  exact ⟨rfl, HF.out⟩

set_option maxHeartbeats 2000000 in
set_option maxRecDepth 100000 in
theorem done_write (W : World) (N : Nat) (S : Nat → Prop) (w : World) (p q : Nat) (B : List Int) (a d m : Nat) (kd n x k v : Int) (h : Pl W N S w p q B a d m)
    (hbr : ∀ u : World, Calls Try.prog 14 #[.int .i64 kd, .int .i64 6] u fun e w' => e = .returned (.int .i64 4) ∧ u = w') :
    Calls Try.prog 12 #[.pointer (some ⟨p, 0, none⟩), .pointer (some ⟨q, 0, none⟩), .agg #[.int .i64 kd, .int .i64 n, .int .i64 x, .int .i64 k, .int .u64 v]] w fun e w' => e = .returned (.bool true) ∧ Dn W N S w' p q m := by
  obtain ⟨hl, ha, hd, _, hbb⟩ := h.bounds
  have H := Hid.mk' h
  clear h hbb
  go_enter Try.func12, Try.ntmps12
  go_wp2_with fail
  refine (hbr _).mono ?_
  rintro e w1 ⟨rfl, hw1⟩
  obtain ⟨P1, B1, e0, e1, e2, e3, e4⟩ := done_start H.out hw1
  clear hw1 e1 e3
  obtain ⟨g, A, D, bv, h1, hA, hD, h4, h5, h6, h7⟩ := P1.out.is
  obtain ⟨xb, cb, rfl, -, -⟩ := h4.bs
  obtain ⟨nb, hnb⟩ : ∃ n, n = B.length := ⟨_, rfl⟩
  have hdata := data_any p g A B D m w1 h1
  have r0 := h4.cells.1
  rw [← hnb] at hdata r0 hl h4 h5 h7
  have HNB := Hid.mk' hnb.symm
  have K1 := Hid.mk' h1
  have R1 := Hid.mk' h4
  have H5 := Hid.mk' h5
  have H6 := Hid.mk' h6
  have H7 := Hid.mk' h7
  have HLA := Hid.mk' hA
  have HLD := Hid.mk' hD
  have R0 := Hid.mk' r0
  clear hnb h1 h4 r0 h5 h6 h7 hA hD
  go_wp2_with fail
  refine hdata.mono ?_
  rintro e w2 ⟨rfl, d2⟩
  have r2 := (d2.cell _).trans R0.out
  have P2' := Hid.mk' (P1.out.dr d2)
  have K2 := Hid.mk' (K1.out.dr d2)
  have R2 := Hid.mk' (R1.out.dr d2)
  have f0 := P2'.out.box e0
  have f2 := P2'.out.box e2
  have f4 := P2'.out.box e4
  clear d2 hdata P1 K1 R0 e0 R1
  go_wp2_with fail
  refine (hbr _).mono ?_
  rintro e w3 ⟨rfl, rfl⟩
  by_cases hin : 0 ≤ x ∧ x < nb
  · obtain ⟨y, rfl⟩ : ∃ y : Nat, x = y := ⟨x.toNat, by omega⟩
    have hy : y < nb := by omega
    have hyi : (y : Int) < (nb : Int) := by omega
    clear hin
    have hO : pO A B = A.length := by unfold pO; rw [if_neg (by rw [HNB.out]; omega)]
    rw [hO]
    clear hO
    obtain ⟨gb, c, hgc, hcap⟩ := R2.out.lies (by rw [HNB.out]; omega)
    simp only [Value.slice.injEq] at hgc
    obtain ⟨rfl, -, rfl⟩ := hgc
    have R2' : RfIs w2 N q (.slice (some ⟨gb, 0, none⟩) B.length cb) B a d m := by rw [HNB.out]; exact R2.out
    obtain ⟨c1, f1⟩ := K2.out.byte y (by rw [HNB.out]; exact hy)
    obtain ⟨c2, ff2⟩ := R2'.byte y (by rw [HNB.out]; exact hy)
    have hne : ¬ g = gb := fun e => H5.out g (.inr rfl) (.inr (by rw [e]; rfl))
    have hne' : ¬ gb = g := fun e => hne e.symm
    have hgq : ¬ g = q := fun e => H5.out g (.inr rfl) (.inl e)
    have hgx : ¬ g = w.heap.size := fun e => H6.out g (.inr rfl) (.inr e)
    have hqg : ¬ q = g := fun e => hgq e.symm
    have hxg : ¬ w.heap.size = g := fun e => hgx e.symm
    have PK := K2.out.put y (v % 256) (by rw [HNB.out]; exact hy) (by omega) (by omega)
    have kk : Kept (fun i => i = g) w2 (w2.setCell ⟨g, A.length + y, none⟩ (.int .u8 (v % 256))) := (Kept.refl (fun i => i = g) w2).setCell (p := ⟨g, A.length + y, none⟩) (fun _ => rfl) _
    have RK : RfIs (w2.setCell ⟨g, A.length + y, none⟩ (.int .u8 (v % 256))) N q (.slice (some ⟨gb, 0, none⟩) B.length cb) B a d m := by
      rw [HNB.out]; exact R2.out.kept kk (fun i hi e => H5.out i (.inr e) hi)
    have RP := RK.put y (v % 256) (by omega) (by omega)
    have k2 : Kept (fun i => i = gb) (w2.setCell ⟨g, A.length + y, none⟩ (.int .u8 (v % 256))) ((w2.setCell ⟨g, A.length + y, none⟩ (.int .u8 (v % 256))).setCell ⟨gb, y, none⟩ (.int .u8 (v % 256))) := (Kept.refl (fun i => i = gb) _).setCell (p := ⟨gb, y, none⟩) (fun _ => rfl) _
    have HF : Hid (Dn W N S ((w2.setCell ⟨g, A.length + y, none⟩ (.int .u8 (v % 256))).setCell ⟨gb, y, none⟩ (.int .u8 (v % 256))) p q m) := by
      refine ⟨B.set y (v % 256), a, d, m, P2.less (T := fun i => i = w.heap.size) H.out B1.out ?_, by omega⟩
      refine ⟨⟨g, A, D, _, PK.kept k2 (fun e => H5.out p (.inl rfl) (.inr (by rw [e]; rfl))) hne, HLA.out, HLD.out, RP, ?_, H6.out, ?_⟩, P2'.out.low, ?_⟩
      · rw [HNB.out]; exact H5.out
      · rw [HNB.out]; exact H7.out
      · exact (P2'.out.old.then kk (fun i _ e => H6.out i (.inr e))).then k2 (fun i _ e => H7.out i (.inr (by rw [e]; rfl)))
    generalize B.getD y 0 = z at c1 c2
    clear PK kk RK RP k2 R2' P2' K2 R2 H5 H6 H7
    have r2' : (w2.setCell ⟨g, A.length + y, none⟩ (.int .u8 (v % 256))).cell? ⟨q, 0, none⟩ = some (.slice (some ⟨gb, 0, none⟩) nb cb) := by rw [World.cell?_setCell_other _ _ _ _ (by simp)]; exact r2
    have f2' : (w2.setCell ⟨g, A.length + y, none⟩ (.int .u8 (v % 256))).cell? ⟨w.heap.size, 2, none⟩ = some (.int .i64 y) := by rw [World.cell?_setCell_other _ _ _ _ (by simp)]; exact f2
    have f4' : (w2.setCell ⟨g, A.length + y, none⟩ (.int .u8 (v % 256))).cell? ⟨w.heap.size, 4, none⟩ = some (.int .u64 v) := by rw [World.cell?_setCell_other _ _ _ _ (by simp)]; exact f4
    have c2' : (w2.setCell ⟨g, A.length + y, none⟩ (.int .u8 (v % 256))).cell? ⟨gb, y, none⟩ = some (.int .u8 z) := by rw [World.cell?_setCell_other _ _ _ _ (by simp)]; exact c2
    have ff2' : (w2.setCell ⟨g, A.length + y, none⟩ (.int .u8 (v % 256))).frozen? ⟨gb, y, none⟩ = false := by rw [World.frozen?_setCell]; exact ff2
    go_wp2_with fail
    clear r2 f2 f4 c1 c2 f1 ff2 f0
    generalize w2.setCell ⟨g, A.length + y, none⟩ (.int .u8 (v % 256)) = w4 at *
    go_region_with (fail)
    all_goals
      go_wp2_with fail
      go_ret
      exact ⟨rfl, Dn.dr HF.out ⟨1, rfl⟩⟩
  · have HF : Hid (Dn W N S w2 p q m) := ⟨_, _, _, _, P2.less H.out B1.out P2'.out, by omega⟩
    clear P2' K2 R2 B1
    go_wp2_with fail
    all_goals
      go_ret
      exact ⟨rfl, HF.out⟩

theorem tmod_six {kd : Int} (h0 : -9223372036854775808 ≤ kd) (h1 : kd ≤ 9223372036854775807) : ∃ r : Nat, r < 6 ∧ ∀ u : World, Calls Try.prog 14 #[.int .i64 kd, .int .i64 6] u fun e w' => e = .returned (.int .i64 r) ∧ u = w' :=
  bring_fix kd 6 (by omega) (by omega) h0 h1

/-- 'done', whatever is asked. -/
theorem done_any (W : World) (N : Nat) (S : Nat → Prop) (w : World) (p q : Nat) (B : List Int) (a d m : Nat) (kd n x k v : Int) (h : Pl W N S w p q B a d m) (hm : m + 1 ≤ 100000) (hk0 : -9223372036854775808 ≤ kd) (hk1 : kd ≤ 9223372036854775807) (hx : -9223372036854775808 ≤ x) (hx' : x ≤ 9223372036854775807) (v0 : 0 ≤ v) (v1 : v ≤ 18446744073709551615) :
    Calls Try.prog 12 #[.pointer (some ⟨p, 0, none⟩), .pointer (some ⟨q, 0, none⟩), .agg #[.int .i64 kd, .int .i64 n, .int .i64 x, .int .i64 k, .int .u64 v]] w fun e w' => e = .returned (.bool true) ∧ Dn W N S w' p q m := by
  obtain ⟨r, hr, hbr⟩ := tmod_six hk0 hk1
  by_cases h4 : r < 4
  · exact done_calls W N S w p q B a d m kd n x k v r h4 h hm hx hx' v0 v1 hbr
  · by_cases h5 : r = 4
    · subst h5
      exact done_write W N S w p q B a d m kd n x k v h hbr
    · obtain rfl : r = 5 := by omega
      exact done_app W N S w p q B a d m kd n x k v h hbr
end Go.Proofs.Ytllhamcolinedaa
