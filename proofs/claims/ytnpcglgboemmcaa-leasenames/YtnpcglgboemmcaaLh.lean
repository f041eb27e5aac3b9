/- A block of bytes that may be written (Buf); the contract of the statements' own 'over': a window is just the bytes of its range, and nothing is changed behind it. -/
import Derived.Test.YtnpcglgboemmcaaLg
import Derived.Test.YtnpcglgboemmcaaBc
namespace Go.Proofs.Ytnpcglgboemmcaa
open Go.ChangeShapes Go.WideShapes Go.ChangeAt Go.RowKit

/-- Block g begins with the bytes zs; none of its cells is frozen. -/
structure Buf (w : World) (g : Nat) (zs : List Int) : Prop where
  len : zs.length ≤ 140737488355328
  bytes : Bytes zs
  cell : ∀ i, i < zs.length → w.cell? ⟨g, i, none⟩ = some (.int .u8 (zs.getD i 0))
  free : ∀ i, w.frozen? ⟨g, i, none⟩ = false

theorem Buf.bs {w : World} {g : Nat} {zs : List Int} (h : Buf w g zs) : Bs w (some ⟨g, 0, none⟩) zs :=
  ⟨h.len, h.bytes, .inr ⟨g, 0, rfl, fun i hi => by rw [Nat.zero_add]; exact h.cell i hi⟩⟩

theorem Buf.sub {w : World} {g : Nat} {zs : List Int} (h : Buf w g zs) (x y : Nat) (hxy : x + y ≤ zs.length) : Bs w (some ⟨g, x, none⟩) ((zs.drop x).take y) := by
  have hl := h.len
  have e : ((zs.drop x).take y).length = y := by rw [List.length_take, List.length_drop]; omega
  refine ⟨by rw [e]; omega, fun z hz => h.bytes z (List.mem_of_mem_drop (List.mem_of_mem_take hz)), .inr ⟨g, x, rfl, fun i hi => ?_⟩⟩
  rw [e] at hi
  rw [h.cell (x + i) (by omega), List.getD_eq_getElem?_getD, List.getD_eq_getElem?_getD, List.getElem?_take_of_lt hi, List.getElem?_drop]

theorem Buf.below {w w' : World} {g : Nat} {zs : List Int} (h : Buf w g zs) (hg : g < w.heap.size) (b : Below w.heap.size w w') : Buf w' g zs :=
  ⟨h.len, h.bytes, fun i hi => (b.cell (p := ⟨g, i, none⟩) hg).trans (h.cell i hi), fun i => (b.frozen (p := ⟨g, i, none⟩) hg).trans (h.free i)⟩

theorem Buf.kept {S : Nat → Prop} {w w' : World} {g : Nat} {zs : List Int} (h : Buf w g zs) (hg : g < w.heap.size) (k : Kept S w w') (hs : ¬ S g) : Buf w' g zs :=
  ⟨h.len, h.bytes, fun i hi => (World.cell?_of_block (w := w) (k.block g hg hs)).trans (h.cell i hi), fun i => (World.frozen?_of_block (w := w) (a := ⟨g, i, none⟩) (k.block g hg hs)).trans (h.free i)⟩

/-- A row of bytes of the call's own, as a block of bytes. -/
theorem buf_own {w : World} {base : Nat} {t : TypeId} {g n cap : Nat} {zs : List Int} (h : w.ownsRow base t 1 (.slice (some ⟨g, 0, none⟩) n cap) n (zs.map (Value.int .u8))) (hb : Bytes zs) (hl : zs.length ≤ 140737488355328) : Buf w g zs := by
  have hn := h.1
  simp at hn
  refine ⟨hl, hb, fun i hi => ?_, fun i => h.frozenAt i⟩
  rw [h.cellAt i (by omega)]
  simp [hi]

theorem cell_one_laid (w : World) (a : Value) (t : TypeId) : ∀ j u, [a][j]? = some u → (w.alloc (.cells #[a] t)).cell? ((⟨w.heap.size, 0, none⟩ : Addr).add j) = some u := by
  intro j u hj
  rw [addr_add, Nat.zero_add, World.cell?_alloc_new]
  match j, hj with
  | 0, hj => simpa using hj

theorem xor90 (z : Int) (h0 : 0 ≤ z) (h1 : z ≤ 255) : bits .xor .u8 (bits .xor .u8 z 90) 90 = z := by
  rw [u8_xor z 90 h0 (by omega) (by omega) (by omega)]
  have hlt : z.toNat ^^^ (90 : Int).toNat < 256 := Nat.xor_lt_two_pow (n := 8) (by omega) (by decide)
  rw [u8_xor _ 90 (by omega) (by omega) (by omega) (by omega)]
  rw [Int.toNat_natCast, Nat.xor_assoc, Nat.xor_self, Nat.xor_zero]
  omega

set_option maxHeartbeats 2000000 in
theorem over_some (g n c x y : Nat) (zs : List Int) (w : World) (h : Buf w g zs) (hn : zs.length = n) (hc : n ≤ c) (hxy : x + y ≤ n) (hy : 0 < y) (hbig : n ≤ 140737488351300) :
    Calls Try.prog 12 #[.slice (some ⟨g, 0, none⟩) n c, .slice (some ⟨g, x, none⟩) y y, .agg #[.int .i64 x, .int .i64 y]] w fun e w' => e = .returned (.bool true) ∧ Below w.heap.size w w' := by
  obtain ⟨i0, hif, hz0, hz1, hz2⟩ := info_parts info_u8
  have hglt : g < w.heap.size := lt_of_cell (h.cell 0 (by omega))
  have HN := Hid.mk' hn
  have HB := Hid.mk' h
  clear h hn
  have hb0 : Below w.heap.size w (w.alloc (.cells #[.int .i64 x, .int .i64 y] 24)) := (Below.refl _ _).alloc (Nat.le_refl _) _
  have HB0 := Hid.mk' hb0
  clear hb0
  have hys : ((zs.drop x).take y).length = y := by rw [List.length_take, List.length_drop, HN.out]; omega
  have HYS := Hid.mk' hys
  clear hys
  have hcx : ¬ c = x := by omega
  go_enter Try.func12, Try.ntmps12
  go_wp2_with fail
  refine (eq_at _ _ y y y (c - x) ((zs.drop x).take y) ((zs.drop x).take y) _ HYS.out HYS.out ((HB.out.sub x y (by rw [HN.out]; exact hxy)).below HB0.out) ((HB.out.sub x y (by rw [HN.out]; exact hxy)).below HB0.out)).mono ?_
  rintro e w1 ⟨rfl, d1⟩
  rw [show decide ((zs.drop x).take y = (zs.drop x).take y) = true from by simp]
  have b1 : Below w.heap.size w w1 := HB0.out.trans (d1.below _)
  have e0 : w1.cell? ⟨w.heap.size, 0, none⟩ = some (.int .i64 x) := by rw [d1.cell]; simp
  have e1 : w1.cell? ⟨w.heap.size, 1, none⟩ = some (.int .i64 y) := by rw [d1.cell]; simp
  have hs1 : w.heap.size < w1.heap.size := by rw [d1.heap]; simp
  clear d1 HB0
  go_wp2_with fail
  refine (copy_at _ n c zs _ HN.out (HB.out.bs.below b1) (by simp)).mono ?_
  rintro e w2 ⟨v, rfl, hown, b2⟩
  obtain ⟨gv, cv, hv, hgv, hncv⟩ : ∃ gv cv, v = .slice (some ⟨gv, 0, none⟩) n cv ∧ w1.heap.size ≤ gv ∧ n ≤ cv := by
    rcases hown.2 with ⟨_, h0⟩ | ⟨gv, cv, cur, hv, hg, _, hc', _⟩
    · omega
    · exact ⟨gv, cv, hv, hg, hc'⟩
  subst hv
  have b3 : Below w.heap.size w w2 := b1.trans (b2.mono b1.size)
  have e2 : w2.cell? ⟨w.heap.size, 0, none⟩ = some (.int .i64 x) := (b2.cell (p := ⟨w.heap.size, 0, none⟩) hs1).trans e0
  have e3 : w2.cell? ⟨w.heap.size, 1, none⟩ = some (.int .i64 y) := (b2.cell (p := ⟨w.heap.size, 1, none⟩) hs1).trans e1
  have HG := Hid.mk' (HB.out.below hglt b3)
  have HV : Hid (Buf w2 gv zs) := buf_own hown HB.out.bytes HB.out.len
  have hs2 : w1.heap.size ≤ w2.heap.size := b2.size
  have hgv2 : gv < w2.heap.size := by have := (hown.lt gv rfl).2; exact this
  clear b1 e0 e1 b2 hown
  go_wp2_with fail
  go_loopw [8] (fun i wr => ∃ k : Nat, k ≤ y ∧ i = .int .i64 k ∧ Dr w2 wr) (fun i _ => y - (intOf i).toNat)
  case atStart => exact ⟨0, Nat.zero_le _, rfl, Dr.refl w2⟩
  case round =>
    obtain ⟨k, hk, rfl, hd⟩ := hrel
    have e4 := (hd.cell ⟨w.heap.size, 0, none⟩).trans e2
    have e5 := (hd.cell ⟨w.heap.size, 1, none⟩).trans e3
    have hr2 : wr.heap.size = w2.heap.size := by rw [hd.heap]
    have hrl : w1.heap.size ≤ wr.heap.size := by omega
    by_cases hlt : k < y
    · have q0 := (hd.cell _).trans (HG.out.cell (x + k) (by rw [HN.out]; omega))
      have q1 := (hd.cell _).trans (HV.out.cell (x + k) (by rw [HN.out]; omega))
      have qb := HB.out.bytes.getD (x + k)
      have qf : wr.frozen? ⟨g, x + k, none⟩ = false := (hd.frozen _).trans (HG.out.free _)
      generalize zs.getD (x + k) 0 = z at q0 q1 qb
      have hx90 := xor90 z qb.1 qb.2
      have hsp : (k : Int) < (y : Int) := by omega
      have hsp2 : (x : Int) + (k : Int) < (n : Int) := by omega
      have hgw : ¬ g = w.heap.size := by omega
      have hggv : ¬ g = gv := by omega
      have hgv' : ¬ gv = g := by omega
      have hgw' : ¬ w.heap.size = g := by omega
      clear hr2
      go_wp2_with fail
      have r0 : (wr.setCell ⟨g, x + k, none⟩ (.int .u8 (bits .xor .u8 z 90))).cell? ⟨w.heap.size, 0, none⟩ = some (.int .i64 x) := by rw [World.cell?_setCell_other _ _ _ _ (by simp)]; exact e4
      have r1 : (wr.setCell ⟨g, x + k, none⟩ (.int .u8 (bits .xor .u8 z 90))).cell? ⟨w.heap.size, 1, none⟩ = some (.int .i64 y) := by rw [World.cell?_setCell_other _ _ _ _ (by simp)]; exact e5
      have r2 : (wr.setCell ⟨g, x + k, none⟩ (.int .u8 (bits .xor .u8 z 90))).cell? ⟨gv, x + k, none⟩ = some (.int .u8 z) := by rw [World.cell?_setCell_other _ _ _ _ (by simp)]; exact q1
      have r3 : (wr.setCell ⟨g, x + k, none⟩ (.int .u8 (bits .xor .u8 z 90))).cell? ⟨g, x + k, none⟩ = some (.int .u8 (bits .xor .u8 z 90)) := World.cell?_setCell_same _ _ _ q0
      have r4 : (wr.setCell ⟨g, x + k, none⟩ (.int .u8 (bits .xor .u8 z 90))).frozen? ⟨g, x + k, none⟩ = false := by rw [World.frozen?_setCell]; exact qf
      have R5 := Hid.mk' (setCell_back wr ⟨g, x + k, none⟩ (.int .u8 (bits .xor .u8 z 90)) _ q0)
      clear e4 e5 q0 q1 qf hrl
      generalize wr.setCell ⟨g, x + k, none⟩ (.int .u8 (bits .xor .u8 z 90)) = w4 at *
      go_quiet (fail)
      go_wp2_with fail
      go_roundw
      case rel =>
        refine ⟨k + 1, hlt, by go_num, ?_⟩
        have : (w4.drewN nq).setCell ⟨g, x + k, none⟩ (.int .u8 z) = wr.drewN nq := by rw [← R5.out]; rfl
        rw [this]
        exact hd.more _
      case measure => simp [intOf]; omega
    · have hky : k = y := by omega
      subst hky
      have hrg : g < wr.heap.size := by omega
      have hrw : w.heap.size < wr.heap.size := by omega
      have hrv : gv < wr.heap.size := by omega
      clear hr2
      have HO : Hid (∀ b, (some (⟨g, x, none⟩ : Addr)) = some b → ∀ j u, (((zs.drop x).take k).map (Value.int .u8))[j]? = some u → (wr.alloc (.cells #[.int .u8 238] 5)).cell? (b.add j) = some u) := by
        intro b hb j u hj
        cases hb
        have hjl := (List.getElem?_eq_some_iff.1 hj).1
        rw [List.length_map, HYS.out] at hjl
        rw [addr_add, World.cell?_alloc_past (hn := hrg), hd.cell, HG.out.cell (x + j) (by rw [HN.out]; omega)]
        rw [List.getElem?_map, List.getElem?_take_of_lt hjl, List.getElem?_drop] at hj
        rw [List.getD_eq_getElem?_getD]
        cases hz : zs[x + j]? with
        | none => rw [hz] at hj; cases hj
        | some z => rw [hz] at hj; simpa using hj
      have hx1 : ((k : Int) + 1 == (k : Int) + 1) = true := by simp
      go_wp2_with (at_builtin; refine wpList_append_grows _ rfl _ _ 22 rfl 5 i0 (.int .u8 0) 1 1 Try.underlying22 hif hz0 hz1 hz2 rfl (by decide) (some ⟨g, x, none⟩) k k (((zs.drop x).take k).map (Value.int .u8)) rfl (by simp) (by rw [List.length_map, HYS.out, Nat.mul_one]) HO.out ⟨wr.heap.size, 0, none⟩ 1 1 [.int .u8 238] rfl rfl (cell_one_laid _ _ _) (by intro u hu; simp at hu; subst hu; rfl) (by omega) (by unfold maxLen; omega) (by omega) ?_; intro v5 w5 hown5 hgr5; obtain ⟨a5, c5, rfl⟩ := own_slice hown5; have b5 : Below wr.heap.size wr w5 := ((Below.refl _ _).alloc (Nat.le_refl _) _).grown hgr5 (by simp) (by simp); have B5 := Hid.mk' b5; have e6 := (b5.cell (p := ⟨w.heap.size, 1, none⟩) hrw).trans e5; clear hown5 hgr5 b5)
      have B6 : Below w.heap.size w w5 := b3.trans ((hd.below _).trans (B5.out.mono (by omega)))
      refine (eq_at _ _ n n c cv zs zs _ HN.out HN.out ((HB.out.below hglt B6).bs) (((hd.bs HV.out.bs)).below B5.out)).mono ?_
      rintro e w6 ⟨rfl, d6⟩
      rw [show decide (zs = zs) = true from by simp]
      have B7 : Below w.heap.size w w6 := B6.trans (d6.below _)
      clear B6 d6 e6 e5 e4
      go_wp2_with fail
      go_ret
      exact ⟨rfl, B7⟩

set_option maxHeartbeats 2000000 in
/-- .. a window of no bytes. -/
theorem over_none (a : Option Addr) (n c x : Nat) (zs : List Int) (w : World) (h : Bs w a zs) (hn : zs.length = n) (hc : n ≤ c) (ha : a = none → c = 0) (hx : x ≤ n) (hbig : n ≤ 140737488351300) :
    Calls Try.prog 12 #[.slice a n c, .slice a 0 0, .agg #[.int .i64 x, .int .i64 0]] w fun e w' => e = .returned (.bool true) ∧ Below w.heap.size w w' := by
  obtain ⟨i0, hif, hz0, hz1, hz2⟩ := info_parts info_u8
  have HN := Hid.mk' hn
  have HB := Hid.mk' h
  have HA := Hid.mk' ha
  clear h hn ha
  have HB0 : Hid (Below w.heap.size w (w.alloc (.cells #[.int .i64 x, .int .i64 0] 24))) := (Below.refl _ _).alloc (Nat.le_refl _) _
  obtain ⟨a', ha'⟩ : ∃ a', (if c = x then a else a.map (·.add x)) = a' := ⟨_, rfl⟩
  have he0 : ∀ (W : World) (p : Option Addr), Bs W p [] := fun W p => ⟨by simp, fun z hz => by simp at hz, .inl rfl⟩
  have HE := Hid.mk' he0
  clear he0
  go_enter Try.func12, Try.ntmps12
  go_wp2_with fail
  all_goals
    refine (eq_at _ _ 0 0 _ _ [] [] _ rfl rfl (HE.out _ _) (HE.out _ _)).mono ?_
    rintro e w1 ⟨rfl, d1⟩
    rw [show decide (([] : List Int) = []) = true from by simp]
    have b1 : Below w.heap.size w w1 := HB0.out.trans (d1.below _)
    have e0 : w1.cell? ⟨w.heap.size, 0, none⟩ = some (.int .i64 x) := by rw [d1.cell]; simp
    have e1 : w1.cell? ⟨w.heap.size, 1, none⟩ = some (.int .i64 0) := by rw [d1.cell]; simp
    have hs1 : w.heap.size < w1.heap.size := by rw [d1.heap]; simp
    clear d1
    go_wp2_with fail
    refine (copy_at _ n c zs _ HN.out (HB.out.below b1) HA.out).mono ?_
    rintro e w2 ⟨v, rfl, hown, b2⟩
    obtain ⟨av, cv, rfl⟩ := own_slice hown
    have b3 : Below w.heap.size w w2 := b1.trans (b2.mono b1.size)
    have e3 : w2.cell? ⟨w.heap.size, 1, none⟩ = some (.int .i64 0) := (b2.cell (p := ⟨w.heap.size, 1, none⟩) hs1).trans e1
    have HV : Hid (Bs w2 av zs) := by
      obtain ⟨a2, c2, h2, h3, _⟩ := bs_own (zs := zs) (by rw [HN.out]; exact hown) HB.out.bytes HB.out.len
      simp only [Value.slice.injEq] at h2
      rw [h2.1]; exact h3
    have hs2 : w.heap.size < w2.heap.size := by have := b2.size; omega
    clear b1 e0 e1 b2 hown
    go_wp2_with fail
    go_loopw [8] (fun i wr => i = .int .i64 0 ∧ wr = w2) (fun _ _ => 0)
    case atStart => exact ⟨rfl, rfl⟩
    case round =>
      obtain ⟨rfl, rfl⟩ := hrel
      go_wp2_with (at_builtin; refine wpList_append_grows _ rfl _ _ 22 rfl 5 i0 (.int .u8 0) 1 1 Try.underlying22 hif hz0 hz1 hz2 rfl (by decide) a 0 0 [] rfl (by simp) (by simp) (by simp) ⟨_, 0, none⟩ 1 1 [.int .u8 238] rfl rfl (cell_one_laid _ _ _) (by intro u hu; simp at hu; subst hu; rfl) (by omega) (by unfold maxLen; omega) (by omega) ?_; intro v5 w5 hown5 hgr5; obtain ⟨a5, c5, rfl⟩ := own_slice hown5; have b5 := ((Below.refl _ _).alloc (Nat.le_refl _) _).grown hgr5 (by simp) (by simp); have B5 := Hid.mk' b5; have e6 := (b5.cell (p := ⟨w.heap.size, 1, none⟩) hs2).trans e3; clear hown5 hgr5 b5)
      have B6 : Below w.heap.size w w5 := b3.trans (B5.out.mono (by omega))
      refine (eq_at _ _ n n c cv zs zs _ HN.out HN.out (HB.out.below B6) (HV.out.below B5.out)).mono ?_
      rintro e w6 ⟨rfl, d6⟩
      rw [show decide (zs = zs) = true from by simp]
      have B7 : Below w.heap.size w w6 := B6.trans (d6.below _)
      clear B6 d6 e6
      go_wp2_with fail
      go_ret
      exact ⟨rfl, B7⟩
end Go.Proofs.Ytnpcglgboemmcaa
