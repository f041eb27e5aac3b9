/- TrackSound. -/
import Derived.Test.YtagnaefpkgekmaaCw
import Derived.Test.YtagnaefpkgekmaaCt
namespace Go.Proofs.Ytagnaefpkgekmaa
open Go.ChangeShapes Go.WideShapes Go.ChangeAt Go.RowKit Go.Maps Go.Sort Go.Shelf
set_option maxRecDepth 10000

theorem Bx14.lt {W : World} {q : Nat} {k mi ma id vo k' mi' ma' id' vo' op of sz : Int} {yes : Bool} (h : Bx14 W q k mi ma id vo k' mi' ma' id' vo' op of sz yes) : q < W.heap.size := (Array.getElem?_eq_some_iff.1 h).1
/-- A struct is loaded, by an operation that is guarded and wanted. -/
theorem wpList_load_midG {ops : Array Oper} {rest : List Oper} {op : Oper} {a : Act} {w : World} {Q : Exit → Act → World → Prop} (hw : Region.wanted op (yielded ops a.tmps) = true) (ty : TypeId) (x : Operand) (ho : op.op = .load ty x)
    (b o : Nat) (hx : a.eval x = .pointer (some ⟨b, o, none⟩)) (cs : List Value) (d : TypeDesc) (hc : w.rangeAt b o cs)
    (hu : Try.prog.underlying ty = some d) (hd : d.isRow = true) (hi : (Try.prog.info? ty).map (·.size) = some cs.length)
    (h : wpList Try.prog ops Q rest (a.put op.dst (.agg cs.toArray)) w) : wpList Try.prog ops Q (op :: rest) a w :=
  wpList_step fun _ hK => by rw [if_pos hw]; exact wp_load_mid ty x ho b o hx cs d hc hu hd hi (hK _ _ h)


theorem op_or (op : Int) : 29 + op % 4 = 29 ∨ 29 + op % 4 = 30 ∨ 29 + op % 4 = 31 ∨ 29 + op % 4 = 32 := by omega
theorem wrap_u8 {n : Int} (h : 0 ≤ n ∧ n ≤ 255) : IntKind.u8.wrap n = n := by rw [IntKind.wrap_u8]; omega

set_option maxHeartbeats 16000000 in
theorem sound_any (zs0 : List Int) (a : Option Addr) (c : Nat) (xs : List Kn) (k mi ma id vo k' mi' ma' id' vo' op of sz : Int) (yes : Bool) (W : World) (hzl : zs0.length = 11) (hzi : ∀ z ∈ zs0, In64 z) (hk : Ks W (.slice a xs.length c) xs) (xbig : xs.length * 16 ≤ 140737488351232) (hid : In64 id) (hvo : In64 vo) (hop : 0 ≤ op ∧ op ≤ 255) (hof : In64 of) (hsz : In64 sz) :
    Calls Try.prog 6 #[.agg (intC zs0).toArray, .slice a xs.length c, .agg #[.int .u8 k, .int .u64 mi, .int .u64 ma, .int .i64 id, .int .i64 vo, .int .u8 k', .int .u64 mi', .int .u64 ma', .int .i64 id', .int .i64 vo', .int .u8 op, .bool yes, .int .i64 of, .int .i64 sz]] W fun e w' => e = .returned (.bool true) ∧ Below W.heap.size W w' := by
  have KL0 := Hid.mk' hk
  have KMD := fun u => made_any zs0 u hzl hzi
  have hz0l := Hid.mk' hzl
  clear hk hzi hzl
  have HB0 : Hid (Below W.heap.size W ((W.alloc (.cells (intC zs0).toArray 48)).alloc (.cells #[.int .u8 k, .int .u64 mi, .int .u64 ma, .int .i64 id, .int .i64 vo, .int .u8 k', .int .u64 mi', .int .u64 ma', .int .i64 id', .int .i64 vo', .int .u8 op, .bool yes, .int .i64 of, .int .i64 sz] 41))) := Hid.mk' (((Below.refl _ _).alloc (Nat.le_refl _) _).alloc (by simp) _)
  have WB0 : Hid (Wb ((W.alloc (.cells (intC zs0).toArray 48)).alloc (.cells #[.int .u8 k, .int .u64 mi, .int .u64 ma, .int .i64 id, .int .i64 vo, .int .u8 k', .int .u64 mi', .int .u64 ma', .int .i64 id', .int .i64 vo', .int .u8 op, .bool yes, .int .i64 of, .int .i64 sz] 41)) W.heap.size zs0) := Hid.mk' ((Below.heap_alloc _ _ _ (by simp)).trans (World.alloc_heap_new W _))
  have BX0 : Hid (Bx14 ((W.alloc (.cells (intC zs0).toArray 48)).alloc (.cells #[.int .u8 k, .int .u64 mi, .int .u64 ma, .int .i64 id, .int .i64 vo, .int .u8 k', .int .u64 mi', .int .u64 ma', .int .i64 id', .int .i64 vo', .int .u8 op, .bool yes, .int .i64 of, .int .i64 sz] 41)) (W.heap.size + 1) k mi ma id vo k' mi' ma' id' vo' op of sz yes) := Hid.mk' (by
    have := World.alloc_heap_new (W.alloc (.cells (intC zs0).toArray 48)) (.cells #[.int .u8 k, .int .u64 mi, .int .u64 ma, .int .i64 id, .int .i64 vo, .int .u8 k', .int .u64 mi', .int .u64 ma', .int .i64 id', .int .i64 vo', .int .u8 op, .bool yes, .int .i64 of, .int .i64 sz] 41)
    rw [World.size_alloc] at this
    exact this)
  go_enter Try.func6, Try.ntmps6
  go_wp2_with fail
  have KL := Hid.mk' (KL0.out.below HB0.out)
  have KST : Hid (∀ u, Below W.heap.size W u → Ks u (.slice a xs.length c) xs) := Hid.mk' (fun u hu => KL0.out.below hu)
  clear KL0
  obtain ⟨w0, hw0⟩ : ∃ u, Hid (((W.alloc (.cells (intC zs0).toArray 48)).alloc (.cells #[.int .u8 k, .int .u64 mi, .int .u64 ma, .int .i64 id, .int .i64 vo, .int .u8 k', .int .u64 mi', .int .u64 ma', .int .i64 id', .int .i64 vo', .int .u8 op, .bool yes, .int .i64 of, .int .i64 sz] 41)) = u) := ⟨_, rfl⟩
  rw [hw0.out] at HB0 WB0 BX0 KL ⊢
  clear hw0
  obtain ⟨g, hg⟩ : ∃ g, W.heap.size = g := ⟨_, rfl⟩
  obtain ⟨q, hq⟩ : ∃ q, g + 1 = q := ⟨_, rfl⟩
  rw [hg] at WB0 BX0 ⊢
  rw [hq] at BX0 ⊢
  have HG : Hid (W.heap.size ≤ g ∧ g ≠ q ∧ q ≠ g) := Hid.mk' ⟨by omega, by omega, by omega⟩
  clear hg hq
  have HB : Hid (Below W.heap.size W w0) := HB0
  have WB : Hid (Wb w0 g zs0) := WB0
  have BX : Hid (Bx14 w0 q k mi ma id vo k' mi' ma' id' vo' op of sz yes) := BX0
  clear HB0 WB0 BX0
  refine (works_any w0).mono ?_
  rintro e w1 ⟨rfl, b1⟩
  replace HB := Hid.mk' (HB.out.trans (b1.mono HB.out.size))
  replace KL := Hid.mk' (KL.out.below b1)
  replace WB := Hid.mk' (WB.out.below b1)
  replace BX := Hid.mk' (BX.out.below b1)
  clear b1
  have hil : Hid ((intC zs0).length = 11) := Hid.mk' (by unfold intC; rw [List.length_map]; exact hz0l.out)
  go_wp2_with (refine wpList_load_big rfl 48 _ rfl g 48 (intC zs0) rfl WB.out _ Try.underlying48 rfl 11 hil.out world_size ?_)
  refine (KMD w1).mono ?_
  rintro e w2 ⟨⟨zs, rfl, hz⟩, b2⟩
  replace HB := Hid.mk' (HB.out.trans (b2.mono HB.out.size))
  replace KL := Hid.mk' (KL.out.below b2)
  replace WB := Hid.mk' (WB.out.below b2)
  replace BX := Hid.mk' (BX.out.below b2)
  have HZ := Hid.mk' hz
  clear hz KMD
  clear b2
  have hil2 : Hid ((intC zs).length = 11) := Hid.mk' (by unfold intC; rw [List.length_map]; exact HZ.out.len)
  go_upto_region 4 with (refine wpList_store_over rfl 48 _ _ rfl g 48 _ _ rfl rfl WB.out 11 hil.out hil2.out world_size (intC_one _) ?_; intro w3 hst kst sst)
  replace WB : Hid (Wb w3 g zs) := Hid.mk' hst
  replace BX := Hid.mk' (show Bx14 w3 q k mi ma id vo k' mi' ma' id' vo' op of sz yes from (kst.block q BX.out.lt HG.out.2.2).trans BX.out)
  have BST : Hid (Below W.heap.size w2 w3) := Hid.mk' (kst.below HB.out.size (fun j hj e => by have := HG.out.1; omega))
  replace KL : Hid (Ks w3 (.slice a xs.length c) xs) := Hid.mk' (KST.out _ (HB.out.trans BST.out))
  replace HB := Hid.mk' (HB.out.trans BST.out)
  clear hst kst sst BST hil
  go_wp2_with (refine wpList_load_big rfl 48 _ rfl g 48 (intC zs) rfl WB.out _ Try.underlying48 rfl 11 hil2.out world_size ?_)
  refine (some_any zs (.slice a xs.length c) xs w3 HZ.out KL.out xbig).mono ?_
  rintro e w4 ⟨⟨v1, ol, rfl, hO, hol, hrow⟩, b4⟩
  replace HB := Hid.mk' (HB.out.trans (b4.mono HB.out.size))
  replace KL := Hid.mk' (KL.out.below b4)
  replace WB := Hid.mk' (WB.out.below b4)
  replace BX := Hid.mk' (BX.out.below b4)
  have HO := Hid.mk' hO
  have RO : Hid (Rw w3.heap.size w4 v1 ol) := Hid.mk' hrow
  clear hO hrow hol
  clear b4
  have KO := Hid.mk' (own_ks RO.out (out_in HO.out) (Nat.le_trans (out_len HO.out) (by decide)))
  clear RO
  clear KL
  obtain ⟨x0, x1, x2, x3, x4, x5, x6, x7, x8, x9, x10, x11, x12, x13⟩ := BX.out.cells
  have li := brg_lt id 10 (by omega)
  have lo := brg_lt vo 100 (by omega)
  have KI := fun u => brg_any id 10 u (by omega) (by omega) hid.1 hid.2
  have KO2 := fun u => brg_any vo 100 u (by omega) (by omega) hvo.1 hvo.2
  generalize brg id 10 = i at *
  generalize brg vo 100 = off at *
  have HOP : Hid (29 + op % 4 = 29 ∨ 29 + op % 4 = 30 ∨ 29 + op % 4 = 31 ∨ 29 + op % 4 = 32) := Hid.mk' (op_or op)
  go_upto_region 8 with (first
    | (go_at_call_of 30 (Value.int .i64 10); refine (KI _).mono ?_; rintro e u ⟨rfl, rfl⟩)
    | (go_at_call_of 30 (Value.int .i64 100); refine (KO2 _).mono ?_; rintro e u ⟨rfl, rfl⟩))
  obtain ⟨OP, hOP⟩ : ∃ OP, 29 + op % 4 = OP := ⟨_, rfl⟩
  rw [hOP] at HOP ⊢
  clear hOP KI KO2
  have ln := HZ.out.len
  have p0 := HZ.out.p0 i li
  have p1 := HZ.out.p1 i li
  have l0 := HZ.out.l0
  have l1 := HZ.out.l1
  have z0 := WB.out.at (k := 0) (by omega)
  have z1 := WB.out.at (k := 1 + i) (by omega)
  obtain ⟨RL, hRL, hRO⟩ := sound_first HO.out HOP.out li (off := (off : Int)) (by omega) (by omega)
  obtain ⟨RM, hRM, hRN⟩ := sound_second HO.out HOP.out li (off := (off : Int)) (by omega) (by omega)
  have SW := Hid.mk' (fun (j : Nat) (hj : j < 10) (far size : Int) (hs : 1 ≤ size ∧ size ≤ 8) => sound_within HZ.out hRO hj (off := (off : Int)) (far := far) (size := size) (by omega) (by omega) hs)
  have HRO := Hid.mk' hRO
  have HRN := Hid.mk' hRN
  clear hRO hRN
  obtain ⟨P, hP⟩ : ∃ P, zs.getD (1 + i) 0 = P := ⟨_, rfl⟩
  obtain ⟨LN, hLN⟩ : ∃ LN, zs.getD 0 0 = LN := ⟨_, rfl⟩
  rw [hP] at p0 p1 z1 hRL hRM
  rw [hLN] at l0 l1 z0 hRL hRM
  have HLN := Hid.mk' hLN
  have HRL := Hid.mk' hRL
  have HRM := Hid.mk' hRM
  clear hP hLN hRL hRM
  have hi10 : (i : Int) < 10 := by omega
  have KSO := fun a b u => so_any OP a b u HOP.out
  clear x0 x1 x2 x3 x4 x5 x6 x7 x8 x9 x10 x11 x12 x13
  go_wp2_with (go_at_call 31; refine (KSO _ _ _).mono ?_; rintro e u ⟨rfl, rfl⟩)
  refine (pointer_any (i : Int) (off : Int) _).mono ?_
  rintro e w5 ⟨rfl, b5⟩
  replace HB := Hid.mk' (HB.out.trans (b5.mono HB.out.size))
  replace WB := Hid.mk' (WB.out.below b5)
  replace BX := Hid.mk' (BX.out.below b5)
  replace KO := Hid.mk' (KO.out.below b5)
  clear z1 z0
  clear b5
  go_wp2_with fail
  refine (end_any _).mono ?_
  rintro e w6 ⟨rfl, b6⟩
  replace HB := Hid.mk' (HB.out.trans (b6.mono HB.out.size))
  replace WB := Hid.mk' (WB.out.below b6)
  replace BX := Hid.mk' (BX.out.below b6)
  replace KO := Hid.mk' (KO.out.below b6)
  clear b6
  have KQ := shown_any v1 ol OP (soB OP (P + off) LN) (ptV i off) enV w6 KO.out (by have := HOP.out; omega) (by have := HOP.out; omega) (pt_in _ _ (by unfold In64; omega) (by unfold In64; omega)) en_in
  rw [HRL.out] at KQ
  go_wp2_with fail
  refine (KQ).mono ?_
  rintro e w7 ⟨⟨va, rfl, hrow⟩, b7⟩
  replace HB := Hid.mk' (HB.out.trans (b7.mono HB.out.size))
  replace WB := Hid.mk' (WB.out.below b7)
  replace BX := Hid.mk' (BX.out.below b7)
  replace KO := Hid.mk' (KO.out.below b7)
  have KA := Hid.mk' (own_ks hrow (out_in HRO.out) (Nat.le_trans (out_len HRO.out) (by decide)))
  clear hrow KQ
  clear b7
  have z0 := WB.out.at (k := 0) (by omega)
  rw [HLN.out] at z0
  go_wp2_with (go_at_call 31; refine (KSO _ _ _).mono ?_; rintro e u ⟨rfl, rfl⟩)
  refine (end_any _).mono ?_
  rintro e w8 ⟨rfl, b8⟩
  replace HB := Hid.mk' (HB.out.trans (b8.mono HB.out.size))
  replace WB := Hid.mk' (WB.out.below b8)
  replace BX := Hid.mk' (BX.out.below b8)
  replace KO := Hid.mk' (KO.out.below b8)
  replace KA := Hid.mk' (KA.out.below b8)
  clear z0
  clear b8
  go_wp2_with fail
  refine (pointer_any (i : Int) (off : Int) _).mono ?_
  rintro e w9 ⟨rfl, b9⟩
  replace HB := Hid.mk' (HB.out.trans (b9.mono HB.out.size))
  replace WB := Hid.mk' (WB.out.below b9)
  replace BX := Hid.mk' (BX.out.below b9)
  replace KO := Hid.mk' (KO.out.below b9)
  replace KA := Hid.mk' (KA.out.below b9)
  clear b9
  have KQ := shown_any v1 ol OP (soB OP LN (P + off)) enV (ptV i off) w9 KO.out (by have := HOP.out; omega) (by have := HOP.out; omega) en_in (pt_in _ _ (by unfold In64; omega) (by unfold In64; omega))
  rw [HRM.out] at KQ
  go_wp2_with fail
  refine (KQ).mono ?_
  rintro e w10 ⟨⟨vb, rfl, hrow⟩, b10⟩
  replace HB := Hid.mk' (HB.out.trans (b10.mono HB.out.size))
  replace WB := Hid.mk' (WB.out.below b10)
  replace BX := Hid.mk' (BX.out.below b10)
  replace KO := Hid.mk' (KO.out.below b10)
  replace KA := Hid.mk' (KA.out.below b10)
  have KB := Hid.mk' (own_ks hrow (out_in HRN.out) (Nat.le_trans (out_len HRN.out) (by decide)))
  clear hrow KQ
  clear b10
  clear KO
  go_wp2_with (refine wpList_load_midG (by rfl) 48 _ rfl g 0 rfl (intC zs) _ (range_blk WB.out) Try.underlying48 rfl (by rw [hil2.out]; exact world_size) ?_)
  refine (holds_any zs va RL w10 HZ.out KA.out HRO.out.hl).mono ?_
  rintro e w11 ⟨rfl, b11⟩
  replace HB := Hid.mk' (HB.out.trans (b11.mono HB.out.size))
  replace WB := Hid.mk' (WB.out.below b11)
  replace BX := Hid.mk' (BX.out.below b11)
  replace KA := Hid.mk' (KA.out.below b11)
  replace KB := Hid.mk' (KB.out.below b11)
  clear b11
  go_wp2_with (refine wpList_load_midG (by rfl) 48 _ rfl g 0 rfl (intC zs) _ (range_blk WB.out) Try.underlying48 rfl (by rw [hil2.out]; exact world_size) ?_)
  refine (holds_any zs vb RM w11 HZ.out KB.out HRN.out.hl).mono ?_
  rintro e w12 ⟨rfl, b12⟩
  replace HB := Hid.mk' (HB.out.trans (b12.mono HB.out.size))
  replace WB := Hid.mk' (WB.out.below b12)
  replace BX := Hid.mk' (BX.out.below b12)
  replace KA := Hid.mk' (KA.out.below b12)
  replace KB := Hid.mk' (KB.out.below b12)
  clear b12
  clear KB
  obtain ⟨x0, x1, x2, x3, x4, x5, x6, x7, x8, x9, x10, x11, x12, x13⟩ := BX.out.cells
  have ls := brg_lt sz 8 (by omega)
  have lf := brg_lt of 200 (by omega)
  have KI := fun u => brg_any sz 8 u (by omega) (by omega) hsz.1 hsz.2
  have KO2 := fun u => brg_any of 200 u (by omega) (by omega) hof.1 hof.2
  generalize brg sz 8 = s8 at *
  generalize brg of 200 = f2 at *
  go_wp2_with (first
    | (go_at_call_of 30 (Value.int .i64 8); refine (KI _).mono ?_; rintro e u ⟨rfl, rfl⟩)
    | (go_at_call_of 30 (Value.int .i64 200); refine (KO2 _).mono ?_; rintro e u ⟨rfl, rfl⟩))
  clear x0 x1 x2 x3 x4 x5 x6 x7 x8 x9 x10 x11 x12 x13
  clear KI KO2
  clear BX
  go_loopw [19] (fun r wr => ∃ m : Nat, r = .int .i64 m ∧ m ≤ 10 ∧ Hid (Ks wr va RL) ∧ Hid (Wb wr g zs) ∧ Hid (Below W.heap.size W wr)) (fun r _ => ((10 : Int) - iv r).toNat)
  case atStart => exact ⟨0, rfl, by omega, KA, WB, HB⟩
  case round =>
    clear KA WB HB
    obtain ⟨m, rfl, hm, KA, WB, HB⟩ := hrel
    by_cases hm10 : m < 10
    · have hlm : (m : Int) < 10 := by omega
      obtain ⟨b, hb, hbt⟩ := SW.out m hm10 ((f2 : Int) - 100) (1 + (s8 : Int)) ⟨by omega, by omega⟩
      have HBT := Hid.mk' hbt
      have hbq := Hid.mk' hb
      clear hb hbt
      go_wp2_with fail
      refine (pointer_any (m : Int) (off : Int) _).mono ?_
      rintro e w41 ⟨rfl, b41⟩
      replace HB := Hid.mk' (HB.out.trans (b41.mono HB.out.size))
      replace KA := Hid.mk' (KA.out.below b41)
      replace WB := Hid.mk' (WB.out.below b41)
      clear b41
      have KQ := within_any va RL (ptV m off) ((f2 : Int) - 100) (1 + (s8 : Int)) w41 KA.out (pt_in _ _ (by unfold In64; omega) (by unfold In64; omega)) (by unfold In64; omega) (by unfold In64; omega)
      rw [hbq.out] at KQ
      go_wp2_with fail
      refine (KQ).mono ?_
      rintro e w42 ⟨rfl, b42⟩
      replace HB := Hid.mk' (HB.out.trans (b42.mono HB.out.size))
      replace KA := Hid.mk' (KA.out.below b42)
      replace WB := Hid.mk' (WB.out.below b42)
      clear KQ
      clear b42
      have z0 := WB.out.at (k := 0) (by omega)
      have z1 := WB.out.at (k := 1 + m) (by omega)
      have m0 := HZ.out.p0 m hm10
      have m1 := HZ.out.p1 m hm10
      rw [HLN.out] at z0 HBT
      obtain ⟨PM, hPM⟩ : ∃ PM, zs.getD (1 + m) 0 = PM := ⟨_, rfl⟩
      rw [hPM] at z1 m0 m1 HBT
      clear hPM
      cases b with
      | false =>
        clear HBT
        go_wp2_with fail
        go_roundw
        case rel => exact ⟨m + 1, by go_num, by omega, KA, WB, HB⟩
        case measure => simp [iv]; omega
      | true =>
        obtain ⟨t0, t1⟩ := HBT.out (by trivial)
        have hn0 : ¬ PM + (off : Int) + ((f2 : Int) - 100) < 0 := by omega
        have hn1 : ¬ LN < PM + (off : Int) + ((f2 : Int) - 100) + (1 + (s8 : Int)) := by omega
        clear HBT
        go_wp2_with fail
        go_roundw
        case rel => exact ⟨m + 1, by go_num, by omega, KA, WB, HB⟩
        case measure => simp [iv]; omega
    · have hlm : ¬ (m : Int) < 10 := by omega
      go_wp2_with fail
      go_ret
      exact ⟨rfl, HB.out⟩

theorem in11 (b0 b1 b2 b3 b4 b5 b6 b7 b8 b9 b10 : Int) (g0 : In64 b0) (g1 : In64 b1) (g2 : In64 b2) (g3 : In64 b3) (g4 : In64 b4) (g5 : In64 b5) (g6 : In64 b6) (g7 : In64 b7) (g8 : In64 b8) (g9 : In64 b9) (g10 : In64 b10) : ∀ z ∈ [b0, b1, b2, b3, b4, b5, b6, b7, b8, b9, b10], In64 z := by
  intro z hz
  simp only [List.mem_cons, List.not_mem_nil, or_false] at hz
  rcases hz with rfl | rfl | rfl | rfl | rfl | rfl | rfl | rfl | rfl | rfl | rfl <;> assumption
theorem world_cells (m : sh48.M) (W : World) (o : sh48.ok W m) : ∃ zs : List Int, sh48.cs m = intC zs ∧ zs.length = 11 ∧ ∀ z ∈ zs, In64 z := by
  obtain ⟨L, p0, p1, p2, p3, p4, p5, p6, p7, p8, p9⟩ := m
  obtain ⟨h, h0, h1, h2, h3, h4, h5, h6, h7, h8, h9⟩ := o
  refine ⟨[L, p0, p1, p2, p3, p4, p5, p6, p7, p8, p9], rfl, rfl, in11 _ _ _ _ _ _ _ _ _ _ _ (bounds_i64 h) (bounds_i64 h0) (bounds_i64 h1) (bounds_i64 h2) (bounds_i64 h3) (bounds_i64 h4) (bounds_i64 h5) (bounds_i64 h6) (bounds_i64 h7) (bounds_i64 h8) (bounds_i64 h9)⟩

theorem walkTrackSound (m0 : sh48.M) (a : Option Addr) (c : Nat) (xs : List sh60.M) (m : sh41.M) (W : World) (o9 : sh48.ok W m0) (o0 : SlOk sh60 W a c xs) (l0 : xs.length * Try.prog.bytesOf 60 ≤ 140737488351232) (o1 : sh41.ok W m) :
    Calls Try.prog 6 #[.agg (sh48.cs m0).toArray, .slice a xs.length c, .agg (sh41.cs m).toArray] W fun e w' => e = .returned (.bool true) ∧ Below W.heap.size W w' := by
  rw [known_bytes] at l0
  obtain ⟨zs, e, hl, hi⟩ := world_cells m0 W o9
  rw [e]
  obtain ⟨⟨k, ⟨mi, ma⟩, id, vo⟩, ⟨k', ⟨mi', ma'⟩, id', vo'⟩, op, yes, of, sz⟩ := m
  obtain ⟨⟨h0, ⟨h1, h2⟩, h3, h4⟩, ⟨h5, ⟨h6, h7⟩, h8, h9⟩, h10, _, h12, h13⟩ := o1
  exact sound_any zs a c xs k mi ma id vo k' mi' ma' id' vo' op of sz yes W hl hi (ks_open a c xs W o0 (by omega)) l0 (bounds_i64 h3) (bounds_i64 h4) (bounds_u8 h10) (bounds_i64 h12) (bounds_i64 h13)
end Go.Proofs.Ytagnaefpkgekmaa
