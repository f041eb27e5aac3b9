/- PeelNames. -/
import Derived.Test.YthdgfhllieknlaaJu
import Derived.Test.YthdgfhllieknlaaJq
import Derived.Test.YthdgfhllieknlaaJr
namespace Go.Proofs.Ythdgfhllieknlaa
open Go.ChangeShapes Go.WideShapes Go.ChangeAt Go.RowKit
set_option maxRecDepth 10000

/-- A struct is built, by an operation that is guarded and wanted. -/
theorem wpList_buildG {ops : Array Oper} {rest : List Oper} {o : Oper} {a : Act} {w : World} {Q : Exit → Act → World → Prop} (hw : Region.wanted o (yielded ops a.tmps) = true) (t : TypeId) (parts : Array (Nat × Operand)) (ho : o.op = .build t parts)
    (d : Option Tmp) (hd : o.dst = d) (cells : Array Value) (hf : Try.prog.built t (parts.map fun (i, x) => (i, a.eval x)).toList = some cells)
    (h : wpList Try.prog ops Q rest (a.put d (.agg cells)) w) : wpList Try.prog ops Q (o :: rest) a w :=
  wpList_step fun _ hK => by
    rw [if_pos hw]
    refine wp_build t parts ho (by rw [hf]; rfl) ?_
    rw [hf, hd]
    exact hK _ _ h

def nmT : List Value := K06.tgC 0 0 33024
def nmE : List Value := K06.tgC 0 0 0
def nmO (i : Nat) : Hs := (1, awL1) :: List.replicate i (2, nmT)
def nm8 : Hs := [(1, awL1), (2, nmT), (2, nmT), (2, nmT), (2, nmT), (2, nmT), (2, nmT), (2, nmE)]
def p9 : List Int := [0, 0, 0, 0, 0, 0, 0, 0, 0, 0, 0, 0, 129, 0, 0, 0, 129, 0, 0, 0, 129, 0, 0, 0, 129, 0, 0, 0, 129, 0, 0, 0, 129, 0, 0, 0, 129, 0, 0, 0, 129, 0, 0, 1, 0, 2]
def p8 : List Int := [0, 0, 0, 0, 0, 0, 0, 0, 0, 0, 0, 0, 129, 0, 0, 0, 129, 0, 0, 0, 129, 0, 0, 0, 129, 0, 0, 0, 129, 0, 0, 0, 129, 0, 0, 0, 129, 0, 0, 0, 0, 0, 9]
theorem nm_kT : KHd 2 nmT := ⟨by omega, by omega, fun h => by omega, fun _ => ⟨0, 0, 33024, rfl, by omega, by omega, by omega, by omega, by omega, by omega⟩, fun h => by omega, fun h => by omega, fun h => by omega, fun h => by omega⟩
theorem nm_kE : KHd 2 nmE := ⟨by omega, by omega, fun h => by omega, fun _ => ⟨0, 0, 0, rfl, by omega, by omega, by omega, by omega, by omega, by omega⟩, fun h => by omega, fun h => by omega, fun h => by omega, fun h => by omega⟩
theorem nmO_ok (i : Nat) : HsOk (nmO i) := by
  intro x hx
  rcases List.mem_cons.1 hx with rfl | hx
  · exact aw_k1
  · rw [(List.mem_replicate.1 hx).2]; exact nm_kT
theorem nm8_ok : HsOk nm8 := by
  intro x hx
  simp only [nm8, List.mem_cons, List.not_mem_nil, or_false] at hx
  rcases hx with rfl | rfl | rfl | rfl | rfl | rfl | rfl | rfl
  · exact aw_k1
  · exact nm_kT
  · exact nm_kT
  · exact nm_kT
  · exact nm_kT
  · exact nm_kT
  · exact nm_kT
  · exact nm_kE
theorem nmO_push (i : Nat) : hsC (nmO (i + 1)) = hsC (nmO i) ++ hk 2 nmT := by
  unfold nmO
  rw [List.replicate_succ', ← List.cons_append, hsC_app, hsC_one]
theorem nm_w9 : wP (nmO 7) [0, 1, 0, 2] = some p9 := by kernel_rfl
theorem nm_w8 : wP nm8 [9] = some p8 := by kernel_rfl
theorem nm_P9 : PE p9 = (3, []) := by kernel_rfl
theorem nm_P8 : PE p8 = (0, nm8) := by kernel_rfl
theorem nm_R8 : peR p8 = [9] := by kernel_rfl
theorem nm_set : (hsC (nmO 7)).set 527 (.int .u16 0) = hsC nm8 := by kernel_rfl
theorem nm_at : ∃ u, (hsC (nmO 7))[527]? = some u := ⟨.int .u16 33024, by kernel_rfl⟩
theorem nm_b2 : Try.prog.built 35 [(2, .int .u16 33024)] = some nmT.toArray := by kernel_rfl

def h255 : List Value := hz.set 0 (.int .u8 255)
theorem h255_hh : Hh h255 := hh_set hz_hh 255 (by omega) (by omega)
theorem b255 : Try.prog.built 48 [(0, .int .u8 255)] = some h255.toArray := by
  rw [built_head, fill_cons _ _ 0 0 [.int .u8 255] _ _ rfl rfl (by rw [hz_len]; simp), Instr.fill]
  rfl
theorem bzero : Try.prog.built 48 [] = some hz.toArray := by rw [built_head, Instr.fill]

def l4 (n : Int) : List Value := K07.hd0.set 2 (.int .u8 n)
def l6 (n : Int) : List Value := K08.hd0.set 2 (.int .u8 n)
theorem l4_b (n : Int) : Try.prog.built 38 [(2, .int .u8 n)] = some (l4 n).toArray := by kernel_rfl
theorem l6_b (n : Int) : Try.prog.built 42 [(2, .int .u8 n)] = some (l6 n).toArray := by kernel_rfl
theorem l4_k (n : Int) (h0 : 0 ≤ n) (h1 : n ≤ 255) : KHd 3 (l4 n) := khd3 (n4_set K07.hd_0 n h0 h1).1
theorem l6_k (n : Int) (h0 : 0 ≤ n) (h1 : n ≤ 255) : KHd 4 (l6 n) := by
  have := (n6_set K08.hd_0 n h0 h1).1
  exact khd4 this
theorem l4_nx (n : Int) : nx (hk 3 (l4 n)) = nP n := rfl
theorem l6_nx (n : Int) : nx (hk 4 (l6 n)) = nP n := rfl

set_option maxHeartbeats 4000000 in
theorem walkPeelNames (W : World) : Calls Try.prog 7 #[] W fun e w' => e = .returned (.bool true) ∧ Below W.heap.size W w' := by
  have KH1 := Hid.mk' (hk_hh aw_k1)
  have KHT := Hid.mk' (hk_hh nm_kT)
  have hb1 := Hid.mk' aw_b1
  have hbT := Hid.mk' nm_b2
  have hbh1 := Hid.mk' (built_1 awL1 rfl)
  have hbhT := Hid.mk' (built_2 nmT rfl)
  have HQ0 : Hid (hsC (nmO 0) = hk 1 awL1) := Hid.mk' (by simp [hsC, nmO])
  have HQP := Hid.mk' nmO_push
  obtain ⟨L1, HL1⟩ : ∃ L1, Hid (awL1 = L1) := ⟨_, rfl⟩
  obtain ⟨LT, HLT⟩ : ∃ LT, Hid (nmT = LT) := ⟨_, rfl⟩
  rw [HL1.out] at KH1 hb1 hbh1 HQ0
  rw [HLT.out] at KHT hbT hbhT HQP
  obtain ⟨H1, HH1⟩ : ∃ H1, Hid (hk 1 L1 = H1) := ⟨_, rfl⟩
  obtain ⟨HT, HHT⟩ : ∃ HT, Hid (hk 2 LT = HT) := ⟨_, rfl⟩
  rw [HH1.out] at KH1 hbh1 HQ0
  rw [HHT.out] at KHT hbhT HQP
  have h173 := Hid.mk' (hh_len KH1.out)
  have hT73 := Hid.mk' (hh_len KHT.out)
  have hTm := Hid.mk' (hh_mem KHT.out)
  have hbs1 := Hid.mk' (bslice_1 H1 h173.out)
  have hbsT := Hid.mk' (bslice_1 HT hT73.out)
  obtain ⟨i0, hif, hz0, hz1, hz2⟩ := info_parts info_head
  have hzs : (Value.agg hz.toArray).cells.size = 73 := by rfl
  have INF : Hid (Try.prog.info? 48 = some i0 ∧ i0.zero = some (.agg hz.toArray) ∧ i0.size = 73 ∧ i0.bytes = 100) := ⟨hif, hz0, hz1, hz2⟩
  clear hif hz0 hz1 hz2
  have H2 : Hid (Heap W (W.alloc (.cells H1.toArray 48)) [rowT W.heap.size 48 73 (.slice (some ⟨W.heap.size, 0, none⟩) 1 1) 1 (hsC (nmO 0))]) := Hid.mk' (by
    refine (Heap.nil (Below.refl _ _)).add ((Below.refl _ _).alloc (Nat.le_refl _) _) (rowT W.heap.size 48 73 (.slice (some ⟨W.heap.size, 0, none⟩) 1 1) 1 (hsC (nmO 0))) ?_ (fun k hk => ?_)
    · have := World.ownsRow_lit (base := W.heap.size) (size := 73) (e := 48) W H1.toArray 1 (Nat.le_refl _) (by unfold maxLen; omega) (by simp [h173.out])
      rw [HQ0.out]; exact this
    · have : some W.heap.size = some k := hk
      simp at this; omega)
  go_enter Try.func7, Try.ntmps7
  go_wp2_with (first
    | refine wpList_buildTo rfl 33 #[(2, .const (.int .u16 33024))] rfl (some 19) rfl L1.toArray (by simpa [Act.eval, Act.put] using hb1.out) ?_
    | refine wpList_buildTo rfl 48 #[(0, .const (.int .u8 1)), (1, .tmp 19)] rfl (some 20) rfl H1.toArray (by simpa [Act.eval, Act.put] using hbh1.out) ?_
    | refine Great.wpList_buildSliceTo rfl 24 48 1 #[(0, .tmp 20)] rfl W.heap.size rfl (some 21) rfl Try.underlying24 H1.toArray (by simpa [Act.eval, Act.put] using hbs1.out) ?_)
  clear hb1 hbh1 hbs1 KH1 h173 HQ0
  go_loopg [1, 2] 7 (fun g s1 s2 wr => ∃ i : Nat, s2 = .int .i64 i ∧ i ≤ 7 ∧ 7 - i ≤ g ∧ Hid (Heap W wr [rowT W.heap.size 48 73 s1 (i + 1) (hsC (nmO i))]))
  case atStart => exact ⟨0, rfl, by omega, by omega, H2⟩
  case round =>
    clear H2
    obtain ⟨i, rfl, hi, hg, HH⟩ := hrel
    obtain ⟨sv, sc, hs⟩ := own_slice (HH.out.get (i := 0) rfl)
    subst hs
    have hws := HH.out.old.size
    by_cases hlt : i < 7
    · have hsp : (i : Int) < 7 := by omega
      have OWN : Hid (wr.ownsRow W.heap.size 48 73 (.slice sv (i + 1) sc) (i + 1) (hsC (nmO i))) := Hid.mk' (HH.out.get (i := 0) rfl)
      go_wp2_with (first
        | refine wpList_buildTo rfl 35 #[(2, .const (.int .u16 33024))] rfl (some 27) rfl LT.toArray (by simpa [Act.eval, Act.put] using hbT.out) ?_
        | refine wpList_buildTo rfl 48 #[(0, .const (.int .u8 2)), (2, .tmp 27)] rfl (some 28) rfl HT.toArray (by simpa [Act.eval, Act.put] using hbhT.out) ?_
        | refine Great.wpList_buildSliceTo rfl 24 48 1 #[(0, .tmp 28)] rfl wr.heap.size rfl (some 29) rfl Try.underlying24 HT.toArray (by simpa [Act.eval, Act.put] using hbsT.out) ?_
        | (at_builtin; go_loud (refine wpList_append_own2 rfl _ _ 24 rfl W.heap.size 48 i0 (.agg hz.toArray) 73 100 Try.underlying24 INF.out.1 INF.out.2.1 INF.out.2.2.1 INF.out.2.2.2 hzs (by decide) (.slice sv (i + 1) sc) (i + 1) (hsC (nmO i)) rfl (World.ownsRow.alloc OWN.out _) ⟨wr.heap.size, 0, none⟩ 1 1 HT rfl (by rw [hT73.out]) (cells_laid wr 48 HT) hTm.out (by unfold maxLen; omega) (by omega) (by simp; omega) ?_; intro v' w6 hown6 hgr6 hob6; have H6 := Hid.mk' ((HH.out.below ((Below.refl _ _).alloc (Nat.le_refl _) (.cells HT.toArray 48))).grown 0 rfl hown6 hgr6 hob6); clear hown6 hgr6 hob6)))
      go_roundg (7 - (i + 1))
      case measure => omega
      case rel =>
        refine ⟨i + 1, by go_num, by omega, by omega, ?_⟩
        rw [HQP.out]; exact H6
    · have hi7 : i = 7 := by omega
      subst hi7
      clear hbT hbhT hbsT hTm hT73 KHT HQP INF
      obtain ⟨gl, cl, e1, -⟩ := own_some (HH.out.get (i := 0) rfl) (by omega)
      cases e1
      have B2 : Hid (Below wr.heap.size wr (wr.alloc (.cells #[.int .u8 0, .int .u8 1, .int .u8 0, .int .u8 2] 5))) := Hid.mk' ((Below.refl _ _).alloc (Nat.le_refl _) _)
      have S2 : Hid (Bs (wr.alloc (.cells #[.int .u8 0, .int .u8 1, .int .u8 0, .int .u8 2] 5)) (some ⟨wr.heap.size, 0, none⟩) [0, 1, 0, 2]) := Hid.mk' (bs_block (A := []) (D := []) (zs := [0, 1, 0, 2]) (heap_alloc_new wr _) 0 rfl (by intro z hz; simp at hz; omega) (by simp))
      have H2 := Hid.mk' (HH.out.below B2.out)
      have HR2 : Hid (Hrow (wr.alloc (.cells #[.int .u8 0, .int .u8 1, .int .u8 0, .int .u8 2] 5)) (.slice (some ⟨gl, 0, none⟩) 8 sc) (nmO 7)) := Hid.mk' (Hrow.of (H2.out.get (i := 0) rfl) rfl (nmO_ok 7))
      go_wp2_with fail
      refine (whole_any _ (nmO 7) _ 4 4 [0, 1, 0, 2] p9 _ (by decide) HR2.out rfl S2.out (fun h => by cases h) (by omega) nm_w9).mono ?_
      rintro e w3 ⟨v3, rfl, own3, hby9, b3⟩
      obtain ⟨g9, c9, rfl, hc9⟩ := own_some own3 (by decide)
      have e46 : p9.length = 46 := rfl
      rw [e46] at own3 hc9
      rw [e46]
      have H3 := Hid.mk' (H2.out.push b3 (rowT (wr.alloc (.cells #[.int .u8 0, .int .u8 1, .int .u8 0, .int .u8 2] 5)).heap.size 5 1 (.slice (some ⟨g9, 0, none⟩) 46 c9) 46 (p9.map (Value.int .u8))) own3 (fun j hj => (own3.lt j hj).1))
      generalize (wr.alloc (.cells #[.int .u8 0, .int .u8 1, .int .u8 0, .int .u8 2] 5)).heap.size = base9 at H3
      have BY9 := Hid.mk' hby9
      clear own3 b3 hby9 HR2 S2 B2 H2 HH e46
      have ho3 : w3.ownsRow W.heap.size 48 73 (.slice (some ⟨gl, 0, none⟩) 8 sc) 8 (hsC (nmO 7)) := H3.out.get (i := 0) rfl
      obtain ⟨u0, hu0⟩ := nm_at
      have cc : w3.cell? ⟨gl, 527, none⟩ = some u0 := by rw [ho3.cellAt 527 (by omega)]; exact hu0
      have ff := ho3.frozenAt 527
      have H4 : Hid (Heap W (w3.setCell ⟨gl, 527, none⟩ (.int .u16 0)) [rowT W.heap.size 48 73 (.slice (some ⟨gl, 0, none⟩) 8 sc) 8 (hsC nm8), rowT base9 5 1 (.slice (some ⟨g9, 0, none⟩) 46 c9) 46 (p9.map (Value.int .u8))]) := Hid.mk' (by
        have := H3.out.storedN 0 rfl 527 (.int .u16 0)
        rw [nm_set] at this
        exact this)
      clear ho3 hu0 H3
      have hsz4 : (w3.setCell ⟨gl, 527, none⟩ (.int .u16 0)).heap.size = w3.heap.size := by simp [World.setCell]
      have B5 : Hid (Below (w3.setCell ⟨gl, 527, none⟩ (.int .u16 0)).heap.size (w3.setCell ⟨gl, 527, none⟩ (.int .u16 0)) ((w3.setCell ⟨gl, 527, none⟩ (.int .u16 0)).alloc (.cells #[.int .u8 9] 5))) := Hid.mk' ((Below.refl _ _).alloc (Nat.le_refl _) _)
      have S5 : Hid (Bs ((w3.setCell ⟨gl, 527, none⟩ (.int .u16 0)).alloc (.cells #[.int .u8 9] 5)) (some ⟨w3.heap.size, 0, none⟩) [9]) := Hid.mk' (by
        rw [← hsz4]
        exact bs_block (A := []) (D := []) (zs := [9]) (heap_alloc_new _ _) 0 rfl (by intro z hz; simp at hz; omega) (by simp))
      clear hsz4
      have H5 := Hid.mk' (H4.out.below B5.out)
      have HR5 : Hid (Hrow ((w3.setCell ⟨gl, 527, none⟩ (.int .u16 0)).alloc (.cells #[.int .u8 9] 5)) (.slice (some ⟨gl, 0, none⟩) 8 sc) nm8) := Hid.mk' (Hrow.of (H5.out.get (i := 0) rfl) rfl nm8_ok)
      go_wp2_with fail
      refine (whole_any _ nm8 _ 1 1 [9] p8 _ (by decide) HR5.out rfl S5.out (fun h => by cases h) (by omega) nm_w8).mono ?_
      rintro e w5 ⟨v5, rfl, own5, hby8, b5⟩
      obtain ⟨g8, c8, rfl, hc8⟩ := own_some own5 (by decide)
      have e43 : p8.length = 43 := rfl
      rw [e43] at own5 hc8
      rw [e43]
      have S8 := Hid.mk' (K05.own_block_bs own5 hby8 (by rw [e43]; omega))
      have H6 := Hid.mk' (H5.out.below b5)
      have S9 := Hid.mk' (K05.own_block_bs (H6.out.get (i := 1) rfl) BY9.out (by decide))
      have B6 := Hid.mk' H6.out.old
      clear own5 b5 hby8 HR5 S5 B5 H4 H5 H6 e43 cc ff
      go_wp2_with fail
      go_loopg [7] 256 (fun g s7 wr => ∃ n : Nat, s7 = .int .i64 n ∧ n ≤ 256 ∧ 256 - n ≤ g ∧ Hid (Below w5.heap.size w5 wr))
      case atStart => exact ⟨0, rfl, by omega, by omega, Below.refl _ _⟩
      case round =>
        obtain ⟨n, rfl, hn, hg2, HBL⟩ := hrel
        by_cases hlt2 : n < 256
        · have hsp : (n : Int) < 256 := by omega
          have n0 : (0 : Int) ≤ n := by omega
          have n1 : (n : Int) ≤ 255 := by omega
          have hwr : IntKind.u8.wrap (n : Int) = n := by rw [IntKind.wrap_u8]; omega
          have hb4 := Hid.mk' (l4_b n)
          have hb6 := Hid.mk' (l6_b n)
          have k4 := l4_k n n0 n1
          have k6 := l6_k n n0 n1
          have hbh4 := Hid.mk' (built_3 (l4 n) rfl)
          have hbh6 := Hid.mk' (built_4 (l6 n) rfl)
          have HN4 : Hid (∀ u, Calls Try.prog 16 #[.agg (hk 3 (l4 n)).toArray] u fun e w' => e = .returned (.tuple #[.int .u8 (nP n), .bool (!(nP n == 0))]) ∧ Below u.heap.size u w') := Hid.mk' (fun u => by have := next_any _ u (hk_hh k4); rw [l4_nx] at this; exact this)
          have HN6 : Hid (∀ u, Calls Try.prog 16 #[.agg (hk 4 (l6 n)).toArray] u fun e w' => e = .returned (.tuple #[.int .u8 (nP n), .bool (!(nP n == 0))]) ∧ Below u.heap.size u w') := Hid.mk' (fun u => by have := next_any _ u (hk_hh k6); rw [l6_nx] at this; exact this)
          obtain ⟨L4, HL4⟩ : ∃ L4, Hid (l4 n = L4) := ⟨_, rfl⟩
          obtain ⟨L6, HL6⟩ : ∃ L6, Hid (l6 n = L6) := ⟨_, rfl⟩
          rw [HL4.out] at hb4 hbh4 HN4
          rw [HL6.out] at hb6 hbh6 HN6
          obtain ⟨H4, HH4⟩ : ∃ H4, Hid (hk 3 L4 = H4) := ⟨_, rfl⟩
          obtain ⟨H6, HH6⟩ : ∃ H6, Hid (hk 4 L6 = H6) := ⟨_, rfl⟩
          rw [HH4.out] at hbh4 HN4
          rw [HH6.out] at hbh6 HN6
          clear k4 k6
          by_cases h6 : n = 6
          · subst h6
            have e : nP ((6 : Nat) : Int) = 5 := rfl
            rw [e] at HN4 HN6
            go_wp2_with (first
              | refine wpList_buildTo rfl 38 #[(2, .tmp 57)] rfl (some 58) rfl L4.toArray (by simpa [Act.eval, Act.put] using hb4.out) ?_
              | refine wpList_buildTo rfl 48 #[(0, .const (.int .u8 3)), (3, .tmp 58)] rfl (some 59) rfl H4.toArray (by simpa [Act.eval, Act.put] using hbh4.out) ?_
              | (go_at_call_of 16 (Value.agg H4.toArray); refine (HN4.out wr).mono ?_; rintro e w7 ⟨rfl, b7⟩; have B7 : Hid (Below w5.heap.size w5 w7) := Hid.mk' (HBL.out.trans (b7.mono HBL.out.size)); clear b7)
              | refine wpList_buildTo rfl 42 #[(2, .tmp 65)] rfl (some 66) rfl L6.toArray (by simpa [Act.eval, Act.put] using hb6.out) ?_
              | refine wpList_buildTo rfl 48 #[(0, .const (.int .u8 4)), (4, .tmp 66)] rfl (some 67) rfl H6.toArray (by simpa [Act.eval, Act.put] using hbh6.out) ?_
              | (go_at_call_of 16 (Value.agg H6.toArray); refine (HN6.out w7).mono ?_; rintro e w8 ⟨rfl, b8⟩; have B8 : Hid (Below w5.heap.size w5 w8) := Hid.mk' (B7.out.trans (b8.mono B7.out.size)); clear b8))
            go_roundg (256 - (6 + 1))
            case measure => omega
            case rel => exact ⟨6 + 1, by go_num, by omega, by omega, B8⟩
          by_cases h17 : n = 17
          · subst h17
            have e : nP ((17 : Nat) : Int) = 6 := rfl
            rw [e] at HN4 HN6
            go_wp2_with (first
              | refine wpList_buildTo rfl 38 #[(2, .tmp 57)] rfl (some 58) rfl L4.toArray (by simpa [Act.eval, Act.put] using hb4.out) ?_
              | refine wpList_buildTo rfl 48 #[(0, .const (.int .u8 3)), (3, .tmp 58)] rfl (some 59) rfl H4.toArray (by simpa [Act.eval, Act.put] using hbh4.out) ?_
              | (go_at_call_of 16 (Value.agg H4.toArray); refine (HN4.out wr).mono ?_; rintro e w7 ⟨rfl, b7⟩; have B7 : Hid (Below w5.heap.size w5 w7) := Hid.mk' (HBL.out.trans (b7.mono HBL.out.size)); clear b7)
              | refine wpList_buildTo rfl 42 #[(2, .tmp 65)] rfl (some 66) rfl L6.toArray (by simpa [Act.eval, Act.put] using hb6.out) ?_
              | refine wpList_buildTo rfl 48 #[(0, .const (.int .u8 4)), (4, .tmp 66)] rfl (some 67) rfl H6.toArray (by simpa [Act.eval, Act.put] using hbh6.out) ?_
              | (go_at_call_of 16 (Value.agg H6.toArray); refine (HN6.out w7).mono ?_; rintro e w8 ⟨rfl, b8⟩; have B8 : Hid (Below w5.heap.size w5 w8) := Hid.mk' (B7.out.trans (b8.mono B7.out.size)); clear b8))
            go_roundg (256 - (17 + 1))
            case measure => omega
            case rel => exact ⟨17 + 1, by go_num, by omega, by omega, B8⟩
          have e : nP (n : Int) = 0 := by unfold nP; rw [if_neg (by omega), if_neg (by omega)]
          rw [e] at HN4 HN6
          have i6 : ¬ (n : Int) = 6 := by omega
          have i17 : ¬ (n : Int) = 17 := by omega
          have j6 : ((n : Int) == 6) = false := by simpa using i6
          have j17 : ((n : Int) == 17) = false := by simpa using i17
          go_wp2_with (first
            | refine wpList_buildTo rfl 38 #[(2, .tmp 57)] rfl (some 58) rfl L4.toArray (by simpa [Act.eval, Act.put] using hb4.out) ?_
            | refine wpList_buildTo rfl 48 #[(0, .const (.int .u8 3)), (3, .tmp 58)] rfl (some 59) rfl H4.toArray (by simpa [Act.eval, Act.put] using hbh4.out) ?_
            | (go_at_call_of 16 (Value.agg H4.toArray); refine (HN4.out wr).mono ?_; rintro e w7 ⟨rfl, b7⟩; have B7 : Hid (Below w5.heap.size w5 w7) := Hid.mk' (HBL.out.trans (b7.mono HBL.out.size)); clear b7)
            | refine wpList_buildTo rfl 42 #[(2, .tmp 65)] rfl (some 66) rfl L6.toArray (by simpa [Act.eval, Act.put] using hb6.out) ?_
            | refine wpList_buildTo rfl 48 #[(0, .const (.int .u8 4)), (4, .tmp 66)] rfl (some 67) rfl H6.toArray (by simpa [Act.eval, Act.put] using hbh6.out) ?_
            | (go_at_call_of 16 (Value.agg H6.toArray); refine (HN6.out w7).mono ?_; rintro e w8 ⟨rfl, b8⟩; have B8 : Hid (Below w5.heap.size w5 w8) := Hid.mk' (B7.out.trans (b8.mono B7.out.size)); clear b8))
          go_roundg (256 - (n + 1))
          case measure => omega
          case rel => exact ⟨n + 1, by go_num, by omega, by omega, B8⟩
        · have hn256 : ¬ (n : Int) < 256 := by omega
          have B7 : Hid (Below W.heap.size W wr) := Hid.mk' (B6.out.trans (HBL.out.mono B6.out.size))
          have T9 := Hid.mk' (S9.out.below HBL.out)
          have T8 := Hid.mk' (S8.out.below HBL.out)
          have P9c : Hid (∀ u, Below wr.heap.size wr u → Calls Try.prog 9 #[.slice (some ⟨g9, 0, none⟩) 46 c9] u fun e w' => ∃ va vr, e = .returned (.tuple #[va, vr, .int .i64 3]) ∧ Below u.heap.size u w') := Hid.mk' (fun u hu => by
            have := peel_any (some ⟨g9, 0, none⟩) 46 c9 p9 u rfl (T9.out.below hu) (fun h => by cases h) hc9
            rw [nm_P9] at this
            refine this.mono ?_
            rintro e w' ⟨va, vr, rfl, h⟩
            exact ⟨va, vr, rfl, h.old⟩)
          have P8c : Hid (∀ u, Below wr.heap.size wr u → Calls Try.prog 9 #[.slice (some ⟨g8, 0, none⟩) 43 c8] u fun e w' => ∃ sa sc ra rc, e = .returned (.tuple #[.slice sa 8 sc, .slice ra 1 rc, .int .i64 0]) ∧ Bs w' ra [9] ∧ Below u.heap.size u w') := Hid.mk' (fun u hu => by
            have := peel_any (some ⟨g8, 0, none⟩) 43 c8 p8 u rfl (T8.out.below hu) (fun h => by cases h) hc8
            unfold plT at this
            rw [nm_P8, nm_R8] at this
            refine this.mono ?_
            rintro e w' ⟨va, vr, rfl, h⟩
            obtain ⟨sa, sc', hs⟩ := own_slice (h.get (i := 0) rfl)
            obtain ⟨ra, rc, hr, hS, -, -⟩ := K05.own_bs (h.get (i := 1) rfl) (zs := [9]) rfl (by intro z hz; simp at hz; omega) (by simp)
            have hs : va = .slice sa 8 sc' := hs
            subst hs hr
            exact ⟨sa, sc', ra, rc, rfl, hS, h.old⟩)
          go_wp2_with fail
          refine (P9c.out wr (Below.refl _ _)).mono ?_
          rintro e w7 ⟨va, vr, rfl, b7⟩
          have C7 := Hid.mk' b7
          clear b7
          go_wp2_with fail
          refine (P8c.out w7 C7.out).mono ?_
          rintro e w8 ⟨sa, sc', ra, rc, rfl, S10, b8⟩
          have C8 : Hid (Below wr.heap.size wr w8) := Hid.mk' (C7.out.trans (b8.mono C7.out.size))
          have HS10 := Hid.mk' S10
          clear b8 S10 P9c P8c
          have h9eq : decide (([9] : List Int) = [9]) = true := rfl
          have hb255 := Hid.mk' b255
          have hbz := Hid.mk' bzero
          have HW1 : Hid (∀ u, Below wr.heap.size wr u → Calls Try.prog 3 #[.slice (some ⟨g9, 0, none⟩) 46 c9] u fun e w' => e = .returned (.bool true) ∧ Below u.heap.size u w') := Hid.mk' (fun u hu => peels_any _ 46 c9 p9 u rfl (T9.out.below hu) (fun h => by cases h) hc9)
          have HW2 : Hid (∀ u, Calls Try.prog 3 #[.slice none 0 0] u fun e w' => e = .returned (.bool true) ∧ Below u.heap.size u w') := Hid.mk' (fun u => peels_any none 0 0 [] u rfl (bs_nil _ _) (fun _ => rfl) (Nat.le_refl _))
          have HW3 : Hid (∀ u, Below wr.heap.size wr u → Calls Try.prog 4 #[.slice (some ⟨g8, 0, none⟩) 43 c8, .agg h255.toArray] u fun e w' => e = .returned (.bool true) ∧ Below u.heap.size u w') := Hid.mk' (fun u hu => wheres_any h255 _ 43 c8 p8 u h255_hh rfl (T8.out.below hu) (fun h => by cases h) hc8)
          have HW4 : Hid (∀ u, Calls Try.prog 4 #[.slice none 0 0, .agg hz.toArray] u fun e w' => e = .returned (.bool true) ∧ Below u.heap.size u w') := Hid.mk' (fun u => wheres_any hz none 0 0 [] u hz_hh rfl (bs_nil _ _) (fun _ => rfl) (Nat.le_refl _))
          have HEQ : Hid (∀ (u : World) (x y : Option Addr) (cx cy : Nat), Bs u x [9] → Bs u y [9] → Calls Try.prog 12 #[.slice x 1 cx, .slice y 1 cy] u fun e w' => e = .returned (.bool true) ∧ Dr u w') := Hid.mk' (fun u x y cx cy h1 h2 => by have := eq_at x y 1 1 cx cy [9] [9] u rfl rfl h1 h2; rwa [h9eq] at this)
          obtain ⟨HA, HHA⟩ : ∃ HA, Hid (h255 = HA) := ⟨_, rfl⟩
          rw [HHA.out] at hb255 HW3
          obtain ⟨HZ, HHZ⟩ : ∃ HZ, Hid (hz = HZ) := ⟨_, rfl⟩
          rw [HHZ.out] at hbz HW4
          clear h9eq
          go_wp2_with (first
            | (go_at_call 13; refine (awake_any w8).mono ?_; rintro e w9 ⟨rfl, b9⟩; have C9 : Hid (Below wr.heap.size wr w9) := Hid.mk' (C8.out.trans (b9.mono C8.out.size)); have S9a := Hid.mk' (HS10.out.below b9); have C9a : Hid (Below wr.heap.size wr (w9.alloc (.cells #[.int .u8 9] 5))) := Hid.mk' (C9.out.alloc C9.out.size _); have S9b : Hid (Bs (w9.alloc (.cells #[.int .u8 9] 5)) ra [9]) := Hid.mk' (S9a.out.below ((Below.refl _ _).alloc (Nat.le_refl _) _)); have S9c : Hid (Bs (w9.alloc (.cells #[.int .u8 9] 5)) (some ⟨w9.heap.size, 0, none⟩) [9]) := Hid.mk' (bs_block (A := []) (D := []) (zs := [9]) (heap_alloc_new w9 _) 0 rfl (by intro z hz; simp at hz; omega) (by simp)); clear b9)
            | (go_at_call 12; refine (HEQ.out _ ra (some ⟨w9.heap.size, 0, none⟩) rc 1 S9b.out S9c.out).mono ?_; rintro e w10 ⟨rfl, d10⟩; have C10 : Hid (Below wr.heap.size wr w10) := Hid.mk' (C9a.out.trans ((d10.below _).mono C9a.out.size)); clear d10)
            | (go_at_call_of 3 (Value.slice (some ⟨g9, 0, none⟩) 46 c9); refine (HW1.out w10 C10.out).mono ?_; rintro e w11 ⟨rfl, b11⟩; have C11 : Hid (Below wr.heap.size wr w11) := Hid.mk' (C10.out.trans (b11.mono C10.out.size)); clear b11)
            | (go_at_call_of 3 (Value.slice none 0 0); refine (HW2.out w11).mono ?_; rintro e w12 ⟨rfl, b12⟩; have C12 : Hid (Below wr.heap.size wr w12) := Hid.mk' (C11.out.trans (b12.mono C11.out.size)); clear b12)
            | refine wpList_buildG (by rfl) 48 #[(0, .const (.int .u8 255))] rfl (some 138) rfl HA.toArray (by simpa [Act.eval, Act.put] using hb255.out) ?_
            | (go_at_call_of 4 (Value.slice (some ⟨g8, 0, none⟩) 43 c8); refine (HW3.out w12 C12.out).mono ?_; rintro e w13 ⟨rfl, b13⟩; have C13 : Hid (Below wr.heap.size wr w13) := Hid.mk' (C12.out.trans (b13.mono C12.out.size)); clear b13)
            | refine wpList_buildG (by rfl) 48 #[] rfl (some 142) rfl HZ.toArray (by simpa [Act.eval, Act.put] using hbz.out) ?_
            | (go_at_call_of 4 (Value.slice none 0 0); refine (HW4.out w13).mono ?_; rintro e w14 ⟨rfl, b14⟩; have C14 : Hid (Below wr.heap.size wr w14) := Hid.mk' (C13.out.trans (b14.mono C13.out.size)); clear b14))
          go_ret
          exact ⟨rfl, B7.out.trans (C14.out.mono B7.out.size)⟩
end Go.Proofs.Ythdgfhllieknlaa
