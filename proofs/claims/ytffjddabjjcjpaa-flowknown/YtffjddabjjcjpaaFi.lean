/- The contract of Loops. -/
import Derived.Test.YtffjddabjjcjpaaFh
import Derived.Test.YtffjddabjjcjpaaBu
namespace Go.Proofs.Ytffjddabjjcjpaa
open Go.ChangeShapes Go.WideShapes Go.ChangeAt Go.RowKit
set_option maxRecDepth 10000
variable {L : List Q5}

abbrev Lp := Int × Int × Int × Int
def lpC (l : Lp) : List Value := [.int .i64 l.1, .int .i64 l.2.1, .int .i64 l.2.2.1, .int .i64 l.2.2.2]
def lpCs (l : List Lp) : List Value := l.flatMap lpC
/-- The loops that begin ahead of a place. -/
def lpN (L : List Q5) : Nat → List Lp
  | 0 => []
  | k + 1 => if opA L k = 33 then lpN L k ++ [((k : Int), enN L L.length k, imA L k, ((stk L k).length : Int) + 1)] else lpN L k
def lpV (L : List Q5) : List Lp := if (ckF L).2 = 0 then lpN L L.length else []

theorem lpN_len (k : Nat) : (lpN L k).length ≤ k := by
  induction k with
  | zero => simp [lpN]
  | succ k ih =>
    unfold lpN
    split
    · simp; omega
    · omega

theorem loop_info : ∃ i, Try.prog.info? 43 = some i ∧ i.zero = some (.agg #[.int .i64 0, .int .i64 0, .int .i64 0, .int .i64 0]) ∧ i.size = 4 ∧ i.bytes = 32 :=
  info_parts (z := .agg #[.int .i64 0, .int .i64 0, .int .i64 0, .int .i64 0]) (by kernel_rfl)

theorem cell_four_new (w : World) (a b c d : Value) (t : TypeId) : ∀ (j : Nat) (u : Value), ([a, b, c, d] : List Value)[j]? = some u → (w.alloc (.cells #[a, b, c, d] t)).cell? (Addr.add ⟨w.heap.size, 0, none⟩ j) = some u := by
  intro j u hj
  rw [addr_add, Nat.zero_add, World.cell?_alloc_new]
  simpa using hj

theorem own_lower {w : World} {base base' : Nat} {e : TypeId} {size : Nat} {v : Value} {n : Nat} {xs : List Value} (h : w.ownsRow base e size v n xs) (hb : base' ≤ base) : w.ownsRow base' e size v n xs := by
  refine ⟨h.1, ?_⟩
  rcases h.2 with h2 | ⟨g, cap, cur, e1, hg, r⟩
  · exact .inl h2
  · exact .inr ⟨g, cap, cur, e1, Nat.le_trans hb hg, r⟩

theorem below_grown {w3 w4 X w5 : World} {u : Value} (b : Below w3.heap.size w3 w4) (bX : Below w4.heap.size w4 X) (hu : ∀ k, u.ownBlock = some k → w3.heap.size ≤ k) (hg : X.grownBy w5 u.ownBlock) : Below w3.heap.size w3 w5 := by
  have h1 : Below w3.heap.size w3 X := b.trans (bX.mono b.size)
  refine h1.trans ⟨hg.os, hg.tape, hg.output, hg.size, fun k hk => hg.block k (Nat.lt_of_lt_of_le hk h1.size) (fun e => ?_)⟩
  have := hu k e.symm
  omega

set_option maxHeartbeats 4000000 in
theorem loops_f (v : Value) (w : World) (hv : Cd w v L) :
    Calls Try.prog 16 #[v] w fun e w' => (∃ u, e = .returned (.tuple #[u, .int .i64 (ckF L).2]) ∧ w'.ownsRow w.heap.size 43 4 u (lpV L).length (lpCs (lpV L))) ∧ Below w.heap.size w w' := by
  obtain ⟨iN, hiN, hzN, -⟩ := nest_info
  have HiN := Hid.mk' hiN
  have HzN := Hid.mk' hzN
  have HZ := Hid.mk' z512
  have KL := Hid.mk' (look_any v w hv)
  have SN : Hid ((intC (loN L)).length = 512) := Hid.mk' (by rw [intC_length]; exact loN_len)
  have HV := Hid.mk' hv
  obtain ⟨iL, hL1, hL2, hL3, hL4⟩ := loop_info
  obtain ⟨a, c, rfl, hc, hl⟩ := hv.lies
  clear hiN hzN hv
  obtain ⟨P, hP⟩ : ∃ P, (ckF L).1 = P := ⟨_, rfl⟩
  obtain ⟨E, hE⟩ : ∃ E, Hid ((ckF L).2 = E) := ⟨_, Hid.mk' rfl⟩
  obtain ⟨NL, hNL⟩ : ∃ NL, Hid (loN L = NL) := ⟨_, Hid.mk' rfl⟩
  obtain ⟨n, hn⟩ : ∃ n, L.length = n := ⟨_, rfl⟩
  rw [hP, hE.out, hNL.out, hn] at KL
  rw [hE.out, hn]
  rw [hn] at hc
  rw [hNL.out] at SN
  clear hP
  obtain ⟨Y, hY⟩ : ∃ Y, Hid (lpV L = Y) := ⟨_, Hid.mk' rfl⟩
  rw [hY.out]
  go_enter Try.func16, Try.ntmps16
  by_cases hE0 : E = 0
  · have HG : Hid (Good L) := Hid.mk' (good_of (by rw [hE.out, hE0]))
    have hn256 : n ≤ 256 := by rw [← hn]; exact HG.out.len
    have hn0 : 0 < n := by rw [← hn]; exact HG.out.pos
    have EN : Hid (NL = nsI L n) := Hid.mk' (by rw [← hNL.out]; unfold loN; rw [hE.out, hE0, hn]; rfl)
    have EY : Hid (lpN L n = Y) := Hid.mk' (by rw [← hY.out]; unfold lpV; rw [hE.out, hE0, hn]; rfl)
    have HL := Hid.mk' hn
    rcases hl with h0 | ⟨b, off, rfl, hC⟩
    · rw [h0] at hn; simp at hn; omega
    have HC := Hid.mk' hC
    clear hn hC
    subst hE0
    go_wp2_with (first
      | (go_at_call 21; refine KL.out.mono ?_; rintro e w1 ⟨rfl, b1⟩)
      | (refine wpList_alloc_big rfl 53 rfl iN _ HiN.out HzN.out ?_; intro w2 h2 b2 s2)
      | (refine wpList_store_over rfl 53 _ _ rfl w1.heap.size 53 _ _ rfl rfl h2 512 HZ.out SN.out nest_size (intC_one _) ?_; intro w3 h3 k3 s3))
    have B3 : Hid (Below w.heap.size w w3) := Hid.mk' ((b1.trans (b2.mono b1.size)).trans (k3.below (by have := b1.size; have := b2.size; omega) (fun j hj e => by have := b1.size; omega)))
    obtain ⟨g, hg⟩ : ∃ g, g = w1.heap.size := ⟨_, rfl⟩
    have hgw : w.heap.size ≤ g := by have := b1.size; omega
    have N3 : Hid (w3.heap[g]? = some (.cells (intC (nsI L n)).toArray 53 (0, 0))) := Hid.mk' (by rw [hg, ← EN.out]; exact h3)
    have z3 : g < w3.heap.size := (Array.getElem?_eq_some_iff.1 N3.out).1
    rw [← hg]
    clear b1 h2 b2 s2 h3 k3 s3 KL hg
    have HW3 := Hid.mk' B3.out.size
    go_loopw [7, 22] (fun s i wr => ∃ k : Nat, k ≤ n ∧ i = .int .i64 k ∧ Hid (wr.ownsRow w3.heap.size 43 4 s (lpN L k).length (lpCs (lpN L k))) ∧ Hid (Below w3.heap.size w3 wr)) (fun _ i _ => n - (intOf i).toNat)
    case atStart => exact ⟨0, Nat.zero_le _, rfl, Hid.mk' (World.ownsRow_nil _ _ _ _), Hid.mk' (Below.refl _ _)⟩
    case round =>
      obtain ⟨k, hk, rfl, hO, hB⟩ := hrel
      by_cases hlt : k < n
      · have hlk : (k : Int) < (n : Int) := by omega
        have hk256 : (k : Int) < 256 := by omega
        obtain ⟨p, d, s, o, i, hq, q1, q2, q3⟩ := at_get (L := L) (k := k) (by rw [HL.out]; exact hlt)
        have hB3r := Hid.mk' (B3.out.trans (hB.out.mono HW3.out))
        obtain ⟨c0, c1, c2, c3, c4⟩ := (HC.out.below hB3r.out) k p d s o i hq
        by_cases hp : p = 33
        · have hop : opA L k = 33 := by rw [q1, hp]
          obtain ⟨⟨e, he⟩, hd3⟩ := HG.out.rep (by rw [HL.out]; exact hlt) hop
          rw [HL.out] at he
          obtain ⟨e', e1, e2, e3, e4, e5, e6⟩ := en_some (L := L) (n := n) (j := k) (by rw [he]; omega)
          have hee : e' = e := by omega
          subst hee
          have hNr : wr.heap[g]? = some (.cells (intC (nsI L n)).toArray 53 (0, 0)) := by rw [hB.out.block g z3]; exact N3.out
          have hgz : g < wr.heap.size := (Array.getElem?_eq_some_iff.1 hNr).1
          have f1 := ((ns_of_block hNr hn256) k hlt).2
          rw [he] at f1
          have KD : Hid (∀ u, Below wr.heap.size wr u → Calls Try.prog 29 #[.pointer (some ⟨g, 0, none⟩), .int .i64 e'] u fun e w' => e = .returned (.int .i64 ((stk L k).length + 1 : Int)) ∧ u = w') := Hid.mk' (fun u hu => by
            have := depth_any g n e' u ((ns_of_block hNr hn256).below hu) hn256 e2
            rw [e6] at this
            simpa using this)
          have hlp : Hid (lpN L (k + 1) = lpN L k ++ [((k : Int), (e' : Int), i, ((stk L k).length : Int) + 1)]) := Hid.mk' (by
            conv => lhs; unfold lpN
            rw [if_pos hop, HL.out, he, q3])
          obtain ⟨D, hD⟩ : ∃ D, (stk L k).length = D := ⟨_, rfl⟩
          rw [hD] at KD hlp hd3
          have hlen : (lpN L k).length ≤ 256 := Nat.le_trans (lpN_len k) (by omega)
          have hi16 : 1 ≤ i ∧ i ≤ 16 := by rw [← q3]; exact ok_rep (HG.out.ok k (by rw [HL.out]; exact hlt)) hop
          clear hD hNr he e1 e4 e5 e6 hop q1 q2 q3 hq
          subst hp
          have a1 : ∀ ob, (wr.alloc ob).cell? ⟨g, 256 + k, none⟩ = some (.int .i64 e') := fun ob => (((Below.refl wr.heap.size wr).alloc (Nat.le_refl _) ob).cell (p := ⟨g, 256 + k, none⟩) hgz).trans f1
          go_wp2_with fail
          obtain ⟨w4, hw4⟩ : ∃ w4, w4 = wr.alloc (.cells #[.int .u8 33, .int .u8 d, .int .u8 s, .int .i16 o, .int .i32 i] 37) := ⟨_, rfl⟩
          have d4 : w4.cell? ⟨wr.heap.size, 4, none⟩ = some (.int .i32 i) := by rw [hw4]; exact World.cell?_alloc_new _ _ _ _
          have B4 : Hid (Below wr.heap.size wr w4) := Hid.mk' (by rw [hw4]; exact (Below.refl _ _).alloc (Nat.le_refl _) _)
          have O4 : Hid (w4.ownsRow w3.heap.size 43 4 u7 (lpN L k).length (lpCs (lpN L k))) := Hid.mk' (by rw [hw4]; exact hO.out.alloc _)
          rw [← hw4]
          clear hw4
          have hs4 : wr.heap.size < w4.heap.size := lt_of_cell d4
          have hwr : IntKind.i64.wrap i = i := by rw [IntKind.wrap_i64]; omega
          have hs3 := hB.out.size
          go_region_law (first
            | (refine step_append_own rfl (.tmp 34) (.tmp 43) 39 rfl w3.heap.size 43 iL _ 4 32 Try.underlying39 hL1 hL2 hL3 hL4 rfl (by decide) u7 (lpN L k).length (lpCs (lpN L k)) (by simp [Act.eval]) (World.ownsRow.drew (World.ownsRow.alloc O4.out _)) ⟨w4.heap.size, 0, none⟩ 1 1 [.int .i64 k, .int .i64 e', .int .i64 i, .int .i64 ((D : Int) + 1)] (by simp [Act.eval]) rfl (cell_four_new w4 _ _ _ _ _) (by intro u hu; simp at hu; rcases hu with rfl | rfl | rfl | rfl <;> rfl) (by unfold maxLen; omega) (by omega) (by simp; omega) ?_; intro v' w5 hown5 hgr5; intro hwh; have HO5 := Hid.mk' hown5; have HG5 := Hid.mk' hgr5; clear hown5 hgr5 hwh)
            | (refine step_callTo rfl 29 #[.pointer (some ⟨g, 0, none⟩), .int .i64 e'] (by go_simp) (.int .i64 ((D : Int) + 1)) (KD.out _ (Below.drew B4.out)) ?_))
          all_goals
            have B5 := Hid.mk' (below_grown (hB.out.trans (B4.out.mono hs3)) (by first | exact ((Below.refl _ _).alloc (Nat.le_refl _) _).drew | exact ((Below.refl _ _).drew).alloc (Nat.le_refl _) _) (own_base O4.out) HG5.out)
            have O5 := Hid.mk' HO5.out
            go_wp2_with fail
            go_roundw
            case rel => exact ⟨k + 1, hlt, by go_num, Hid.mk' (by
              rw [hlp.out, List.length_append]
              have e := O5.out
              have el : lpCs (lpN L k ++ [((k : Int), (e' : Int), i, (D : Int) + 1)]) = lpCs (lpN L k) ++ [.int .i64 k, .int .i64 e', .int .i64 i, .int .i64 ((D : Int) + 1)] := by simp [lpCs, lpC]
              rw [el]
              exact e), B5⟩
            case measure => simp [intOf]; omega
        · have hlp : Hid (lpN L (k + 1) = lpN L k) := Hid.mk' (by
            conv => lhs; unfold lpN
            rw [if_neg (by rw [q1]; exact hp)])
          have hs3 := hB.out.size
          go_wp2_with fail
          go_roundw
          case rel => exact ⟨k + 1, hlt, by go_num, Hid.mk' (by rw [hlp.out]; exact hO.out.alloc _), Hid.mk' (hB.out.alloc hs3 _)⟩
          case measure => simp [intOf]; omega
      · have hlk : ¬ (k : Int) < (n : Int) := by omega
        have hkn : k = n := by omega
        subst hkn
        rw [EY.out] at hO
        go_wp2_with fail
        go_ret2
        refine ⟨⟨_, rfl, own_lower hO.out HW3.out⟩, B3.out.trans (hB.out.mono HW3.out)⟩
  · have e2 : Y = [] := by rw [← hY.out]; unfold lpV; rw [hE.out, if_neg hE0]
    subst e2
    go_wp2_with (first
      | (go_at_call 21; refine KL.out.mono ?_; rintro e w1 ⟨rfl, b1⟩)
      | (refine wpList_alloc_big rfl 53 rfl iN _ HiN.out HzN.out ?_; intro w2 h2 b2 s2)
      | (refine wpList_store_over rfl 53 _ _ rfl w1.heap.size 53 _ _ rfl rfl h2 512 HZ.out SN.out nest_size (intC_one _) ?_; intro w3 h3 k3 s3))
    go_ret2
    exact ⟨⟨_, rfl, World.ownsRow_nil _ _ _ _⟩, (b1.trans (b2.mono b1.size)).trans (k3.below (by have := b1.size; have := b2.size; omega) (fun j hj e => by have := b1.size; omega))⟩
end Go.Proofs.Ytffjddabjjcjpaa
