/- The walk of the statement PacketPlays. -/
import Derived.Test.YtllhamcolinedaaPp
import Derived.Test.YtllhamcolinedaaSp
namespace Go.Proofs.Ytllhamcolinedaa
open Go.ChangeShapes Go.WideShapes Go.ChangeAt Go.RowKit

abbrev DoM := Int × Int × Int × Int × Int

theorem do_cells {W : World} {a : Option Addr} {c : Nat} {xs : List DoM} (h : SlOk sh38 W a c xs) (i : Nat) (hi : i < xs.length) :
    ∃ (b off : Nat) (kd n x k v : Int), a = some ⟨b, off, none⟩ ∧ W.cell? ⟨b, off + i * 5, none⟩ = some (.int .i64 kd) ∧ W.cell? ⟨b, off + i * 5 + 1, none⟩ = some (.int .i64 n) ∧
      W.cell? ⟨b, off + i * 5 + 2, none⟩ = some (.int .i64 x) ∧ W.cell? ⟨b, off + i * 5 + 3, none⟩ = some (.int .i64 k) ∧ W.cell? ⟨b, off + i * 5 + 4, none⟩ = some (.int .u64 v) ∧ b < W.heap.size ∧
      (-9223372036854775808 ≤ kd ∧ kd ≤ 9223372036854775807) ∧ (-9223372036854775808 ≤ x ∧ x ≤ 9223372036854775807) ∧ (0 ≤ v ∧ v ≤ 18446744073709551615) := by
  obtain ⟨_, h2, h3⟩ := h
  rcases h2 with h0 | ⟨b, off, rfl, hc⟩
  · exact absurd hi (by rw [show xs.length = 0 from h0]; omega)
  · have hx : xs[i]? = some xs[i] := List.getElem?_eq_getElem hi
    generalize xs[i] = m at hx
    obtain ⟨kd, n, x, k, v⟩ := m
    have q := hc i (kd, n, x, k, v) hx
    have c0 := q 0 (.int .i64 kd) rfl
    have o := h3 (kd, n, x, k, v) (List.mem_of_getElem? hx)
    exact ⟨b, off, kd, n, x, k, v, rfl, c0, q 1 (.int .i64 n) rfl, q 2 (.int .i64 x) rfl, q 3 (.int .i64 k) rfl, q 4 (.int .u64 v) rfl, lt_of_cell c0, bounds_i64 o.1, bounds_i64 o.2.2.1, bounds_u64 o.2.2.2.2⟩

theorem pl_shows {W : World} {N : Nat} {S : Nat → Prop} {w : World} {p q : Nat} {B : List Int} {a d m : Nat} (h : Pl W N S w p q B a d m) :
    Calls Try.prog 13 #[.pointer (some ⟨p, 0, none⟩), .pointer (some ⟨q, 0, none⟩)] w fun e w' => e = .returned (.bool true) ∧ Below w.heap.size w w' := by
  obtain ⟨g, A, D, bv, h1, rfl, rfl, h4, -⟩ := h.is
  exact shows_any p g q A B D m bv N w h1 h4

set_option maxHeartbeats 4000000 in
set_option maxRecDepth 100000 in
theorem plays_any (a0 : Option Addr) (c0 : Nat) (zs : List Int) (x y : Int) (a1 : Option Addr) (c1 : Nat) (xs : List DoM) (W : World) (h0 : Bs W a0 zs) (n0 : a0 = none → c0 = 0) (o1 : SlOk sh38 W a1 c1 xs) (l1 : xs.length ≤ 140737488351232) (hbig : zs.length ≤ 140737488351232) :
    Calls Try.prog 3 #[.slice a0 zs.length c0, .agg #[.int .i64 x, .int .i64 y], .slice a1 xs.length c1] W fun e w' => e = .returned (.bool true) ∧ Below W.heap.size W w' := by
  have HB := Hid.mk' h0
  have HA0 := Hid.mk' n0
  have HO := Hid.mk' o1
  clear h0 n0 o1
  obtain ⟨n, hn⟩ : ∃ n, n = zs.length := ⟨_, rfl⟩
  obtain ⟨ln, hln⟩ : ∃ n, n = xs.length := ⟨_, rfl⟩
  rw [← hn] at hbig ⊢
  rw [← hln] at l1 ⊢
  have HN := Hid.mk' hn.symm
  have HLN := Hid.mk' hln.symm
  clear hn hln
  have HL0 : Hid (Below W.heap.size W (W.alloc (.cells #[.int .i64 x, .int .i64 y] 23))) := (Below.refl _ _).alloc (Nat.le_refl _) _
  go_enter Try.func3, Try.ntmps3
  go_wp2_with fail
  refine (copy_at a0 n c0 zs _ HN.out (HB.out.below HL0.out) HA0.out).mono ?_
  rintro e w2 ⟨v2, rfl, hown2, b2⟩
  obtain ⟨a2, c2, rfl⟩ := own_slice hown2
  have hsz2 : W.heap.size < w2.heap.size := by have := b2.size; simp at this; omega
  have rx : w2.cell? ⟨W.heap.size, 0, none⟩ = some (.int .i64 x) := by rw [b2.cell (by simp)]; simp
  have ry : w2.cell? ⟨W.heap.size, 1, none⟩ = some (.int .i64 y) := by rw [b2.cell (by simp)]; simp
  have B2 : Hid (Below W.heap.size W w2) := HL0.out.trans (b2.mono (by simp))
  have O2 : Hid (w2.ownsRow (W.heap.size + 1) 5 1 (.slice a2 n c2) n (zs.map (Value.int .u8))) := by
    have e : (W.alloc (.cells #[.int .i64 x, .int .i64 y] 23)).heap.size = W.heap.size + 1 := by simp
    rw [← e]; exact hown2
  have I2 : Hid (Bs w2 a2 zs) := bs_row (by rw [HN.out]; exact O2.out) HB.out.bytes HB.out.len
  have A2 : Hid (∀ b, a2 = some b → b.block < w2.heap.size ∨ zs.length = 0) := by
    intro b hb
    rcases I2.out.lies with h | ⟨b', off, e, hc⟩
    · exact .inr h
    · by_cases h0 : zs.length = 0
      · exact .inr h0
      · rw [hb] at e; cases e
        exact .inl (lt_of_cell (hc 0 (by omega)))
  clear hown2 b2 HL0
  by_cases hlong : 2048 < n
  · go_wp2_with fail
    refine (new_long a2 n c2 x y w2 (by omega) hlong).mono ?_
    rintro e w3 ⟨rfl, rfl⟩
    go_wp2_with fail
    refine (rnew_long a0 n c0 x y w2 (by omega) hlong).mono ?_
    rintro e w3 ⟨rfl, rfl⟩
    go_wp2_with fail
    refine (eq_same a2 a0 n c2 c0 zs w2 HN.out I2.out (HB.out.below B2.out)).mono ?_
    rintro e w3 ⟨rfl, d3⟩
    have B3 := Hid.mk' (B2.out.trans (d3.below _))
    clear d3 rx ry
    go_wp2_with fail
    refine (awake_any w3).mono ?_
    rintro e w4 ⟨rfl, b4⟩
    have B4 : Below W.heap.size W w4 := B3.out.trans (b4.mono B3.out.size)
    clear b4
    go_wp2_with fail
    go_ret
    exact ⟨rfl, B4⟩
  · have hshort : n ≤ 2048 := by omega
    clear hlong
    cases hbad : (isR x && isR y) with
    | false =>
      have HBAD := Hid.mk' hbad
      clear hbad
      go_wp2_with fail
      refine (new_bad a2 n c2 x y w2 hshort HBAD.out).mono ?_
      rintro e w3 ⟨rfl, rfl⟩
      go_wp2_with fail
      refine (rnew_bad a0 n c0 x y w2 hshort HBAD.out).mono ?_
      rintro e w3 ⟨rfl, rfl⟩
      go_wp2_with fail
      refine (eq_same a2 a0 n c2 c0 zs w2 HN.out I2.out (HB.out.below B2.out)).mono ?_
      rintro e w3 ⟨rfl, d3⟩
      have B3 := Hid.mk' (B2.out.trans (d3.below _))
      clear d3 rx ry
      go_wp2_with fail
      refine (awake_any w3).mono ?_
      rintro e w4 ⟨rfl, b4⟩
      have B4 : Below W.heap.size W w4 := B3.out.trans (b4.mono B3.out.size)
      clear b4
      go_wp2_with fail
      go_ret
      exact ⟨rfl, B4⟩
    | true =>
      obtain ⟨hx0, hx1, hy0, hy1⟩ : 0 ≤ x ∧ x ≤ 256 ∧ 0 ≤ y ∧ y ≤ 256 := by
        simp [isR] at hbad; omega
      clear hbad
      obtain ⟨x', rfl⟩ : ∃ t : Nat, x = t := ⟨x.toNat, by omega⟩
      obtain ⟨y', rfl⟩ : ∃ t : Nat, y = t := ⟨y.toNat, by omega⟩
      have key1 := new_ok a2 c2 zs x' y' w2 I2.out (by rw [HN.out]; exact hshort) (by omega) (by omega) A2.out
      rw [HN.out] at key1
      have key2 := fun u (hb : Bs u a0 zs) => rnew_ok a0 c0 zs x' y' u hb HA0.out (by rw [HN.out]; exact hshort) (by omega) (by omega)
      rw [HN.out] at key2
      have KEY2 := Hid.mk' key2
      clear key2
      go_wp2_with fail
      refine key1.mono ?_
      rintro e w3 ⟨rfl, hP, b3⟩
      have P3 := Hid.mk' hP
      have L3 := Hid.mk' b3
      have sx := (b3.cell (p := ⟨W.heap.size, 0, none⟩) hsz2).trans rx
      have sy := (b3.cell (p := ⟨W.heap.size, 1, none⟩) hsz2).trans ry
      clear hP b3 key1 rx ry
      go_wp2_with fail
      refine (KEY2.out w3 (HB.out.below (B2.out.trans (L3.out.mono B2.out.size)))).mono ?_
      rintro e w4 ⟨q, bv, rfl, hR, b4⟩
      have R4 := Hid.mk' hR
      have L4 := Hid.mk' b4
      clear hR b4 sx sy KEY2
      have B4 : Hid (Below W.heap.size W w4) := (B2.out.trans (L3.out.mono B2.out.size)).trans (L4.out.mono (by have := B2.out.size; have := L3.out.size; omega))
      have I4 : Hid (Bs w4 a2 zs) := (I2.out.below L3.out).below L4.out
      go_wp2_with fail
      refine (eq_same a2 a0 n c2 c0 zs w4 HN.out I4.out (HB.out.below B4.out)).mono ?_
      rintro e w5 ⟨rfl, d5⟩
      have HM : Hid (PkIs w5 w2.heap.size (w2.heap.size + 1) (List.replicate x' 0) zs (List.replicate y' 0) 0 ∧ RfIs w5 w3.heap.size q bv zs x' y' 0 ∧ Below W.heap.size W w5 ∧ w5.ownsRow (W.heap.size + 1) 5 1 (.slice a2 n c2) n (zs.map (Value.int .u8))) := by
        refine ⟨(P3.out.below L4.out).dr d5, R4.out.dr d5, B4.out.trans (d5.below _), ?_⟩
        have k := Kept.of_below (S := fun _ => False) (L3.out.trans ((L4.out.mono L3.out.size).trans (d5.below _)))
        exact Kept.owns O2.out k (fun _ _ h => h)
      have OB : Hid (∀ g, (Value.slice a2 n c2).ownBlock = some g → W.heap.size < g ∧ g < w2.heap.size) := fun g hg => by have := O2.out.lt g hg; omega
      have hq3 : w2.heap.size + 1 < w3.heap.size := P3.out.glt
      clear d5 I4 B4 L3 L4 P3 R4 I2 A2 O2
      go_wp2_with fail
      go_loopg [12] n (fun f s12 wr => ∃ (k : Nat) (X : List Int), s12 = .int .i64 k ∧ k ≤ n ∧ n - k ≤ f ∧ Hid (X.length = n) ∧ Hid (wr.ownsRow (W.heap.size + 1) 5 1 (.slice a2 n c2) n (X.map (Value.int .u8))) ∧ Hid (Kept (fun i => (Value.slice a2 n c2).ownBlock = some i) w5 wr))
      case atStart => exact ⟨0, zs, rfl, by omega, by omega, HN, HM.out.2.2.2, Kept.refl _ _⟩
      case round =>
        obtain ⟨k, X, rfl, hk, hf, hX, hox, hkp⟩ := hrel
        by_cases hlt : k < n
        · obtain ⟨gx, hgx⟩ : ∃ g, a2 = some ⟨g, 0, none⟩ := by
            rcases hox.out.2 with ⟨_, h2⟩ | ⟨g, cap, cur, h, _⟩
            · omega
            · simp at h; exact ⟨g, h.1⟩
          subst hgx
          have cc : wr.cell? ⟨gx, k, none⟩ = some (.int .u8 (X.getD k 0)) := by
            rw [hox.out.cellAt k (by omega)]
            have : k < X.length := by rw [hX.out]; exact hlt
            simp [this]
          have ff := hox.out.frozenAt k
          generalize X.getD k 0 = z at cc
          have hox' : Hid (∀ u : Int, (wr.setCell ⟨gx, k, none⟩ (.int .u8 u)).ownsRow (W.heap.size + 1) 5 1 (.slice (some ⟨gx, 0, none⟩) n c2) n ((X.set k u).map (Value.int .u8))) := by
            intro u
            have := (hox.out.stored k (.int .u8 u)).1
            rw [← List.map_set] at this
            exact this
          have hk' : Hid (∀ u : Value, Kept (fun i => (Value.slice (some ⟨gx, 0, none⟩) n c2).ownBlock = some i) w5 (wr.setCell ⟨gx, k, none⟩ u)) := fun u => hkp.out.setCell (p := ⟨gx, k, none⟩) (fun _ => rfl) u
          have hsp : (k : Int) < (n : Int) := by omega
          go_wp2_with fail
          go_roundg (n - (k + 1))
          case measure => omega
          case rel => exact ⟨k + 1, X.set k _, by go_num, by omega, by omega, Hid.mk' (by rw [List.length_set]; exact hX.out), hox'.out _, hk'.out _⟩
        · have HI : Hid (Pl W W.heap.size (fun i => i < W.heap.size) wr w2.heap.size q zs x' y' 0) := by
            obtain ⟨h1, h2, h3, -⟩ := HM.out
            have hT : ∀ i, (Value.slice a2 n c2).ownBlock = some i → W.heap.size < i ∧ i < w2.heap.size := OB.out
            have h2' : RfIs w5 W.heap.size q bv zs x' y' 0 := ⟨h2.box, ownsRow_base h2.row (by omega), h2.ne, by have := h2.le; omega, h2.bytes, h2.most, h2.mvs⟩
            refine ⟨⟨w2.heap.size + 1, _, _, bv, h1.kept hkp.out (fun e => by have := hT _ e; omega) (fun e => by have := hT _ e; omega), by simp, by simp, h2'.kept hkp.out (fun i hi e => ?_), fun i hi hr => ?_, fun i hi e => ?_, fun i hi e => ?_⟩, fun i hi => hi, ?_⟩
            · have := hT _ e; have := (h2.above hi).1; omega
            · have := (h2.above hr).1
              rcases hi with rfl | rfl <;> omega
            · rcases hi with rfl | rfl <;> omega
            · have := (h2.above hi).1; omega
            · exact (Kept.of_below h3).then hkp.out (fun i _ e => by have := hT _ e; omega)
          clear HM OB hox hkp hX hq3
          generalize w2.heap.size = p at *
          go_wp2_with fail
          go_loopg [13] 150 (fun f s13 wr2 => ∃ (j : Nat) (B : List Int) (a d m : Nat), s13 = .int .i64 j ∧ j ≤ 150 ∧ j ≤ ln ∧ 150 - j ≤ f ∧ m ≤ j ∧ Hid (Pl W W.heap.size (fun i => i < W.heap.size) wr2 p q B a d m))
          case atStart => exact ⟨0, zs, x', y', 0, rfl, by omega, by omega, by omega, by omega, HI⟩
          case round =>
            clear HI
            obtain ⟨j, B, a, d, m, rfl, hj1, hj2, hf2, hm, hI⟩ := hrel
            by_cases hlt2 : j < ln ∧ j < 150
            · obtain ⟨hlt3, hlt4⟩ := hlt2
              have hsp : (j : Int) < (ln : Int) := by omega
              have hsp2 : (j : Int) < 150 := by omega
              obtain ⟨b, off, kd, nn, xx, kk, vv, ha, q0, q1, q2, q3, q4, hbl, hkd, hxx, hvv⟩ := do_cells HO.out j (by rw [HLN.out]; exact hlt3)
              subst ha
              have d0 := hI.out.old.cell q0 (fun e => e hbl)
              have d1 := hI.out.old.cell q1 (fun e => e hbl)
              have d2 := hI.out.old.cell q2 (fun e => e hbl)
              have d3 := hI.out.old.cell q3 (fun e => e hbl)
              have d4 := hI.out.old.cell q4 (fun e => e hbl)
              clear q0 q1 q2 q3 q4
              have key := done_any W W.heap.size _ wr p q B a d m kd nn xx kk vv hI.out (by omega) hkd.1 hkd.2 hxx.1 hxx.2 hvv.1 hvv.2
              have KEY := Hid.mk' key
              clear key hI
              go_wp2_with fail
              refine KEY.out.mono ?_
              rintro e w6 ⟨rfl, B', a', d', m', hP6, hm6⟩
              have P6 := Hid.mk' hP6
              clear hP6 KEY d0 d1 d2 d3 d4
              go_wp2_with fail
              refine (pl_shows P6.out).mono ?_
              rintro e w7 ⟨rfl, b7⟩
              have P7 : Hid (Pl W W.heap.size (fun i => i < W.heap.size) w7 p q B' a' d' m') := P2.below P6.out b7
              clear b7 P6
              go_wp2_with fail
              go_roundg (150 - (j + 1))
              case measure => omega
              case rel => exact ⟨j + 1, B', a', d', m', by go_num, by omega, by omega, by omega, by omega, P7⟩
            · go_wp2_with fail
              all_goals
                refine (pl_shows hI.out).mono ?_
                rintro e w7 ⟨rfl, b7⟩
                have B7 : Below W.heap.size W w7 := (hI.out.old.below (Nat.le_refl _) (fun i hi e => e hi)).trans (b7.mono hI.out.old.size)
                clear b7
                go_wp2_with fail
                refine (awake_any w7).mono ?_
                rintro e w8 ⟨rfl, b8⟩
                have B8 : Below W.heap.size W w8 := B7.trans (b8.mono B7.size)
                clear b8 B7
                go_wp2_with fail
                go_ret
                exact ⟨rfl, B8⟩

theorem walkPacketPlays (a0 : Option Addr) (c0 : Nat) (zs : List Int) (m1 : sh23.M) (a2 : Option Addr) (c2 : Nat) (xs : List sh38.M) (W : World) (h0 : Bs W a0 zs) (n0 : (a0 = none → c0 = 0) ∧ zs.length ≤ c0) (_o1 : sh23.ok W m1)
    (o2 : SlOk sh38 W a2 c2 xs) (l2 : xs.length ≤ 140737488351232) (u0 : zs.length ≤ 140737488351232) :
    Calls Try.prog 3 #[.slice a0 zs.length c0, .agg (sh23.cs m1).toArray, .slice a2 xs.length c2] W fun e w' => e = .returned (.bool true) ∧ Below W.heap.size W w' :=
  plays_any a0 c0 zs m1.1 m1.2 a2 c2 xs W h0 n0.1 o2 l2 u0
end Go.Proofs.Ytllhamcolinedaa
