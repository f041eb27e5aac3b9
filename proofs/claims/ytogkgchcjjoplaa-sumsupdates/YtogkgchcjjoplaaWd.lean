/- The walk of SumsUpdates. -/
import Derived.Test.YtogkgchcjjoplaaSj
namespace Go.Proofs.Ytogkgchcjjoplaa
open Go.ChangeShapes Go.WideShapes Go.ChangeAt Go.RowKit

theorem tot_set (zs : List Int) (i : Nat) (v : Int) (hi : i < zs.length) : ∀ k : Nat, tot (zs.set i v) k = tot zs k + if i < k then (v - zs.getD i 0) * wt i else 0
  | 0 => by simp [tot]
  | k + 1 => by
    have ih := tot_set zs i v hi k
    simp only [tot]
    rw [ih]
    by_cases hik : i = k
    · subst hik
      have e : (zs.set i v).getD i 0 = v := by simp [List.getD_eq_getElem?_getD, hi]
      rw [if_neg (by omega), if_pos (by omega), e, Int.sub_mul]
      omega
    · have e : (zs.set i v).getD k 0 = zs.getD k 0 := by
        rw [List.getD_eq_getElem?_getD, List.getD_eq_getElem?_getD, List.getElem?_set_ne hik]
      rw [e]
      by_cases h : i < k
      · rw [if_pos h, if_pos (by omega)]; omega
      · rw [if_neg h, if_neg (by omega)]; omega

theorem getD_set_ne (zs : List Int) (i j : Nat) (v : Int) (h : i ≠ j) : (zs.set i v).getD j 0 = zs.getD j 0 := by
  rw [List.getD_eq_getElem?_getD, List.getD_eq_getElem?_getD, List.getElem?_set_ne h]

/-- Two bytes at a place become a number's. -/
def put2 (zs : List Int) (i : Nat) (v : Int) : List Int := (zs.set i (v / 256)).set (i + 1) (v % 256)
theorem put2_length (zs : List Int) (i : Nat) (v : Int) : (put2 zs i v).length = zs.length := by simp [put2]
/-- The number that two bytes are. -/
def get2 (zs : List Int) (i : Nat) : Int := zs.getD i 0 * 256 + zs.getD (i + 1) 0

theorem tot_put2 (zs : List Int) (p : Nat) (v : Int) (k : Nat) (h : 2 * p + 1 < zs.length) (hk : 2 * p + 1 < k) : tot (put2 zs (2 * p) v) k = tot zs k + (v - get2 zs (2 * p)) := by
  unfold put2
  rw [tot_set _ _ _ (by simp; omega), tot_set _ _ _ (by omega), getD_set_ne _ _ _ _ (by omega), if_pos (by omega), if_pos (by omega), wt_even _ (by omega), wt_odd _ (by omega)]
  unfold get2
  omega

theorem get2_put2 (zs : List Int) (p q : Nat) (v : Int) (h : p ≠ q) : get2 (put2 zs (2 * p) v) (2 * q) = get2 zs (2 * q) := by
  unfold get2 put2
  rw [getD_set_ne _ _ _ _ (by omega), getD_set_ne _ _ _ _ (by omega), getD_set_ne _ _ _ _ (by omega), getD_set_ne _ _ _ _ (by omega)]

theorem bytes_set {zs : List Int} (h : Bytes zs) (i : Nat) (v : Int) (h0 : 0 ≤ v) (h1 : v ≤ 255) : Bytes (zs.set i v) := by
  intro z hz
  rcases List.mem_or_eq_of_mem_set hz with h2 | rfl
  · exact h z h2
  · exact ⟨h0, h1⟩
theorem bytes_put2 {zs : List Int} (h : Bytes zs) (i : Nat) (v : Int) (h0 : 0 ≤ v) (h1 : v ≤ 65535) : Bytes (put2 zs i v) :=
  bytes_set (bytes_set h _ _ (by omega) (by omega)) _ _ (by omega) (by omega)

theorem upd_mod (f o n : Int) (hf : 0 ≤ f) (hf' : f ≤ 65535) (ho : 0 ≤ o) (ho' : o ≤ 65535) (hn : 0 ≤ n) (hn' : n ≤ 65535) : (n - o + (upd f o n - f)) % 65535 = 0 := by
  unfold upd
  have h1 := fo_nonneg ((65535 - f) + (65535 - o))
  rw [fo_add _ _ (by omega) (by omega)]
  have h2 := fo_mod ((65535 - f) + (65535 - o) + n) (by omega)
  generalize fo ((65535 - f) + (65535 - o) + n) = g at *
  omega

/-- The stage's theorem, over lists: the sum of all is the same. -/
theorem tot_update {zs : List Int} (hb : Bytes zs) (p q : Nat) (now : Int) (k : Nat) (hpq : p ≠ q) (hp : 2 * p + 1 < zs.length) (hq : 2 * q + 1 < zs.length) (hp' : 2 * p + 1 < k) (hq' : 2 * q + 1 < k) (hn : 0 ≤ now) (hn' : now ≤ 65535) :
    tot (put2 (put2 zs (2 * p) now) (2 * q) (upd (get2 zs (2 * q)) (get2 zs (2 * p)) now)) k % 65535 = tot zs k % 65535 := by
  have g1 := hb.getD (2 * p)
  have g2 := hb.getD (2 * p + 1)
  have g3 := hb.getD (2 * q)
  have g4 := hb.getD (2 * q + 1)
  rw [tot_put2 _ _ _ _ (by rw [put2_length]; omega) hq', tot_put2 _ _ _ _ hp hp', get2_put2 _ _ _ _ hpq]
  have hu := upd_mod (get2 zs (2 * q)) (get2 zs (2 * p)) now (by unfold get2; omega) (by unfold get2; omega) (by unfold get2; omega) (by unfold get2; omega) hn hn'
  generalize upd (get2 zs (2 * q)) (get2 zs (2 * p)) now = u at *
  omega

theorem or16 (a b : Int) (ha : 0 ≤ a) (ha' : a ≤ 255) (hb : 0 ≤ b) (hb' : b ≤ 255) : bits .or .u16 (a * 256) b = a * 256 + b := by
  rw [u16_or _ _ (by omega) (by omega) (by omega) (by omega)]
  have h := Nat.two_pow_add_eq_or_of_lt (i := 8) (b := b.toNat) (by omega) a.toNat
  have e2 : (a * 256).toNat = 2 ^ 8 * a.toNat := by omega
  rw [e2, ← h]; omega

theorem tmod_bd (i : Int) (n : Nat) (h : 0 < n) : -(n : Int) < i.tmod n ∧ i.tmod n < n := by
  rcases Int.le_total 0 i with h0 | h0
  · rw [Int.tmod_eq_emod_of_nonneg h0]
    have := Int.emod_nonneg i (show (n : Int) ≠ 0 from by omega)
    have := Int.emod_lt_of_pos i (show (0 : Int) < n from by omega)
    omega
  · have e : i.tmod n = -((-i).tmod n) := by rw [Int.neg_tmod, Int.neg_neg]
    rw [e, Int.tmod_eq_emod_of_nonneg (show 0 ≤ -i from by omega)]
    have := Int.emod_nonneg (-i) (show (n : Int) ≠ 0 from by omega)
    have := Int.emod_lt_of_pos (-i) (show (0 : Int) < n from by omega)
    omega

set_option maxHeartbeats 400000 in
theorem bring_any (i : Int) (n : Nat) (w : World) (h0 : 0 < n) (h1 : n ≤ 140737488355328) (_hi : -9223372036854775808 ≤ i) (_hi' : i ≤ 9223372036854775807) :
    Calls Try.prog 27 #[.int .i64 i, .int .i64 n] w fun e w' => (∃ r : Nat, r < n ∧ e = .returned (.int .i64 r)) ∧ w' = w := by
  have hne : ¬ (n : Int) = 0 := by omega
  have hn1 : ¬ (n : Int) = -1 := by omega
  have hbd := tmod_bd i n h0
  by_cases hneg : i.tmod n < 0
  · go_enter Try.func27, Try.ntmps27
    go_wp2_with fail
    go_ret
    exact ⟨⟨(i.tmod n + n).toNat, by omega, ret_int (by omega)⟩, rfl⟩
  · go_enter Try.func27, Try.ntmps27
    go_wp2_with fail
    go_ret
    exact ⟨⟨(i.tmod n).toNat, by omega, ret_int (by omega)⟩, rfl⟩

theorem Bs.take {w : World} {a : Option Addr} {zs : List Int} (h : Bs w a zs) (k : Nat) (hk : k ≤ zs.length) : Bs w a (zs.take k) := by
  have e : (zs.take k).length = k := by rw [List.length_take]; omega
  have hl := h.len
  refine ⟨by rw [e]; omega, fun z hz => h.bytes z (List.mem_of_mem_take hz), ?_⟩
  rw [e]
  rcases h.lies with h0 | ⟨b, off, rfl, hc⟩
  · exact .inl (by omega)
  · refine .inr ⟨b, off, rfl, fun i hi => ?_⟩
    rw [hc i (by omega), List.getD_eq_getElem?_getD, List.getD_eq_getElem?_getD, List.getElem?_take_of_lt hi]

theorem su_take (zs : List Int) (k : Nat) : su (zs.take k) k = su zs k := by
  unfold su
  rw [tot_congr _ zs k (fun i hi => by rw [List.getD_eq_getElem?_getD, List.getD_eq_getElem?_getD, List.getElem?_take_of_lt hi])]

set_option maxHeartbeats 4000000 in
theorem walkSumsUpdates (a : Option Addr) (c : Nat) (zs : List Int) (x y now : Int) (W : World) (h0 : Bs W a zs) (n0 : (a = none → c = 0) ∧ zs.length ≤ c) (hx : (Lit.int .i64 x).wf = true) (hy : (Lit.int .i64 y).wf = true) (hw : (Lit.int .u16 now).wf = true) :
    Calls Try.prog 8 #[.slice a zs.length c, .agg #[.int .i64 x, .int .i64 y], .int .u16 now] W fun e w' => e = .returned (.bool true) ∧ Below W.heap.size W w' := by
  obtain ⟨x0, x1⟩ := bounds_i64 hx
  obtain ⟨y0, y1⟩ := bounds_i64 hy
  obtain ⟨nw0, nw1⟩ := bounds_u16 hw
  have H0 : Hid (a = none → c = 0) := n0.1
  have hcc : zs.length ≤ c := n0.2
  clear hx hy hw n0
  have hl := h0.len
  have ba : Below W.heap.size W (W.alloc (.cells #[.int .i64 x, .int .i64 y] 38)) := (Below.refl _ _).alloc (Nat.le_refl _) _
  go_enter Try.func8, Try.ntmps8
  go_wp2_with fail
  refine (awake_any _).mono ?_
  rintro e w1 ⟨rfl, b1⟩
  have hcx : w1.cell? ⟨W.heap.size, 0, none⟩ = some (.int .i64 x) := (b1.cell (p := ⟨W.heap.size, 0, none⟩) (by simp)).trans (by simp)
  have hcy : w1.cell? ⟨W.heap.size, 1, none⟩ = some (.int .i64 y) := (b1.cell (p := ⟨W.heap.size, 1, none⟩) (by simp)).trans (by simp)
  have bW : Below W.heap.size W w1 := ba.trans (b1.mono (by simp))
  clear b1 ba
  obtain ⟨n, hn⟩ : ∃ n : Nat, (zs.length : Int) / 2 = n := ⟨zs.length / 2, by omega⟩
  have HN : Hid ((zs.length : Int) / 2 = n) := hn
  have hnl : 2 * n ≤ zs.length ∧ zs.length ≤ 2 * n + 1 := by omega
  by_cases hsmall : (n : Int) < 2
  · go_wp2_with fail
    go_ret
    exact ⟨rfl, bW⟩
  · go_wp2_with fail
    refine (bring_any x n _ (by omega) (by omega) x0 x1).mono ?_
    rintro e w' ⟨⟨p, hp, rfl⟩, rfl⟩
    go_wp2_with fail
    refine (bring_any y n _ (by omega) (by omega) y0 y1).mono ?_
    rintro e w' ⟨⟨q, hq, rfl⟩, rfl⟩
    by_cases hpq : p = q
    · subst hpq
      go_wp2_with fail
      go_ret
      exact ⟨rfl, bW⟩
    · have hpq' : ((2 * (p : Int)) == 2 * (q : Int)) = false := by simp; omega
      clear hn
      rename_i wv
      go_wp2_with fail
      refine (sum_any _ _ _ _ (h0.below bW)).mono ?_
      rintro e w2 ⟨rfl, d2⟩
      have b2 : Below W.heap.size W w2 := bW.trans (d2.below _)
      go_wp2_with fail
      refine (copy_any a c zs _ (h0.below b2) H0.out).mono ?_
      rintro e w3 ⟨v, rfl, hown, b3'⟩
      have b3 : Below W.heap.size W w3 := b2.trans (b3'.mono b2.size)
      have hg : ∃ g cap, v = .slice (some ⟨g, 0, none⟩) zs.length cap ∧ W.heap.size ≤ g ∧ zs.length ≤ cap := by
        obtain ⟨_, h2⟩ := hown
        rcases h2 with ⟨_, h3⟩ | ⟨g, cap, cur, rfl, hg, _, hc, _⟩
        · omega
        · exact ⟨g, cap, rfl, by have := b2.size; omega, hc⟩
      obtain ⟨g, cap, rfl, hgW, hcap⟩ := hg
      have s3 := h0.below b3
      clear bW b2 d2 b3' hcx hcy
      have hby := h0.bytes
      rcases s3.lies with hz | ⟨bb, off, rfl, hcell⟩
      · omega
      have hp0 := hcell (2 * p) (by omega)
      have hp1 := hcell (2 * p + 1) (by omega)
      have hq0 := hcell (2 * q) (by omega)
      have hq1 := hcell (2 * q + 1) (by omega)
      have gp0 := hby.getD (2 * p)
      have gp1 := hby.getD (2 * p + 1)
      have gq0 := hby.getD (2 * q)
      have gq1 := hby.getD (2 * q + 1)
      have HP : Hid (get2 zs (2 * p) = zs.getD (2 * p) 0 * 256 + zs.getD (2 * p + 1) 0) := rfl
      have HQ : Hid (get2 zs (2 * q) = zs.getD (2 * q) 0 * 256 + zs.getD (2 * q + 1) 0) := rfl
      generalize zs.getD (2 * p) 0 = zp0 at *
      generalize zs.getD (2 * p + 1) 0 = zp1 at *
      generalize zs.getD (2 * q) 0 = zq0 at *
      generalize zs.getD (2 * q + 1) 0 = zq1 at *
      have ep := or16 zp0 zp1 gp0.1 gp0.2 gp1.1 gp1.2
      have eq := or16 zq0 zq1 gq0.1 gq0.2 gq1.1 gq1.2
      have i0 : 2 * (p : Int) < zs.length := by omega
      have i1 : 2 * (p : Int) + 1 < zs.length := by omega
      have i2 : 2 * (q : Int) < zs.length := by omega
      have i3 : 2 * (q : Int) + 1 < zs.length := by omega
      clear hcell
      go_wp2_with fail
      go_quiet ((go_at_call 22; exact Calls.quiet_of_same (update_any (zq0 * 256 + zq1) (zp0 * 256 + zp1) now _ (by omega) (by omega) (by omega) (by omega) nw0 nw1)))
      have hown4 : (w3.drewN nq).ownsRow _ 5 1 (.slice (some ⟨g, 0, none⟩) zs.length cap) zs.length (zs.map (Value.int .u8)) := hown
      have b4 : Below W.heap.size W (w3.drewN nq) := b3.trans ((Dr.more (Dr.refl _) nq).below _)
      have s4 : Bs (w3.drewN nq) (some ⟨bb, off, none⟩) zs := (Dr.more (Dr.refl _) nq).bs s3
      clear hown b3 s3 hp0 hp1 hq0 hq1 ep eq
      have rf := upd_range (zq0 * 256 + zq1) (zp0 * 256 + zp1) now
      have HF : ∃ f, Hid (upd (zq0 * 256 + zq1) (zp0 * 256 + zp1) now = f) := ⟨_, rfl⟩
      obtain ⟨f, HF⟩ := HF
      rw [HF.out] at rf ⊢
      generalize w3.drewN nq = w4 at hown4 b4 s4 ⊢
      have k0 := hown4.cellAt (2 * p) (by omega)
      have k1 := hown4.cellAt (2 * p + 1) (by omega)
      have k2 := hown4.cellAt (2 * q) (by omega)
      have k3 := hown4.cellAt (2 * q + 1) (by omega)
      have f0 := hown4.frozenAt (2 * p)
      have f1 := hown4.frozenAt (2 * p + 1)
      have f2 := hown4.frozenAt (2 * q)
      have f3 := hown4.frozenAt (2 * q + 1)
      rw [List.getElem?_map, List.getElem?_eq_getElem (by omega), Option.map_some] at k0 k1 k2 k3
      generalize Value.int .u8 zs[2 * p] = v0 at k0
      generalize Value.int .u8 zs[2 * p + 1] = v1 at k1
      generalize Value.int .u8 zs[2 * q] = v2 at k2
      generalize Value.int .u8 zs[2 * q + 1] = v3 at k3
      have n1 : ¬ 2 * p = 2 * q := by omega
      have n2 : ¬ 2 * p = 2 * q + 1 := by omega
      have n3 : ¬ 2 * p + 1 = 2 * q := by omega
      have n4 : ¬ 2 * p + 1 = 2 * q + 1 := by omega
      go_wp2_with fail
      have hown5 := ((((hown4.stored (2 * p) (.int .u8 (now / 256))).1.stored (2 * p + 1) (.int .u8 (now % 256))).1.stored (2 * q) (.int .u8 (f / 256))).1.stored (2 * q + 1) (.int .u8 (f % 256))).1
      have b5 := (((b4.setCell (p := ⟨g, 2 * p, none⟩) hgW (.int .u8 (now / 256))).setCell (p := ⟨g, 2 * p + 1, none⟩) hgW (.int .u8 (now % 256))).setCell (p := ⟨g, 2 * q, none⟩) hgW (.int .u8 (f / 256))).setCell (p := ⟨g, 2 * q + 1, none⟩) hgW (.int .u8 (f % 256))
      rw [← List.map_set, ← List.map_set, ← List.map_set, ← List.map_set] at hown5
      generalize (((w4.setCell ⟨g, 2 * p, none⟩ (.int .u8 (now / 256))).setCell ⟨g, 2 * p + 1, none⟩ (.int .u8 (now % 256))).setCell ⟨g, 2 * q, none⟩ (.int .u8 (f / 256))).setCell ⟨g, 2 * q + 1, none⟩ (.int .u8 (f % 256)) = w5 at hown5 b5 ⊢
      clear k0 k1 k2 k3 f0 f1 f2 f3 n1 n2 n3 n4 hown4 b4 s4
      have hmod : ∀ k, 2 * n ≤ k → su (put2 (put2 zs (2 * p) now) (2 * q) f) k % 65535 = su zs k % 65535 := by
        intro k hk
        have hb2 : Bytes (put2 (put2 zs (2 * p) now) (2 * q) f) := bytes_put2 (bytes_put2 hby _ _ nw0 nw1) _ _ rf.1 rf.2
        unfold su
        rw [fo_mod _ (tot_bd hb2 k).1, fo_mod _ (tot_bd hby k).1]
        have := tot_update hby p q now k hpq (by omega) (by omega) (by omega) (by omega) nw0 nw1
        rw [HP.out, HQ.out, HF.out] at this
        exact this
      have HM : Hid (∀ k, 2 * n ≤ k → su (put2 (put2 zs (2 * p) now) (2 * q) f) k % 65535 = su zs k % 65535) := hmod
      clear hmod
      have hb2 : Bytes (put2 (put2 zs (2 * p) now) (2 * q) f) := bytes_put2 (bytes_put2 hby _ _ nw0 nw1) _ _ rf.1 rf.2
      have hl2 : (put2 (put2 zs (2 * p) now) (2 * q) f).length = zs.length := by rw [put2_length, put2_length]
      have hown6 : w5.ownsRow _ 5 1 (.slice (some ⟨g, 0, none⟩) zs.length cap) zs.length ((put2 (put2 zs (2 * p) now) (2 * q) f).map (Value.int .u8)) := hown5
      clear hown5
      generalize put2 (put2 zs (2 * p) now) (2 * q) f = ys at HM hb2 hl2 hown6
      rw [← hl2] at hown6
      obtain ⟨g', c', hv, s6, _⟩ := bs_own hown6 hb2 (by omega)
      simp only [Value.slice.injEq] at hv
      obtain ⟨rfl, _, rfl⟩ := hv
      have s5 := h0.below b5
      have HL : Hid (ys.length = zs.length) := hl2
      clear hown6 hl2 i0 i1 i2 i3
      have t5 := s5.take (2 * n) (by omega)
      have t6 := s6.take (2 * n) (by have := HL.out; omega)
      have j0 : 2 * (n : Int) ≤ c := by omega
      have j1 : 2 * (n : Int) ≤ cap := by omega
      go_quiet ((go_at_call 24; exact Calls.quiet_of (diff_good _ _ _ _ (zs.take (2 * n)) (ys.take (2 * n)) _ ((Dr.more (Dr.refl _) _).bs t5) ((Dr.more (Dr.refl _) _).bs t6) (2 * n) (by rw [List.length_take]; omega) (by have := HL.out; rw [List.length_take]; omega) (by omega))))
      rw [su_take, su_take]
      have hm2 := HM.out (2 * n) (Nat.le_refl _)
      have hm3 := HM.out zs.length (by omega)
      have ry := su_range ys (2 * n)
      have rz := su_range zs (2 * n)
      have hd : (fo (su ys (2 * n) + (65535 - su zs (2 * n))) % 65535 == 0 % 65535) = true := by
        rw [fo_mod _ (by omega)]; simp; omega
      have HD : Hid ((fo (su ys (2 * n) + (65535 - su zs (2 * n))) % 65535 == 0 % 65535) = true) := hd
      have r1 := su_range ys zs.length
      have r2 := su_range zs zs.length
      have HE : Hid ((su ys zs.length % 65535 == su zs zs.length % 65535) = true) := by
        show (su ys zs.length % 65535 == su zs zs.length % 65535) = true
        rw [hm3]; simp
      have b6 : Below W.heap.size W (w5.drewN nq) := b5.trans ((Dr.more (Dr.refl _) nq).below _)
      have s7 := (Dr.more (Dr.refl w5) nq).bs s6
      clear hd hm2 hm3 ry rz t5 t6 j0 j1 s5 s6 b5 HM
      generalize w5.drewN nq = w6 at b6 s7 ⊢
      have r3 := fo_nonneg (su ys (2 * n) + (65535 - su zs (2 * n)))
      have r4 := fo_le (su ys (2 * n) + (65535 - su zs (2 * n)))
      generalize fo (su ys (2 * n) + (65535 - su zs (2 * n))) = dd at HD r3 r4 ⊢
      have c7 := sum_any (some ⟨g, 0, none⟩) cap ys w6 s7
      rw [HL.out] at c7
      go_wp2_with fail
      refine c7.mono ?_
      rintro e w7 ⟨rfl, d7⟩
      clear c7
      go_wp2_with fail
      refine (same_any _ _ _ r1.1 r1.2 r2.1 r2.2).mono ?_
      rintro e w' ⟨rfl, rfl⟩
      rw [HE.out]
      go_wp2_with fail
      refine (same_any _ _ _ r3 r4 (by omega) (by omega)).mono ?_
      rintro e w' ⟨rfl, rfl⟩
      rw [HD.out]
      go_wp2_with fail
      go_ret
      exact ⟨rfl, b6.trans (d7.below _)⟩
end Go.Proofs.Ytogkgchcjjoplaa
