/- The contract of (*Book).Lend. -/
import Derived.Test.YtnpcglgboemmcaaLd
import Derived.Deep.RegionWith
namespace Go.Proofs.Ytnpcglgboemmcaa
open Go.ChangeShapes Go.WideShapes Go.ChangeAt Go.RowKit

theorem lend_ok (a : Option Addr) (n c : Nat) (x y : Nat) (w : World) (hl : n ≤ 140737488355328) (hc : n ≤ c) (h : x + y ≤ n) (ha : 0 < n → a ≠ none) :
    Calls Try.prog 9 #[.slice a n c, .agg #[.int .i64 x, .int .i64 y]] w fun e w' => e = .returned (.tuple #[.slice (winA a x y) y y, .int .i64 0]) ∧ Below w.heap.size w w' := by
  by_cases hy : y = 0
  · subst hy
    exact lend_none a n c x w hl hc (by omega)
  · cases a with
    | none => exact absurd rfl (ha (by omega))
    | some p =>
      have : winA (some p) x y = some (p.add x) := by simp [winA, hy]
      rw [this]
      exact lend_some p n c x y w hl hc h (by omega)

/-- append on what the call owns: where the row lies behind it. -/
theorem run_append_own2 {P : Program} (w : World) (base : Nat) (t ty e : TypeId) (i : TypeInfo) (z : Value) (size bytes : Nat) (ht : P.underlying t = some (.slice e)) (hi : P.info? e = some i) (hz : i.zero = some z)
    (hsize : i.size = size) (hby : i.bytes = bytes) (hzs : z.cells.size = size) (hsz : 0 < size)
    (v : Value) (n : Nat) (xs : List Value) (hown : w.ownsRow base e size v n xs)
    (a : Addr) (m c : Nat) (news : List Value) (hl : news.length = m * size) (hnews : ∀ j u, news[j]? = some u → w.cell? (a.add j) = some u) (h1 : ∀ u ∈ news, u.oneCell' = true)
    (h63 : n + m ≤ maxLen) (hbytes : (n + m) * bytes ≤ 140737488355328) (hbase : base ≤ w.heap.size) :
    ∃ v' w', (Builtin.append_ #[t, t] ty #[v, .slice (some a) m c]).run P w = .ok v' w' ∧ w'.ownsRow base e size v' (n + m) (xs ++ news) ∧ w.grownBy w' v.ownBlock ∧ (v'.ownBlock = v.ownBlock ∨ ∃ g, v'.ownBlock = some g ∧ w.heap.size ≤ g) := by
  obtain ⟨v', w', hr, r1, r2, _⟩ := run_append_own w base t ty e i z size bytes ht hi hz hsize hby hzs hsz v n xs hown a m c news hl hnews h1 h63 hbytes hbase
  refine ⟨v', w', hr, r1, r2, ?_⟩
  rcases hown.2 with ⟨rfl, rfl⟩ | ⟨g, cap, cur, rfl, hbg, hg, hnc, hcm, hcs, htake⟩
  · obtain rfl : xs = [] := List.eq_nil_of_length_eq_zero (by simpa using hown.1)
    obtain ⟨v2, w2, hr2, q1, _, _⟩ := run_append_own w w.heap.size t ty e i z size bytes ht hi hz hsize hby hzs hsz _ 0 [] (World.ownsRow_nil w _ e size) a m c news hl hnews h1 h63 hbytes (Nat.le_refl _)
    rw [hr] at hr2
    cases hr2
    rcases q1.2 with ⟨rfl, _⟩ | ⟨g, cap, cur, rfl, hb, _⟩
    · exact .inl rfl
    · exact .inr ⟨g, rfl, hb⟩
  · by_cases hroom : n + m ≤ cap
    · subst hsize
      have hr2 := run_append_room (P := P) w t ty e i ht hi g n cap cur hg a m c news hl hnews h1 hroom (by rw [hl, hcs, ← Nat.add_mul]; exact Nat.mul_le_mul_right _ hroom)
      rw [hr] at hr2
      cases hr2
      exact .inl rfl
    · obtain ⟨v2, w2, hr2, q1, _⟩ := run_append_arg_grows (P := P) w t ty e i z size bytes ht hi hz hsize hby hzs hsz ⟨g, 0, none⟩ n cap xs hown.1 (hown.cells (g := g) rfl) a m c news hl hnews (by omega) h63 hbytes
      rw [hr] at hr2
      cases hr2
      rcases q1.2 with ⟨rfl, h0⟩ | ⟨g, cap, cur, rfl, hb, _⟩
      · omega
      · exact .inr ⟨g, rfl, hb⟩

/-- append on what the call owns, as one step of a region that draws. -/
theorem step_append_own {P : Program} {ops : Array Oper} {o : Oper} {a : Act} {w : World} {K : Act → World → Prop} {Q : Exit → Act → World → Prop} {E : Prop}
    (hg : o.guard = none) (s x : Operand) (t : TypeId) (hop : o.op = Op.call { callee := Callee.builtin Builtin.append, args := #[s, x], argTypes := #[t, t] })
    (base : Nat) (e : TypeId) (i : TypeInfo) (z : Value) (size bytes : Nat) (ht : P.underlying t = some (.slice e)) (hi : P.info? e = some i) (hz : i.zero = some z)
    (hsize : i.size = size) (hby : i.bytes = bytes) (hzs : z.cells.size = size) (hsz : 0 < size)
    (v : Value) (n : Nat) (xs : List Value) (hs : a.eval s = v) (hown : w.ownsRow base e size v n xs)
    (ad : Addr) (m c : Nat) (news : List Value) (hx : a.eval x = .slice (some ad) m c) (hl : news.length = m * size) (hnews : ∀ j u, news[j]? = some u → w.cell? (ad.add j) = some u) (h1 : ∀ u ∈ news, u.oneCell' = true)
    (h63 : n + m ≤ maxLen) (hbytes : (n + m) * bytes ≤ 140737488355328) (hbase : base ≤ w.heap.size)
    (h : ∀ v' w', w'.ownsRow base e size v' (n + m) (xs ++ news) → w.grownBy w' v.ownBlock → (v'.ownBlock = v.ownBlock ∨ ∃ g, v'.ownBlock = some g ∧ w.heap.size ≤ g) → K (a.put o.dst v') w') :
    if Region.wanted o (yielded ops a.tmps) = true then Oper.wp P o a w K Q else E := by
  have hw : Region.wanted o (yielded ops a.tmps) = true := by simp [Region.wanted, hg]
  rw [if_pos hw]
  obtain ⟨v', w', hr, h2, h3, h4⟩ := run_append_own2 (P := P) w base t o.type e i z size bytes ht hi hz hsize hby hzs hsz v n xs hown ad m c news hl hnews h1 h63 hbytes hbase
  unfold Oper.wp execOp
  simp only [hop, resolve, invoke, builtin, Sem.run_bind, Sem.run_pure, Result.andThen_ok, List.map_toArray, List.map_cons, List.map_nil, hs, hx, hr]
  exact h v' w' h2 h3 h4

set_option maxHeartbeats 1000000 in
theorem blend_out (p : Nat) (a : Option Addr) (n c nx : Nat) (ov : Value) (L : List Loan) (x y : Int) (w : World) (h : BookIs w p a n c nx ov L) (hx : -9223372036854775808 ≤ x) (hx' : x ≤ 9223372036854775807) (hy : -9223372036854775808 ≤ y) (hy' : y ≤ 9223372036854775807)
    (hi : inB x y n = false) :
    Calls Try.prog 18 #[.pointer (some ⟨p, 0, none⟩), .agg #[.int .i64 x, .int .i64 y]] w fun e w' => e = .returned (.tuple #[.slice none 0 0, .int .i64 0, .int .i64 20]) ∧ Below w.heap.size w w' := by
  obtain ⟨c0, c1, c2, c3, fz⟩ := h.cell
  have hlt := h.lt
  have hbig := h.big
  have HK : Hid (Below w.heap.size w (w.alloc (.cells #[.int .i64 x, .int .i64 y] 24))) := (Below.refl _ _).alloc (Nat.le_refl _) _
  have d0 := (HK.out.cell (p := ⟨p, 0, none⟩) hlt).trans c0
  have d1 := (HK.out.cell (p := ⟨p, 1, none⟩) hlt).trans c1
  clear h c0 c1 c2 c3
  go_enter Try.func18, Try.ntmps18
  go_wp2_with fail
  refine (isNone_no p _ d0).mono ?_
  rintro e w' ⟨rfl, rfl⟩
  go_wp2_with fail
  go_region_with (go_at_call 9; refine (lend_out a n c x y _ hbig hx hx' hy hy' hi).mono ?_; rintro e w1 ⟨rfl, b1⟩)
  all_goals
    have b2 : Below w.heap.size w w1 := HK.out.trans (Below.trans (Below.drew (Below.refl _ _)) (b1.mono (by simp)))
    clear b1 d0 d1
    go_wp2_with fail
    go_ret3
    exact ⟨rfl, b2⟩

set_option maxHeartbeats 1000000 in
theorem blend_busy (p : Nat) (a : Option Addr) (n c nx : Nat) (ov : Value) (L : List Loan) (x y : Nat) (w : World) (h : BookIs w p a n c nx ov L) (hi : x + y ≤ n) (ha : 0 < n → a ≠ none) (hb : (L.any fun l => mt l.2.1 l.2.2 x y) = true) :
    Calls Try.prog 18 #[.pointer (some ⟨p, 0, none⟩), .agg #[.int .i64 x, .int .i64 y]] w fun e w' => e = .returned (.tuple #[.slice none 0 0, .int .i64 0, .int .i64 21]) ∧ Below w.heap.size w w' := by
  obtain ⟨c0, c1, c2, c3, fz⟩ := h.cell
  have hlt := h.lt
  have hbig := h.big
  have hcap := h.cap
  have HK : Hid (Below w.heap.size w (w.alloc (.cells #[.int .i64 x, .int .i64 y] 24))) := (Below.refl _ _).alloc (Nat.le_refl _) _
  have d0 := (HK.out.cell (p := ⟨p, 0, none⟩) hlt).trans c0
  have d1 := (HK.out.cell (p := ⟨p, 1, none⟩) hlt).trans c1
  have HA : Hid (0 < n → a ≠ none) := ha
  have HB : Hid (BookIs w p a n c nx ov L) := h
  have HC : Hid ((L.any fun l => mt l.2.1 l.2.2 x y) = true) := hb
  clear h c0 c1 c2 c3 ha hb
  go_enter Try.func18, Try.ntmps18
  go_wp2_with fail
  refine (isNone_no p _ d0).mono ?_
  rintro e w' ⟨rfl, rfl⟩
  go_wp2_with fail
  go_region_with (go_at_call 9; refine (lend_ok a n c x y _ hbig hcap hi HA.out).mono ?_; rintro e w1 ⟨rfl, b1⟩)
  all_goals
    have b2 : Below w.heap.size w w1 := HK.out.trans (Below.trans (Below.drew (Below.refl _ _)) (b1.mono (by simp)))
    have e0 : w1.cell? ⟨w.heap.size, 0, none⟩ = some (.int .i64 x) := by rw [b1.cell (by simp)]; simp
    have e1 : w1.cell? ⟨w.heap.size, 1, none⟩ = some (.int .i64 y) := by rw [b1.cell (by simp)]; simp
    clear b1 d0 d1
    have key := busy_any p a n c nx ov L x y w1 (HB.out.below b2) (by omega) (by omega) (by omega)
    rw [HC.out] at key
    go_wp2_with fail
    refine key.mono ?_
    rintro e w2 ⟨rfl, b3⟩
    have b4 : Below w.heap.size w w2 := b2.trans (b3.mono b2.size)
    clear b3 key b2 e0 e1
    go_wp2_with fail
    go_ret3
    exact ⟨rfl, b4⟩
end Go.Proofs.Ytnpcglgboemmcaa
