/- For LeaseBounds: deeds as plain data; append of bytes in three arms; what stands at the head of its loop. -/
import Derived.Test.YtnpcglgboemmcaaLk
import Derived.Test.YtnpcglgboemmcaaLc
namespace Go.Proofs.Ytnpcglgboemmcaa
open Go.ChangeShapes Go.WideShapes Go.ChangeAt Go.RowKit

abbrev DeedM := Int × Int × Option Addr × Nat × List Int

theorem szs_len : ∀ (zs : List Int), szs sh5 zs = zs.length
  | [] => rfl
  | z :: r => by
    have := szs_len r
    show sh5.sz z + szs sh5 r = _
    rw [this]
    show 1 + r.length = _
    simp; omega

/-- A slice of bytes within an argument. -/
theorem bs_of_sl {W : World} {a : Option Addr} {c : Nat} {zs : List Int} (h : SlOk sh5 W a c zs) (hl : zs.length ≤ 140737488355328) : Bs W a zs := by
  obtain ⟨_, h2, h3⟩ := h
  refine ⟨hl, fun z hz => bounds_u8 (h3 z hz), ?_⟩
  rcases h2 with h0 | ⟨b, off, rfl, hc⟩
  · exact .inl h0
  · refine .inr ⟨b, off, rfl, fun i hi => ?_⟩
    have hx : zs[i]? = some zs[i] := List.getElem?_eq_getElem hi
    have k := hc i zs[i] hx 0 (.int .u8 zs[i]) rfl
    have e : off + i * sh5.n + 0 = off + i := by show off + i * 1 + 0 = off + i; omega
    rw [e] at k
    rw [k]
    simp [hi]

theorem deed_cells {W : World} {a : Option Addr} {c : Nat} {xs : List DeedM} (h : SlOk sh53 W a c xs) (hs : szs sh53 xs ≤ 1048576) (i : Nat) (hi : i < xs.length) :
    ∃ (b off : Nat) (kd x : Int) (ba : Option Addr) (bc : Nat) (ys : List Int), a = some ⟨b, off, none⟩ ∧ W.cell? ⟨b, off + i * 3, none⟩ = some (.int .u8 kd) ∧ W.cell? ⟨b, off + i * 3 + 1, none⟩ = some (.int .i64 x) ∧
      W.cell? ⟨b, off + i * 3 + 2, none⟩ = some (.slice ba ys.length bc) ∧ b < W.heap.size ∧ (-9223372036854775808 ≤ x ∧ x ≤ 9223372036854775807) ∧ Bs W ba ys ∧ (ba = none → bc = 0) ∧ ys.length ≤ bc ∧ ys.length ≤ 1048576 := by
  obtain ⟨_, h2, h3⟩ := h
  rcases h2 with h0 | ⟨b, off, rfl, hc⟩
  · exact absurd hi (by rw [show xs.length = 0 from h0]; omega)
  · have hx : xs[i]? = some xs[i] := List.getElem?_eq_getElem hi
    generalize xs[i] = m at hx
    obtain ⟨kd, x, ba, bc, ys⟩ := m
    have k := hc i (kd, x, ba, bc, ys) hx
    have c0 := k 0 (.int .u8 kd) rfl
    have o := h3 (kd, x, ba, bc, ys) (List.mem_of_getElem? hx)
    have hsz : 1 + (1 + (szs sh5 ys + 1)) ≤ szs sh53 xs := szs_mem sh53 (List.mem_of_getElem? hx)
    have hy : ys.length ≤ 1048576 := by
      rw [szs_len] at hsz
      omega
    exact ⟨b, off, kd, x, ba, bc, ys, rfl, c0, k 1 (.int .i64 x) rfl, k 2 (.slice ba ys.length bc) rfl, lt_of_cell c0, bounds_i64 o.2.1, bs_of_sl o.2.2 (by omega), o.2.2.1.1, o.2.2.1.2.1, hy⟩

/-- Nothing is appended. -/
theorem wpList_app_none {w : World} {ops : Array Oper} {rest : List Oper} {o : Oper} {a : Act} {Q : Exit → Act → World → Prop} (hgd : o.guard = none) (s x : Operand)
    (ho : o.op = .call { callee := .builtin .append, args := #[s, x], argTypes := #[22, 22] })
    (v : Option Addr) (n c : Nat) (hs : a.eval s = .slice v n c) (hnc : n ≤ c) (xa : Option Addr) (xc : Nat) (hx : a.eval x = .slice xa 0 xc)
    (h : wpList Try.prog ops Q rest (a.put o.dst (.slice v n c)) w) : wpList Try.prog ops Q (o :: rest) a w := by
  obtain ⟨i0, hi, hz0, hz1, hz2⟩ := info_parts info_u8
  refine wpList_plain hgd fun K hK => ?_
  have hrun : (Builtin.append_ #[22, 22] o.type #[.slice v n c, .slice xa 0 xc]).run Try.prog w = .ok (.slice v n c) w := by
    cases xa <;> cases v <;> simp [Builtin.append_, run_underlying Try.underlying22, Go.sizeOf, typeInfo, hi, Builtin.lenOf, hnc, Builtin.firstCells, loadCells, loadCellsFrom, storeCells]
  unfold Oper.wp
  simp [execOp, ho, resolve, invoke, builtin, hs, hx, hrun, Result.andThen]
  exact hK _ _ h

theorem cells_of_bs {w : World} {xa : Option Addr} {ys : List Int} (h : Bs w xa ys) (hp : 0 < ys.length) : ∃ ad : Addr, xa = some ad ∧ ∀ j u, (ys.map (Value.int .u8))[j]? = some u → w.cell? (ad.add j) = some u := by
  rcases h.lies with h0 | ⟨b, off, rfl, hc⟩
  · omega
  · refine ⟨_, rfl, fun j u hj => ?_⟩
    have hlt : j < ys.length := by have := (List.getElem?_eq_some_iff.1 hj).1; simpa using this
    rw [addr_add, hc j hlt]
    simp [hlt] at hj
    simp [hlt, hj]

/-- Bytes are appended where there is room. -/
theorem wpList_app_room {w : World} {ops : Array Oper} {rest : List Oper} {o : Oper} {a : Act} {Q : Exit → Act → World → Prop} (hgd : o.guard = none) (s x : Operand)
    (ho : o.op = .call { callee := .builtin .append, args := #[s, x], argTypes := #[22, 22] })
    (b off n c : Nat) (hs : a.eval s = .slice (some ⟨b, off, none⟩) n c) (xa : Option Addr) (xc : Nat) (ys : List Int) (m : Nat) (hm : ys.length = m) (hx : a.eval x = .slice xa m xc) (hy : Bs w xa ys) (hp : 0 < m) (hroom : n + m ≤ c)
    (hspare : ∀ j, j < m → (w.cell? ⟨b, off + n + j, none⟩).isSome = true ∧ w.frozen? ⟨b, off + n + j, none⟩ = false)
    (h : wpList Try.prog ops Q rest (a.put o.dst (.slice (some ⟨b, off, none⟩) (n + m) c)) (w.setCells b (off + n) (ys.map (Value.int .u8)))) : wpList Try.prog ops Q (o :: rest) a w := by
  subst hm
  obtain ⟨i0, hi, hz0, hz1, hz2⟩ := info_parts info_u8
  obtain ⟨ad, rfl, hn⟩ := cells_of_bs hy hp
  refine wpList_plain hgd fun K hK => ?_
  have hrun := run_append_room_cells (P := Try.prog) w 22 o.type 5 i0 Try.underlying22 hi b off n c ad ys.length xc (ys.map (Value.int .u8)) (by simp [hz1]) hn (ints_oneCell _ _) hroom (fun j hj => by rw [hz1, Nat.mul_one]; exact (hspare j (by simpa using hj)).1) (fun j hj => by rw [hz1, Nat.mul_one]; exact (hspare j (by simpa using hj)).2)
  rw [hz1, Nat.mul_one] at hrun
  unfold Oper.wp
  simp [execOp, ho, resolve, invoke, builtin, hs, hx, hrun, Result.andThen]
  exact hK _ _ h

/-- Bytes are appended where there is no room. -/
theorem wpList_app_grow {w : World} {ops : Array Oper} {rest : List Oper} {o : Oper} {a : Act} {Q : Exit → Act → World → Prop} (hgd : o.guard = none) (s x : Operand)
    (ho : o.op = .call { callee := .builtin .append, args := #[s, x], argTypes := #[22, 22] })
    (v : Option Addr) (n c : Nat) (hs : a.eval s = .slice v n c) (hv : v = none → n = 0 ∧ c = 0) (olds : List Value) (hlo : olds.length = n) (holds : ∀ b, v = some b → ∀ j u, olds[j]? = some u → w.cell? (b.add j) = some u)
    (xa : Option Addr) (xc : Nat) (ys : List Int) (m : Nat) (hm : ys.length = m) (hx : a.eval x = .slice xa m xc) (hy : Bs w xa ys) (hp : 0 < m) (hfull : c < n + m) (hsz : n + m ≤ 140737488355328)
    (h : ∀ v' w', w'.ownsRow w.heap.size 5 1 v' (n + m) (olds ++ ys.map (Value.int .u8)) → w.grownBy w' none → wpList Try.prog ops Q rest (a.put o.dst v') w') : wpList Try.prog ops Q (o :: rest) a w := by
  subst hm
  obtain ⟨i0, hi, hz0, hz1, hz2⟩ := info_parts info_u8
  obtain ⟨ad, rfl, hn⟩ := cells_of_bs hy hp
  exact wpList_append_grows w hgd s x 22 ho 5 i0 (.int .u8 0) 1 1 Try.underlying22 hi hz0 hz1 hz2 rfl (by decide) v n c olds hs hv (by rw [hlo, Nat.mul_one]) holds ad ys.length xc (ys.map (Value.int .u8)) hx (by simp) hn (ints_oneCell _ _) hfull (by unfold maxLen; omega) (by omega) h

theorem some_setCell (w : World) (a x : Addr) (v : Value) (h : (w.cell? x).isSome = true) : ((w.setCell a v).cell? x).isSome = true := by
  by_cases e : a = x
  · subst e
    obtain ⟨u, hu⟩ := Option.isSome_iff_exists.1 h
    rw [World.cell?_setCell_same _ _ _ hu]; rfl
  · rw [World.cell?_setCell_other _ _ _ _ e]; exact h

/-- Bytes put over bytes, from a place on. -/
def putF : List Int → Nat → List Int → List Int
  | c, _, [] => c
  | c, o, z :: r => putF (c.set o z) (o + 1) r

theorem putF_length : ∀ (ys c : List Int) (o : Nat), (putF c o ys).length = c.length
  | [], _, _ => rfl
  | z :: r, c, o => by rw [putF, putF_length r]; simp
theorem putF_snoc : ∀ (ys c : List Int) (o : Nat) (z : Int), putF c o (ys ++ [z]) = (putF c o ys).set (o + ys.length) z
  | [], c, o, z => by simp [putF]
  | y :: r, c, o, z => by
    rw [List.cons_append, putF, putF_snoc r, putF]
    congr 1
    simp; omega
theorem putF_out : ∀ (ys c : List Int) (o i : Nat), i < o ∨ o + ys.length ≤ i → (putF c o ys).getD i 0 = c.getD i 0
  | [], _, _, _, _ => rfl
  | y :: r, c, o, i, h => by
    simp only [List.length_cons] at h
    rw [putF, putF_out r _ _ _ (by omega)]
    simp only [List.getD_eq_getElem?_getD]
    rw [List.getElem?_set_ne (by omega)]

theorem Buf.putCells {g : Nat} : ∀ (ys : List Int) (w : World) (c : List Int) (o : Nat), Buf w g c → Bytes ys → o + ys.length ≤ c.length → Buf (w.setCells g o (ys.map (Value.int .u8))) g (putF c o ys)
  | [], w, c, o, h, _, _ => h
  | y :: r, w, c, o, h, hb, hl => by
    simp only [List.length_cons] at hl
    have hy := hb y (by simp)
    exact Buf.putCells r _ _ _ (h.set o (by omega) y hy.1 hy.2) (fun z hz => hb z (by simp [hz])) (by simp; omega)

/-- What LeaseBounds keeps of the bytes and of what is wanted, within its rounds. -/
structure Bd (Q : Nat) (W wr : World) (zs : List Int) (A N gi gw : Nat) (ci cw : List Int) : Prop where
  old : Below W.heap.size W wr
  b0 : wr.cell? ⟨W.heap.size, 0, none⟩ = some (.int .i64 A)
  b1 : wr.cell? ⟨W.heap.size, 1, none⟩ = some (.int .i64 N)
  bi : Buf wr gi ci
  bw : Buf wr gw cw
  leni : ci.length = zs.length
  lenw : cw.length = zs.length
  out : ∀ i, i < A ∨ A + N ≤ i → ci.getD i 0 = zs.getD i 0
  li : W.heap.size ≤ gi ∧ gi < Q
  lw : W.heap.size ≤ gw ∧ gw < Q
  q : W.heap.size < Q ∧ Q ≤ wr.heap.size
  ne : 0 < zs.length → gi ≠ gw ∧ W.heap.size < gi ∧ W.heap.size < gw

theorem Bd.step {Q : Nat} {W wr wr' : World} {zs : List Int} {A N gi gw : Nat} {ci cw : List Int} {S : Nat → Prop} (h : Bd Q W wr zs A N gi gw ci cw) (k : Kept S wr wr') (h1 : ¬ S gi) (h2 : ¬ S gw) (h3 : ∀ i, i ≤ W.heap.size → ¬ S i) : Bd Q W wr' zs A N gi gw ci cw :=
  ⟨h.old.trans (k.below h.old.size (fun i hi => h3 i (by omega))), k.cell h.b0 (h3 _ (Nat.le_refl _)), k.cell h.b1 (h3 _ (Nat.le_refl _)), h.bi.kept (Nat.lt_of_lt_of_le h.li.2 h.q.2) k h1, h.bw.kept (Nat.lt_of_lt_of_le h.lw.2 h.q.2) k h2, h.leni, h.lenw, h.out, h.li, h.lw, ⟨h.q.1, Nat.le_trans h.q.2 k.size⟩, h.ne⟩

theorem Bd.alloc {Q : Nat} {W wr : World} {zs : List Int} {A N gi gw : Nat} {ci cw : List Int} (h : Bd Q W wr zs A N gi gw ci cw) (o : Obj) : Bd Q W (wr.alloc o) zs A N gi gw ci cw :=
  h.step ((Kept.refl (fun _ => False) wr).alloc o) (fun h => h) (fun h => h) (fun _ _ h => h)

theorem Bd.room {Q Q' : Nat} {W wr : World} {zs : List Int} {A N gi gw : Nat} {ci cw : List Int} (h : Bd Q W wr zs A N gi gw ci cw) (h1 : Q ≤ Q') (h2 : Q' ≤ wr.heap.size) : Bd Q' W wr zs A N gi gw ci cw :=
  ⟨h.old, h.b0, h.b1, h.bi, h.bw, h.leni, h.lenw, h.out, ⟨h.li.1, by have := h.li.2; omega⟩, ⟨h.lw.1, by have := h.lw.2; omega⟩, ⟨by have := h.q.1; omega, h2⟩, h.ne⟩

/-- The bytes are written within the window. -/
theorem Bd.puti {Q : Nat} {W wr : World} {zs : List Int} {A N gi gw : Nat} {ci cw : List Int} (h : Bd Q W wr zs A N gi gw ci cw) (p : Nat) (ys : List Int) (hb : Bytes ys) (hA : A ≤ p) (hN : p + ys.length ≤ A + N) (hz : A + N ≤ zs.length) (h0 : 0 < zs.length) :
    Bd Q W (wr.setCells gi p (ys.map (Value.int .u8))) zs A N gi gw (putF ci p ys) cw := by
  obtain ⟨hne, hgi, hgw⟩ := h.ne h0
  have k : Kept (fun k => k = gi) wr (wr.setCells gi p (ys.map (Value.int .u8))) := (Kept.refl _ wr).grown (grownBy_setCells gi _ p wr) (fun k e _ => by simpa using e.symm)
  refine ⟨h.old.trans (k.below h.old.size (fun i hi => by omega)), k.cell h.b0 (by show ¬ W.heap.size = gi; omega), k.cell h.b1 (by show ¬ W.heap.size = gi; omega), Buf.putCells ys _ _ _ h.bi hb (by have := h.leni; omega), h.bw.kept (Nat.lt_of_lt_of_le h.lw.2 h.q.2) k (fun e => hne e.symm), by rw [putF_length, h.leni], h.lenw, fun i hi => ?_, h.li, h.lw, ⟨h.q.1, Nat.le_trans h.q.2 k.size⟩, h.ne⟩
  rw [putF_out _ _ _ _ (by omega)]
  exact h.out i hi

theorem Bd.seti {Q : Nat} {W wr : World} {zs : List Int} {A N gi gw : Nat} {ci cw : List Int} (h : Bd Q W wr zs A N gi gw ci cw) (p : Nat) (z : Int) (hz0 : 0 ≤ z) (hz1 : z ≤ 255) (hA : A ≤ p) (hN : p < A + N) (hz : A + N ≤ zs.length) :
    Bd Q W (wr.setCell ⟨gi, p, none⟩ (.int .u8 z)) zs A N gi gw (ci.set p z) cw :=
  h.puti p [z] (by intro y hy; simp at hy; subst hy; exact ⟨hz0, hz1⟩) hA (by simp; omega) hz (by omega)

theorem Bd.setw {Q : Nat} {W wr : World} {zs : List Int} {A N gi gw : Nat} {ci cw : List Int} (h : Bd Q W wr zs A N gi gw ci cw) (p : Nat) (z : Int) (hz0 : 0 ≤ z) (hz1 : z ≤ 255) (hp : p < zs.length) :
    Bd Q W (wr.setCell ⟨gw, p, none⟩ (.int .u8 z)) zs A N gi gw ci (cw.set p z) := by
  obtain ⟨hne, hgi, hgw⟩ := h.ne (by omega)
  have k : Kept (fun k => k = gw) wr (wr.setCell ⟨gw, p, none⟩ (.int .u8 z)) := (Kept.refl (fun k => k = gw) wr).setCell (fun _ => rfl) _
  exact ⟨h.old.trans (k.below h.old.size (fun i hi => by omega)), k.cell h.b0 (by show ¬ W.heap.size = gw; omega), k.cell h.b1 (by show ¬ W.heap.size = gw; omega), h.bi.kept (Nat.lt_of_lt_of_le h.li.2 h.q.2) k (fun e => hne e), h.bw.set p (by have := h.lenw; omega) z hz0 hz1, h.leni, by rw [List.length_set]; exact h.lenw, h.out, h.li, h.lw, ⟨h.q.1, Nat.le_trans h.q.2 k.size⟩, h.ne⟩

/-- The slice that is held. -/
structure Held (Q : Nat) (W wr : World) (A N gi gw : Nat) (ins : Bool) (p len c : Nat) (v : Option Addr) : Prop where
  le : len ≤ c
  none : v = none → c = 0
  yes : ins = true → ∃ o, p = A + o ∧ o + c = N ∧ (0 < c → v = some ⟨gi, A + o, .none⟩)
  no : ins = false → 0 < c → ∃ gh oh, v = some ⟨gh, oh, .none⟩ ∧ W.heap.size < gh ∧ gh < Q ∧ gh ≠ gi ∧ gh ≠ gw ∧ ∀ j, j < c → (wr.cell? ⟨gh, oh + j, .none⟩).isSome = true ∧ wr.frozen? ⟨gh, oh + j, .none⟩ = false

theorem Held.room {Q Q' : Nat} {W wr : World} {A N gi gw : Nat} {ins : Bool} {p len c : Nat} {v : Option Addr} (h : Held Q W wr A N gi gw ins p len c v) (hq : Q ≤ Q') : Held Q' W wr A N gi gw ins p len c v :=
  ⟨h.le, h.none, h.yes, fun hi hc => by
    obtain ⟨gh, oh, h1, h2, h3, h4⟩ := h.no hi hc
    exact ⟨gh, oh, h1, h2, by omega, h4⟩⟩

theorem Held.set {Q : Nat} {W wr : World} {A N gi gw : Nat} {ins : Bool} {p len c : Nat} {v : Option Addr} (h : Held Q W wr A N gi gw ins p len c v) (a : Addr) (u : Value) : Held Q W (wr.setCell a u) A N gi gw ins p len c v :=
  ⟨h.le, h.none, h.yes, fun hi hc => by
    obtain ⟨gh, oh, h1, h2, h3, h4, h5, h6⟩ := h.no hi hc
    exact ⟨gh, oh, h1, h2, h3, h4, h5, fun j hj => ⟨some_setCell _ _ _ _ (h6 j hj).1, by rw [World.frozen?_setCell]; exact (h6 j hj).2⟩⟩⟩

theorem Held.step {Q : Nat} {W wr wr' : World} {A N gi gw : Nat} {ins : Bool} {p len c : Nat} {v : Option Addr} (h : Held Q W wr A N gi gw ins p len c v) (hq : Q ≤ wr.heap.size) (k : Below wr.heap.size wr wr') : Held Q W wr' A N gi gw ins p len c v :=
  ⟨h.le, h.none, h.yes, fun hi hc => by
    obtain ⟨gh, oh, h1, h2, h3, h4, h5, h6⟩ := h.no hi hc
    refine ⟨gh, oh, h1, h2, h3, h4, h5, fun j hj => ⟨?_, ?_⟩⟩
    · rw [k.cell (p := ⟨gh, oh + j, .none⟩) (by show gh < _; omega)]; exact (h6 j hj).1
    · rw [k.frozen (p := ⟨gh, oh + j, .none⟩) (by show gh < _; omega)]; exact (h6 j hj).2⟩

/-- The held slice is cut at its beginning. -/
theorem Held.cut {Q : Nat} {W wr : World} {A N gi gw : Nat} {ins : Bool} {p len c : Nat} {v : Option Addr} (h : Held Q W wr A N gi gw ins p len c v) (f l' p' : Nat) (hf : f ≤ c) (hl : l' ≤ c - f) (hp : ins = true → p' = p + f) :
    Held Q W wr A N gi gw ins p' l' (c - f) (if c = f then v else v.map (·.add f)) := by
  refine ⟨hl, fun e => ?_, fun hi => ?_, fun hi hc => ?_⟩
  · by_cases hcf : c = f
    · omega
    · rw [if_neg hcf] at e
      cases v with
      | none => have := h.none rfl; omega
      | some a => cases e
  · obtain ⟨o, h1, h2, h3⟩ := h.yes hi
    refine ⟨o + f, by have := hp hi; omega, by omega, fun hc => ?_⟩
    rw [if_neg (by omega), h3 (by omega)]
    show some (Addr.add _ f) = _
    rw [addr_add, Nat.add_assoc]
  · obtain ⟨gh, oh, h1, h2, h3, h4, h5, h6⟩ := h.no hi (by omega)
    refine ⟨gh, oh + f, ?_, h2, h3, h4, h5, fun j hj => ?_⟩
    · rw [if_neg (by omega), h1]
      show some (Addr.add _ f) = _
      rw [addr_add]
    · have := h6 (f + j) (by omega)
      rw [← Nat.add_assoc] at this
      exact this

/-- A slice in a new row is held. -/
theorem held_new {Q : Nat} {W wr wr' : World} {A N gi gw p m : Nat} {t : TypeId} {v' : Value} {xs : List Value} (hW : W.heap.size < wr.heap.size) (h1 : gi < wr.heap.size) (h2 : gw < wr.heap.size) (hown : wr'.ownsRow wr.heap.size t 1 v' m xs) (hm : 0 < m) (hQ : wr'.heap.size ≤ Q) :
    ∃ v c, v' = .slice v m c ∧ Held Q W wr' A N gi gw false p m c v := by
  have hown' := hown
  rcases hown.2 with ⟨_, h0⟩ | ⟨g, cap, cur, rfl, hg, hh, hc, hmx, hsz, htk⟩
  · omega
  · refine ⟨_, cap, rfl, hc, (fun e => by cases e), (fun e => by cases e), fun _ _ => ⟨g, 0, rfl, by omega, ?_, by omega, by omega, fun j hj => ⟨?_, hown'.frozenAt _⟩⟩⟩
    · have := (hown'.lt g rfl).2; omega
    · rw [cell_of_row wr' g _ cur _ _ hh]
      have : 0 + j < cur.size := by omega
      rw [Array.getElem?_eq_getElem this]; rfl

/-- Into its own row bytes are put. -/
theorem Held.put {Q : Nat} {W wr : World} {A N gi gw : Nat} {p len c : Nat} {v : Option Addr} (h : Held Q W wr A N gi gw false p len c v) (g o : Nat) (vs : List Value) (l' : Nat) (hl : l' ≤ c) : Held Q W (wr.setCells g o vs) A N gi gw false p l' c v := by
  refine ⟨hl, h.none, (fun e => by cases e), fun hi hc => ?_⟩
  obtain ⟨gh, oh, h1, h2, h3, h4, h5, h6⟩ := h.no hi hc
  refine ⟨gh, oh, h1, h2, h3, h4, h5, fun j hj => ?_⟩
  have key : ∀ (vs : List Value) (o : Nat) (w : World), (w.cell? ⟨gh, oh + j, .none⟩).isSome = true → w.frozen? ⟨gh, oh + j, .none⟩ = false → ((w.setCells g o vs).cell? ⟨gh, oh + j, .none⟩).isSome = true ∧ (w.setCells g o vs).frozen? ⟨gh, oh + j, .none⟩ = false := by
    intro vs
    induction vs with
    | nil => intro o w a b; exact ⟨a, b⟩
    | cons x r ih => intro o w a b; exact ih _ _ (some_setCell _ _ _ _ a) (by rw [World.frozen?_setCell]; exact b)
  exact key vs o wr (h6 j hj).1 (h6 j hj).2

theorem olds_of {w : World} {v : Option Addr} {len : Nat} (h : 0 < len → ∃ g o, v = some ⟨g, o, none⟩ ∧ ∀ j, j < len → (w.cell? ⟨g, o + j, none⟩).isSome = true) :
    ∃ olds : List Value, olds.length = len ∧ ∀ b, v = some b → ∀ j u, olds[j]? = some u → w.cell? (b.add j) = some u := by
  by_cases h0 : len = 0
  · exact ⟨[], by simp [h0], by simp⟩
  · obtain ⟨g, o, rfl, hc⟩ := h (by omega)
    refine ⟨(List.range len).map fun j => (w.cell? ⟨g, o + j, none⟩).getD (.bool false), by simp, fun b hb j u hj => ?_⟩
    cases hb
    have hjl : j < len := by have := (List.getElem?_eq_some_iff.1 hj).1; simpa using this
    obtain ⟨x, hx⟩ := Option.isSome_iff_exists.1 (hc j hjl)
    rw [addr_add, hx]
    simp [hjl, hx] at hj
    rw [hj]

/-- The cells of the held slice are there. -/
theorem Held.there {Q : Nat} {W wr : World} {zs : List Int} {A N gi gw : Nat} {ci cw : List Int} {ins : Bool} {p len c : Nat} {v : Option Addr} (h : Held Q W wr A N gi gw ins p len c v) (hB : Bd Q W wr zs A N gi gw ci cw) (hz : A + N ≤ zs.length) (hc : 0 < c) :
    ∃ g o, v = some ⟨g, o, .none⟩ ∧ ∀ j, j < c → (wr.cell? ⟨g, o + j, .none⟩).isSome = true := by
  cases ins with
  | true =>
    obtain ⟨o, h1, h2, h3⟩ := h.yes rfl
    refine ⟨gi, A + o, h3 hc, fun j hj => ?_⟩
    rw [hB.bi.cell _ (by rw [hB.leni]; omega)]; rfl
  | false =>
    obtain ⟨gh, oh, h1, _, _, _, _, h6⟩ := h.no rfl hc
    exact ⟨gh, oh, h1, fun j hj => (h6 j hj).1⟩

theorem Held.olds {Q : Nat} {W wr : World} {zs : List Int} {A N gi gw : Nat} {ci cw : List Int} {ins : Bool} {p len c : Nat} {v : Option Addr} (h : Held Q W wr A N gi gw ins p len c v) (hB : Bd Q W wr zs A N gi gw ci cw) (hz : A + N ≤ zs.length) :
    ∃ olds : List Value, olds.length = len ∧ ∀ b, v = some b → ∀ j u, olds[j]? = some u → wr.cell? (b.add j) = some u :=
  olds_of fun h0 => by
    have := h.le
    obtain ⟨g, o, h1, h2⟩ := h.there hB hz (by omega)
    exact ⟨g, o, h1, fun j hj => h2 j (by omega)⟩

/-- A cell of a block that is not written. -/
theorem cell_apart {w : World} {q i g o : Nat} {u v : Value} (h : w.cell? ⟨q, i, none⟩ = some v) (hg : g < q) : (w.setCell ⟨g, o, none⟩ u).cell? ⟨q, i, none⟩ = some v := by
  rw [World.cell?_setCell_other _ _ _ _ (by intro e; cases e; omega)]; exact h
theorem size_setCell (w : World) (a : Addr) (v : Value) : (w.setCell a v).heap.size = w.heap.size := by simp [World.setCell]
theorem size_setCells (g : Nat) : ∀ (vs : List Value) (o : Nat) (w : World), (w.setCells g o vs).heap.size = w.heap.size
  | [], _, _ => rfl
  | v :: r, o, w => by rw [World.setCells, size_setCells g r, size_setCell]
theorem cells_apart {q i g : Nat} {v : Value} (hg : g < q) : ∀ (vs : List Value) (o : Nat) (w : World), w.cell? ⟨q, i, none⟩ = some v → (w.setCells g o vs).cell? ⟨q, i, none⟩ = some v
  | [], _, _, h => h
  | _ :: r, _, _, h => cells_apart hg r _ _ (cell_apart h hg)

theorem Bd.bsi {Q : Nat} {W wr : World} {zs : List Int} {A N gi gw n : Nat} {ci cw : List Int} {a : Option Addr} (h : Bd Q W wr zs A N gi gw ci cw) (hn : zs.length = n) (ha : 0 < n → a = some ⟨gi, 0, none⟩) : Bs wr a ci := by
  by_cases h0 : 0 < n
  · rw [ha h0]; exact h.bi.bs
  · exact ⟨h.bi.len, h.bi.bytes, .inl (by rw [h.leni]; omega)⟩
theorem Bd.bsw {Q : Nat} {W wr : World} {zs : List Int} {A N gi gw n : Nat} {ci cw : List Int} {a : Option Addr} (h : Bd Q W wr zs A N gi gw ci cw) (hn : zs.length = n) (ha : 0 < n → a = some ⟨gw, 0, none⟩) : Bs wr a cw := by
  by_cases h0 : 0 < n
  · rw [ha h0]; exact h.bw.bs
  · exact ⟨h.bw.len, h.bw.bytes, .inl (by rw [h.lenw]; omega)⟩

/-- Behind an append that made a new row. -/
theorem held_grow {q : Nat} {W wq w9 : World} {zs : List Int} {A N gi gw : Nat} {cur : List Int} {p m : Nat} {t : TypeId} {v' : Value} {xs : List Value} (hB : Bd q W wq zs A N gi gw cur cur) (hown : w9.ownsRow wq.heap.size t 1 v' m xs) (hgr : wq.grownBy w9 none) (hm : 0 < m) :
    ∃ v c, v' = .slice v m c ∧ Hid (Bd w9.heap.size W w9 zs A N gi gw cur cur) ∧ Hid (Held w9.heap.size W w9 A N gi gw false p m c v) ∧ Below wq.heap.size wq w9 := by
  have hb : Below wq.heap.size wq w9 := (Below.refl _ _).grown hgr (Nat.le_refl _) (by simp)
  obtain ⟨v, c, rfl, hH⟩ := held_new (A := A) (N := N) (gi := gi) (gw := gw) (p := p) (W := W) (Q := w9.heap.size) (Nat.lt_of_lt_of_le hB.q.1 hB.q.2) (Nat.lt_of_lt_of_le hB.li.2 hB.q.2) (Nat.lt_of_lt_of_le hB.lw.2 hB.q.2) hown hm (Nat.le_refl _)
  exact ⟨v, c, rfl, (hB.step (Kept.of_below (S := fun _ => False) hb) (fun h => h) (fun h => h) (fun _ _ h => h)).room (Nat.le_trans hB.q.2 hb.size) (Nat.le_refl _), hH, hb⟩

/-- Behind an append into the window's room. -/
theorem held_fits {q : Nat} {W wq : World} {zs : List Int} {A N gi gw : Nat} {cur ys : List Int} {p len c : Nat} {v : Option Addr} (hB : Bd q W wq zs A N gi gw cur cur) (hH : Held q W wq A N gi gw true p len c v) (hb : Bytes ys) (hz : A + N ≤ zs.length) (h0 : 0 < ys.length) (hf : len + ys.length ≤ c) :
    Hid (Bd q W (wq.setCells gi (p + len) (ys.map (Value.int .u8))) zs A N gi gw (putF cur (p + len) ys) cur) ∧ Hid (∀ wr, Held q W wr A N gi gw true p (len + ys.length) c v) := by
  obtain ⟨o, h1, h2, h3⟩ := hH.yes rfl
  exact ⟨hB.puti _ ys hb (by omega) (by omega) hz (by omega), fun wr => ⟨hf, hH.none, fun _ => ⟨o, h1, h2, h3⟩, (fun e => by cases e)⟩⟩

/-- Behind an append into its own room. -/
theorem held_own {q : Nat} {W wq : World} {zs : List Int} {A N gi gw : Nat} {cur : List Int} {p len c gh oh m : Nat} (hB : Bd q W wq zs A N gi gw cur cur) (hH : Held q W wq A N gi gw false p len c (some ⟨gh, oh, none⟩)) (h1 : W.heap.size < gh) (h2 : gh ≠ gi) (h3 : gh ≠ gw) (o : Nat) (vs : List Value) (hf : len + m ≤ c) :
    Hid (Bd q W (wq.setCells gh o vs) zs A N gi gw cur cur) ∧ Hid (Held q W (wq.setCells gh o vs) A N gi gw false p (len + m) c (some ⟨gh, oh, none⟩)) :=
  ⟨hB.step ((Kept.refl (fun k => k = gh) wq).grown (grownBy_setCells gh vs o wq) (fun k e _ => by simpa using e.symm)) (fun e => h2 e.symm) (fun e => h3 e.symm) (fun i hi e => by omega), hH.put gh o vs (len + m) hf⟩
end Go.Proofs.Ytnpcglgboemmcaa
