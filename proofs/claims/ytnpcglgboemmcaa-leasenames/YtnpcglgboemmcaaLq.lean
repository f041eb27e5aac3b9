/- The contract of the document's own Lend. -/
import Derived.Test.YtnpcglgboemmcaaLp
import Derived.Test.YtnpcglgboemmcaaLj
import Derived.Deep.CutRange
namespace Go.Proofs.Ytnpcglgboemmcaa
open Go.ChangeShapes Go.WideShapes Go.ChangeAt Go.RowKit

/-- append on what the call owns: where the row lies behind it. -/
theorem wpList_append_own2 {P : Program} (w : World) {ops : Array Oper} {rest : List Oper} {o : Oper} {a : Act} {Q : Exit → Act → World → Prop} (hgd : o.guard = none) (s x : Operand) (t : TypeId)
    (ho : o.op = .call { callee := .builtin .append, args := #[s, x], argTypes := #[t, t] })
    (base : Nat) (e : TypeId) (i : TypeInfo) (z : Value) (size bytes : Nat) (ht : P.underlying t = some (.slice e)) (hi : P.info? e = some i) (hz : i.zero = some z)
    (hsize : i.size = size) (hby : i.bytes = bytes) (hzs : z.cells.size = size) (hsz : 0 < size)
    (v : Value) (n : Nat) (xs : List Value) (hs : a.eval s = v) (hown : w.ownsRow base e size v n xs)
    (ad : Addr) (m c : Nat) (news : List Value) (hx : a.eval x = .slice (some ad) m c) (hl : news.length = m * size) (hnews : ∀ j u, news[j]? = some u → w.cell? (ad.add j) = some u) (h1 : ∀ u ∈ news, u.oneCell' = true)
    (h63 : n + m ≤ maxLen) (hbytes : (n + m) * bytes ≤ 140737488355328) (hbase : base ≤ w.heap.size)
    (h : ∀ v' w', w'.ownsRow base e size v' (n + m) (xs ++ news) → w.grownBy w' v.ownBlock → (v'.ownBlock = v.ownBlock ∨ ∃ g, v'.ownBlock = some g ∧ w.heap.size ≤ g) → wpList P ops Q rest (a.put o.dst v') w') : wpList P ops Q (o :: rest) a w := by
  refine wpList_plain hgd fun K hK => ?_
  obtain ⟨v', w', hr, h2, h3, h4⟩ := run_append_own2 (P := P) w base t o.type e i z size bytes ht hi hz hsize hby hzs hsz v n xs hown ad m c news hl hnews h1 h63 hbytes hbase
  unfold Oper.wp execOp
  simp only [ho, resolve, invoke, builtin, Sem.run_bind, Sem.run_pure, Result.andThen_ok, List.map_toArray, List.map_cons, List.map_nil, hs, hx, hr]
  exact hK _ _ (h v' w' h2 h3 h4)

/-- Does a range meet one that is out? -/
def rbusy (R : List Rg) (F : List Bool) (u v : Int) : Bool := (R.zip F).any fun p => p.2 && mt p.1.1 p.1.2 u v

theorem rbusy_hit {R : List Rg} {F : List Bool} {u v : Int} (k : Nat) (r : Rg) (hr : R[k]? = some r) (hf : F[k]? = some true) (hm : mt r.1 r.2 u v = true) : rbusy R F u v = true := by
  unfold rbusy
  rw [List.any_eq_true]
  refine ⟨(r, true), List.mem_of_getElem? (i := k) ?_, by simpa using hm⟩
  rw [List.getElem?_zip_eq_some]
  exact ⟨hr, hf⟩
theorem rbusy_miss {R : List Rg} {F : List Bool} {u v : Int} (h : ∀ (k : Nat) (r : Rg), R[k]? = some r → F[k]? = some true → mt r.1 r.2 u v = false) : rbusy R F u v = false := by
  unfold rbusy
  rw [List.any_eq_false]
  intro p hp
  obtain ⟨k, hk⟩ := List.mem_iff_getElem?.1 hp
  rw [List.getElem?_zip_eq_some] at hk
  obtain ⟨r, f⟩ := p
  cases f with
  | false => simp
  | true => simpa using h k r hk.1 hk.2

set_option maxHeartbeats 1000000 in
theorem reflend_out (q n : Nat) (av iv : Value) (R : List Rg) (F : List Bool) (x y : Int) (w : World) (h : RefIs w q n av iv R F) (hx : -9223372036854775808 ≤ x) (hx' : x ≤ 9223372036854775807) (hy : -9223372036854775808 ≤ y) (hy' : y ≤ 9223372036854775807) (hi : inB x y n = false) :
    Calls Try.prog 19 #[.pointer (some ⟨q, 0, none⟩), .agg #[.int .i64 x, .int .i64 y]] w fun e w' => e = .returned (.tuple #[.int .i64 0, .int .i64 20]) ∧ Below w.heap.size w w' := by
  obtain ⟨c0, c1, c2, fz⟩ := h.cell
  have hlt := h.lt
  have hbig := h.big
  have HK : Hid (Below w.heap.size w (w.alloc (.cells #[.int .i64 x, .int .i64 y] 24))) := (Below.refl _ _).alloc (Nat.le_refl _) _
  have d0 := (HK.out.cell (p := ⟨q, 0, none⟩) hlt).trans c0
  clear h c0 c1 c2
  go_enter Try.func19, Try.ntmps19
  go_wp2_with fail
  go_region_with (go_at_call 10; refine (within_any x y n _ hbig hx hx' hy hy').mono ?_; rw [hi]; rintro e w1 ⟨rfl, b1⟩)
  all_goals
    have b2 : Below w.heap.size w w1 := HK.out.trans (Below.trans (Below.drew (Below.refl _ _)) (b1.mono (by simp)))
    clear b1 d0
    go_wp2_with fail
    go_ret2
    exact ⟨rfl, b2⟩

theorem info_bool : (Try.prog.info? 4).map (fun i => (i.zero, i.size, i.bytes)) = some (some (.bool false), 1, 1) := by kernel_rfl

/-- The first list has grown, and is stored. -/
theorem ref_mid {w3 w4 : World} {q n : Nat} {av iv av' : Value} {R : List Rg} {F : List Bool} {o : Obj} (h : RefIs w3 q n av iv R F) (hg : (w3.alloc o).drew.grownBy w4 av.ownBlock)
    (hw : av'.ownBlock = av.ownBlock ∨ ∃ g, av'.ownBlock = some g ∧ (w3.alloc o).drew.heap.size ≤ g) :
    w4.cell? ⟨q, 1, none⟩ = some av ∧ w4.frozen? ⟨q, 1, none⟩ = false ∧ Hid (w4.heap[q]? = some (.cells #[.int .i64 n, av, iv] 62 (0, 0)) ∧ w4.ownsRow (q + 1) 4 1 iv R.length (F.map Value.bool) ∧ (∀ g, av'.ownBlock = some g → iv.ownBlock ≠ some g)) := by
  have hs : (w3.alloc o).drew.heap.size = w3.heap.size + 1 := by show (w3.alloc o).heap.size = _; simp
  have hnq : some q ≠ av.ownBlock := fun e => by have := (h.rowR.lt q e.symm).1; omega
  have h4 : w4.heap[q]? = some (.cells #[.int .i64 n, av, iv] 62 (0, 0)) := by
    rw [hg.block q (by rw [hs]; have := h.lt; omega) hnq]
    show (w3.alloc o).heap[q]? = _
    rw [Below.heap_alloc _ _ _ h.lt]; exact h.box
  have h5 : w4.ownsRow (q + 1) 4 1 iv R.length (F.map Value.bool) := by
    have := (World.ownsRow.drew (h.rowF.alloc o)).kept hg (by
      cases hv : iv.ownBlock with
      | none => exact .inl rfl
      | some g => exact .inr (fun e => h.apart g e.symm hv))
    exact this
  refine ⟨cell_of_row w4 q 1 _ _ _ h4, frozen_of_row w4 q 1 _ _ h4, h4, h5, fun g hg' e => ?_⟩
  rcases hw with hw | ⟨g', h1, h2⟩
  · exact h.apart g (hw ▸ hg') e
  · rw [hg'] at h1; cases h1
    have := (h.rowF.lt g e).2
    omega

/-- The second list has grown, and is stored. -/
theorem ref_end {w w3 w4 w5 w6 : World} {q n : Nat} {av iv av' iv' : Value} {R : List Rg} {F : List Bool} {r : Rg} {o o' : Obj} (h : RefIs w3 q n av iv R F) (hin : 0 ≤ r.1 ∧ 0 ≤ r.2 ∧ r.1 + r.2 ≤ n) (hR : R.length < 1000) (k3 : Below w.heap.size w w3) (hsz : w.heap.size ≤ w3.heap.size)
    (hown : w4.ownsRow (q + 1) 24 2 av' (R.length + 1) (rcells R ++ [.int .i64 r.1, .int .i64 r.2])) (hg : (w3.alloc o).drew.grownBy w4 av.ownBlock) (hw : av'.ownBlock = av.ownBlock ∨ ∃ g, av'.ownBlock = some g ∧ (w3.alloc o).drew.heap.size ≤ g)
    (hm : w4.heap[q]? = some (.cells #[.int .i64 n, av, iv] 62 (0, 0)) ∧ w4.ownsRow (q + 1) 4 1 iv R.length (F.map Value.bool) ∧ (∀ g, av'.ownBlock = some g → iv.ownBlock ≠ some g))
    (h5 : w5 = (w4.setCell ⟨q, 1, none⟩ av').alloc o')
    (hown6 : w6.ownsRow (q + 1) 4 1 iv' (R.length + 1) (F.map Value.bool ++ [.bool true])) (hg6 : w5.grownBy w6 iv.ownBlock) (hw6 : iv'.ownBlock = iv.ownBlock ∨ ∃ g, iv'.ownBlock = some g ∧ w5.heap.size ≤ g) :
    ∃ av'' iv'', RefIs (w6.setCell ⟨q, 2, none⟩ iv') q n av'' iv'' (R ++ [r]) (F ++ [true]) ∧ Kept (refS q av iv) w (w6.setCell ⟨q, 2, none⟩ iv') ∧ (av''.ownBlock = av.ownBlock ∨ ∃ g, av''.ownBlock = some g ∧ w.heap.size ≤ g) ∧ (iv''.ownBlock = iv.ownBlock ∨ ∃ g, iv''.ownBlock = some g ∧ w.heap.size ≤ g) := by
  obtain ⟨m1, m2, m3⟩ := hm
  have hq3 := h.lt
  have hs4 : w3.heap.size + 1 ≤ w4.heap.size := by have := hg.size; have e : (w3.alloc o).drew.heap.size = w3.heap.size + 1 := by { show (w3.alloc o).heap.size = _; simp }; omega
  have hq4 : q < w4.heap.size := by omega
  have hs5 : w5.heap.size = w4.heap.size + 1 := by rw [h5]; simp [World.setCell]
  have hqi : some q ≠ iv.ownBlock := fun e => by have := (h.rowF.lt q e.symm).1; omega
  have hb5 : w5.heap[q]? = some (.cells #[.int .i64 n, av', iv] 62 (0, 0)) := by
    rw [h5, Below.heap_alloc _ _ _ (by simpa [World.setCell] using hq4), Go.heap_setCell_same _ q 1 _ _ _ m1]; rfl
  have hb6 : w6.heap[q]? = some (.cells #[.int .i64 n, av', iv] 62 (0, 0)) := by rw [hg6.block q (by omega) hqi]; exact hb5
  have hr5 : w5.ownsRow (q + 1) 24 2 av' (R.length + 1) (rcells R ++ [.int .i64 r.1, .int .i64 r.2]) := by rw [h5]; exact (ownsRow_setCell_below hown (by simp) _).alloc _
  have hr6 : w6.ownsRow (q + 1) 24 2 av' (R.length + 1) (rcells R ++ [.int .i64 r.1, .int .i64 r.2]) := hr5.kept hg6 (by
    cases hv : av'.ownBlock with
    | none => exact .inl rfl
    | some g => exact .inr (fun e => m3 g hv e.symm))
  refine ⟨av', iv', ⟨?_, ?_, ?_, ?_, by simp; omega, ?_, h.big⟩, ?_, ?_, ?_⟩
  · rw [Go.heap_setCell_same _ q 2 _ _ _ hb6]; rfl
  · rw [rcells_snoc, List.length_append]
    exact ownsRow_setCell_below hr6 (by simp) _
  · rw [List.map_append, List.length_append]
    exact ownsRow_setCell_below hown6 (by simp) _
  · intro g hga e
    rcases hw6 with hw6 | ⟨g', e1, e2⟩
    · exact m3 g hga (hw6 ▸ e)
    · rw [e] at e1; cases e1
      have := (hr5.lt g hga).2
      omega
  · intro x hx
    rcases List.mem_append.1 hx with hx | hx
    · exact h.ins x hx
    · simp at hx; subst hx; exact hin
  · have k4 : Kept (refS q av iv) w w4 := Kept.grown ((Kept.of_below k3).alloc o).drew hg (fun k e _ => .inr (.inl e))
    have k5 : Kept (refS q av iv) w w5 := by rw [h5]; exact (k4.setCell (fun _ => .inl rfl) _).alloc _
    exact (k5.grown hg6 (fun k e _ => .inr (.inr e))).setCell (fun _ => .inl rfl) _
  · rcases hw with hw | ⟨g, e1, e2⟩
    · exact .inl hw
    · refine .inr ⟨g, e1, ?_⟩
      have e : (w3.alloc o).drew.heap.size = w3.heap.size + 1 := by show (w3.alloc o).heap.size = _; simp
      omega
  · rcases hw6 with hw6 | ⟨g, e1, e2⟩
    · exact .inl hw6
    · exact .inr ⟨g, e1, by omega⟩

theorem cell_two_laid (w : World) (a b : Value) (t : TypeId) : ∀ j u, [a, b][j]? = some u → (w.alloc (.cells #[a, b] t)).cell? ((⟨w.heap.size, 0, none⟩ : Addr).add j) = some u := by
  intro j u hj
  rw [addr_add, Nat.zero_add, World.cell?_alloc_new]
  match j, hj with
  | 0, hj => simpa using hj
  | 1, hj => simpa using hj

/-- .. and the cells that the walk reads behind it. -/
theorem ref_fin {w w3 w4 ws w6 : World} {q n : Nat} {av iv av' iv' : Value} {R : List Rg} {F : List Bool} {r : Rg} {o o' : Obj} (h : RefIs w3 q n av iv R F) (hin : 0 ≤ r.1 ∧ 0 ≤ r.2 ∧ r.1 + r.2 ≤ n) (hR : R.length < 1000) (k3 : Below w.heap.size w w3) (hsz : w.heap.size ≤ w3.heap.size)
    (hown : w4.ownsRow (q + 1) 24 2 av' (R.length + 1) (rcells R ++ [.int .i64 r.1, .int .i64 r.2])) (hg : (w3.alloc o).drew.grownBy w4 av.ownBlock) (hw : av'.ownBlock = av.ownBlock ∨ ∃ g, av'.ownBlock = some g ∧ (w3.alloc o).drew.heap.size ≤ g)
    (hm : w4.heap[q]? = some (.cells #[.int .i64 n, av, iv] 62 (0, 0)) ∧ w4.ownsRow (q + 1) 4 1 iv R.length (F.map Value.bool) ∧ (∀ g, av'.ownBlock = some g → iv.ownBlock ≠ some g))
    (h5 : ws = w4.setCell ⟨q, 1, none⟩ av')
    (hown6 : w6.ownsRow (q + 1) 4 1 iv' (R.length + 1) (F.map Value.bool ++ [.bool true])) (hg6 : (ws.alloc o').grownBy w6 iv.ownBlock) (hw6 : iv'.ownBlock = iv.ownBlock ∨ ∃ g, iv'.ownBlock = some g ∧ (ws.alloc o').heap.size ≤ g) :
    w6.cell? ⟨q, 1, none⟩ = some av' ∧ w6.cell? ⟨q, 2, none⟩ = some iv ∧ w6.frozen? ⟨q, 2, none⟩ = false ∧
    Hid (∃ av'' iv'', RefIs (w6.setCell ⟨q, 2, none⟩ iv') q n av'' iv'' (R ++ [r]) (F ++ [true]) ∧ Kept (refS q av iv) w (w6.setCell ⟨q, 2, none⟩ iv') ∧ (av''.ownBlock = av.ownBlock ∨ ∃ g, av''.ownBlock = some g ∧ w.heap.size ≤ g) ∧ (iv''.ownBlock = iv.ownBlock ∨ ∃ g, iv''.ownBlock = some g ∧ w.heap.size ≤ g)) := by
  subst h5
  have hq3 := h.lt
  have hs4 : w3.heap.size + 1 ≤ w4.heap.size := by have := hg.size; have e : (w3.alloc o).drew.heap.size = w3.heap.size + 1 := by { show (w3.alloc o).heap.size = _; simp }; omega
  have hqi : some q ≠ iv.ownBlock := fun e => by have := (h.rowF.lt q e.symm).1; omega
  have hb5 : ((w4.setCell ⟨q, 1, none⟩ av').alloc o').heap[q]? = some (.cells #[.int .i64 n, av', iv] 62 (0, 0)) := by
    rw [Below.heap_alloc _ _ _ (by have : q < w4.heap.size := by { omega }; simpa [World.setCell] using this), Go.heap_setCell_same _ q 1 _ _ _ hm.1]; rfl
  have hb6 : w6.heap[q]? = some (.cells #[.int .i64 n, av', iv] 62 (0, 0)) := by
    rw [hg6.block q (by have : q < w4.heap.size + 1 := by { omega }; simpa [World.setCell] using this) hqi]; exact hb5
  exact ⟨cell_of_row w6 q 1 _ _ _ hb6, cell_of_row w6 q 2 _ _ _ hb6, frozen_of_row w6 q 2 _ _ hb6, ref_end h hin hR k3 hsz hown hg hw hm rfl hown6 hg6 hw6⟩

set_option maxHeartbeats 4000000 in
set_option maxRecDepth 100000 in
theorem reflend_in (q n : Nat) (av iv : Value) (R : List Rg) (F : List Bool) (x y : Nat) (w : World) (h : RefIs w q n av iv R F) (hR : R.length < 1000) (hi : x + y ≤ n) :
    Calls Try.prog 19 #[.pointer (some ⟨q, 0, none⟩), .agg #[.int .i64 x, .int .i64 y]] w fun e w' =>
      (rbusy R F x y = true ∧ e = .returned (.tuple #[.int .i64 0, .int .i64 21]) ∧ Below w.heap.size w w') ∨
      (rbusy R F x y = false ∧ e = .returned (.tuple #[.int .i64 R.length, .int .i64 0]) ∧ ∃ av' iv', RefIs w' q n av' iv' (R ++ [((x : Int), (y : Int))]) (F ++ [true]) ∧ Kept (refS q av iv) w w' ∧ (av'.ownBlock = av.ownBlock ∨ ∃ g, av'.ownBlock = some g ∧ w.heap.size ≤ g) ∧ (iv'.ownBlock = iv.ownBlock ∨ ∃ g, iv'.ownBlock = some g ∧ w.heap.size ≤ g)) := by
  obtain ⟨i0, hif, hz0, hz1, hz2⟩ := info_parts info_range
  obtain ⟨j0, jif, jz0, jz1, jz2⟩ := info_parts info_bool
  obtain ⟨c0, c1, c2, fz⟩ := h.cell
  have hlt := h.lt
  have hbig := h.big
  obtain ⟨aa, ac, rfl⟩ := own_slice h.rowR
  obtain ⟨ia, ic, rfl⟩ := own_slice h.rowF
  have HR := Hid.mk' h
  have HK : Hid (Below w.heap.size w (w.alloc (.cells #[.int .i64 x, .int .i64 y] 24))) := (Below.refl _ _).alloc (Nat.le_refl _) _
  have d0 := (HK.out.cell (p := ⟨q, 0, none⟩) hlt).trans c0
  clear h c0 c1 c2 fz
  have hin : inB x y n = true := by simp [inB]; omega
  have HIN := Hid.mk' hin
  clear hin
  go_enter Try.func19, Try.ntmps19
  go_wp2_with fail
  go_upto_region 1 with fail
  go_cut [14] from 8 (fun s14 wx => s14 = .bool false ∧ Hid (Below w.heap.size w wx) ∧ wx.cell? ⟨w.heap.size, 0, none⟩ = some (.int .i64 x) ∧ wx.cell? ⟨w.heap.size, 1, none⟩ = some (.int .i64 y))
  case first =>
    go_region_with (go_at_call 10; refine (within_any x y n _ hbig (by omega) (by omega) (by omega) (by omega)).mono ?_; rw [HIN.out]; rintro e w1 ⟨rfl, b1⟩)
    all_goals
      have b2 : Hid (Below w.heap.size w w1) := HK.out.trans (Below.trans (Below.drew (Below.refl _ _)) (b1.mono (by simp)))
      have e0 : w1.cell? ⟨w.heap.size, 0, none⟩ = some (.int .i64 x) := by rw [b1.cell (by simp)]; simp
      have e1 : w1.cell? ⟨w.heap.size, 1, none⟩ = some (.int .i64 y) := by rw [b1.cell (by simp)]; simp
      clear b1 d0
      go_wp2_with fail
      go_meet
      exact ⟨rfl, b2, e0, e1⟩
  case rest =>
  obtain ⟨rfl, HB2, e0, e1⟩ := hcut
  have hs1 : w.heap.size < wc.heap.size := lt_of_cell e0
  clear d0
  go_wp2_with fail
  go_loopg [6] R.length (fun g s6 wr => ∃ k : Nat, s6 = .int .i64 k ∧ k ≤ R.length ∧ R.length - k ≤ g ∧ Hid (Below wc.heap.size wc wr) ∧ Hid (∀ (j : Nat) (r : Rg), j < k → R[j]? = some r → F[j]? = some true → mt r.1 r.2 x y = false))
  case atStart => exact ⟨0, rfl, by omega, by omega, Below.refl _ _, fun j r hj => by omega⟩
  case round =>
    obtain ⟨k, rfl, hk1, hk2, hb, hpre⟩ := hrel
    have B3 : Hid (Below w.heap.size w wr) := HB2.out.trans (hb.out.mono (by omega))
    have HR3 := Hid.mk' (HR.out.below B3.out)
    obtain ⟨f0, f1, f2, ffz⟩ := HR3.out.cell
    have q0 := (hb.out.cell (p := ⟨w.heap.size, 0, none⟩) hs1).trans e0
    have q1 := (hb.out.cell (p := ⟨w.heap.size, 1, none⟩) hs1).trans e1
    have hsr : w.heap.size < wr.heap.size := lt_of_cell q0
    have hqr : q < wr.heap.size := HR3.out.lt
    by_cases hlt' : k < R.length
    · have hsp : (k : Int) < (R.length : Int) := by omega
      obtain ⟨ga, hga⟩ : ∃ g, aa = some ⟨g, 0, none⟩ := by
        rcases HR.out.rowR.2 with ⟨_, h2⟩ | ⟨g, cap, cur, h, _⟩
        · omega
        · simp at h; exact ⟨g, h.1⟩
      obtain ⟨gf, hgf⟩ : ∃ g, ia = some ⟨g, 0, none⟩ := by
        rcases HR.out.rowF.2 with ⟨_, h2⟩ | ⟨g, cap, cur, h, _⟩
        · omega
        · simp at h; exact ⟨g, h.1⟩
      subst hga
      subst hgf
      obtain ⟨⟨rx, ry⟩, hr⟩ : ∃ r, R[k]? = some r := ⟨_, List.getElem?_eq_getElem hlt'⟩
      obtain ⟨fb, hf⟩ : ∃ b, F[k]? = some b := ⟨_, List.getElem?_eq_getElem (by rw [HR.out.len]; exact hlt')⟩
      have hins := HR.out.ins _ (List.mem_of_getElem? hr)
      simp only at hins
      obtain ⟨hc1, hc2⟩ := range_cell HR3.out.rowR k _ hr
      have hc3 := mark_cell HR3.out.rowF k _ hf
      have hgal : ga < wr.heap.size := lt_of_cell hc1
      have hgfl : gf < wr.heap.size := lt_of_cell hc3
      have HRK := Hid.mk' hr
      have HFK := Hid.mk' hf
      have HPN : Hid (mt rx ry x y = false ∨ fb = false → ∀ (j : Nat) (r : Rg), j < k + 1 → R[j]? = some r → F[j]? = some true → mt r.1 r.2 x y = false) := by
        intro hor j r hj hr' hf'
        by_cases e : j = k
        · subst e
          rw [HRK.out] at hr'; cases hr'
          rw [HFK.out] at hf'; cases hf'
          rcases hor with h | h
          · exact h
          · cases h
        · exact hpre.out j r (by omega) hr' hf'
      have HB4 : ∀ o, Hid (Below wc.heap.size wc (wr.alloc o)) := fun o => hb.out.alloc hb.out.size o
      clear hr hf
      cases fb with
      | false =>
        have HP := Hid.mk' (HPN.out (.inr rfl))
        clear HPN
        go_wp2_with fail
        go_roundg (R.length - (k + 1))
        case measure => omega
        case rel => exact ⟨k + 1, by go_num, by omega, by omega, HB4 _, HP⟩
      | true =>
        by_cases t1 : 0 < ry
        · by_cases t2 : 0 < (y : Int)
          · by_cases t3 : rx < (x : Int) + (y : Int)
            · by_cases t4 : (x : Int) < rx + ry
              · have hbz : Hid (rbusy R F x y = true) := rbusy_hit k (rx, ry) HRK.out HFK.out (by simp [mt]; omega)
                have HB5 : ∀ o, Below w.heap.size w (wr.alloc o) := fun o => B3.out.alloc B3.out.size o
                go_wp2_with fail
                go_ret2
                exact .inl ⟨hbz.out, rfl, HB5 _⟩
              · have hmf : mt rx ry x y = false := by simp [mt]; omega
                have HP := Hid.mk' (HPN.out (.inl hmf))
                clear hmf
                go_wp2_with fail
                go_roundg (R.length - (k + 1))
                case measure => omega
                case rel => exact ⟨k + 1, by go_num, by omega, by omega, HB4 _, HP⟩
            · have hmf : mt rx ry x y = false := by simp [mt]; omega
              have HP := Hid.mk' (HPN.out (.inl hmf))
              clear hmf
              go_wp2_with fail
              go_roundg (R.length - (k + 1))
              case measure => omega
              case rel => exact ⟨k + 1, by go_num, by omega, by omega, HB4 _, HP⟩
          · have hmf : mt rx ry x y = false := by simp [mt]; omega
            have HP := Hid.mk' (HPN.out (.inl hmf))
            clear hmf
            go_wp2_with fail
            go_roundg (R.length - (k + 1))
            case measure => omega
            case rel => exact ⟨k + 1, by go_num, by omega, by omega, HB4 _, HP⟩
        · have hmf : mt rx ry x y = false := by simp [mt]; omega
          have HP := Hid.mk' (HPN.out (.inl hmf))
          clear hmf
          go_wp2_with fail
          go_roundg (R.length - (k + 1))
          case measure => omega
          case rel => exact ⟨k + 1, by go_num, by omega, by omega, HB4 _, HP⟩
    · have hnb : Hid (rbusy R F x y = false) := rbusy_miss (fun j r hr hf => hpre.out j r (by have := (List.getElem?_eq_some_iff.1 hr).1; omega) hr hf)
      clear hpre
      have ffz2 := ffz 2
      have ffz1 := ffz 1
      clear ffz
      go_upto_region 9 with fail
      go_cut [] from 8 (fun wx => ∃ (avv : Option Addr) (cvv : Nat) (w4 : World), wx = w4.setCell ⟨q, 1, none⟩ (.slice avv (R.length + 1) cvv) ∧ w4.cell? ⟨q, 1, none⟩ = some (.slice aa R.length ac) ∧ Hid (w4.heap[q]? = some (.cells #[.int .i64 n, .slice aa R.length ac, .slice ia R.length ic] 62 (0, 0)) ∧ w4.ownsRow (q + 1) 4 1 (.slice ia R.length ic) R.length (F.map Value.bool) ∧ (∀ g, (Value.slice avv (R.length + 1) cvv).ownBlock = some g → (Value.slice ia R.length ic).ownBlock ≠ some g)) ∧
        Hid (w4.ownsRow (q + 1) 24 2 (.slice avv (R.length + 1) cvv) (R.length + 1) (rcells R ++ [.int .i64 x, .int .i64 y])) ∧ Hid ((wr.alloc (.cells #[.int .i64 x, .int .i64 y] 24)).drew.grownBy w4 (Value.slice aa R.length ac).ownBlock) ∧ Hid ((Value.slice avv (R.length + 1) cvv).ownBlock = (Value.slice aa R.length ac).ownBlock ∨ ∃ g, (Value.slice avv (R.length + 1) cvv).ownBlock = some g ∧ (wr.alloc (.cells #[.int .i64 x, .int .i64 y] 24)).drew.heap.size ≤ g))
      case first =>
        go_region_law (refine step_append_own rfl (.tmp 72) (.tmp 74) 46 rfl (q + 1) 24 i0 (.agg #[.int .i64 0, .int .i64 0]) 2 16 Try.underlying46 hif hz0 hz1 hz2 rfl (by decide) (.slice aa R.length ac) R.length (rcells R) (by simp [Act.eval]) (World.ownsRow.drew (World.ownsRow.alloc HR3.out.rowR _)) ⟨wr.heap.size, 0, none⟩ 1 1 [.int .i64 x, .int .i64 y] (by simp [Act.eval]) rfl (cell_two_laid wr _ _ _) (by intro u hu; simp at hu; rcases hu with rfl | rfl <;> rfl) (by unfold maxLen; omega) (by omega) (by simp; omega) ?_; intro v' w4 hown4 hgr4 hwh; obtain ⟨avv, cvv, rfl⟩ := own_slice hown4; obtain ⟨hc4, hf4, HM4⟩ := ref_mid HR3.out hgr4 hwh; have HO4 := Hid.mk' hown4; have HG4 := Hid.mk' hgr4; have HW4 := Hid.mk' hwh; clear hown4 hgr4 hwh)
        all_goals
          go_wp2_with fail
          go_meet
          exact ⟨avv, cvv, w4, rfl, hc4, HM4, HO4, HG4, HW4⟩
      case rest =>
        obtain ⟨avv, cvv, w4, rfl, hc4, HM4, HO4, HG4, HW4⟩ := hcut
        have t1 : (w4.setCell ⟨q, 1, none⟩ (.slice avv (R.length + 1) cvv)).cell? ⟨q, 1, none⟩ = some (.slice avv (R.length + 1) cvv) := World.cell?_setCell_same _ _ _ hc4
        have t2 : (w4.setCell ⟨q, 1, none⟩ (.slice avv (R.length + 1) cvv)).cell? ⟨q, 2, none⟩ = some (.slice ia R.length ic) := by rw [World.cell?_setCell_other _ _ _ _ (by simp)]; exact cell_of_row w4 q 2 _ _ _ HM4.out.1
        have t3 : (w4.setCell ⟨q, 1, none⟩ (.slice avv (R.length + 1) cvv)).frozen? ⟨q, 2, none⟩ = false := by rw [World.frozen?_setCell]; exact frozen_of_row w4 q 2 _ _ HM4.out.1
        have t4 : Hid ((w4.setCell ⟨q, 1, none⟩ (.slice avv (R.length + 1) cvv)).ownsRow (q + 1) 4 1 (.slice ia R.length ic) R.length (F.map Value.bool)) := ownsRow_setCell_below HM4.out.2.1 (by simp) _
        have t5 : q < (w4.setCell ⟨q, 1, none⟩ (.slice avv (R.length + 1) cvv)).heap.size := lt_of_cell t1
        obtain ⟨ws, hws⟩ : ∃ ws, ws = w4.setCell ⟨q, 1, none⟩ (.slice avv (R.length + 1) cvv) := ⟨_, rfl⟩
        rw [← hws] at t1 t2 t3 t4 t5 ⊢
        have HWS := Hid.mk' hws
        clear hws hc4 f0 f1 f2 ffz1 ffz2 q0 q1
        go_wp2_with (at_builtin; refine wpList_append_own2 _ rfl _ _ 60 rfl (q + 1) 4 j0 (.bool false) 1 1 Try.underlying60 jif jz0 jz1 jz2 rfl (by decide) (.slice ia R.length ic) R.length (F.map Value.bool) rfl (World.ownsRow.alloc t4.out _) ⟨ws.heap.size, 0, none⟩ 1 1 [.bool true] rfl rfl (cell_one_laid _ _ _) (by intro u hu; simp at hu; subst hu; rfl) (by unfold maxLen; omega) (by omega) (by simp; omega) ?_; intro v6 w6 hown6 hgr6 hwh6; obtain ⟨av6, cv6, rfl⟩ := own_slice hown6; obtain ⟨g61, g62, g63, HE⟩ := ref_fin (r := ((x : Int), (y : Int))) HR3.out ⟨by omega, by omega, by omega⟩ hR B3.out B3.out.size HO4.out HG4.out HW4.out HM4.out HWS.out hown6 hgr6 hwh6; clear hown6 hgr6 hwh6)
        go_ret2
        exact .inr ⟨hnb.out, by first | rfl | (simp; omega), HE.out⟩
end Go.Proofs.Ytnpcglgboemmcaa
