/- What the stages of headers have in common on the document's side: numbers of two and four bytes, a row that is appended to beside the header's box, the document's own join. -/
import Derived.Test.YtbbnoogkgobeoaaGb
namespace Go.Proofs.Ytbbnoogkgobeoaa
open Go.ChangeShapes Go.WideShapes Go.ChangeAt Go.RowKit

theorem numB_two (t : Int) (h0 : 0 ≤ t) (h1 : t ≤ 65535) : numB 2 t = [t / 256, t % 256] := by
  simp [numB]; omega
theorem numB_four (t : Int) (h0 : 0 ≤ t) (h1 : t ≤ 4294967295) : numB 4 t = [t / 65536 / 256, t / 65536 % 256, t % 65536 / 256, t % 65536 % 256] := by
  simp [numB]; omega

theorem Kept_block {w w' : World} {g : Nat} {o : Obj} {row : Option Nat} (h : w.heap[g]? = some o) (hg : w.grownBy w' row) (hne : row ≠ some g) : w'.heap[g]? = some o :=
  (hg.block g (Array.getElem?_eq_some_iff.1 h).1 (fun e => hne e.symm)).trans h

/-- What lies in memory while the document's Bytes goes on: the header's box, the row that is appended to. -/
structure RbJ (w : World) (L : List Value) (B : Nat) (v : Value) (k : Nat) (xs : List Int) (u : World) : Prop where
  box : u.heap[w.heap.size]? = some (.cells L.toArray 24 (0, 0))
  own : u.ownsRow B 5 1 v k (xs.map (Value.int .u8))
  old : Below w.heap.size w u
  sz : B ≤ u.heap.size
  lt : w.heap.size < B
theorem RbJ.below {w u u' : World} {L : List Value} {B : Nat} {v : Value} {k : Nat} {xs : List Int} (h : RbJ w L B v k xs u) (b : Below u.heap.size u u') : RbJ w L B v k xs u' :=
  ⟨(b.block _ (Array.getElem?_eq_some_iff.1 h.box).1).trans h.box, Kept.owns h.own (Kept.of_below (S := fun _ => False) b) (fun _ _ h => h), h.old.trans (b.mono h.old.size), Nat.le_trans h.sz b.size, h.lt⟩
theorem RbJ.app {w u u' : World} {L : List Value} {B : Nat} {v v' : Value} {k m : Nat} {xs ys : List Int} (h : RbJ w L B v k xs u) (o : u'.ownsRow B 5 1 v' (k + m) (xs.map (Value.int .u8) ++ ys.map (Value.int .u8))) (g : u.grownBy u' v.ownBlock) : RbJ w L B v' (k + m) (xs ++ ys) u' :=
  ⟨Kept_block h.box g (fun e => by have h1 := (h.own.lt _ e).1; have h2 := h.lt; omega), by rw [List.map_append]; exact o, h.old.grown g h.old.size (fun j hj => Nat.le_trans (Nat.le_of_lt h.lt) (h.own.lt j hj).1), Nat.le_trans h.sz g.size, h.lt⟩

/-- A row of the call's own that there is, as bytes that can be read. -/
theorem bs_row_g {w : World} {base g n c : Nat} {t : TypeId} {zs : List Int} (h : w.ownsRow base t 1 (.slice (some ⟨g, 0, none⟩) n c) n (zs.map (Value.int .u8))) (hb : Bytes zs) (hl : zs.length ≤ 140737488355328) : Bs w (some ⟨g, 0, none⟩) zs := by
  have hn : n = zs.length := by have := h.1; simpa using this.symm
  subst hn
  obtain ⟨a, c', e, hB, -⟩ := bs_own h hb hl
  cases e
  exact hB

set_option maxHeartbeats 1000000 in
theorem rjoin_any (a b : Option Addr) (c d n m : Nat) (xs ys : List Int) (w : World) (hn : xs.length = n) (hm : ys.length = m) (hx : Bs w a xs) (hy : Bs w b ys) (hl : n + m ≤ 140737488355328) :
    Calls Try.prog 26 #[.slice a n c, .slice b m d] w fun e w' => ∃ v, e = .returned v ∧ w'.ownsRow w.heap.size 5 1 v (n + m) ((xs ++ ys).map (Value.int .u8)) ∧ Below w.heap.size w w' := by
  have HX := Hid.mk' hx
  have HY := Hid.mk' hy
  have HN := Hid.mk' hn
  have HM := Hid.mk' hm
  clear hx hy hn hm
  have tok : True := trivial
  go_enter Try.func26, Try.ntmps26
  go_wp2_with (first | (at_builtin; have _t := tok; refine wpList_app_own rfl _ _ rfl w.heap.size (.slice none 0 0) 0 [] rfl (World.ownsRow_nil _ _ _ _) a c n xs rfl HN.out HX.out (by omega) (Nat.le_refl _) ?_; clear _t tok; intro v1 w1 hown hgrow hpl; have B1 : Hid (Below w.heap.size w w1) := ((Below.refl _ _).grown hgrow (Nat.le_refl _) (by intro k hk; simp [Value.ownBlock] at hk)); have O1 := Hid.mk' hown; clear hown hgrow hpl) | (at_builtin; refine wpList_app_own rfl _ _ rfl w.heap.size v1 (0 + n) _ rfl O1.out b d m ys rfl HM.out (HY.out.below B1.out) (by omega) B1.out.size ?_; intro v2 w2 hown hgrow hpl; have B2 : Hid (Below w.heap.size w w2) := (B1.out.grown hgrow B1.out.size (by intro k hk; exact (O1.out.lt k hk).1)); have O2 := Hid.mk' hown; clear hown hgrow hpl))
  go_ret
  exact ⟨_, rfl, by simpa using O2.out, B2.out⟩
end Go.Proofs.Ytbbnoogkgobeoaa
