/- append to a row of the call's own, of any type; rows among things (Bz). -/
import Derived.Test.YtednmdkjhiihcaaGreatBz
import Derived.Test.YtednmdkjhiihcaaGreatBx
namespace Go.Proofs.YtednmdkjhiihcaaGreat
open Go.ChangeShapes Go.WideShapes Go.ChangeAt Go.RowKit

theorem wpList_append_own2 {w : World} {ops : Array Oper} {rest : List Oper} {o : Oper} {a : Act} {Q : Exit → Act → World → Prop} (hgd : o.guard = none) (s x : Operand) (t : TypeId)
    (ho : o.op = .call { callee := .builtin .append, args := #[s, x], argTypes := #[t, t] })
    (base : Nat) (e : TypeId) (i : TypeInfo) (z : Value) (size bytes : Nat) (ht : Tryz.prog.underlying t = some (.slice e)) (hi : Tryz.prog.info? e = some i) (hz : i.zero = some z)
    (hsize : i.size = size) (hby : i.bytes = bytes) (hzs : z.cells.size = size) (hsz : 0 < size)
    (v : Value) (n : Nat) (xs : List Value) (hs : a.eval s = v) (hown : w.ownsRow base e size v n xs) (ad : Addr) (m c : Nat) (news : List Value) (hx : a.eval x = .slice (some ad) m c) (hl : news.length = m * size) (hnews : ∀ j u, news[j]? = some u → w.cell? (ad.add j) = some u) (h1 : ∀ u ∈ news, u.oneCell' = true)
    (h63 : n + m ≤ maxLen) (hbytes : (n + m) * bytes ≤ 140737488355328) (hbase : base ≤ w.heap.size)
    (h : ∀ v' w', w'.ownsRow base e size v' (n + m) (xs ++ news) → w.grownBy w' v.ownBlock → (v'.ownBlock = v.ownBlock ∨ ∃ g, v'.ownBlock = some g ∧ w.heap.size ≤ g) → wpList Tryz.prog ops Q rest (a.put o.dst v') w') : wpList Tryz.prog ops Q (o :: rest) a w := by
  refine wpList_plain hgd fun K hK => ?_
  obtain ⟨v', w', hrun, r1, r2, r3⟩ := run_append_own2 (P := Tryz.prog) w base t o.type e i z size bytes ht hi hz hsize hby hzs hsz v n xs hown ad m c news hl hnews h1 h63 hbytes hbase
  unfold Oper.wp
  simp [execOp, ho, resolve, invoke, builtin, hs, hx, hrun, Result.andThen]
  exact hK _ _ (h v' w' r1 r2 r3)

/-- A row among things is appended to. -/
theorem Heap.grown {W w w' : World} {L : List Thing} {base : Nat} {e : TypeId} {size : Nat} {v : Value} {n : Nat} {xs : List Value} (h : Heap W w L) (i : Nat) (hi : L[i]? = some (rowT base e size v n xs)) {v' : Value} {n' : Nat} {xs' : List Value} (h1 : w'.ownsRow base e size v' n' xs') (h2 : w.grownBy w' v.ownBlock) (h3 : v'.ownBlock = v.ownBlock ∨ ∃ g, v'.ownBlock = some g ∧ w.heap.size ≤ g) :
    Heap W w' (L.set i (rowT base e size v' n' xs')) := by
  refine h.stepAt i _ hi ((Kept.refl (fun k => v.ownBlock = some k) w).grown h2 (fun k e _ => e)) (rowT base e size v' n' xs') h1 (fun k hk => ?_)
  have hk : v'.ownBlock = some k := hk
  rcases h3 with e | ⟨g, e, hg⟩
  · exact .inl (by show v.ownBlock = some k; rw [← e]; exact hk)
  · rw [e] at hk; cases hk; exact .inr hg

/-- A cell of a row among things is written. -/
theorem Heap.stored {W w : World} {L : List Thing} {base : Nat} {e : TypeId} {g c n : Nat} {xs : List Value} (h : Heap W w L) (i : Nat) (hi : L[i]? = some (rowT base e 1 (.slice (some ⟨g, 0, none⟩) n c) n xs)) (k : Nat) (u : Value) :
    Heap W (w.setCell ⟨g, k, none⟩ u) (L.set i (rowT base e 1 (.slice (some ⟨g, 0, none⟩) n c) n (xs.set k u))) := by
  have ho : w.ownsRow base e 1 (.slice (some ⟨g, 0, none⟩) n c) n xs := h.get hi
  exact h.stepAt i _ hi ((Kept.refl (fun j => (Value.slice (some ⟨g, 0, none⟩) n c).ownBlock = some j) w).setCell (p := ⟨g, k, none⟩) (fun _ => rfl) u) (rowT base e 1 (.slice (some ⟨g, 0, none⟩) n c) n (xs.set k u)) (ho.stored k u).1 (fun _ hk => .inl hk)

theorem own_some {w : World} {base : Nat} {e : TypeId} {size : Nat} {v : Value} {n : Nat} {xs : List Value} (h : w.ownsRow base e size v n xs) (hn : 0 < n) : ∃ g c, v = .slice (some ⟨g, 0, none⟩) n c ∧ n ≤ c := by
  rcases h.2 with ⟨_, h0⟩ | ⟨g, cap, cur, rfl, _, _, hc, _⟩
  · omega
  · exact ⟨g, cap, rfl, hc⟩

/-- What a row among things has at a place. -/
theorem Heap.cellAt {W w : World} {L : List Thing} {base : Nat} {e : TypeId} {g c n : Nat} {xs : List Value} (h : Heap W w L) (i : Nat) (hi : L[i]? = some (rowT base e 1 (.slice (some ⟨g, 0, none⟩) n c) n xs)) (k : Nat) (x : Value) (hk : xs[k]? = some x) : w.cell? ⟨g, k, none⟩ = some x ∧ w.frozen? ⟨g, k, none⟩ = false := by
  have ho : w.ownsRow base e 1 (.slice (some ⟨g, 0, none⟩) n c) n xs := h.get hi
  have hlt := (List.getElem?_eq_some_iff.1 hk).1
  have hl : xs.length = n := by have := ho.1; simpa using this
  refine ⟨?_, ho.frozenAt k⟩
  rw [ho.cellAt k (by simp; omega)]
  simpa using hk

/-- A new thing at the end. -/
theorem Heap.push {W w w' : World} {L : List Thing} (h : Heap W w L) (b : Below w.heap.size w w') (T : Thing) (hT : T.holds w') (hn : ∀ k, T.foot k → w.heap.size ≤ k) : Heap W w' (L ++ [T]) :=
  (h.add b T hT hn).perm (by simpa using (List.perm_append_comm (l₁ := [T]) (l₂ := L)))

/-- A row that was laid just now. -/
theorem Heap.lit {W w : World} {L : List Thing} (h : Heap W w L) (e : TypeId) (cs : Array Value) (n : Nat) (hn : n ≤ 1000000) (hc : cs.size = n) : Heap W (w.alloc (.cells cs e)) (L ++ [rowT W.heap.size e 1 (.slice (some ⟨w.heap.size, 0, none⟩) n n) n cs.toList]) := by
  refine h.push ((Below.refl _ _).alloc (Nat.le_refl _) _) _ ?_ (fun k hk => ?_)
  · have hW := h.old.size
    exact World.ownsRow_lit (base := W.heap.size) (size := 1) (e := e) w cs n hW (by unfold maxLen; omega) (by simp [hc])
  · have : w.heap.size = k := by simpa [rowT, Value.ownBlock] using hk
    omega
end Go.Proofs.YtednmdkjhiihcaaGreat
