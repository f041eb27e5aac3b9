/- Structs of integers and arrays of integers, compared: a struct is the same as itself. -/
import Derived.Test.YtednmdkjhiihcaaGreatGa
import Derived.DeepKeys
import Derived.Laws.StructEq
namespace Go.Proofs.YtednmdkjhiihcaaGreat
open Go.ChangeShapes Go.WideShapes Go.ChangeAt Go.RowKit

theorem kl_int {t : TypeId} {k : IntKind} (hu : Tryz.prog.underlying t = some (.int k)) (D : Nat) (z : Int) (h : (Lit.int k z).wf = true) : Tryz.prog.keyLits (D + 1) t [.int k z] = some [.int k z] := by
  simp [Program.keyLits, hu, h]

theorem mapM_some {α β : Type} (f : α → Option β) (g : α → β) : ∀ l : List α, (∀ x ∈ l, f x = some (g x)) → l.mapM f = some (l.map g)
  | [], _ => by simp
  | x :: r, h => by
    rw [List.mapM_cons, h x (by simp), mapM_some f g r (fun y hy => h y (by simp [hy]))]
    rfl

theorem flat_one {α : Type} : ∀ l : List α, (l.map (fun x => [x])).flatten = l
  | [] => rfl
  | x :: r => by simp [flat_one r]

theorem kl_arr0 {t e : TypeId} {n d : Nat} {cs : List Value} (hu : Tryz.prog.underlying t = some (.array n e)) : Tryz.prog.keyLits (d + 1) t cs = if cs.length = Tryz.prog.cellsOf t then ((List.range n).mapM fun i => Tryz.prog.keyLits d e ((cs.drop (i * Tryz.prog.cellsOf e)).take (Tryz.prog.cellsOf e))).map List.flatten else none := by
  conv => lhs; unfold Program.keyLits
  rw [hu]

theorem kl_struct0 {t : TypeId} {fs : Array Field} {d : Nat} {cs : List Value} (hu : Tryz.prog.underlying t = some (.struct fs)) : Tryz.prog.keyLits (d + 1) t cs = if cs.length = Tryz.prog.cellsOf t ∧ fs.all (·.name != "_") = true then (fs.toList.mapM fun f => Tryz.prog.keyLits d f.type ((cs.drop f.offset).take (Tryz.prog.cellsOf f.type))).map List.flatten else none := by
  conv => lhs; unfold Program.keyLits
  rw [hu]

/-- A struct's parts, field by field. -/
theorem kl_fields (d : Nat) (cs : List Value) : ∀ (l : List (TypeId × Nat)) (ps : List (List Value × List Lit)) (o : Nat), cs.drop o = (ps.map (·.1)).flatten → l.length = ps.length → (∀ (i : Nat) (f : TypeId × Nat) (p : List Value × List Lit), l[i]? = some f → ps[i]? = some p → f.2 = o + ((ps.take i).map (·.1)).flatten.length ∧ Tryz.prog.cellsOf f.1 = p.1.length ∧ Tryz.prog.keyLits d f.1 p.1 = some p.2) →
    (l.mapM fun f => Tryz.prog.keyLits d f.1 ((cs.drop f.2).take (Tryz.prog.cellsOf f.1))) = some (ps.map (·.2))
  | [], [], _, _, _, _ => by simp
  | f :: l, p :: ps, o, hc, hl, h => by
    obtain ⟨h1, h2, h3⟩ := h 0 f p rfl rfl
    have e0 : f.2 = o := by simpa using h1
    have e1 : (cs.drop f.2).take (Tryz.prog.cellsOf f.1) = p.1 := by
      rw [e0, hc, h2, List.map_cons, List.flatten_cons, List.take_left]
    have ih := kl_fields d cs l ps (o + p.1.length) (by rw [← List.drop_drop, hc, List.map_cons, List.flatten_cons, List.drop_left]) (by simpa using hl) (fun i g q hg hq => by
      obtain ⟨k1, k2, k3⟩ := h (i + 1) g q hg hq
      refine ⟨?_, k2, k3⟩
      rw [k1]
      simp only [List.take_succ_cons, List.map_cons, List.flatten_cons, List.length_append]
      omega)
    rw [List.mapM_cons, e1, h3, ih]
    rfl

theorem kl_arr {t e : TypeId} {n : Nat} {k : IntKind} (hu : Tryz.prog.underlying t = some (.array n e)) (he : Tryz.prog.underlying e = some (.int k)) (hc : Tryz.prog.cellsOf t = n) (hce : Tryz.prog.cellsOf e = 1) (D : Nat) (zs : List Int) (hl : zs.length = n) (h : ∀ z ∈ zs, (Lit.int k z).wf = true) :
    Tryz.prog.keyLits (D + 2) t (zs.map (Value.int k)) = some (zs.map (Lit.int k)) := by
  have hM := mapM_some (fun i => Tryz.prog.keyLits (D + 1) e (((zs.map (Value.int k)).drop (i * Tryz.prog.cellsOf e)).take (Tryz.prog.cellsOf e))) (fun i => [Lit.int k (zs.getD i 0)]) (List.range n) (fun i hi => by
    have hi : i < zs.length := by rw [hl]; simpa using hi
    have e1 : ((zs.map (Value.int k)).drop (i * Tryz.prog.cellsOf e)).take (Tryz.prog.cellsOf e) = [.int k (zs.getD i 0)] := by
      rw [hce, Nat.mul_one]
      rw [List.drop_eq_getElem_cons (by simpa using hi)]
      simp [hi]
    rw [e1]
    exact kl_int he D _ (h _ (by rw [List.getD_eq_getElem?_getD, List.getElem?_eq_getElem hi]; simp)))
  rw [show D + 2 = (D + 1) + 1 from rfl]
  rw [kl_arr0 hu]
  rw [if_pos (by rw [List.length_map, hc, hl]), hM]
  simp only [Option.map_some, Option.some.injEq]
  rw [show (List.range n).map (fun i => [Lit.int k (zs.getD i 0)]) = (((List.range n).map (fun i => Lit.int k (zs.getD i 0))).map (fun x => [x])) by rw [List.map_map]; rfl, flat_one]
  apply List.ext_getElem?
  intro i
  rw [List.getElem?_map, List.getElem?_map]
  by_cases hi : i < n
  · rw [List.getElem?_range hi, List.getElem?_eq_getElem (by omega)]
    simp only [Option.map_some]
    rw [List.getD_eq_getElem?_getD, List.getElem?_eq_getElem (by omega)]; rfl
  · rw [List.getElem?_eq_none (by simp; omega), List.getElem?_eq_none (by omega)]; rfl

theorem mapM_map {α β γ : Type} (f : α → β) (g : β → Option γ) : ∀ l : List α, (l.map f).mapM g = l.mapM (fun x => g (f x))
  | [] => by simp
  | x :: r => by rw [List.map_cons, List.mapM_cons, List.mapM_cons, mapM_map f g r]

theorem kl_struct {t : TypeId} {fs : Array Field} {d : Nat} (hu : Tryz.prog.underlying t = some (.struct fs)) (hn : fs.all (·.name != "_") = true) (ps : List (List Value × List Lit)) (cs : List Value) (hcs : cs = (ps.map (·.1)).flatten) (hc : Tryz.prog.cellsOf t = cs.length) (hl : fs.size = ps.length)
    (h : ∀ (i : Nat) (f : TypeId × Nat) (p : List Value × List Lit), (fs.toList.map (fun f => (f.type, f.offset)))[i]? = some f → ps[i]? = some p → f.2 = 0 + ((ps.take i).map (·.1)).flatten.length ∧ Tryz.prog.cellsOf f.1 = p.1.length ∧ Tryz.prog.keyLits d f.1 p.1 = some p.2) :
    Tryz.prog.keyLits (d + 1) t cs = some ((ps.map (·.2)).flatten) := by
  rw [kl_struct0 hu, if_pos ⟨hc.symm, hn⟩]
  have := kl_fields d cs (fs.toList.map (fun f => (f.type, f.offset))) ps 0 (by rw [List.drop_zero, hcs]) (by simpa using hl) h
  rw [mapM_map] at this
  rw [this]; rfl

/-- A struct is the same as itself. -/
theorem equal_same {t : TypeId} {L : List Value} {la : List Lit} (m : Nat) (hm : m ≤ 10000) (hkt : Tryz.prog.keyTypeAt m t = true) (hf : (Value.agg L.toArray).formed Tryz.prog t = true) (D : Nat) (hk : Tryz.prog.keyLits D t L = some la) (w : World) :
    (Op.equalIn 10000 t (.agg L.toArray) (.agg L.toArray)).run Tryz.prog w = .ok true w := by
  obtain ⟨r, hr, hiff⟩ := run_equalIn_deep (P := Tryz.prog) (10000 - m) m t hkt w D D (.agg L.toArray) (.agg L.toArray) la la hf hf (by simpa [Value.cells] using hk) (by simpa [Value.cells] using hk)
  rw [show 10000 - m + m = 10000 by omega] at hr
  rw [hr, hiff.2 rfl]

theorem eql_same {t : TypeId} {L : List Value} (h : ∀ w, (Op.equalIn 10000 t (.agg L.toArray) (.agg L.toArray)).run Tryz.prog w = .ok true w) (w : World) : (binOp .eql t (.agg L.toArray) (.agg L.toArray)).run Tryz.prog w = .ok (.bool true) w := by
  rw [run_eql_struct, h w]; rfl

theorem neq_same {t : TypeId} {L : List Value} (h : ∀ w, (Op.equalIn 10000 t (.agg L.toArray) (.agg L.toArray)).run Tryz.prog w = .ok true w) (w : World) : (binOp .neq t (.agg L.toArray) (.agg L.toArray)).run Tryz.prog w = .ok (.bool false) w := by
  rw [run_neq_struct, h w]; rfl
end Go.Proofs.YtednmdkjhiihcaaGreat
