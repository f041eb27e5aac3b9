/- Shapes: arguments of whatever plain type (integers, bools, strings, structs, arrays, slices of these, nested), opened into plain data. -/
import Derived.Test.YtagnaefpkgekmaaOb
import Derived.Deep.Slices
import Derived.Deep.Strs
import Derived.WideKeyArr2
namespace Go.Proofs.Ytagnaefpkgekmaa
open Go.ChangeShapes Go.WideShapes Go.ChangeAt Go.RowKit
set_option maxRecDepth 10000

/-- A row of cells in memory. -/
def cellsAt (w : World) (b o : Nat) (vs : List Value) : Prop := ∀ j v, vs[j]? = some v → w.cell? ⟨b, o + j, none⟩ = some v

/-- A shape: a type, what its values are as plain data, their cells, and what is known of them in a world. -/
structure Sh where
  M : Type
  dflt : M
  t : TypeId
  n : Nat
  cs : M → List Value
  ok : World → M → Prop
  sz : M → Nat
  rch : M → Prop
  cells : Try.prog.cellsOf t = n
  len : ∀ {w : World} {m : M}, ok w m → (cs m).length = n
  opens : ∀ {H : Type} {enc : TypeId × Value → H} {w : World} {base : Nat} {spare : Nat → Bool} {held : Bool} {fuel : Nat} {vs : List Value} {x : DataW H × List MemPlace},
    DataW.trod enc Try.prog w base spare held fuel t vs = some x → ∃ m : M, vs = cs m ∧ ok w m ∧ sz m ≤ Rows.uptoBulk x.1 ∧ ((∀ k ∈ x.1.weights Try.prog t, k ≤ reachBytes) → rch m)

def shInt (t : TypeId) (k : IntKind) (hu : Try.prog.underlying t = some (.int k)) (hc : Try.prog.cellsOf t = 1) : Sh where
  M := Int
  dflt := 0
  t := t
  n := 1
  cs := fun z => [.int k z]
  ok := fun _ z => (Lit.int k z).wf = true
  sz := fun _ => 1
  rch := fun _ => True
  cells := hc
  len := fun _ => rfl
  opens := fun h => by
    obtain ⟨z, h1, h2, h3⟩ := DataW.trod_int hu h
    exact ⟨z, h1, h3, one_le _, fun _ => trivial⟩

def shBool (t : TypeId) (hu : Try.prog.underlying t = some .bool) (hc : Try.prog.cellsOf t = 1) : Sh where
  M := Bool
  dflt := false
  t := t
  n := 1
  cs := fun z => [.bool z]
  ok := fun _ _ => True
  sz := fun _ => 1
  rch := fun _ => True
  cells := hc
  len := fun _ => rfl
  opens := fun h => by
    obtain ⟨z, h1, h2⟩ := DataW.trod_bool hu h
    exact ⟨z, h1, trivial, one_le _, fun _ => trivial⟩

def shStr (t : TypeId) (hu : Try.prog.underlying t = some .string) (hc : Try.prog.cellsOf t = 1) : Sh where
  M := ByteArray
  dflt := ByteArray.empty
  t := t
  n := 1
  cs := fun z => [.string z]
  ok := fun _ z => z.size ≤ maxLen
  sz := fun z => z.size + 1
  rch := fun z => z.size ≤ 140737488351232
  cells := hc
  len := fun _ => rfl
  opens := fun h => by
    obtain ⟨z, h1, h2, h3⟩ := DataW.trod_string hu h
    refine ⟨z, h1, h3, ?_, fun hr => ?_⟩
    · rw [h2]
      simp only [Rows.uptoBulk]
      exact Nat.le_of_eq rfl
    · rw [h2] at hr
      have := hr _ (List.mem_singleton.2 rfl)
      rw [reachBytes] at this
      exact this

/-- Fields, one behind the other. -/
def prM : List Sh → Type
  | [] => Unit
  | [s] => s.M
  | s :: r => s.M × prM r
def prD : (l : List Sh) → prM l
  | [] => ()
  | [s] => s.dflt
  | s :: s' :: r => (s.dflt, prD (s' :: r))
def prN : List Sh → Nat
  | [] => 0
  | s :: r => s.n + prN r
def prC : (l : List Sh) → prM l → List Value
  | [], _ => []
  | [s], m => s.cs m
  | s :: s' :: r, m => s.cs m.1 ++ prC (s' :: r) m.2
def prO (w : World) : (l : List Sh) → prM l → Prop
  | [], _ => True
  | [s], m => s.ok w m
  | s :: s' :: r, m => s.ok w m.1 ∧ prO w (s' :: r) m.2
def prS : (l : List Sh) → prM l → Nat
  | [], _ => 0
  | [s], m => s.sz m
  | s :: s' :: r, m => s.sz m.1 + prS (s' :: r) m.2
def prR : (l : List Sh) → prM l → Prop
  | [], _ => True
  | [s], m => s.rch m
  | s :: s' :: r, m => s.rch m.1 ∧ prR (s' :: r) m.2
/-- The fields as a struct has them: types and offsets. -/
def prF : Nat → List Sh → List (TypeId × Nat)
  | _, [] => []
  | o, s :: r => (s.t, o) :: prF (o + s.n) r

theorem prC_length (w : World) : (l : List Sh) → (m : prM l) → prO w l m → (prC l m).length = prN l
  | [], _, _ => rfl
  | [s], m, h => by simpa [prC, prN] using s.len (w := w) h
  | s :: s' :: r, m, h => by
    have h1 := s.len (w := w) h.1
    have h2 := prC_length w (s' :: r) m.2 h.2
    simp only [prC, List.length_append, h1, h2]
    rfl

theorem pr_opens {H : Type} {enc : TypeId × Value → H} {w : World} {base : Nat} {spare : Nat → Bool} {held : Bool} {n : Nat} (vs : List Value) :
    (l : List Sh) → (o : Nat) → (xs : List (DataW H × List MemPlace)) → xs.length = l.length → vs.length = o + prN l →
    (∀ (i : Nat) (f : TypeId × Nat), (prF o l)[i]? = some f → DataW.trod enc Try.prog w base spare held n f.1 ((vs.drop f.2).take (Try.prog.cellsOf f.1)) = xs[i]?) →
    ∃ m : prM l, vs.drop o = prC l m ∧ prO w l m ∧ prS l m ≤ Rows.uptoBulkAll (xs.map (·.1)) ∧ ((∀ k ∈ DataW.weightsEach Try.prog (l.map (·.t)) (xs.map (·.1)), k ≤ reachBytes) → prR l m)
  | [], o, xs, _, hl, _ => ⟨(), by simp only [prC, List.drop_eq_nil_iff]; simp only [prN] at hl; omega, trivial, by simp [prS], fun _ => trivial⟩
  | [s], o, xs, hx, hl, h => by
    match xs, hx with
    | [x], _ =>
      have h0 := h 0 (s.t, o) rfl
      rw [s.cells] at h0
      obtain ⟨m, h1, h2, h3, h4⟩ := s.opens h0
      refine ⟨m, ?_, h2, ?_, fun hr => h4 (fun k hk => hr k ?_)⟩
      · show vs.drop o = s.cs m
        rw [← h1, List.take_of_length_le]
        simp only [prN] at hl
        rw [List.length_drop]; omega
      · simp only [prS, List.map_cons, List.map_nil, Rows.uptoBulkAll]; omega
      · simp only [List.map_cons, DataW.weightsEach]
        exact List.mem_append_left _ hk
  | s :: s' :: r, o, xs, hx, hl, h => by
    match xs, hx with
    | x :: xr, hx =>
      have h0 := h 0 (s.t, o) rfl
      rw [s.cells] at h0
      obtain ⟨m, h1, h2, h3, h4⟩ := s.opens h0
      obtain ⟨m', k1, k2, k3, k4⟩ := pr_opens vs (s' :: r) (o + s.n) xr (by simpa using hx) (by simp only [prN] at hl ⊢; omega) (fun i f hf => h (i + 1) f hf)
      refine ⟨(m, m'), ?_, ⟨h2, k2⟩, ?_, fun hr => ⟨h4 (fun k hk => hr k ?_), k4 (fun k hk => hr k ?_)⟩⟩
      · show vs.drop o = s.cs m ++ prC (s' :: r) m'
        rw [← h1, ← k1]
        have : vs.drop (o + s.n) = (vs.drop o).drop s.n := by rw [List.drop_drop]
        rw [this, List.take_append_drop]
      · simp only [prS, List.map_cons, Rows.uptoBulkAll] at k3 ⊢; omega
      · simp only [List.map_cons, DataW.weightsEach]
        exact List.mem_append_left _ hk
      · simp only [List.map_cons, DataW.weightsEach] at hk ⊢
        exact List.mem_append_right _ hk

def shStruct (t : TypeId) (fs : Array Field) (l : List Sh) (hu : Try.prog.underlying t = some (.struct fs)) (hf : fs.toList.map (fun f => (f.type, f.offset)) = prF 0 l) (hc : Try.prog.cellsOf t = prN l) : Sh where
  M := prM l
  dflt := prD l
  t := t
  n := prN l
  cs := prC l
  ok := fun w m => prO w l m
  sz := prS l
  rch := prR l
  cells := hc
  len := fun h => prC_length _ l _ h
  opens := fun {H enc w base spare held fuel vs x} h => by
    obtain ⟨xs, n, _, rfl, hl, hx, hi⟩ := DataW.trod_struct hu h
    have hln : (prF 0 l).length = l.length := by
      have : ∀ (l : List Sh) (o : Nat), (prF o l).length = l.length := by
        intro l
        induction l with
        | nil => intro o; rfl
        | cons s r ih => intro o; simp [prF, ih]
      exact this l 0
    have hfl : fs.size = l.length := by rw [← hln, ← hf]; simp
    have hty : fs.toList.map (·.type) = l.map (·.t) := by
      have hfst : ∀ (l : List Sh) (o : Nat), (prF o l).map (·.1) = l.map (·.t) := by
        intro l
        induction l with
        | nil => intro o; rfl
        | cons s r ih => intro o; simp [prF, ih]
      rw [← hfst l 0, ← hf, List.map_map]; rfl
    obtain ⟨m, h1, h2, h3, h4⟩ := pr_opens (enc := enc) (w := w) (base := base) (spare := spare) (held := held) (n := n) vs l 0 xs (by omega) (by rw [hl, hc, Nat.zero_add]) (fun i f hfi => by
      rw [← hf, List.getElem?_map] at hfi
      cases hg : fs.toList[i]? with
      | none => rw [hg] at hfi; cases hfi
      | some g =>
        rw [hg] at hfi
        simp only [Option.map_some, Option.some.injEq] at hfi
        subst hfi
        exact hi i g (by simpa using hg))
    refine ⟨m, by simpa using h1, h2, ?_, fun hr => h4 ?_⟩
    · simp only [Rows.uptoBulk]
      omega
    · simp only [DataW.weights, hu, hty] at hr
      exact hr

/-- An array of a shape's values: as a struct of so many fields. -/
theorem prF_rep (s : Sh) : ∀ (k o i : Nat) (f : TypeId × Nat), (prF o (List.replicate k s))[i]? = some f → i < k ∧ f = (s.t, o + i * s.n)
  | 0, o, i, f, h => by simp [prF] at h
  | k + 1, o, 0, f, h => by
    simp [List.replicate_succ, prF] at h
    exact ⟨by omega, by rw [← h]; simp⟩
  | k + 1, o, i + 1, f, h => by
    simp only [List.replicate_succ, prF, List.getElem?_cons_succ] at h
    obtain ⟨h1, h2⟩ := prF_rep s k (o + s.n) i f h
    refine ⟨by omega, ?_⟩
    rw [h2, Nat.add_mul, Nat.one_mul]
    congr 1
    omega

theorem prN_rep (s : Sh) : ∀ k : Nat, prN (List.replicate k s) = k * s.n
  | 0 => by simp [prN]
  | k + 1 => by rw [List.replicate_succ, prN, prN_rep s k, Nat.add_mul]; omega

theorem weightsAll_rep {H : Type} (s : Sh) : ∀ (l : List (DataW H)) (k : Nat), l.length = k → DataW.weightsEach Try.prog ((List.replicate k s).map (·.t)) l = DataW.weightsAll Try.prog s.t l
  | [], 0, _ => by simp [DataW.weightsEach, DataW.weightsAll]
  | d :: r, k + 1, h => by
    simp only [List.replicate_succ, List.map_cons, DataW.weightsEach, DataW.weightsAll]
    rw [weightsAll_rep s r k (by simpa using h)]
  | [], k + 1, h => by simp at h
  | d :: r, 0, h => by simp at h

def shArr (s : Sh) (t : TypeId) (k : Nat) (hu : Try.prog.underlying t = some (.array k s.t)) (hc : Try.prog.cellsOf t = k * s.n) : Sh where
  M := prM (List.replicate k s)
  dflt := prD _
  t := t
  n := k * s.n
  cs := prC _
  ok := fun w m => prO w _ m
  sz := prS _
  rch := prR _
  cells := hc
  len := fun h => by rw [prC_length _ _ _ h, prN_rep]
  opens := fun {H enc w base spare held fuel vs x} h => by
    obtain ⟨xs, n, _, rfl, hl, hx, hi⟩ := DataW.trod_array hu h
    obtain ⟨m, h1, h2, h3, h4⟩ := pr_opens (enc := enc) (w := w) (base := base) (spare := spare) (held := held) (n := n) vs (List.replicate k s) 0 xs (by simp [hx]) (by rw [hl, hc, Nat.zero_add, prN_rep]) (fun i f hfi => by
      obtain ⟨h4, rfl⟩ := prF_rep s k 0 i f hfi
      have h5 := hi i h4
      rw [s.cells] at h5
      rw [Nat.zero_add, s.cells]
      exact h5)
    refine ⟨m, by simpa using h1, h2, ?_, fun hr => h4 ?_⟩
    · simp only [Rows.uptoBulk]
      omega
    · simp only [DataW.weights, hu] at hr
      rw [weightsAll_rep s _ k (by simp [hx])]
      exact hr

/-- A slice of a shape's values. -/
def SlOk (s : Sh) (w : World) (a : Option Addr) (c : Nat) (xs : List s.M) : Prop :=
  ((a = none → c = 0) ∧ xs.length ≤ c ∧ c ≤ maxLen) ∧ (xs.length = 0 ∨ ∃ b off, a = some ⟨b, off, none⟩ ∧ ∀ i x, xs[i]? = some x → cellsAt w b (off + i * s.n) (s.cs x)) ∧ ∀ x ∈ xs, s.ok w x

def szs (s : Sh) : List s.M → Nat
  | [] => 0
  | x :: r => s.sz x + szs s r

theorem szs_mem (s : Sh) {x : s.M} : ∀ {xs : List s.M}, x ∈ xs → s.sz x ≤ szs s xs
  | y :: r, h => by
    simp only [szs]
    rcases List.mem_cons.1 h with rfl | h
    · omega
    · have := szs_mem s h; omega

theorem sl_list {H : Type} {enc : TypeId × Value → H} {w : World} {base : Nat} {spare : Nat → Bool} {held : Bool} {n : Nat} (s : Sh) (D : Nat → DataW H) (Pl : Nat → List MemPlace) (C : Nat → List Value) :
    ∀ len : Nat, (∀ i, i < len → DataW.trod enc Try.prog w base spare held n s.t (C i) = some (D i, Pl i)) →
    ∃ xs : List s.M, xs.length = len ∧ (∀ i x, xs[i]? = some x → C i = s.cs x) ∧ (∀ x ∈ xs, s.ok w x) ∧ szs s xs ≤ Rows.uptoBulkAll ((List.range len).map D) ∧ ((∀ k ∈ DataW.weightsAll Try.prog s.t ((List.range len).map D), k ≤ reachBytes) → ∀ x ∈ xs, s.rch x)
  | 0, _ => ⟨[], rfl, by simp, by simp, by simp [szs], by simp⟩
  | len + 1, h => by
    obtain ⟨xs, h1, h2, h3, h4, h5⟩ := sl_list s D Pl C len (fun i hi => h i (by omega))
    obtain ⟨m, k1, k2, k3, k4⟩ := s.opens (h len (by omega))
    have hwt : ∀ (l : List (DataW H)) (d : DataW H), DataW.weightsAll Try.prog s.t (l ++ [d]) = DataW.weightsAll Try.prog s.t l ++ d.weights Try.prog s.t := by
      intro l d
      induction l with
      | nil => simp [DataW.weightsAll]
      | cons y r ih => simp only [List.cons_append, DataW.weightsAll, ih, List.append_assoc]
    have hsz : ∀ (l : List s.M), szs s (l ++ [m]) = szs s l + s.sz m := by
      intro l
      induction l with
      | nil => simp [szs]
      | cons y r ih => simp only [List.cons_append, szs, ih]; omega
    have hbk : ∀ (l : List (DataW H)) (d : DataW H), Rows.uptoBulkAll (l ++ [d]) = Rows.uptoBulkAll l + Rows.uptoBulk d := by
      intro l d
      induction l with
      | nil => simp [Rows.uptoBulkAll]
      | cons y r ih => simp only [List.cons_append, Rows.uptoBulkAll, ih]; omega
    refine ⟨xs ++ [m], by simp [h1], fun i x hx => ?_, fun x hx => ?_, ?_, fun hr x hx => ?_⟩
    · by_cases hi : i < xs.length
      · exact h2 i x (by rwa [List.getElem?_append_left hi] at hx)
      · rw [List.getElem?_append_right (by omega)] at hx
        have hi' : i = len := by
          have := (List.getElem?_eq_some_iff.1 hx).1
          simp at this; omega
        subst hi'
        rw [h1, Nat.sub_self] at hx
        simp at hx
        subst hx
        exact k1
    · rcases List.mem_append.1 hx with hx | hx
      · exact h3 x hx
      · simp at hx; subst hx; exact k2
    · rw [hsz, List.range_succ, List.map_append, List.map_singleton, hbk]
      simp only at k3
      omega
    · rw [List.range_succ, List.map_append, List.map_singleton, hwt] at hr
      rcases List.mem_append.1 hx with hx | hx
      · exact h5 (fun k hk => hr k (List.mem_append_left _ hk)) x hx
      · simp at hx; subst hx
        exact k4 (fun k hk => hr k (List.mem_append_right _ hk))

theorem sl_opens {H : Type} {enc : TypeId × Value → H} {w : World} {base : Nat} {spare : Nat → Bool} {held : Bool} {fuel : Nat} {vs : List Value} {x : DataW H × List MemPlace} (s : Sh) (hn : 0 < s.n) {t : TypeId} (hu : Try.prog.underlying t = some (.slice s.t))
    (h : DataW.trod enc Try.prog w base spare held fuel t vs = some x) :
    ∃ (a : Option Addr) (c : Nat) (xs : List s.M), vs = [.slice a xs.length c] ∧ SlOk s w a c xs ∧ szs s xs + 1 ≤ Rows.uptoBulk x.1 ∧ (x.1 = .nil ∧ xs = [] ∨ ∃ el sp, x.1 = .slice el sp ∧ el.length = xs.length) ∧ ((∀ k ∈ x.1.weights Try.prog t, k ≤ reachBytes) → xs.length * Try.prog.bytesOf s.t ≤ 140737488351232 ∧ ∀ x ∈ xs, s.rch x) := by
  rcases Deep.open_slice hu h with ⟨rfl, rfl⟩ | ⟨a, len, cap, m, n, D, Pl, rfl, hb, hl, hm, hmm, rfl, hx⟩
  · exact ⟨none, 0, [], rfl, ⟨⟨fun _ => rfl, by simp, by simp⟩, .inl rfl, by simp⟩, by simp [szs, Rows.uptoBulk], .inl ⟨rfl, rfl⟩, by simp⟩
  · have hlm : len ≤ m := by rw [hmm]; split <;> omega
    obtain ⟨C, hC⟩ := Deep.choose_lt (α := List Value) (n := len) (p := fun i cs' => w.cells? base (a.add (i * s.n)) s.n = some cs' ∧ DataW.trod enc Try.prog w base spare held n s.t cs' = some (D i, Pl i)) (fun i hi => by
      obtain ⟨cs', h1, h2⟩ := hx i (by omega)
      rw [s.cells] at h1
      exact ⟨cs', h1, h2⟩)
    obtain ⟨xs, h1, h2, h3, h4, h5⟩ := sl_list s D Pl C len (fun i hi => (hC i hi).2)
    subst h1
    refine ⟨some a, cap, xs, rfl, ⟨⟨(fun h => by cases h), hl, hm⟩, ?_, h3⟩, by simp only [Rows.uptoBulk]; omega, .inr ⟨_, _, rfl, by simp⟩, fun hr => ?_⟩
    case refine_2 =>
      simp only [DataW.weights, hu] at hr
      refine ⟨?_, h5 (fun k hk => hr k (List.mem_cons_of_mem _ (List.mem_append_left _ hk)))⟩
      have h6 := hr _ List.mem_cons_self
      rw [reachBytes] at h6
      simp only [List.length_map, List.length_range] at h6
      exact Nat.le_trans (Nat.mul_le_mul_right _ (Nat.le_add_right _ _)) h6
    by_cases h0 : xs.length = 0
    · exact .inl h0
    · right
      obtain ⟨b, off, spot⟩ := a
      have hc0 := World.cells?_some (hC 0 (by omega)).1
      have hsp : spot = none := by
        have h5 := hc0.2.2 0 (by omega)
        rw [List.getElem?_eq_getElem (by omega)] at h5
        simpa [Addr.add] using World.cell?_spot h5
      subst hsp
      refine ⟨b, off, rfl, fun i x hix j v hj => ?_⟩
      have hi := (List.getElem?_eq_some_iff.1 hix).1
      have hci := World.cells?_some (hC i hi).1
      rw [← h2 i x hix] at hj
      have hjn : j < s.n := by
        have := (List.getElem?_eq_some_iff.1 hj).1
        omega
      have h5 := hci.2.2 j hjn
      rw [addr_add, addr_add] at h5
      rw [h5, hj]

def shSlice (s : Sh) (hn : 0 < s.n) (t : TypeId) (hu : Try.prog.underlying t = some (.slice s.t)) (hc : Try.prog.cellsOf t = 1) : Sh where
  M := Option Addr × Nat × List s.M
  dflt := (none, 0, [])
  t := t
  n := 1
  cs := fun m => [.slice m.1 m.2.2.length m.2.1]
  ok := fun w m => SlOk s w m.1 m.2.1 m.2.2
  sz := fun m => szs s m.2.2 + 1
  rch := fun m => m.2.2.length * Try.prog.bytesOf s.t ≤ 140737488351232 ∧ ∀ x ∈ m.2.2, s.rch x
  cells := hc
  len := fun _ => rfl
  opens := fun h => by
    obtain ⟨a, c, xs, h1, h2, h3, _, h4⟩ := sl_opens s hn hu h
    exact ⟨(a, c, xs), h1, h2, h3, h4⟩

/-- An argument that is a slice of a shape's values. -/
theorem arg_slice {H : Type} {enc : TypeId × Value → H} {W : World} {base : Nat} {v : Value} {d : DataW H} {p : List MemPlace} (s : Sh) (hn : 0 < s.n) {t : TypeId} (hu : Try.prog.underlying t = some (.slice s.t))
    (hok : Value.okWide Try.prog W .any base t v) (h : DataW.Trod enc Try.prog W 0 (fun _ => true) true t v d p) :
    ∃ (a : Option Addr) (c : Nat) (xs : List s.M), v = .slice a xs.length c ∧ SlOk s W a c xs ∧ szs s xs + 1 ≤ Rows.uptoBulk d ∧ (d = .nil ∧ xs = [] ∨ ∃ el sp, d = .slice el sp ∧ el.length = xs.length) ∧ ((∀ k ∈ d.weights Try.prog t, k ≤ reachBytes) → ∀ x ∈ xs, s.rch x) := by
  obtain ⟨a0, len0, cap0, rfl⟩ := okWide_slice hu hok
  obtain ⟨fuel, hf⟩ := h
  obtain ⟨a, c, xs, h1, h2, h3, h4, h5⟩ := sl_opens s hn hu hf
  simp [Value.cells] at h1
  obtain ⟨rfl, rfl, rfl⟩ := h1
  exact ⟨_, _, xs, rfl, h2, h3, h4, fun hr => (h5 hr).2⟩

/-- An argument that is a struct. -/
theorem arg_struct {H : Type} {enc : TypeId × Value → H} {W : World} {base : Nat} {v : Value} {d : DataW H} {p : List MemPlace} (s : Sh) {fs : Array Field} (hu : Try.prog.underlying s.t = some (.struct fs))
    (hok : Value.okWide Try.prog W .any base s.t v) (h : DataW.Trod enc Try.prog W 0 (fun _ => true) true s.t v d p) :
    ∃ m : s.M, v = .agg (s.cs m).toArray ∧ s.ok W m ∧ s.sz m ≤ Rows.uptoBulk d ∧ ((∀ k ∈ d.weights Try.prog s.t, k ≤ reachBytes) → s.rch m) := by
  obtain ⟨cs, rfl, hsz⟩ := okWide_struct hu hok
  obtain ⟨fuel, hf⟩ := h
  obtain ⟨m, h1, h2, h3, h4⟩ := s.opens hf
  refine ⟨m, ?_, h2, h3, h4⟩
  simp only [Value.cells] at h1
  rw [← h1]

/-- An argument that is an array. -/
theorem arg_arr {H : Type} {enc : TypeId × Value → H} {W : World} {base : Nat} {v : Value} {d : DataW H} {p : List MemPlace} (s : Sh) {k : Nat} {e : TypeId} (hu : Try.prog.underlying s.t = some (.array k e))
    (hok : Value.okWide Try.prog W .any base s.t v) (h : DataW.Trod enc Try.prog W 0 (fun _ => true) true s.t v d p) :
    ∃ m : s.M, v = .agg (s.cs m).toArray ∧ s.ok W m ∧ s.sz m ≤ Rows.uptoBulk d ∧ ((∀ k ∈ d.weights Try.prog s.t, k ≤ reachBytes) → s.rch m) := by
  simp only [Value.okWide, hu] at hok
  obtain ⟨cs, rfl, hsz, _⟩ := hok
  obtain ⟨fuel, hf⟩ := h
  obtain ⟨m, h1, h2, h3, h4⟩ := s.opens hf
  refine ⟨m, ?_, h2, h3, h4⟩
  simp only [Value.cells] at h1
  rw [← h1]

theorem reach_any {H : Type} {ts : List TypeId} {ds : List (DataW H)} (h : (DataW.weightsEach Try.prog ts ds).all (· ≤ reachBytes) = true) {j : Nat} {t e : TypeId} {d : DataW H} {k : Nat} (ht : ts[j]? = some t) (hd : ds[j]? = some d) (hu : Try.prog.underlying t = some (.slice e)) (hb : 0 < Try.prog.bytesOf e)
    {α : Type} {xs : List α} (hx : d = .nil ∧ xs = [] ∨ ∃ el sp, d = .slice el sp ∧ el.length = xs.length) (hk : k = xs.length := by rfl) : k ≤ 140737488351232 := by
  subst hk
  rcases hx with ⟨_, rfl⟩ | ⟨elems, spare, rfl, he⟩
  · simp
  · have h1 := sized_slice h ht hd hu
    rw [reachBytes] at h1
    have h2 : elems.length ≤ (elems.length + spare.length) * Try.prog.bytesOf e := Nat.le_trans (Nat.le_add_right _ _) (Nat.le_mul_of_pos_right _ hb)
    omega

/-- Each weight of one argument is within reach. -/
theorem reach_each {H : Type} : ∀ {ts : List TypeId} {ds : List (DataW H)}, (DataW.weightsEach Try.prog ts ds).all (· ≤ reachBytes) = true → ∀ {j : Nat} {t : TypeId} {d : DataW H}, ts[j]? = some t → ds[j]? = some d → ∀ k ∈ d.weights Try.prog t, k ≤ reachBytes
  | [], _, _, j, _, _, ht, _, _, _ => by simp at ht
  | _ :: _, [], _, j, _, _, _, hd, _, _ => by simp at hd
  | t' :: ts, d' :: ds, h, j, t, d, ht, hd, k, hk => by
    simp only [DataW.weightsEach, List.all_append, Bool.and_eq_true] at h
    cases j with
    | zero =>
      simp at ht hd; subst ht; subst hd
      have := List.all_eq_true.1 h.1 k hk
      simpa using this
    | succ j => exact reach_each h.2 (by simpa using ht) (by simpa using hd) k hk

theorem bulk_any {H : Type} {l : List (DataW H)} (hk : Rows.uptoSmall H l = true) {j : Nat} {d : DataW H} {n : Nat} (hd : l[j]? = some d) (hx : n + 1 ≤ Rows.uptoBulk d) : n ≤ 1048576 := by
  have h1 : Rows.uptoBulkAll l ≤ 1048576 := of_decide_eq_true hk
  have h2 := bulk_part (List.mem_of_getElem? hd)
  omega
end Go.Proofs.Ytagnaefpkgekmaa
