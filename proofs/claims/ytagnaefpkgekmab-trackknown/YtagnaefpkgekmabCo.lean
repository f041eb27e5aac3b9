/- The laws' own helpers: spare, same, spoil, kept, two, pointer, end. -/
import Derived.Test.YtagnaefpkgekmabCf
import Derived.Test.YtagnaefpkgekmabCc
import Derived.Deep.MidRow
import Derived.Deep.QuietTactic
import Derived.BigQuiet
import Derived.Laws.StructEq
namespace Go.Proofs.Ytagnaefpkgekmab
open Go.ChangeShapes Go.WideShapes Go.ChangeAt Go.RowKit Go.Maps Go.Sort Go.Shelf
set_option maxRecDepth 10000

theorem range_blk {w : World} {g : Nat} {L : List Value} {t : TypeId} {fr : Nat × Nat} (h : w.heap[g]? = some (.cells L.toArray t fr)) : w.rangeAt g 0 L := fun j v hv => by
  rw [Nat.zero_add, cell_of_row w g j _ _ _ h, List.getElem?_toArray]; exact hv
theorem ret_cell_one {fn : Func} {p : Tmp} {ty : TypeId} {R : Ending → World → Prop} {a : Act} {w : World} (hres : fn.results = #[.cell p ty]) (g : Nat) (t : TypeId) (L : List Value) (fr : Nat × Nat) (d : TypeDesc)
    (hp : a.tmps.getD p undef = .pointer (some ⟨g, 0, none⟩)) (hg : w.heap[g]? = some (.cells L.toArray t fr)) (hu : Try.prog.underlying ty = some d) (hd : d.isRow = true) (hi : (Try.prog.info? ty).map (·.size) = some L.length)
    (hdf : a.defers = []) (hR : R (.returned (.agg L.toArray)) w) : bodyPost Try.prog fn R .ret a w := by
  refine bodyPost_ret ?_ hdf hR
  have hp' : a.tmps[p]?.getD undef = .pointer (some ⟨g, 0, none⟩) := by simpa using hp
  simp [results, hres, hp', asAddr, run_loadVar_mid w g 0 ty L d (range_blk hg) hu hd hi]
theorem val_size : (Try.prog.info? 38).map (·.size) = some 5 := by kernel_rfl

def ptV (id off : Int) : Vl := ⟨2, 0, 0, id, off⟩
def enV : Vl := ⟨3, 0, 0, 0, 0⟩
theorem pointer_any (id off : Int) (w : World) : Calls Try.prog 10 #[.int .i64 id, .int .i64 off] w fun e w' => e = .returned (ptV id off).v ∧ Below w.heap.size w w' := by
  have HK : Hid (Below w.heap.size w (w.alloc (.cells #[.int .u8 2, .int .u64 0, .int .u64 0, .int .i64 id, .int .i64 off] 38))) := (Below.refl _ _).alloc (Nat.le_refl _) _
  go_enter Try.func10, Try.ntmps10
  go_wp2_with fail
  refine ret_cell_one rfl w.heap.size 38 [.int .u8 2, .int .u64 0, .int .u64 0, .int .i64 id, .int .i64 off] (0, 0) _ rfl (World.alloc_heap_new w _) Try.underlying38 rfl val_size rfl ?_
  exact ⟨rfl, HK.out⟩
theorem end_any (w : World) : Calls Try.prog 11 #[] w fun e w' => e = .returned enV.v ∧ Below w.heap.size w w' := by
  have HK : Hid (Below w.heap.size w (w.alloc (.cells #[.int .u8 3, .int .u64 0, .int .u64 0, .int .i64 0, .int .i64 0] 38))) := (Below.refl _ _).alloc (Nat.le_refl _) _
  go_enter Try.func11, Try.ntmps11
  go_wp2_with fail
  refine ret_cell_one rfl w.heap.size 38 [.int .u8 3, .int .u64 0, .int .u64 0, .int .i64 0, .int .i64 0] (0, 0) _ rfl (World.alloc_heap_new w _) Try.underlying38 rfl val_size rfl ?_
  exact ⟨rfl, HK.out⟩

def two16 : List Kn := [(0, 14), (7, 4)]
theorem lkn_lit2 (w : World) (t : TypeId) (i n i' n' : Int) : Lkn (w.alloc (.cells #[.int .i64 i, .int .i64 n, .int .i64 i', .int .i64 n'] t)) w.heap.size 0 [(i, n), (i', n')] := by
  intro k x y hk
  match k, hk with
  | 0, hk => cases hk; exact ⟨World.cell?_alloc_new _ _ _ _, World.cell?_alloc_new _ _ _ _⟩
  | 1, hk => cases hk; exact ⟨World.cell?_alloc_new _ _ _ _, World.cell?_alloc_new _ _ _ _⟩
  | k + 2, hk => simp at hk
theorem two_any (w : World) : Calls Try.prog 5 #[] w fun e w' => (∃ v, e = .returned v ∧ Ks w' v two16) ∧ Below w.heap.size w w' := by
  have HK : Hid (Below w.heap.size w (w.alloc (.cells #[.int .i64 0, .int .i64 14, .int .i64 7, .int .i64 4] 27))) := (Below.refl _ _).alloc (Nat.le_refl _) _
  have HL : Hid (Lkn (w.alloc (.cells #[.int .i64 0, .int .i64 14, .int .i64 7, .int .i64 4] 27)) w.heap.size 0 two16) := lkn_lit2 w _ 0 14 7 4
  go_enter Try.func5, Try.ntmps5
  go_wp2_with fail
  go_ret
  refine ⟨⟨_, rfl, ⟨⟨_, _, rfl, .inr ⟨_, _, rfl, HL.out⟩⟩, ?_, by decide⟩⟩, HK.out⟩
  intro p hp
  simp [two16] at hp
  rcases hp with rfl | rfl <;> exact ⟨⟨by omega, by omega⟩, by omega, by omega⟩

/-- Two equal lists are the same. -/
theorem same_any (va vb : Value) (l : List Kn) (w : World) (ha : Ks w va l) (hb : Ks w vb l) : Calls Try.prog 8 #[va, vb] w fun e w' => e = .returned (.bool true) ∧ Dr w w' := by
  obtain ⟨a, c, rfl, hl⟩ := ha.lies
  obtain ⟨a', c', rfl, hl'⟩ := hb.lies
  have hlen := ha.len
  have HB := Hid.mk' ha.inb
  have HL := Hid.mk' hl
  have HL' := Hid.mk' hl'
  clear ha hl hb hl'
  obtain ⟨n, hn⟩ : ∃ n, l.length = n := ⟨_, rfl⟩
  rw [hn] at hlen ⊢
  have HN := Hid.mk' hn
  clear hn
  go_enter Try.func8, Try.ntmps8
  go_wp2_with fail
  go_loopw [5] (fun r wr => ∃ k : Nat, r = .int .i64 k ∧ k ≤ n ∧ Hid (Dr w wr)) (fun r _ => ((n : Int) - iv r).toNat)
  case atStart => exact ⟨0, rfl, Nat.zero_le _, Hid.mk' (Dr.refl _)⟩
  case round =>
    obtain ⟨k, rfl, hk, hD⟩ := hrel
    by_cases hkn : k < n
    · obtain ⟨b, off, ea, hbl, c0, c1, i0, i1⟩ := lkn_at HL.out HB.out (show k < l.length by rw [HN.out]; exact hkn)
      obtain ⟨b', off', ea', hbl', c0', c1', -, -⟩ := lkn_at HL'.out HB.out (show k < l.length by rw [HN.out]; exact hkn)
      subst ea ea'
      have d0 := (hD.out.cell _).trans c0
      have d1 := (hD.out.cell _).trans c1
      have d0' := (hD.out.cell _).trans c0'
      have d1' := (hD.out.cell _).trans c1'
      clear c0 c1 c0' c1'
      generalize idA l k = I at *
      generalize bA l k = N at *
      have hlk : (k : Int) < (n : Int) := by omega
      go_wp2_with fail
      go_quiet (fail)
      go_wp2_with fail
      go_roundw
      case rel => exact ⟨k + 1, by go_num, hkn, Hid.mk' (hD.out.more _)⟩
      case measure => simp [iv]; omega
    · have hlk : ¬ (k : Int) < (n : Int) := by omega
      go_wp2_with fail
      go_ret
      exact ⟨rfl, hD.out⟩
end Go.Proofs.Ytagnaefpkgekmab
