/- The array of readers; the packet's headers as the program walks them. -/
import Derived.Test.YthdgfhllieknlaaJe
import Derived.Great.Walk
namespace Go.Proofs.Ythdgfhllieknlaa
open Go.ChangeShapes Go.WideShapes Go.ChangeAt Go.RowKit
set_option maxRecDepth 10000

/-- A call ends with a struct that lies in a block. -/
theorem ret_cell {fn : Func} {p : Tmp} {ty : TypeId} {R : Ending → World → Prop} {a : Act} {w : World} (hres : fn.results = #[.cell p ty]) (g : Nat) (t : TypeId) (L : List Value) (fr : Nat × Nat) (d : TypeDesc)
    (hp : a.tmps.getD p undef = .pointer (some ⟨g, 0, none⟩)) (hg : w.heap[g]? = some (.cells L.toArray t fr)) (hu : Try.prog.underlying ty = some d) (hd : d.isRow = true) (hi : (Try.prog.info? ty).map (·.size) = some L.length)
    (hdf : a.defers = []) (hR : R (.returned (.agg L.toArray)) w) : bodyPost Try.prog fn R .ret a w := by
  refine bodyPost_ret ?_ hdf hR
  have hp' : a.tmps[p]?.getD undef = .pointer (some ⟨g, 0, none⟩) := by simpa using hp
  simp [results, hres, hp', asAddr, run_loadVar_mid w g 0 ty L d (range_block hg) hu hd hi]

/-- The functions that are kept in the array. -/
def rdF : List Value := [.nilFunc, .func (.func 41) #[] #[], .func (.func 44) #[] #[], .func (.func 47) #[] #[], .func (.func 50) #[] #[], .func (.func 53) #[] #[], .func (.func 56) #[] #[]]

set_option maxHeartbeats 1000000 in
theorem readers_any (w : World) : Calls Try.prog 27 #[] w fun e w' => e = .returned (.agg rdF.toArray) ∧ Below w.heap.size w w' := by
  go_enter Try.func27, Try.ntmps27
  go_wp2_with (first | refine wpList_store_new rfl 80 _ _ rfl _ _ rdF rfl rfl rfl (by kernel_rfl) (by kernel_rfl) ?_)
  refine ret_cell rfl w.heap.size 80 rdF (0, 0) _ rfl (heap_alloc_new w _) Try.underlying80 rfl (by kernel_rfl) rfl ?_
  exact ⟨rfl, (Below.refl _ _).alloc (Nat.le_refl _) _⟩

/-- What is found: a head and its range. -/
theorem built_found (H : List Value) (x y : Int) (h : H.length = 73) : Try.prog.built 71 [(0, .agg H.toArray), (1, .agg #[.int .i64 x, .int .i64 y])] = some (H ++ [Value.int .i64 x, Value.int .i64 y]).toArray := by
  have e : Try.prog.built 71 [(0, .agg H.toArray), (1, .agg #[.int .i64 x, .int .i64 y])] = Instr.fill (fun i => (#[(0, 73), (73, 2)] : Array (Nat × Nat))[i]?) (hz ++ [Value.int .i64 0, Value.int .i64 0]).toArray [(0, .agg H.toArray), (1, .agg #[.int .i64 x, .int .i64 y])] := by kernel_rfl
  have hl : (hz ++ [Value.int .i64 0, .int .i64 0]).length = 75 := by rw [List.length_append, hz_len]; rfl
  rw [e, fill_cons _ _ 0 0 H _ _ rfl (by rw [h]; rfl) (by rw [hl, h]; omega), fill_cons _ _ 1 73 [.int .i64 x, .int .i64 y] _ _ rfl rfl (by rw [put_length _ _ _ (by rw [hl, h]; omega), hl]; simp), Instr.fill]
  congr 2
  rw [put_head hz _ H (by rw [h, hz_len])]
  unfold put
  rw [← h, List.take_left]
  simp

/-- A row of one head, of two, of what is found. -/
theorem bslice_1 (H : List Value) (h : H.length = 73) : Try.prog.builtSlice 48 1 [(0, .agg H.toArray)] = some H.toArray := by
  have e : Try.prog.builtSlice 48 1 [(0, .agg H.toArray)] = Instr.fill (fun i => some (i * 73, 73)) hz.toArray [(0, .agg H.toArray)] := by kernel_rfl
  rw [e, fill_cons _ _ 0 0 H _ _ rfl (by rw [h]) (by rw [hz_len, h]; omega), Instr.fill, put_all hz H (by rw [hz_len, h])]
theorem bslice_2 (H J : List Value) (h : H.length = 73) (j : J.length = 73) : Try.prog.builtSlice 48 2 [(0, .agg H.toArray), (1, .agg J.toArray)] = some (H ++ J).toArray := by
  have e : Try.prog.builtSlice 48 2 [(0, .agg H.toArray), (1, .agg J.toArray)] = Instr.fill (fun i => some (i * 73, 73)) (hz ++ hz).toArray [(0, .agg H.toArray), (1, .agg J.toArray)] := by kernel_rfl
  have hl : (hz ++ hz).length = 146 := by rw [List.length_append, hz_len]
  rw [e, fill_cons _ _ 0 0 H _ _ rfl (by rw [h]) (by rw [hl, h]; omega), put_head hz hz H (by rw [h, hz_len]), fill_cons _ _ 1 73 J _ _ rfl (by rw [j]) (by rw [List.length_append, h, hz_len, j]; omega), Instr.fill]
  congr 2
  unfold put
  rw [← h, List.take_left, j, ← hz_len, h, ← h, ← List.length_append, List.drop_length, List.append_nil]
theorem bslice_f (F : List Value) (h : F.length = 75) : Try.prog.builtSlice 71 1 [(0, .agg F.toArray)] = some F.toArray := by
  have e : Try.prog.builtSlice 71 1 [(0, .agg F.toArray)] = Instr.fill (fun i => some (i * 75, 75)) (hz ++ [Value.int .i64 0, Value.int .i64 0]).toArray [(0, .agg F.toArray)] := by kernel_rfl
  have hl : (hz ++ [Value.int .i64 0, .int .i64 0]).length = 75 := by rw [List.length_append, hz_len]; rfl
  rw [e, fill_cons _ _ 0 0 F _ _ rfl (by rw [h]) (by rw [hl, h]; omega), Instr.fill, put_all _ F (by rw [hl, h])]
end Go.Proofs.Ythdgfhllieknlaa
