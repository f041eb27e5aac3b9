/- A head out of its kind and its header (build); each kind's reader, the program's. -/
import Derived.Test.YthdgfhllieknlaaJc
import Derived.Great.BuildSlice
namespace Go.Proofs.Ythdgfhllieknlaa
open Go.ChangeShapes Go.WideShapes Go.ChangeAt Go.RowKit
set_option maxRecDepth 10000

theorem fold_put : ∀ (vs : List Value) (n off : Nat) (cs : List Value), off + n + vs.length ≤ cs.length → ((vs.zipIdx n).foldl (fun (cs : Array Value) (x : Value × Nat) => cs.setIfInBounds (off + x.2) x.1) cs.toArray) = (put cs (off + n) vs).toArray
  | [], n, off, cs, _ => by simp [put]
  | v :: r, n, off, cs, h => by
    simp only [List.length_cons] at h
    rw [List.zipIdx_cons, List.foldl_cons, List.setIfInBounds_toArray, fold_put r (n + 1) off (cs.set (off + n) v) (by rw [List.length_set]; omega)]
    congr 1
    unfold put
    have ho : off + n < cs.length := by omega
    rw [show off + (n + 1) = off + n + 1 by omega, List.take_succ_eq_append_getElem (by simpa using ho), List.take_set_of_le (Nat.le_refl _), List.drop_set_of_lt (by omega)]
    simp only [List.getElem_set_self, List.append_assoc, List.nil_append, List.cons_append, List.length_cons]
    rw [show off + n + 1 + r.length = off + n + (r.length + 1) by omega]

theorem fill_cons (place : Nat → Option (Nat × Nat)) (cs : List Value) (i off : Nat) (L : List Value) (v : Value) (rest : List (Nat × Value)) (hv : v.cells = L.toArray) (hp : place i = some (off, L.length)) (hf : off + L.length ≤ cs.length) :
    Instr.fill place cs.toArray ((i, v) :: rest) = Instr.fill place (put cs off L).toArray rest := by
  have e := fold_put L 0 off cs (by omega)
  rw [Nat.add_zero] at e
  rw [Instr.fill, hp]
  simp only [hv, List.size_toArray]
  rw [if_neg (by simp; omega)]
  congr 1
  rw [← e]
  simp

/-- A head of noughts. -/
def hz : List Value := hC 0 K05.lk0 K06.hd0 K07.hd0 K08.hd0 K09.hd0 K10.hd0
def hplaces : Array (Nat × Nat) := #[(0, 1), (1, 13), (14, 3), (17, 12), (29, 36), (65, 6), (71, 2)]

theorem hz_hh : Hh hz := ⟨0, _, _, _, _, _, _, rfl, by omega, by omega, lhd_0, K06.hd_0, K07.hd_0, K08.hd_0, K09.hd_0, K10.hd_0⟩
theorem hz_len : hz.length = 73 := hh_len hz_hh

theorem built_head (parts : List (Nat × Value)) : Try.prog.built 48 parts = Instr.fill (fun i => hplaces[i]?) hz.toArray parts := by
  kernel_rfl

theorem built_1 (L : List Value) (h : L.length = 13) : Try.prog.built 48 [(0, .int .u8 1), (1, .agg L.toArray)] = some (hk 1 L).toArray := by
  rw [built_head, fill_cons _ _ 0 0 [.int .u8 1] _ _ rfl rfl (by rw [hz_len]; simp), fill_cons _ _ 1 1 L _ _ rfl (by rw [h]; rfl) (by rw [put_length _ _ _ (by rw [hz_len]; simp), hz_len, h]; omega), Instr.fill]
  congr 2
  unfold put
  rw [h]
  rfl

theorem built_2 (L : List Value) (h : L.length = 3) : Try.prog.built 48 [(0, .int .u8 2), (2, .agg L.toArray)] = some (hk 2 L).toArray := by
  rw [built_head, fill_cons _ _ 0 0 [.int .u8 2] _ _ rfl rfl (by rw [hz_len]; simp), fill_cons _ _ 2 14 L _ _ rfl (by rw [h]; rfl) (by rw [put_length _ _ _ (by rw [hz_len]; simp), hz_len, h]; omega), Instr.fill]
  congr 2
  unfold put
  rw [h]
  rfl

theorem built_3 (L : List Value) (h : L.length = 12) : Try.prog.built 48 [(0, .int .u8 3), (3, .agg L.toArray)] = some (hk 3 L).toArray := by
  rw [built_head, fill_cons _ _ 0 0 [.int .u8 3] _ _ rfl rfl (by rw [hz_len]; simp), fill_cons _ _ 3 17 L _ _ rfl (by rw [h]; rfl) (by rw [put_length _ _ _ (by rw [hz_len]; simp), hz_len, h]; omega), Instr.fill]
  congr 2
  unfold put
  rw [h]
  rfl

theorem built_4 (L : List Value) (h : L.length = 36) : Try.prog.built 48 [(0, .int .u8 4), (4, .agg L.toArray)] = some (hk 4 L).toArray := by
  rw [built_head, fill_cons _ _ 0 0 [.int .u8 4] _ _ rfl rfl (by rw [hz_len]; simp), fill_cons _ _ 4 29 L _ _ rfl (by rw [h]; rfl) (by rw [put_length _ _ _ (by rw [hz_len]; simp), hz_len, h]; omega), Instr.fill]
  congr 2
  unfold put
  rw [h]
  rfl

theorem built_5 (L : List Value) (h : L.length = 6) : Try.prog.built 48 [(0, .int .u8 5), (5, .agg L.toArray)] = some (hk 5 L).toArray := by
  rw [built_head, fill_cons _ _ 0 0 [.int .u8 5] _ _ rfl rfl (by rw [hz_len]; simp), fill_cons _ _ 5 65 L _ _ rfl (by rw [h]; rfl) (by rw [put_length _ _ _ (by rw [hz_len]; simp), hz_len, h]; omega), Instr.fill]
  congr 2
  unfold put
  rw [h]
  rfl

theorem built_6 (L : List Value) (h : L.length = 2) : Try.prog.built 48 [(0, .int .u8 6), (6, .agg L.toArray)] = some (hk 6 L).toArray := by
  rw [built_head, fill_cons _ _ 0 0 [.int .u8 6] _ _ rfl rfl (by rw [hz_len]; simp), fill_cons _ _ 6 71 L _ _ rfl (by rw [h]; rfl) (by rw [put_length _ _ _ (by rw [hz_len]; simp), hz_len, h]; omega), Instr.fill]
  congr 2
  unfold put
  rw [h]
  show _ ++ L ++ ([] : List Value) = _
  rw [List.append_nil]
  rfl

end Go.Proofs.Ythdgfhllieknlaa
