/- The statements' own chains of headers. -/
import Derived.Test.YthdgfhllieknlaaJs
import Derived.Test.YthdgfhllieknlaaJr
import Derived.Test.YthdgfhllieknlaaBi
namespace Go.Proofs.Ythdgfhllieknlaa
open Go.ChangeShapes Go.WideShapes Go.ChangeAt Go.RowKit
set_option maxRecDepth 10000

/-- Which number says what comes next: of a network header, of a transport header, of a tag. -/
def nV (r : Nat) : Int := if r = 1 then 2048 else if r = 2 then 34525 else 4660
def tV (r : Nat) : Int := if r = 1 then 6 else if r = 2 then 17 else 99
def nxA (t : Nat) (nv : Int) (i : Nat) : Int := if i < t then 33024 else nv
def chT (p i : Int) (t : Nat) (nv : Int) (j : Nat) : Int × List Value := (2, K06.tgC p i (nxA t nv (j + 1)))
def chTs (p i : Int) (t : Nat) (nv : Int) (m : Nat) : Hs := (List.range m).map (chT p i t nv)
def chN (r : Nat) (tv : Int) (c d : List Value) : Hs := if r = 1 then [(3, c.set 2 (.int .u8 tv))] else if r = 2 then [(4, (d.set 2 (.int .u8 tv)).set 1 (.int .u32 (num d 1 % 1048576)))] else []
def chX (r1 r2 : Nat) (e f : List Value) : Hs := if r1 = 0 then [] else if r2 = 1 then [(5, e.set 4 (.int .u8 (num e 4 % 64)))] else if r2 = 2 then [(6, f)] else []
def chA (da sa : List Int) (pb ib : Int) (t : Nat) (nv : Int) (m : Nat) : Hs := (1, K05.lkC da sa (nxA t nv 0)) :: chTs (pb % 8) (ib % 4096) t nv m
/-- A chain's headers. -/
def chain (da sa : List Int) (pb ib : Int) (t r1 r2 : Nat) (c d e f : List Value) : Hs := chA da sa pb ib t (nV r1) t ++ (chN r1 (tV r2) c d ++ chX r1 r2 e f)

/-- A chain's cells. -/
def chC (T x y : Int) (da sa : List Int) (ta pb ib tb : Int) (c d e f : List Value) : List Value := [.int .i64 T, .int .i64 x, .int .i64 y] ++ (K05.lkC da sa ta ++ (K06.tgC pb ib tb ++ (c ++ (d ++ (e ++ f)))))

structure ChP (da sa : List Int) (ta pb ib tb : Int) (c d e f : List Value) : Prop where
  a : K05.Lk da sa ta
  b : K06.Tg pb ib tb
  c : K07.Hd c
  d : K08.Hd d
  e : K09.Hd e
  f : K10.Hd f

theorem built_lk (da sa : List Int) (t : Int) (hd : da.length = 6) (hs : sa.length = 6) : Try.prog.built 33 [(0, .agg (da.map (Value.int .u8)).toArray), (1, .agg (sa.map (Value.int .u8)).toArray), (2, .int .u16 t)] = some (K05.lkC da sa t).toArray := by
  have ld : (da.map (Value.int .u8)).length = 6 := by rw [List.length_map, hd]
  have ls : (sa.map (Value.int .u8)).length = 6 := by rw [List.length_map, hs]
  unfold K05.lkC
  generalize da.map (Value.int .u8) = D at ld
  generalize sa.map (Value.int .u8) = E at ls
  have e : Try.prog.built 33 [(0, .agg D.toArray), (1, .agg E.toArray), (2, .int .u16 t)] = Instr.fill (fun i => (#[(0, 6), (6, 6), (12, 1)] : Array (Nat × Nat))[i]?) K05.lk0.toArray [(0, .agg D.toArray), (1, .agg E.toArray), (2, .int .u16 t)] := by kernel_rfl
  have l0 : K05.lk0.length = 13 := rfl
  rw [e, fill_cons _ _ 0 0 D _ _ rfl (by rw [ld]; rfl) (by rw [l0, ld]; omega)]
  have e1 : put K05.lk0 0 D = D ++ K05.lk0.drop 6 := by unfold put; rw [ld]; rfl
  rw [e1, fill_cons _ _ 1 6 E _ _ rfl (by rw [ls]; rfl) (by rw [List.length_append, ld, ls]; decide)]
  have e2 : put (D ++ K05.lk0.drop 6) 6 E = D ++ (E ++ K05.lk0.drop 12) := by
    have := put_mid D ((K05.lk0.drop 6).take 6) (K05.lk0.drop 12) E 6 ld.symm (by rw [ls]; rfl)
    rw [show K05.lk0.drop 6 = (K05.lk0.drop 6).take 6 ++ K05.lk0.drop 12 from rfl]
    exact this
  rw [e2, fill_cons _ _ 2 12 [.int .u16 t] _ _ rfl rfl (by rw [List.length_append, List.length_append, ld, ls]; exact (by decide : 12 + 1 ≤ 6 + (6 + 1))), Instr.fill]
  congr 2
  have := put_mid (D ++ E) (K05.lk0.drop 12) [] [.int .u16 t] 12 (by rw [List.length_append, ld, ls]) rfl
  rw [List.append_nil, List.append_nil] at this
  rw [← List.append_assoc, this, List.append_assoc]

theorem n4_set {c : List Value} (h : K07.Hd c) (v : Int) (h0 : 0 ≤ v) (h1 : v ≤ 255) : K07.Hd (c.set 2 (.int .u8 v)) ∧ (∃ z, c[2]? = some (.int .u8 z)) := by
  obtain ⟨o, l, p, i, s, d, rfl, h⟩ := h
  exact ⟨⟨o, l, v, i, s, d, rfl, h.o0, h.o1, h.l0, h.l1, h0, h1, h.i0, h.i1, h.sl, h.dl, h.sb, h.db⟩, p, rfl⟩
theorem n6_set {c : List Value} (h : K08.Hd c) (v : Int) (h0 : 0 ≤ v) (h1 : v ≤ 255) : K08.Hd ((c.set 2 (.int .u8 v)).set 1 (.int .u32 (num c 1 % 1048576))) ∧ c[1]? = some (.int .u32 (num c 1)) ∧ (∃ z, c[2]? = some (.int .u8 z)) ∧ 0 ≤ num c 1 ∧ num c 1 ≤ 4294967295 ∧ K08.ckE ((c.set 2 (.int .u8 v)).set 1 (.int .u32 (num c 1 % 1048576))) = 0 := by
  obtain ⟨cl, fl, nx, hp, s, d, rfl, h⟩ := h
  have e : num (K08.n6C cl fl nx hp s d) 1 = fl := rfl
  have f0 := h.f0
  have f1 := h.f1
  rw [e]
  refine ⟨⟨cl, fl % 1048576, v, hp, s, d, rfl, h.c0, h.c1, by omega, by omega, h0, h1, h.h0, h.h1, h.sl, h.dl, h.sb, h.db⟩, rfl, ⟨nx, rfl⟩, f0, f1, ?_⟩
  show K08.n6E (fl % 1048576) = 0
  unfold K08.n6E
  rw [if_pos (by omega)]
theorem sg_set {c : List Value} (h : K09.Hd c) : K09.Hd (c.set 4 (.int .u8 (num c 4 % 64))) ∧ c[4]? = some (.int .u8 (num c 4)) ∧ 0 ≤ num c 4 ∧ num c 4 ≤ 255 ∧ K09.ckE (c.set 4 (.int .u8 (num c 4 % 64))) = 0 := by
  obtain ⟨sp, dp, sq, ak, fl, wn, rfl, h⟩ := h
  have e : num (K09.sgC sp dp sq ak fl wn) 4 = fl := rfl
  obtain ⟨a0, a1, b0, b1, c0, c1, d0, d1, e0, e1, f0, f1⟩ := h
  rw [e]
  refine ⟨⟨sp, dp, sq, ak, fl % 64, wn, rfl, a0, a1, b0, b1, c0, c1, d0, d1, by omega, by omega, f0, f1⟩, rfl, e0, e1, ?_⟩
  show K09.sgE (fl % 64) = 0
  unfold K09.sgE
  rw [if_pos (by omega)]
theorem khd3 {L : List Value} (h : K07.Hd L) : KHd 3 L := ⟨by omega, by omega, fun h => by omega, fun h => by omega, fun _ => h, fun h => by omega, fun h => by omega, fun h => by omega⟩
theorem khd4 {L : List Value} (h : K08.Hd L) : KHd 4 L := ⟨by omega, by omega, fun h => by omega, fun h => by omega, fun h => by omega, fun _ => h, fun h => by omega, fun h => by omega⟩
theorem khd5 {L : List Value} (h : K09.Hd L) : KHd 5 L := ⟨by omega, by omega, fun h => by omega, fun h => by omega, fun h => by omega, fun h => by omega, fun _ => h, fun h => by omega⟩
theorem khd6 {L : List Value} (h : K10.Hd L) : KHd 6 L := ⟨by omega, by omega, fun h => by omega, fun h => by omega, fun h => by omega, fun h => by omega, fun h => by omega, fun _ => h⟩

theorem chTs_push (p i : Int) (t : Nat) (nv : Int) (m : Nat) : chTs p i t nv (m + 1) = chTs p i t nv m ++ [chT p i t nv m] := by simp [chTs, List.range_succ]
theorem chA_push (da sa : List Int) (pb ib : Int) (t : Nat) (nv : Int) (m : Nat) : chA da sa pb ib t nv (m + 1) = chA da sa pb ib t nv m ++ [chT (pb % 8) (ib % 4096) t nv m] := by
  unfold chA; rw [chTs_push]; rfl
theorem chA_len (da sa : List Int) (pb ib : Int) (t : Nat) (nv : Int) (m : Nat) : (chA da sa pb ib t nv m).length = m + 1 := by simp [chA, chTs]
theorem hsC_app (l m : Hs) : hsC (l ++ m) = hsC l ++ hsC m := by simp [hsC]
theorem hsC_one (k : Int) (L : List Value) : hsC [(k, L)] = hk k L := by simp [hsC]

end Go.Proofs.Ythdgfhllieknlaa
