/- The walk of the closed statement ShareNames. -/
import Derived.Test.YtbinedhgjmfceaaHy
namespace Go.Proofs.Ytbinedhgjmfceaa
open Go.ChangeShapes Go.WideShapes Go.ChangeAt Go.RowKit

theorem Bad.below {w w' : World} {v : Value} {E : Int} (h : Bad w v E) (b : Below w.heap.size w w') : Bad w' v E := by
  rcases h with ⟨h1, h2 | ⟨s, h2, h3⟩⟩ | ⟨h1, s, h2, h3⟩
  · exact .inl ⟨h1, .inl h2⟩
  · exact .inl ⟨h1, .inr ⟨s, h2, block_kept h3 (Kept.of_below (S := fun _ => False) b) (fun h => h)⟩⟩
  · exact .inr ⟨h1, s, h2, block_kept h3 (Kept.of_below (S := fun _ => False) b) (fun h => h)⟩

/-- The calls that ShareNames hands to SharePlays. -/
def calls15 (ga gb : Nat) : List Do4 := [(0, 0, 0, 0, 0, 0, none, 0, []), (3, 0, 0, 9, 0, 0, none, 0, []), (3, 0, 2, 1, 0, 0, none, 0, []), (2, 0, 0, 2, 0, 0, none, 0, []), (4, 0, 0, 0, 2047, 0, none, 0, []), (1, 0, 0, 0, 0, 0, none, 0, []), (1, 0, 0, 0, 0, 0, none, 0, []), (2, 0, 0, 9, 0, 0, none, 0, []), (3, 0, 0, 9, 0, 0, none, 0, []), (4, 0, 0, 0, 0, 0, none, 0, []), (0, 0, 0, 0, 0, 0, none, 0, []), (7, 0, 0, 0, 0, 0, some ⟨ga, 0, none⟩, 2049, List.replicate 2049 0), (7, 0, 0, 0, 0, 0, some ⟨gb, 0, none⟩, 2048, List.replicate 2048 0), (5, 2, 0, 0, 1, 0, none, 0, []), (5, 2, 0, 0, (-9223372036854775808), 0, none, 0, [])]
def lit15 (ga gb : Nat) : Array Value := #[.int .i64 0, .int .i64 0, .int .i64 0, .int .i64 0, .int .i64 0, .int .u64 0, .slice none 0 0, .int .i64 3, .int .i64 0, .int .i64 0, .int .i64 9, .int .i64 0, .int .u64 0, .slice none 0 0, .int .i64 3, .int .i64 0, .int .i64 2, .int .i64 1, .int .i64 0, .int .u64 0, .slice none 0 0, .int .i64 2, .int .i64 0, .int .i64 0, .int .i64 2, .int .i64 0, .int .u64 0, .slice none 0 0, .int .i64 4, .int .i64 0, .int .i64 0, .int .i64 0, .int .i64 2047, .int .u64 0, .slice none 0 0, .int .i64 1, .int .i64 0, .int .i64 0, .int .i64 0, .int .i64 0, .int .u64 0, .slice none 0 0, .int .i64 1, .int .i64 0, .int .i64 0, .int .i64 0, .int .i64 0, .int .u64 0, .slice none 0 0, .int .i64 2, .int .i64 0, .int .i64 0, .int .i64 9, .int .i64 0, .int .u64 0, .slice none 0 0, .int .i64 3, .int .i64 0, .int .i64 0, .int .i64 9, .int .i64 0, .int .u64 0, .slice none 0 0, .int .i64 4, .int .i64 0, .int .i64 0, .int .i64 0, .int .i64 0, .int .u64 0, .slice none 0 0, .int .i64 0, .int .i64 0, .int .i64 0, .int .i64 0, .int .i64 0, .int .u64 0, .slice none 0 0, .int .i64 7, .int .i64 0, .int .i64 0, .int .i64 0, .int .i64 0, .int .u64 0, .slice (some ⟨ga, 0, none⟩) 2049 2049, .int .i64 7, .int .i64 0, .int .i64 0, .int .i64 0, .int .i64 0, .int .u64 0, .slice (some ⟨gb, 0, none⟩) 2048 2048, .int .i64 5, .int .i64 2, .int .i64 0, .int .i64 0, .int .i64 1, .int .u64 0, .slice none 0 0, .int .i64 5, .int .i64 2, .int .i64 0, .int .i64 0, .int .i64 (-9223372036854775808), .int .u64 0, .slice none 0 0]

def doCells7 (m : Do4) : List Value := [.int .i64 m.1, .int .i64 m.2.1, .int .i64 m.2.2.1, .int .i64 m.2.2.2.1, .int .i64 m.2.2.2.2.1, .int .u64 m.2.2.2.2.2.1, .slice m.2.2.2.2.2.2.1 m.2.2.2.2.2.2.2.2.length m.2.2.2.2.2.2.2.1]

theorem flat7 : ∀ (xs : List Do4) (i : Nat) (m : Do4) (j : Nat), xs[i]? = some m → j < 7 → (xs.flatMap doCells7)[i * 7 + j]? = (doCells7 m)[j]?
  | [], i, m, j, h, _ => by simp at h
  | x :: r, 0, m, j, h, hj => by
    simp only [List.getElem?_cons_zero, Option.some.injEq] at h
    subst h
    rw [List.flatMap_cons, Nat.zero_mul, Nat.zero_add, List.getElem?_append_left (by simp [doCells7]; omega)]
  | x :: r, i + 1, m, j, h, hj => by
    rw [List.getElem?_cons_succ] at h
    have ih := flat7 r i m j h hj
    rw [List.flatMap_cons, List.getElem?_append_right (by simp [doCells7]; omega)]
    rw [← ih]
    congr 1
    simp [doCells7]; omega

theorem lit15_eq (ga gb : Nat) : lit15 ga gb = ((calls15 ga gb).flatMap doCells7).toArray := by
  unfold lit15 calls15
  simp only [List.flatMap_cons, List.flatMap_nil, doCells7, List.length_replicate, List.length_nil, List.cons_append, List.nil_append]

theorem sl_zeros (w : World) (g n : Nat) (hn : n ≤ 10000) (h : w.heap[g]? = some (.cells ((List.replicate n (0 : Int)).map (Value.int .u8)).toArray 5 (0, 0))) : SlOk sh5 w (some ⟨g, 0, none⟩) n (List.replicate n (0 : Int)) := by
  refine ⟨⟨(fun h => by cases h), (by show (List.replicate n (0 : Int)).length ≤ n; rw [List.length_replicate]; exact Nat.le_refl _), by unfold maxLen; omega⟩, .inr ⟨g, 0, rfl, fun i x hx j v hj => ?_⟩, fun (x : Int) hx => ?_⟩
  · have hj' : [Value.int .u8 x][j]? = some v := hj
    cases j with
    | succ j => simp at hj'
    | zero =>
      have hv : Value.int .u8 x = v := by simpa using hj'
      rw [← hv]
      have e : (0 : Nat) + i * sh5.n + 0 = i := by show 0 + i * 1 + 0 = i; omega
      rw [e, cell_of_row w g i _ _ _ h]
      simp only [List.getElem?_toArray, List.getElem?_map]
      have hx' : (List.replicate n (0 : Int))[i]? = some x := hx
      rw [hx']; rfl
  · have e : x = 0 := List.eq_of_mem_replicate hx
    subst e
    exact (by decide +kernel : (Lit.int .u8 0).wf = true)
theorem sl_none5 (w : World) : SlOk sh5 w none 0 ([] : List Int) := ⟨⟨fun _ => rfl, by decide, by decide⟩, .inl rfl, fun m hm => by cases hm⟩

theorem SlOk5.below {w w' : World} {a : Option Addr} {c : Nat} {xs : List Int} (h : SlOk sh5 w a c xs) (b : Below w.heap.size w w') : SlOk sh5 w' a c xs := by
  obtain ⟨h1, h2, h3⟩ := h
  refine ⟨h1, ?_, h3⟩
  rcases h2 with h | ⟨bl, off, e, hc⟩
  · exact .inl h
  · refine .inr ⟨bl, off, e, fun i x hx j v hv => ?_⟩
    have := hc i x hx j v hv
    exact (b.cell (lt_of_cell this)).trans this
theorem SlOk4.below {w w' : World} {a : Option Addr} {c : Nat} {xs : List Do4} (h : SlOk sh33 w a c xs) (b : Below w.heap.size w w') : SlOk sh33 w' a c xs := by
  obtain ⟨h1, h2, h3⟩ := h
  refine ⟨h1, ?_, fun x hx => ?_⟩
  · rcases h2 with h | ⟨bl, off, e, hc⟩
    · exact .inl h
    · refine .inr ⟨bl, off, e, fun i x hx j v hv => ?_⟩
      have := hc i x hx j v hv
      exact (b.cell (lt_of_cell this)).trans this
  · have o := h3 x hx
    exact ⟨o.1, o.2.1, o.2.2.1, o.2.2.2.1, o.2.2.2.2.1, o.2.2.2.2.2.1, SlOk5.below o.2.2.2.2.2.2 b⟩

def Do4.bytes (m : Do4) : Option Addr × Nat × List Int := m.2.2.2.2.2.2
theorem calls15_mem (ga gb : Nat) (m : Do4) (hm : m ∈ calls15 ga gb) : ((Lit.int .i64 m.1).wf = true ∧ (Lit.int .i64 m.2.1).wf = true ∧ (Lit.int .i64 m.2.2.1).wf = true ∧ (Lit.int .i64 m.2.2.2.1).wf = true ∧ (Lit.int .i64 m.2.2.2.2.1).wf = true ∧ (Lit.int .u64 m.2.2.2.2.2.1).wf = true) ∧
    (Do4.bytes m = (none, 0, []) ∨ Do4.bytes m = (some ⟨ga, 0, none⟩, 2049, List.replicate 2049 0) ∨ Do4.bytes m = (some ⟨gb, 0, none⟩, 2048, List.replicate 2048 0)) := by
  unfold calls15 at hm
  simp only [List.mem_cons, List.not_mem_nil, or_false] at hm
  rcases hm with rfl | rfl | rfl | rfl | rfl | rfl | rfl | rfl | rfl | rfl | rfl | rfl | rfl | rfl | rfl
  all_goals
    refine ⟨⟨by dsimp only; decide +kernel, by dsimp only; decide +kernel, by dsimp only; decide +kernel, by dsimp only; decide +kernel, by dsimp only; decide +kernel, by dsimp only; decide +kernel⟩, ?_⟩
    first | exact .inl rfl | exact .inr (.inl rfl) | exact .inr (.inr rfl)

theorem calls15_ok (w : World) (ga gb : Nat) (hA : SlOk sh5 w (some ⟨ga, 0, none⟩) 2049 (List.replicate 2049 (0 : Int))) (hB : SlOk sh5 w (some ⟨gb, 0, none⟩) 2048 (List.replicate 2048 (0 : Int))) : SlOk sh33 (w.alloc (.cells (lit15 ga gb) 33)) (some ⟨w.heap.size, 0, none⟩) 15 (calls15 ga gb) := by
  have ba : Below w.heap.size w (w.alloc (.cells (lit15 ga gb) 33)) := (Below.refl _ _).alloc (Nat.le_refl _) _
  refine ⟨⟨(fun h => by cases h), Nat.le_refl 15, by decide⟩, .inr ⟨w.heap.size, 0, rfl, ?_⟩, ?_⟩
  · intro i m hm j v hj
    rw [World.cell?_alloc_new, lit15_eq]
    have hj' : (doCells7 m)[j]? = some v := hj
    have hj7 : j < 7 := (List.getElem?_eq_some_iff.1 hj').1
    have := flat7 (calls15 ga gb) i m j hm hj7
    rw [hj'] at this
    rw [show (0 : Nat) + i * sh33.n + j = i * 7 + j from by show 0 + i * 7 + j = _; omega]
    simpa using this
  · intro m hm
    have hA' := SlOk5.below hA ba
    have hB' := SlOk5.below hB ba
    obtain ⟨⟨k1, k2, k3, k4, k5, k6⟩, k7⟩ := calls15_mem ga gb m hm
    refine ⟨k1, k2, k3, k4, k5, k6, ?_⟩
    show SlOk sh5 _ (Prod.fst (α := Option Addr) (β := Nat × List Int) (Do4.bytes m)) (Do4.bytes m).2.1 (Do4.bytes m).2.2
    rcases k7 with e | e | e
    · rw [e]; exact sl_none5 _
    · rw [e]; exact hA'
    · rw [e]; exact hB'

theorem calls15_len (ga gb : Nat) : ∀ x ∈ calls15 ga gb, x.2.2.2.2.2.2.2.2.length ≤ 140737488351232 := by
  intro m hm
  unfold calls15 at hm
  simp only [List.mem_cons, List.not_mem_nil, or_false] at hm
  rcases hm with rfl | rfl | rfl | rfl | rfl | rfl | rfl | rfl | rfl | rfl | rfl | rfl | rfl | rfl | rfl
  all_goals first | exact Nat.zero_le _ | (show (List.replicate _ _).length ≤ _; rw [List.length_replicate]; omega)

theorem names_laid {w : World} (C D : Array Value) (hC : ((List.replicate 2049 (0 : Int)).map (Value.int .u8)).toArray = C) (hD : ((List.replicate 2048 (0 : Int)).map (Value.int .u8)).toArray = D) :
    SlOk sh33 (((w.alloc (.cells C 5)).alloc (.cells D 5)).alloc (.cells (lit15 w.heap.size (w.heap.size + 1)) 33)).drew (some ⟨w.heap.size + 1 + 1, 0, none⟩) 15 (calls15 w.heap.size (w.heap.size + 1)) ∧
    SlOk sh33 (((w.alloc (.cells D 5)).alloc (.cells C 5)).alloc (.cells (lit15 (w.heap.size + 1) w.heap.size) 33)).drew (some ⟨w.heap.size + 1 + 1, 0, none⟩) 15 (calls15 (w.heap.size + 1) w.heap.size) := by
  subst hC; subst hD
  have key : ∀ (A B : Array Value), ((w.alloc (.cells A 5)).alloc (.cells B 5)).heap[w.heap.size]? = some (.cells A 5 (0, 0)) ∧ ((w.alloc (.cells A 5)).alloc (.cells B 5)).heap[w.heap.size + 1]? = some (.cells B 5 (0, 0)) ∧ ((w.alloc (.cells A 5)).alloc (.cells B 5)).heap.size = w.heap.size + 1 + 1 := by
    intro A B
    refine ⟨?_, ?_, by simp⟩
    · rw [Below.heap_alloc _ _ _ (by simp)]
      exact Go.heap_alloc_new w _
    · have := Go.heap_alloc_new (w.alloc (.cells A 5)) (.cells B 5)
      simpa using this
  constructor
  · obtain ⟨k1, k2, k3⟩ := key ((List.replicate 2049 (0 : Int)).map (Value.int .u8)).toArray ((List.replicate 2048 (0 : Int)).map (Value.int .u8)).toArray
    have h := calls15_ok _ w.heap.size (w.heap.size + 1) (sl_zeros _ _ 2049 (by omega) k1) (sl_zeros _ _ 2048 (by omega) k2)
    rw [k3] at h
    exact SlOk4.below h ((Below.refl _ _).drew)
  · obtain ⟨k1, k2, k3⟩ := key ((List.replicate 2048 (0 : Int)).map (Value.int .u8)).toArray ((List.replicate 2049 (0 : Int)).map (Value.int .u8)).toArray
    have h := calls15_ok _ (w.heap.size + 1) w.heap.size (sl_zeros _ _ 2049 (by omega) k2) (sl_zeros _ _ 2048 (by omega) k1)
    rw [k3] at h
    exact SlOk4.below h ((Below.refl _ _).drew)

set_option maxHeartbeats 4000000 in
set_option maxRecDepth 100000 in
theorem walkShareNames (W : World) :
    Calls Try.prog 6 #[] W fun e w' => e = .returned (.bool true) ∧ Below W.heap.size W w' := by
  obtain ⟨C, HC⟩ : ∃ C, Hid (((List.replicate 2049 (0 : Int)).map (Value.int .u8)).toArray = C) := ⟨_, rfl⟩
  obtain ⟨D, HD⟩ : ∃ D, Hid (((List.replicate 2048 (0 : Int)).map (Value.int .u8)).toArray = D) := ⟨_, rfl⟩
  have hmk : ∀ u : World, (Instr.makeSlice 22 (.int .i64 2049) (.int .i64 2049)).run Try.prog u = .ok (.slice (some ⟨u.heap.size, 0, none⟩) 2049 2049) (u.alloc (.cells C 5)) := by
    have h := make_bytes 2049 (by omega)
    rw [HC.out] at h
    exact h
  have hmk' : ∀ u : World, (Instr.makeSlice 22 (.int .i64 2048) (.int .i64 2048)).run Try.prog u = .ok (.slice (some ⟨u.heap.size, 0, none⟩) 2048 2048) (u.alloc (.cells D 5)) := by
    have h := make_bytes 2048 (by omega)
    rw [HD.out] at h
    exact h
  go_enter Try.func6, Try.ntmps6
  go_wp2_with fail
  go_loopg [1, 2] 2 (fun g s1 s2 wr => ∃ k : Nat, s2 = .int .i64 k ∧ k ≤ 2 ∧ 2 - k ≤ g ∧ Hid (Bad wr s1 1) ∧ Hid (Below W.heap.size W wr))
  case atStart => exact ⟨0, rfl, by omega, by omega, .inl ⟨rfl, .inl rfl⟩, Below.refl _ _⟩
  case round =>
    obtain ⟨k, rfl, hk1, hk2, hN, hb⟩ := hrel
    by_cases hlt : k < 2
    · have hsp : (k : Int) < 2 := by omega
      go_wp2_with fail
      refine (clone_bad u1 1 wr hN.out).mono ?_
      rintro e w1 ⟨rfl, rfl⟩
      go_wp2_with fail
      refine (sown_bad u1 1 wr hN.out).mono ?_
      rintro e w1 ⟨rfl, rfl⟩
      go_wp2_with fail
      refine (sload_bad u1 1 0 9 wr hN.out).mono ?_
      rintro e w1 ⟨rfl, rfl⟩
      go_wp2_with fail
      refine (free_bad u1 1 wr hN.out).mono ?_
      rintro e w1 ⟨rfl, rfl⟩
      go_wp2_with fail
      refine (sstore_bad u1 1 0 9 0 wr hN.out).mono ?_
      rintro e w1 ⟨rfl, rfl⟩
      go_wp2_with fail
      refine (count_bad u1 1 wr hN.out).mono ?_
      rintro e w1 ⟨rfl, rfl⟩
      go_wp2_with fail
      refine (slen_bad u1 1 wr hN.out).mono ?_
      rintro e w1 ⟨rfl, rfl⟩
      go_wp2_with fail
      refine (sbytes_bad u1 1 wr hN.out).mono ?_
      rintro e w1 ⟨rfl, rfl⟩
      go_wp2_with fail
      go_roundg (2 - (k + 1))
      case measure => omega
      case rel => exact ⟨k + 1, by go_num, by omega, by omega, .inl ⟨rfl, .inr ⟨_, rfl, Go.heap_alloc_new _ _⟩⟩, hb.out.alloc hb.out.size _⟩
    · go_upto_region 11 with fail
      go_cut [9] from 79 (fun s9 wx => ∃ gl ga gb : Nat, s9 = .slice (some ⟨gl, 0, none⟩) 15 15 ∧ Hid (SlOk sh33 wx (some ⟨gl, 0, none⟩) 15 (calls15 ga gb)) ∧ Hid (Below W.heap.size W wx))
      case first =>
        have HST := Hid.mk' (names_laid (w := wr) C D HC.out HD.out)
        have hbb : ∀ (o1 o2 o3 : Obj), Below W.heap.size W (((wr.alloc o1).alloc o2).alloc o3).drew := fun o1 o2 o3 => by
          have b1 := hb.out.alloc hb.out.size o1
          have b2 := b1.alloc b1.size o2
          exact (b2.alloc b2.size o3).drew
        have HBB := Hid.mk' hbb
        clear hbb
        go_region_with (fail)
        · go_wp2_with fail
          go_meet
          exact ⟨_, _, _, rfl, HST.out.1, HBB.out _ _ _⟩
        · go_wp2_with fail
          go_meet
          exact ⟨_, _, _, rfl, HST.out.2, HBB.out _ _ _⟩
      case rest =>
      clear hN hb
      obtain ⟨gl, ga, gb, rfl, hS, hb⟩ := hcut
      go_wp2_with fail
      refine (awake4 wc).mono ?_
      rintro e w1 ⟨rfl, b1⟩
      have S1 := Hid.mk' (SlOk4.below hS.out b1)
      have B1 : Hid (Below W.heap.size W w1) := hb.out.trans (b1.mono hb.out.size)
      clear b1 hS hb
      have a1 : Below w1.heap.size w1 (w1.alloc (.cells #[.int .u8 1, .int .u8 2] 5)) := (Below.refl _ _).alloc (Nat.le_refl _) _
      have S1' := Hid.mk' (SlOk4.below S1.out a1)
      have B1' := Hid.mk' (B1.out.trans (a1.mono B1.out.size))
      have HL := Hid.mk' (bs_new w1 [1, 2] 5 (by unfold Bytes; simp) (by simp))
      clear a1 S1 B1
      go_wp2_with fail
      refine (plays4 (some ⟨w1.heap.size, 0, none⟩) 2 2 [1, 2] (some ⟨gl, 0, none⟩) 15 15 (calls15 ga gb) _ rfl rfl HL.out (by simp) S1'.out (by omega) (by omega) (calls15_len ga gb)).mono ?_
      rintro e w2 ⟨rfl, b2⟩
      have S2 := Hid.mk' (SlOk4.below S1'.out b2)
      have B2 : Hid (Below W.heap.size W w2) := B1'.out.trans (b2.mono B1'.out.size)
      clear b2 S1' B1' HL
      have a2 : Below w2.heap.size w2 (w2.alloc (.cells C 5)) := (Below.refl _ _).alloc (Nat.le_refl _) _
      have S2' := Hid.mk' (SlOk4.below S2.out a2)
      have B2' := Hid.mk' (B2.out.trans (a2.mono B2.out.size))
      have HL : Hid (Bs (w2.alloc (.cells C 5)) (some ⟨w2.heap.size, 0, none⟩) (List.replicate 2049 0)) := by
        have := bs_new w2 (List.replicate 2049 0) 5 (Bytes.zeros _) (by rw [List.length_replicate]; omega)
        rw [HC.out] at this
        exact this
      clear a2 S2 B2
      go_wp2_with fail
      refine (plays4 (some ⟨w2.heap.size, 0, none⟩) 2049 2049 (List.replicate 2049 0) (some ⟨gl, 0, none⟩) 15 15 (calls15 ga gb) _ (by rw [List.length_replicate]) rfl HL.out (by simp) S2'.out (by omega) (by omega) (calls15_len ga gb)).mono ?_
      rintro e w3 ⟨rfl, b3⟩
      have S3 := Hid.mk' (SlOk4.below S2'.out b3)
      have B3 : Hid (Below W.heap.size W w3) := B2'.out.trans (b3.mono B2'.out.size)
      clear b3 S2' B2' HL
      go_wp2_with fail
      refine (plays4 none 0 0 [] (some ⟨gl, 0, none⟩) 15 15 (calls15 ga gb) w3 rfl rfl (bs_nil _ _) (fun _ => rfl) S3.out (by omega) (by omega) (calls15_len ga gb)).mono ?_
      rintro e w4 ⟨rfl, b4⟩
      have B4 : Hid (Below W.heap.size W w4) := B3.out.trans (b4.mono B3.out.size)
      clear b4 B3 S3
      go_wp2_with fail
      go_ret
      exact ⟨rfl, B4.out⟩
end Go.Proofs.Ytbinedhgjmfceaa
