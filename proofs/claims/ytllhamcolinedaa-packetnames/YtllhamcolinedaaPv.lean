/- The walk of the statement PacketNames. -/
import Derived.Test.YtllhamcolinedaaPq
namespace Go.Proofs.Ytllhamcolinedaa
open Go.ChangeShapes Go.WideShapes Go.ChangeAt Go.RowKit

/-- The calls that PacketNames hands to PacketPlays. -/
def calls19 : List DoM := [(0, 0, 0, 0, 0), (0, 1, 0, 0, 0), (0, -2049, 0, 0, 0), (0, 9223372036854775807, 0, 0, 0), (0, -9223372036854775808, 0, 0, 0), (1, 9223372036854775807, 0, 0, 0), (1, -9223372036854775808, 0, 0, 0), (2, 0, 2047, 1, 0), (2, 0, 2041, 8, 0), (2, 0, 2040, 8, 0), (2, 0, 9223372036854775807, 8, 0), (2, 0, -9223372036854775808, 1, 0), (3, 0, 0, 9, 0), (3, 0, 2040, 8, 18446744073709551615), (0, -2048, 0, 0, 0), (0, 257, 0, 0, 0), (5, 0, 0, 0, 0), (1, 1791, 0, 0, 0), (1, 1, 0, 0, 0)]

def doCells (m : DoM) : List Value := [.int .i64 m.1, .int .i64 m.2.1, .int .i64 m.2.2.1, .int .i64 m.2.2.2.1, .int .u64 m.2.2.2.2]

theorem flat5 : ∀ (xs : List DoM) (i : Nat) (m : DoM) (j : Nat), xs[i]? = some m → j < 5 → (xs.flatMap doCells)[i * 5 + j]? = (doCells m)[j]?
  | [], i, m, j, h, _ => by simp at h
  | x :: r, 0, m, j, h, hj => by
    simp only [List.getElem?_cons_zero, Option.some.injEq] at h
    subst h
    rw [List.flatMap_cons, Nat.zero_mul, Nat.zero_add, List.getElem?_append_left (by simp [doCells]; omega)]
  | x :: r, i + 1, m, j, h, hj => by
    rw [List.getElem?_cons_succ] at h
    have ih := flat5 r i m j h hj
    rw [List.flatMap_cons, List.getElem?_append_right (by simp [doCells]; omega)]
    rw [← ih]
    congr 1
    simp [doCells]; omega

theorem lit19 : (#[.int .i64 0, .int .i64 0, .int .i64 0, .int .i64 0, .int .u64 0, .int .i64 0, .int .i64 1, .int .i64 0, .int .i64 0, .int .u64 0, .int .i64 0, .int .i64 (-2049), .int .i64 0, .int .i64 0, .int .u64 0, .int .i64 0, .int .i64 9223372036854775807, .int .i64 0, .int .i64 0, .int .u64 0, .int .i64 0, .int .i64 (-9223372036854775808), .int .i64 0, .int .i64 0, .int .u64 0, .int .i64 1, .int .i64 9223372036854775807, .int .i64 0, .int .i64 0, .int .u64 0, .int .i64 1, .int .i64 (-9223372036854775808), .int .i64 0, .int .i64 0, .int .u64 0, .int .i64 2, .int .i64 0, .int .i64 2047, .int .i64 1, .int .u64 0, .int .i64 2, .int .i64 0, .int .i64 2041, .int .i64 8, .int .u64 0, .int .i64 2, .int .i64 0, .int .i64 2040, .int .i64 8, .int .u64 0, .int .i64 2, .int .i64 0, .int .i64 9223372036854775807, .int .i64 8, .int .u64 0, .int .i64 2, .int .i64 0, .int .i64 (-9223372036854775808), .int .i64 1, .int .u64 0, .int .i64 3, .int .i64 0, .int .i64 0, .int .i64 9, .int .u64 0, .int .i64 3, .int .i64 0, .int .i64 2040, .int .i64 8, .int .u64 18446744073709551615, .int .i64 0, .int .i64 (-2048), .int .i64 0, .int .i64 0, .int .u64 0, .int .i64 0, .int .i64 257, .int .i64 0, .int .i64 0, .int .u64 0, .int .i64 5, .int .i64 0, .int .i64 0, .int .i64 0, .int .u64 0, .int .i64 1, .int .i64 1791, .int .i64 0, .int .i64 0, .int .u64 0, .int .i64 1, .int .i64 1, .int .i64 0, .int .i64 0, .int .u64 0] : Array Value) = (calls19.flatMap doCells).toArray := by rfl

theorem calls_wf : ∀ m ∈ calls19, (Lit.int .i64 m.1).wf = true ∧ (Lit.int .i64 m.2.1).wf = true ∧ (Lit.int .i64 m.2.2.1).wf = true ∧ (Lit.int .i64 m.2.2.2.1).wf = true ∧ (Lit.int .u64 m.2.2.2.2).wf = true := by decide +kernel

theorem calls_ok (w : World) : SlOk sh38 (w.alloc (.cells #[.int .i64 0, .int .i64 0, .int .i64 0, .int .i64 0, .int .u64 0, .int .i64 0, .int .i64 1, .int .i64 0, .int .i64 0, .int .u64 0, .int .i64 0, .int .i64 (-2049), .int .i64 0, .int .i64 0, .int .u64 0, .int .i64 0, .int .i64 9223372036854775807, .int .i64 0, .int .i64 0, .int .u64 0, .int .i64 0, .int .i64 (-9223372036854775808), .int .i64 0, .int .i64 0, .int .u64 0, .int .i64 1, .int .i64 9223372036854775807, .int .i64 0, .int .i64 0, .int .u64 0, .int .i64 1, .int .i64 (-9223372036854775808), .int .i64 0, .int .i64 0, .int .u64 0, .int .i64 2, .int .i64 0, .int .i64 2047, .int .i64 1, .int .u64 0, .int .i64 2, .int .i64 0, .int .i64 2041, .int .i64 8, .int .u64 0, .int .i64 2, .int .i64 0, .int .i64 2040, .int .i64 8, .int .u64 0, .int .i64 2, .int .i64 0, .int .i64 9223372036854775807, .int .i64 8, .int .u64 0, .int .i64 2, .int .i64 0, .int .i64 (-9223372036854775808), .int .i64 1, .int .u64 0, .int .i64 3, .int .i64 0, .int .i64 0, .int .i64 9, .int .u64 0, .int .i64 3, .int .i64 0, .int .i64 2040, .int .i64 8, .int .u64 18446744073709551615, .int .i64 0, .int .i64 (-2048), .int .i64 0, .int .i64 0, .int .u64 0, .int .i64 0, .int .i64 257, .int .i64 0, .int .i64 0, .int .u64 0, .int .i64 5, .int .i64 0, .int .i64 0, .int .i64 0, .int .u64 0, .int .i64 1, .int .i64 1791, .int .i64 0, .int .i64 0, .int .u64 0, .int .i64 1, .int .i64 1, .int .i64 0, .int .i64 0, .int .u64 0] 38)) (some ⟨w.heap.size, 0, none⟩) 19 calls19 := by
  refine ⟨⟨(fun h => by cases h), by decide, by decide⟩, .inr ⟨w.heap.size, 0, rfl, ?_⟩, ?_⟩
  · intro i m hm j v hj
    rw [World.cell?_alloc_new, lit19]
    have hj' : (doCells m)[j]? = some v := hj
    have hj5 : j < 5 := (List.getElem?_eq_some_iff.1 hj').1
    have := flat5 calls19 i m j hm hj5
    rw [hj'] at this
    rw [show (0 : Nat) + i * sh38.n + j = i * 5 + j from by show 0 + i * 5 + j = _; omega]
    simpa using this
  · intro m hm
    exact calls_wf m hm

theorem nopk_below {w w' : World} {v : Value} (h : NoPk w v) (b : Below w.heap.size w w') : NoPk w' v := by
  rcases h with h | ⟨p, h, hc⟩
  · exact .inl h
  · exact .inr ⟨p, h, (b.cell (p := ⟨p, 0, none⟩) (lt_of_cell hc)).trans hc⟩

theorem plays_at (a0 : Option Addr) (n c0 : Nat) (zs : List Int) (x y : Int) (a1 : Option Addr) (ln c1 : Nat) (xs : List DoM) (W : World) (hn : zs.length = n) (hln : xs.length = ln) (h0 : Bs W a0 zs) (n0 : a0 = none → c0 = 0) (o1 : SlOk sh38 W a1 c1 xs) (l1 : ln ≤ 140737488351232) (hbig : n ≤ 140737488351232) :
    Calls Try.prog 3 #[.slice a0 n c0, .agg #[.int .i64 x, .int .i64 y], .slice a1 ln c1] W fun e w' => e = .returned (.bool true) ∧ Below W.heap.size W w' := by
  subst hn; subst hln
  exact plays_any a0 c0 zs x y a1 c1 xs W h0 n0 o1 l1 hbig

theorem sl_nil (w : World) : SlOk sh38 w none 0 [] :=
  ⟨⟨fun _ => rfl, by decide, by decide⟩, .inl rfl, fun m hm => by cases hm⟩

theorem SlOk.below {w w' : World} {a : Option Addr} {c : Nat} {xs : List DoM} (h : SlOk sh38 w a c xs) (b : Below w.heap.size w w') : SlOk sh38 w' a c xs := by
  obtain ⟨h1, h2, h3⟩ := h
  refine ⟨h1, ?_, h3⟩
  rcases h2 with h | ⟨bl, off, e, hc⟩
  · exact .inl h
  · refine .inr ⟨bl, off, e, fun i x hx j v hv => ?_⟩
    have := hc i x hx j v hv
    exact (b.cell (lt_of_cell this)).trans this

theorem names_start (C : Array Value) (hC : ((List.replicate 2049 (0 : Int)).map (Value.int .u8)).toArray = C) (wr W : World) (hb : Below W.heap.size W wr) :
    Hid (Bs ((wr.alloc (.cells C 5)).alloc (.cells #[.int .i64 0, .int .i64 0, .int .i64 0, .int .i64 0, .int .u64 0, .int .i64 0, .int .i64 1, .int .i64 0, .int .i64 0, .int .u64 0, .int .i64 0, .int .i64 (-2049), .int .i64 0, .int .i64 0, .int .u64 0, .int .i64 0, .int .i64 9223372036854775807, .int .i64 0, .int .i64 0, .int .u64 0, .int .i64 0, .int .i64 (-9223372036854775808), .int .i64 0, .int .i64 0, .int .u64 0, .int .i64 1, .int .i64 9223372036854775807, .int .i64 0, .int .i64 0, .int .u64 0, .int .i64 1, .int .i64 (-9223372036854775808), .int .i64 0, .int .i64 0, .int .u64 0, .int .i64 2, .int .i64 0, .int .i64 2047, .int .i64 1, .int .u64 0, .int .i64 2, .int .i64 0, .int .i64 2041, .int .i64 8, .int .u64 0, .int .i64 2, .int .i64 0, .int .i64 2040, .int .i64 8, .int .u64 0, .int .i64 2, .int .i64 0, .int .i64 9223372036854775807, .int .i64 8, .int .u64 0, .int .i64 2, .int .i64 0, .int .i64 (-9223372036854775808), .int .i64 1, .int .u64 0, .int .i64 3, .int .i64 0, .int .i64 0, .int .i64 9, .int .u64 0, .int .i64 3, .int .i64 0, .int .i64 2040, .int .i64 8, .int .u64 18446744073709551615, .int .i64 0, .int .i64 (-2048), .int .i64 0, .int .i64 0, .int .u64 0, .int .i64 0, .int .i64 257, .int .i64 0, .int .i64 0, .int .u64 0, .int .i64 5, .int .i64 0, .int .i64 0, .int .i64 0, .int .u64 0, .int .i64 1, .int .i64 1791, .int .i64 0, .int .i64 0, .int .u64 0, .int .i64 1, .int .i64 1, .int .i64 0, .int .i64 0, .int .u64 0] 38)) (some ⟨wr.heap.size, 0, none⟩) (List.replicate 2049 0)) ∧
    Hid (SlOk sh38 ((wr.alloc (.cells C 5)).alloc (.cells #[.int .i64 0, .int .i64 0, .int .i64 0, .int .i64 0, .int .u64 0, .int .i64 0, .int .i64 1, .int .i64 0, .int .i64 0, .int .u64 0, .int .i64 0, .int .i64 (-2049), .int .i64 0, .int .i64 0, .int .u64 0, .int .i64 0, .int .i64 9223372036854775807, .int .i64 0, .int .i64 0, .int .u64 0, .int .i64 0, .int .i64 (-9223372036854775808), .int .i64 0, .int .i64 0, .int .u64 0, .int .i64 1, .int .i64 9223372036854775807, .int .i64 0, .int .i64 0, .int .u64 0, .int .i64 1, .int .i64 (-9223372036854775808), .int .i64 0, .int .i64 0, .int .u64 0, .int .i64 2, .int .i64 0, .int .i64 2047, .int .i64 1, .int .u64 0, .int .i64 2, .int .i64 0, .int .i64 2041, .int .i64 8, .int .u64 0, .int .i64 2, .int .i64 0, .int .i64 2040, .int .i64 8, .int .u64 0, .int .i64 2, .int .i64 0, .int .i64 9223372036854775807, .int .i64 8, .int .u64 0, .int .i64 2, .int .i64 0, .int .i64 (-9223372036854775808), .int .i64 1, .int .u64 0, .int .i64 3, .int .i64 0, .int .i64 0, .int .i64 9, .int .u64 0, .int .i64 3, .int .i64 0, .int .i64 2040, .int .i64 8, .int .u64 18446744073709551615, .int .i64 0, .int .i64 (-2048), .int .i64 0, .int .i64 0, .int .u64 0, .int .i64 0, .int .i64 257, .int .i64 0, .int .i64 0, .int .u64 0, .int .i64 5, .int .i64 0, .int .i64 0, .int .i64 0, .int .u64 0, .int .i64 1, .int .i64 1791, .int .i64 0, .int .i64 0, .int .u64 0, .int .i64 1, .int .i64 1, .int .i64 0, .int .i64 0, .int .u64 0] 38)) (some ⟨wr.heap.size + 1, 0, none⟩) 19 calls19) ∧
    Hid (Below W.heap.size W ((wr.alloc (.cells C 5)).alloc (.cells #[.int .i64 0, .int .i64 0, .int .i64 0, .int .i64 0, .int .u64 0, .int .i64 0, .int .i64 1, .int .i64 0, .int .i64 0, .int .u64 0, .int .i64 0, .int .i64 (-2049), .int .i64 0, .int .i64 0, .int .u64 0, .int .i64 0, .int .i64 9223372036854775807, .int .i64 0, .int .i64 0, .int .u64 0, .int .i64 0, .int .i64 (-9223372036854775808), .int .i64 0, .int .i64 0, .int .u64 0, .int .i64 1, .int .i64 9223372036854775807, .int .i64 0, .int .i64 0, .int .u64 0, .int .i64 1, .int .i64 (-9223372036854775808), .int .i64 0, .int .i64 0, .int .u64 0, .int .i64 2, .int .i64 0, .int .i64 2047, .int .i64 1, .int .u64 0, .int .i64 2, .int .i64 0, .int .i64 2041, .int .i64 8, .int .u64 0, .int .i64 2, .int .i64 0, .int .i64 2040, .int .i64 8, .int .u64 0, .int .i64 2, .int .i64 0, .int .i64 9223372036854775807, .int .i64 8, .int .u64 0, .int .i64 2, .int .i64 0, .int .i64 (-9223372036854775808), .int .i64 1, .int .u64 0, .int .i64 3, .int .i64 0, .int .i64 0, .int .i64 9, .int .u64 0, .int .i64 3, .int .i64 0, .int .i64 2040, .int .i64 8, .int .u64 18446744073709551615, .int .i64 0, .int .i64 (-2048), .int .i64 0, .int .i64 0, .int .u64 0, .int .i64 0, .int .i64 257, .int .i64 0, .int .i64 0, .int .u64 0, .int .i64 5, .int .i64 0, .int .i64 0, .int .i64 0, .int .u64 0, .int .i64 1, .int .i64 1791, .int .i64 0, .int .i64 0, .int .u64 0, .int .i64 1, .int .i64 1, .int .i64 0, .int .i64 0, .int .u64 0] 38))) ∧ True := by
  have hb1 := hb.alloc hb.size (.cells C 5)
  refine ⟨?_, ?_, hb1.alloc hb1.size _, trivial⟩
  · subst hC
    exact (bs_new wr (List.replicate 2049 0) 5 (Bytes.zeros _) (by rw [List.length_replicate]; omega)).below ((Below.refl _ _).alloc (Nat.le_refl _) _)
  · have e : wr.heap.size + 1 = (wr.alloc (.cells C 5)).heap.size := by simp
    rw [e]
    exact calls_ok _

set_option maxHeartbeats 4000000 in
set_option maxRecDepth 100000 in
theorem walkPacketNames (W : World) :
    Calls Try.prog 6 #[] W fun e w' => e = .returned (.bool true) ∧ Below W.heap.size W w' := by
  obtain ⟨C, HC⟩ : ∃ C, Hid (((List.replicate 2049 (0 : Int)).map (Value.int .u8)).toArray = C) := ⟨_, rfl⟩
  have hmk : ∀ u : World, (Instr.makeSlice 22 (.int .i64 2049) (.int .i64 2049)).run Try.prog u = .ok (.slice (some ⟨u.heap.size, 0, none⟩) 2049 2049) (u.alloc (.cells C 5)) := by
    have h := make_bytes 2049 (by omega)
    rw [HC.out] at h
    exact h
  go_enter Try.func6, Try.ntmps6
  go_wp2_with fail
  go_loopg [1, 2] 2 (fun g s1 s2 wr => ∃ k : Nat, s2 = .int .i64 k ∧ k ≤ 2 ∧ 2 - k ≤ g ∧ Hid (NoPk wr s1) ∧ Hid (Below W.heap.size W wr))
  case atStart => exact ⟨0, rfl, by omega, by omega, .inl rfl, Below.refl _ _⟩
  case round =>
    obtain ⟨k, rfl, hk1, hk2, hN, hb⟩ := hrel
    by_cases hlt : k < 2
    · have hsp : (k : Int) < 2 := by omega
      go_wp2_with fail
      refine (load_nil u1 0 9 wr hN.out).mono ?_
      rintro e w1 ⟨rfl, rfl⟩
      go_wp2_with fail
      refine (room_no u1 wr hN.out).mono ?_
      rintro e w1 ⟨rfl, rfl⟩
      go_wp2_with fail
      refine (len_no u1 wr hN.out).mono ?_
      rintro e w1 ⟨rfl, rfl⟩
      go_wp2_with fail
      refine (moves_no u1 wr hN.out).mono ?_
      rintro e w1 ⟨rfl, rfl⟩
      go_wp2_with fail
      refine (bytes_no u1 wr hN.out).mono ?_
      rintro e w1 ⟨rfl, rfl⟩
      go_wp2_with fail
      refine (data_no u1 wr hN.out).mono ?_
      rintro e w1 ⟨rfl, rfl⟩
      go_wp2_with fail
      refine (head_no u1 0 wr hN.out).mono ?_
      rintro e w1 ⟨rfl, rfl⟩
      go_wp2_with fail
      refine (tail_no u1 0 wr hN.out).mono ?_
      rintro e w1 ⟨rfl, rfl⟩
      go_wp2_with fail
      refine (store_nil u1 0 9 0 wr hN.out).mono ?_
      rintro e w1 ⟨rfl, rfl⟩
      go_wp2_with fail
      go_roundg (2 - (k + 1))
      case measure => omega
      case rel => exact ⟨k + 1, by go_num, by omega, by omega, .inr ⟨_, rfl, by simp⟩, hb.out.alloc hb.out.size _⟩
    · have HST := names_start C HC.out wr W hb.out
      go_wp2_with fail
      refine (awake_any _).mono ?_
      rintro e w1 ⟨rfl, b1⟩
      have M1 := Hid.mk' (HST.1.out.below b1)
      have S1 := Hid.mk' (SlOk.below HST.2.1.out b1)
      have B1 : Hid (Below W.heap.size W w1) := HST.2.2.1.out.trans (b1.mono HST.2.2.1.out.size)
      clear b1 HST
      generalize wr.heap.size = gm at *
      go_wp2_with fail
      refine (plays_at (some ⟨gm, 0, none⟩) 2049 2049 (List.replicate 2049 0) 0 0 none 0 0 [] w1 (by rw [List.length_replicate]) rfl M1.out (by simp) (sl_nil _) (by omega) (by omega)).mono ?_
      rintro e w2 ⟨rfl, b2⟩
      have M2 := Hid.mk' (M1.out.below b2)
      have S2 := Hid.mk' (SlOk.below S1.out b2)
      have B2 : Hid (Below W.heap.size W w2) := B1.out.trans (b2.mono B1.out.size)
      clear b2 B1 M1 S1
      go_wp2_with fail
      refine (plays_at (some ⟨gm, 0, none⟩) 2048 2049 ((List.replicate 2049 0).take 2048) 256 0 (some ⟨gm + 1, 0, none⟩) 19 19 calls19 w2 (by rw [List.length_take, List.length_replicate]; rfl) rfl (M2.out.take 2048 (by rw [List.length_replicate]; omega)) (by simp) S2.out (by omega) (by omega)).mono ?_
      rintro e w3 ⟨rfl, b3⟩
      have M3 := Hid.mk' (M2.out.below b3)
      have S3 := Hid.mk' (SlOk.below S2.out b3)
      have B3 : Hid (Below W.heap.size W w3) := B2.out.trans (b3.mono B2.out.size)
      clear b3 B2 M2 S2
      go_wp2_with fail
      refine (plays_at none 0 0 [] 257 0 none 0 0 [] w3 rfl rfl (bs_nil _ _) (fun _ => rfl) (sl_nil _) (by omega) (by omega)).mono ?_
      rintro e w4 ⟨rfl, b4⟩
      have M4 := Hid.mk' (M3.out.below b4)
      have S4 := Hid.mk' (SlOk.below S3.out b4)
      have B4 : Hid (Below W.heap.size W w4) := B3.out.trans (b4.mono B3.out.size)
      clear b4 B3 M3 S3
      go_wp2_with fail
      refine (plays_at none 0 0 [] 0 (-1) none 0 0 [] w4 rfl rfl (bs_nil _ _) (fun _ => rfl) (sl_nil _) (by omega) (by omega)).mono ?_
      rintro e w5 ⟨rfl, b5⟩
      have M5 := Hid.mk' (M4.out.below b5)
      have S5 := Hid.mk' (SlOk.below S4.out b5)
      have B5 : Hid (Below W.heap.size W w5) := B4.out.trans (b5.mono B4.out.size)
      clear b5 B4 M4 S4
      go_wp2_with fail
      refine (plays_at none 0 0 [] 0 256 (some ⟨gm + 1, 0, none⟩) 19 19 calls19 w5 rfl rfl (bs_nil _ _) (fun _ => rfl) S5.out (by omega) (by omega)).mono ?_
      rintro e w6 ⟨rfl, b6⟩
      have B6 : Hid (Below W.heap.size W w6) := B5.out.trans (b6.mono B5.out.size)
      clear b6 B5 M5 S5
      go_wp2_with fail
      go_ret
      exact ⟨rfl, B6.out⟩
end Go.Proofs.Ytllhamcolinedaa
