/- The contracts of lay and New. -/
import Derived.Test.YtbinedhgjmfceaaPb
import Derived.Lib.SlBuf
import Derived.Laws.IdiomCopy
import Derived.Laws.MakeOwn
import Derived.Laws.OwnMore
namespace Go.Proofs.Ytbinedhgjmfceaa
open Go.ChangeShapes Go.WideShapes Go.ChangeAt Go.RowKit

/-- make of n bytes. -/
theorem make_bytes (n : Nat) (hn : n ≤ 140737488355328) : ∀ u : World, (Instr.makeSlice 22 (.int .i64 n) (.int .i64 n)).run Try.prog u =
    .ok (.slice (some ⟨u.heap.size, 0, none⟩) n n) (u.alloc (.cells ((List.replicate n (0 : Int)).map (Value.int .u8)).toArray 5)) := by
  intro u
  obtain ⟨i0, hi, hz0, hz1, hz2⟩ := info_parts info_u8
  have h := run_make (P := Try.prog) u 22 5 i0 (.int .u8 0) Try.underlying22 hi hz0 .i64 .i64 n n (by omega) (Int.le_refl _) (by rw [hz2]; omega) (by omega)
  have e : madeCells #[.int .u8 0] n = ((List.replicate n (0 : Int)).map (Value.int .u8)).toArray := by
    apply Array.toList_inj.1
    rw [toList_madeCells_one, List.map_replicate]
  simpa [hz1, Value.cells, e] using h

/-- copy of bytes to a place of a row. -/
theorem copy_in (g o d c : Nat) (a : Option Addr) (zs : List Int) (w : World) (cur : Array Value) (hg : w.heap[g]? = some (.cells cur 5 (0, 0))) (hB : Bs w a zs) (hd : 0 < zs.length → d = o) (hf : o + zs.length ≤ cur.size) :
    ∀ ty, (Builtin.copy_ #[22, 22] ty #[.slice (some ⟨g, d, none⟩) zs.length zs.length, .slice a zs.length c]).run Try.prog w = .ok (goInt zs.length) (w.setCells g o (zs.map (Value.int .u8))) := by
  intro ty
  obtain ⟨i0, hi, hz0, hz1, hz2⟩ := info_parts info_u8
  have hs : (Try.prog.info? 5).map (·.size) = some 1 := by rw [hi]; simp [hz1]
  by_cases h0 : zs.length = 0
  · obtain rfl := List.eq_nil_of_length_eq_zero h0
    exact run_copy_none (P := Try.prog) w 22 22 ty 5 _ _ 0 0 0 c Try.underlying22 hs rfl
  · obtain rfl := hd (by omega)
    rcases hB.lies with h | ⟨b, off, rfl, hc⟩
    · exact absurd h h0
    · have := run_copy_cells (P := Try.prog) w 22 22 ty 5 g d zs.length zs.length ⟨b, off, none⟩ zs.length c (zs.map (Value.int .u8)) Try.underlying22 hs (by rw [List.length_map]; exact (Nat.min_self _).symm)
        (fun j v hj => by
          have hlt : j < zs.length := by have := (List.getElem?_eq_some_iff.1 hj).1; simpa using this
          rw [addr_add, hc j hlt]
          simp [hlt] at hj
          simp [hlt, hj])
        (fun j hj => by
          rw [List.length_map] at hj
          rw [cell_of_row w g (d + j) _ _ _ hg, Array.getElem?_eq_getElem (by omega)]; rfl)
        (fun j _ => frozen_of_row w g _ _ _ hg) (fun v hv => by simp at hv; obtain ⟨z, _, rfl⟩ := hv; rfl)
      rw [List.length_map] at this
      exact this

theorem lay_row (hd tl : Nat) (zs : List Int) (C : Array Value) (h : ((List.replicate (hd + zs.length + tl) (0 : Int)).map (Value.int .u8)).toArray = C) :
    (C.toList.take hd ++ zs.map (Value.int .u8) ++ C.toList.drop (hd + (zs.map (Value.int .u8)).length)).toArray = ((List.replicate hd (0 : Int) ++ (zs ++ List.replicate tl 0)).map (Value.int .u8)).toArray := by
  subst h
  congr 1
  simp only [List.map_append, List.map_replicate, List.take_replicate, List.drop_replicate, List.length_map, List.append_assoc]
  rw [show min hd (hd + zs.length + tl) = hd by omega, show hd + zs.length + tl - (hd + zs.length) = tl by omega]

set_option maxHeartbeats 1000000 in
theorem lay_any (p hd tl : Nat) (a : Option Addr) (c : Nat) (zs : List Int) (w : World) (b0 b1 b2 : Value) (m : Nat) (hbox : w.heap[p]? = some (.cells #[b0, b1, b2, .int .i64 m] 81 (0, 0))) (hB : Bs w a zs) (hp : ∀ x, a = some x → x.block ≠ p ∨ zs.length = 0)
    (h1 : hd + zs.length + tl ≤ 2560) (h2 : zs.length ≤ 2048) (hm : m ≤ 100000) :
    Calls Try.prog 63 #[.pointer (some ⟨p, 0, none⟩), .int .i64 hd, .slice a zs.length c, .int .i64 tl] w fun e w' => e = .returned (.tuple #[]) ∧ PkIs w' p w.heap.size (List.replicate hd 0) zs (List.replicate tl 0) m ∧ Kept (fun k => k = p) w w' := by
  have hlt : p < w.heap.size := (Array.getElem?_eq_some_iff.1 hbox).1
  have c0 : w.cell? ⟨p, 0, none⟩ = some b0 := cell_of_row w p 0 _ _ _ hbox
  have c1 : w.cell? ⟨p, 1, none⟩ = some b1 := cell_of_row w p 1 _ _ _ hbox
  have c2 : w.cell? ⟨p, 2, none⟩ = some b2 := cell_of_row w p 2 _ _ _ hbox
  have f0 : w.frozen? ⟨p, 0, none⟩ = false := frozen_of_row w p 0 _ _ hbox
  have f1 : w.frozen? ⟨p, 1, none⟩ = false := frozen_of_row w p 1 _ _ hbox
  have f2 : w.frozen? ⟨p, 2, none⟩ = false := frozen_of_row w p 2 _ _ hbox
  have HBX := Hid.mk' hbox
  have HB := Hid.mk' hB
  have HP := Hid.mk' hp
  clear hbox hB hp
  obtain ⟨n, hn⟩ : ∃ n, n = zs.length := ⟨_, rfl⟩
  rw [← hn] at h1 h2 ⊢
  have HN := Hid.mk' hn.symm
  clear hn
  have hmk := make_bytes (hd + n + tl) (by omega)
  obtain ⟨C, HC⟩ : ∃ C, Hid (((List.replicate (hd + n + tl) (0 : Int)).map (Value.int .u8)).toArray = C) := ⟨_, rfl⟩
  rw [HC.out] at hmk
  rw [show ((hd + n + tl : Nat) : Int) = (hd : Int) + n + tl by omega] at hmk
  go_enter Try.func63, Try.ntmps63
  go_wp2_with fail
  obtain ⟨W2, hW2⟩ : ∃ W2, W2 = ((w.setCell ⟨p, 0, none⟩ (.slice (some ⟨w.heap.size, 0, none⟩) (hd + n + tl) (hd + n + tl))).setCell ⟨p, 1, none⟩ (.int .i64 hd)).setCell ⟨p, 2, none⟩ (.int .i64 ((hd : Int) + n)) := ⟨_, rfl⟩
  rw [← hW2]
  have hs2 : W2.heap.size = w.heap.size := by rw [hW2]; simp [World.setCell]
  have k2 : Kept (fun k => k = p) w W2 := by
    rw [hW2]
    exact (((Kept.refl (fun k => k = p) w).setCell (p := ⟨p, 0, none⟩) (fun _ => rfl) _).setCell (p := ⟨p, 1, none⟩) (fun _ => rfl) _).setCell (p := ⟨p, 2, none⟩) (fun _ => rfl) _
  have r2 : W2.heap[p]? = some (.cells #[.slice (some ⟨w.heap.size, 0, none⟩) (hd + n + tl) (hd + n + tl), .int .i64 hd, .int .i64 ((hd + n : Nat) : Int), .int .i64 m] 81 (0, 0)) := by
    rw [hW2, Go.heap_setCell_same _ p 2 _ _ _ (Go.heap_setCell_same _ p 1 _ _ _ (Go.heap_setCell_same _ p 0 _ _ _ HBX.out))]
    simp
  obtain ⟨W3, hW3⟩ : ∃ W3, W3 = W2.alloc (.cells C 5) := ⟨_, rfl⟩
  rw [← hW3]
  have k3 : Kept (fun k => k = p) w W3 := by rw [hW3]; exact k2.alloc _
  have r3 : Raw W3 p w.heap.size (hd + n + tl) hd (hd + n) m := by
    refine ⟨?_, by omega, by omega, by omega⟩
    rw [hW3, Below.heap_alloc _ _ _ (by rw [hs2]; exact hlt)]
    exact r2
  have g3 : W3.heap[w.heap.size]? = some (.cells C 5 (0, 0)) := by
    rw [hW3, ← hs2]
    exact Go.heap_alloc_new _ _
  clear hW2 hs2 k2 r2
  have B3 : Bs W3 a zs := by
    by_cases h0 : zs.length = 0
    · exact ⟨HB.out.len, HB.out.bytes, .inl h0⟩
    · exact Kept.bs HB.out k3 (fun x hx => (HP.out x hx).resolve_right h0)
  have K3 := Hid.mk' k3
  have R3 := Hid.mk' r3
  have G3 := Hid.mk' g3
  have BS3 := Hid.mk' B3
  clear hW3 k3 r3 g3 B3 hmk c0 c1 c2 f0 f1 f2
  refine (data_raw p _ _ _ _ m W3 R3.out).mono ?_
  rintro x w4 ⟨rfl, d4⟩
  rw [show hd + n - hd = n by omega]
  have hcs : C.size = hd + n + tl := by rw [← HC.out]; simp
  have G4 : w4.heap[w.heap.size]? = some (.cells C 5 (0, 0)) := by rw [d4.heap]; exact G3.out
  have hcp := copy_in w.heap.size hd (dOff hd (hd + n)) c a zs w4 C G4 (d4.bs BS3.out) (fun h => by unfold dOff; rw [if_neg (by rw [HN.out] at h; omega)]) (by rw [HN.out]; omega)
  rw [HN.out] at hcp
  have HX : Hid (PkIs (w4.setCells w.heap.size hd (zs.map (Value.int .u8))) p w.heap.size (List.replicate hd 0) zs (List.replicate tl 0) m) := by
    have hne : p ≠ w.heap.size := by omega
    have hr4 := R3.out.dr d4
    refine ⟨⟨?_, by omega, by omega, by rw [List.length_replicate, List.length_replicate, HN.out]; omega⟩, ?_, hlt, Bytes.of3 (Bytes.zeros _) HB.out.bytes (Bytes.zeros _), by rw [HN.out]; exact h2, by rw [List.length_replicate, List.length_replicate, HN.out]; exact h1, hm⟩
    · rw [heap_setCells_other hne _ _ _ hr4.lt, List.length_replicate, List.length_replicate, HN.out]
      exact hr4.box
    · rw [heap_setCells _ _ _ _ _ _ G4 (by rw [List.length_map, HN.out]; omega)]
      rw [lay_row hd tl zs C (by rw [HN.out]; exact HC.out)]
  have HK : Hid (Kept (fun k => k = p) w (w4.setCells w.heap.size hd (zs.map (Value.int .u8)))) :=
    (K3.out.trans (Kept.of_below (d4.below _))).setCells _ _ _ (fun h => absurd h (Nat.lt_irrefl _))
  clear hcs G4 d4 K3 R3 G3 BS3 HBX HP HB
  generalize (zs.map (Value.int .u8)) = vs at *
  go_wp2_with (at_builtin; refine Lib.wpList_copy_run _ rfl _ _ 22 22 rfl _ _ rfl rfl (hcp _) ?_)
  go_end0
  exact ⟨rfl, HX.out, HK.out⟩

/-- Is n a room? -/
def isR (n : Int) : Bool := decide (0 ≤ n ∧ n ≤ 256)

set_option maxHeartbeats 400000 in
theorem isRoom_any (n : Int) (w : World) : Calls Try.prog 64 #[.int .i64 n] w fun e w' => e = .returned (.bool (isR n)) ∧ w = w' := by
  unfold isR
  by_cases h1 : 0 ≤ n
  · by_cases h2 : n ≤ 256
    · go_enter Try.func64, Try.ntmps64
      go_wp2_with fail
      go_ret
      exact ⟨ret_bool (by simp; omega), rfl⟩
    · go_enter Try.func64, Try.ntmps64
      go_wp2_with fail
      go_ret
      exact ⟨ret_bool (by simp; omega), rfl⟩
  · go_enter Try.func64, Try.ntmps64
    go_wp2_with fail
    go_ret
    exact ⟨ret_bool (by simp; omega), rfl⟩

set_option maxHeartbeats 400000 in
theorem new_long (a : Option Addr) (n c : Nat) (x y : Int) (w : World) (hl : n ≤ 140737488355328) (h : 2048 < n) :
    Calls Try.prog 59 #[.slice a n c, .int .i64 x, .int .i64 y] w fun e w' => e = .returned (.tuple #[.pointer none, .int .i64 5]) ∧ w = w' := by
  go_enter Try.func59, Try.ntmps59
  go_wp2_with fail
  go_ret2
  exact ⟨rfl, rfl⟩

set_option maxHeartbeats 400000 in
theorem new_bad (a : Option Addr) (n c : Nat) (x y : Int) (w : World) (h : n ≤ 2048) (hr : (isR x && isR y) = false) :
    Calls Try.prog 59 #[.slice a n c, .int .i64 x, .int .i64 y] w fun e w' => e = .returned (.tuple #[.pointer none, .int .i64 2]) ∧ w = w' := by
  cases hx : isR x with
  | false =>
    have hc := isRoom_any x w
    rw [hx] at hc
    go_enter Try.func59, Try.ntmps59
    go_wp2_with fail
    refine hc.mono ?_
    rintro e w1 ⟨rfl, rfl⟩
    go_wp2_with fail
    go_ret2
    exact ⟨rfl, rfl⟩
  | true =>
    rw [hx, Bool.true_and] at hr
    have hc := isRoom_any x w
    have hd := isRoom_any y w
    rw [hx] at hc
    rw [hr] at hd
    go_enter Try.func59, Try.ntmps59
    go_wp2_with fail
    refine hc.mono ?_
    rintro e w1 ⟨rfl, rfl⟩
    go_wp2_with fail
    refine hd.mono ?_
    rintro e w1 ⟨rfl, rfl⟩
    go_wp2_with fail
    go_ret2
    exact ⟨rfl, rfl⟩

set_option maxHeartbeats 400000 in
theorem new_ok (a : Option Addr) (c : Nat) (zs : List Int) (x y : Nat) (w : World) (hB : Bs w a zs) (h : zs.length ≤ 2048) (hx : x ≤ 256) (hy : y ≤ 256) (ha : ∀ b, a = some b → b.block < w.heap.size ∨ zs.length = 0) :
    Calls Try.prog 59 #[.slice a zs.length c, .int .i64 x, .int .i64 y] w fun e w' => e = .returned (.tuple #[.pointer (some ⟨w.heap.size, 0, none⟩), .int .i64 0]) ∧ PkIs w' w.heap.size (w.heap.size + 1) (List.replicate x 0) zs (List.replicate y 0) 0 ∧ Below w.heap.size w w' := by
  have hc := isRoom_any x w
  have hd := isRoom_any y w
  rw [show isR (x : Int) = true by simp [isR]; omega] at hc
  rw [show isR (y : Int) = true by simp [isR]; omega] at hd
  have b0 : Below w.heap.size w (w.alloc (.cells #[.slice none 0 0, .int .i64 0, .int .i64 0, .int .i64 0] 81)) := (Below.refl _ _).alloc (Nat.le_refl _) _
  have hbx : (w.alloc (.cells #[.slice none 0 0, .int .i64 0, .int .i64 0, .int .i64 0] 81)).heap[w.heap.size]? = some (.cells #[.slice none 0 0, .int .i64 0, .int .i64 0, .int .i64 ((0 : Nat) : Int)] 81 (0, 0)) := Go.heap_alloc_new w _
  obtain ⟨a', hBs, hsame, hne⟩ : ∃ a', Bs (w.alloc (.cells #[.slice none 0 0, .int .i64 0, .int .i64 0, .int .i64 0] 81)) a' zs ∧ a' = a ∧ ∀ b, a' = some b → b.block ≠ w.heap.size ∨ zs.length = 0 :=
    ⟨a, hB.below b0, rfl, fun b hb => (ha b hb).imp (fun h => by omega) id⟩
  subst hsame
  have hl := lay_any w.heap.size x y a' c zs _ _ _ _ 0 hbx hBs hne (by omega) h (by omega)
  have hsz : (w.alloc (.cells #[.slice none 0 0, .int .i64 0, .int .i64 0, .int .i64 0] 81)).heap.size = w.heap.size + 1 := by simp
  rw [hsz] at hl
  have HB0 := Hid.mk' b0
  clear b0 hbx hBs hne ha hB hsz
  obtain ⟨n, hn⟩ : ∃ n, n = zs.length := ⟨_, rfl⟩
  rw [← hn] at h hl ⊢
  clear hn
  go_enter Try.func59, Try.ntmps59
  go_wp2_with fail
  refine hc.mono ?_
  rintro e w1 ⟨rfl, rfl⟩
  go_wp2_with fail
  refine hd.mono ?_
  rintro e w1 ⟨rfl, rfl⟩
  go_wp2_with fail
  refine hl.mono ?_
  rintro e w2 ⟨rfl, hP, hK⟩
  have B2 : Below w.heap.size w w2 := HB0.out.trans (hK.below (by simp) (fun k hk => by omega))
  clear hK hl hc hd
  go_wp2_with fail
  go_ret2
  exact ⟨rfl, hP, B2⟩
end Go.Proofs.Ytbinedhgjmfceaa
