/- A header's bytes, of each kind in one form; headers put ahead of a payload, the last one first: mathematics, and the statements' own bytes. -/
import Derived.Test.YthdgfhllieknlaaJl
namespace Go.Proofs.Ythdgfhllieknlaa
open Go.ChangeShapes Go.WideShapes Go.ChangeAt Go.RowKit
set_option maxRecDepth 10000

/-- A link header's bytes, of its cells. -/
def lB (L : List Value) (n : Nat) : List Int := K05.byB n ((L.take 6).map K07.un) (((L.drop 6).take 6).map K07.un) (num L 12)
theorem lB_of {d s : List Int} {t : Int} (h : K05.Lk d s t) (n : Nat) : lB (K05.lkC d s t) n = K05.byB n d s t := by
  have hd := h.dl
  have hs := h.sl
  have ld : (d.map (Value.int .u8)).length = 6 := by rw [List.length_map, hd]
  have ls : (s.map (Value.int .u8)).length = 6 := by rw [List.length_map, hs]
  have e1 : (K05.lkC d s t).take 6 = d.map (Value.int .u8) := by unfold K05.lkC; exact List.take_left' ld
  have e2 : ((K05.lkC d s t).drop 6).take 6 = s.map (Value.int .u8) := by unfold K05.lkC; rw [List.drop_left' ld]; exact List.take_left' ls
  unfold lB
  rw [e1, e2, K07.map_un, K07.map_un, num_of (K05.lkC_cell h)]

def bE (k : Int) (L : List Value) (ys : List Int) : Int := if k = 1 then K05.byE ys.length else if k = 2 then K06.byE L ys else if k = 3 then K07.byE L ys else if k = 4 then K08.byE L ys else if k = 5 then K09.byE L ys else K10.byE L ys
def bB (k : Int) (L : List Value) (ys : List Int) : List Int := if k = 1 then lB L ys.length else if k = 2 then K06.byB L ys else if k = 3 then K07.byB L ys else if k = 4 then K08.byB L ys else if k = 5 then K09.byB L ys else K10.byB L ys
/-- Whether a header of a kind may be. -/
def kC (k : Int) (L : List Value) : Int := if k = 2 then K06.ckE L else if k = 4 then K08.ckE L else if k = 5 then K09.ckE L else 0

theorem bE_ok {k : Int} {L : List Value} {ys : List Int} (h : KHd k L) (hc : kC k L = 0) (hl : ys.length + sz k ≤ 2048) : bE k L ys = 0 := by
  rcases six h.1 h.2.1 with rfl | rfl | rfl | rfl | rfl | rfl
  · have hl : ys.length + 14 ≤ 2048 := hl
    show K05.byE ys.length = 0
    unfold K05.byE; rw [if_pos (by omega)]
  · have hl : ys.length + 4 ≤ 2048 := hl
    have hc : K06.ckE L = 0 := hc
    show K06.byE L ys = 0
    unfold K06.byE; rw [if_pos hc, if_pos (by omega)]
  · have hl : ys.length + 20 ≤ 2048 := hl
    show K07.byE L ys = 0
    unfold K07.byE; rw [if_pos (by omega)]
  · have hl : ys.length + 40 ≤ 2048 := hl
    have hc : K08.ckE L = 0 := hc
    show K08.byE L ys = 0
    unfold K08.byE; rw [if_pos hc, if_pos (by omega)]
  · have hl : ys.length + 20 ≤ 2048 := hl
    have hc : K09.ckE L = 0 := hc
    show K09.byE L ys = 0
    unfold K09.byE; rw [if_pos hc, if_pos (by omega)]
  · have hl : ys.length + 8 ≤ 2048 := hl
    show K10.byE L ys = 0
    unfold K10.byE; rw [if_pos (by omega)]

theorem bB_bytes {k : Int} {L : List Value} {ys : List Int} (h : KHd k L) (hy : Bytes ys) : Bytes (bB k L ys) := by
  rcases six h.1 h.2.1 with rfl | rfl | rfl | rfl | rfl | rfl
  · obtain ⟨d, s, t, rfl, hx⟩ := h.2.2.1 rfl
    show Bytes (lB _ _)
    rw [lB_of hx]; exact K05.byB_bytes _ hx
  · exact K06.byB_bytes (h.2.2.2.1 rfl) hy
  · exact K07.byB_bytes (h.2.2.2.2.1 rfl) hy
  · exact K08.byB_bytes (h.2.2.2.2.2.1 rfl) hy
  · exact K09.byB_bytes (h.2.2.2.2.2.2.1 rfl) hy
  · exact K10.byB_bytes (h.2.2.2.2.2.2.2 rfl) hy

theorem bB_le {k : Int} {L : List Value} {ys : List Int} (h : KHd k L) : (bB k L ys).length ≤ 40 := by
  rcases six h.1 h.2.1 with rfl | rfl | rfl | rfl | rfl | rfl
  · obtain ⟨d, s, t, rfl, hx⟩ := h.2.2.1 rfl
    show (lB _ _).length ≤ 40
    rw [lB_of hx]; exact Nat.le_trans (K05.byB_length _ hx) (by omega)
  · exact Nat.le_trans (K06.byB_le (h.2.2.2.1 rfl)) (by omega)
  · exact Nat.le_trans (K07.byB_le (h.2.2.2.2.1 rfl)) (by omega)
  · exact Nat.le_trans (K08.byB_le (h.2.2.2.2.2.1 rfl)) (by omega)
  · exact Nat.le_trans (K09.byB_le (h.2.2.2.2.2.2.1 rfl)) (by omega)
  · exact Nat.le_trans (K10.byB_le (h.2.2.2.2.2.2.2 rfl)) (by omega)

/-- What was put on is read again. -/
theorem b_back {k : Int} {L : List Value} {ys : List Int} (h : KHd k L) (hy : Bytes ys) (he : bE k L ys = 0) : (bB k L ys).length = sz k ∧ rL k (bB k L ys ++ ys) = L ∧ rE k (bB k L ys ++ ys) = 0 := by
  rcases six h.1 h.2.1 with rfl | rfl | rfl | rfl | rfl | rfl
  · obtain ⟨d, s, t, rfl, hx⟩ := h.2.2.1 rfl
    have he : K05.byE ys.length = 0 := he
    have hn : ys.length ≤ 2034 := by unfold K05.byE at he; split at he <;> omega
    have eb : bB 1 (K05.lkC d s t) ys = K05.lkB d s t := by
      show lB _ _ = _
      rw [lB_of hx]; unfold K05.byB; rw [if_pos hn]
    rw [eb]
    have hl := K05.lkB_length hx
    obtain ⟨r1, r2, r3⟩ := K05.rd_lkB hx ys
    refine ⟨hl, ?_, ?_⟩
    · show K05.rdL _ = _
      unfold K05.rdL; rw [if_pos (by rw [List.length_append, hl]; omega), r1, r2, r3]
    · show K05.rdE _ = _
      unfold K05.rdE; rw [if_pos (by rw [List.length_append, hl]; omega)]
  · obtain ⟨h1, h2, h3, -⟩ := K06.m_back (h.2.2.2.1 rfl) hy he
    exact ⟨h1, h2, h3⟩
  · obtain ⟨h1, h2, h3, -⟩ := K07.m_back (h.2.2.2.2.1 rfl) hy he
    exact ⟨h1, h2, h3⟩
  · obtain ⟨h1, h2, h3, -⟩ := K08.m_back (h.2.2.2.2.2.1 rfl) hy he
    exact ⟨h1, h2, h3⟩
  · obtain ⟨h1, h2, h3, -⟩ := K09.m_back (h.2.2.2.2.2.2.1 rfl) hy he
    exact ⟨h1, h2, h3⟩
  · obtain ⟨h1, h2, h3, -⟩ := K10.m_back (h.2.2.2.2.2.2.2 rfl) hy he
    exact ⟨h1, h2, h3⟩

/-- A header's place in its head. -/
theorem hk_part {w : World} {g : Nat} {t : TypeId} {fr : Nat × Nat} {A L B : List Value} (H : List Value) (h : w.heap[g]? = some (.cells H.toArray t fr)) (hH : H = A ++ (L ++ B)) (n : Nat) (hA : A.length = n) : w.rangeAt g n L := by
  intro j v hv
  have hlt := (List.getElem?_eq_some_iff.1 hv).1
  rw [cell_of_row w g (n + j) _ _ _ h, List.getElem?_toArray, hH, List.getElem?_append_right (by omega), hA, Nat.add_sub_cancel_left, List.getElem?_append_left hlt]
  exact hv

set_option maxHeartbeats 1000000 in
theorem bytes_1 (L : List Value) (a : Option Addr) (n c : Nat) (ys : List Int) (w : World) (h : KHd 1 L) (hy : ys.length = n) (hB : Bs w a ys) :
    Calls Try.prog 26 #[.agg (hk 1 L).toArray, .slice a n c] w fun e w' => ∃ v, e = .returned (.tuple #[v, .bool (bE 1 L ys == 0)]) ∧ w'.ownsRow w.heap.size 5 1 v (bB 1 L ys).length ((bB 1 L ys).map (Value.int .u8)) ∧ Below w.heap.size w w' := by
  have HC : Hid (∀ u, Below w.heap.size w u → Calls Try.prog 35 #[.agg L.toArray, .slice a n c] u fun e w' => ∃ v, e = .returned (.tuple #[v, .int .i64 (bE 1 L ys)]) ∧ w'.ownsRow u.heap.size 5 1 v (bB 1 L ys).length ((bB 1 L ys).map (Value.int .u8)) ∧ Below u.heap.size u w') := Hid.mk' (fun u _ => by rw [show bE 1 L ys = K05.byE ys.length from rfl, show bB 1 L ys = lB L ys.length from rfl]; obtain ⟨d, s, t, rfl, hx⟩ := h.2.2.1 rfl; subst hy; have := K05.lbytes_any d s t a ys.length c u hx hB.len; rw [← lB_of hx] at this; exact this)
  have hlc : Hid (L.length = 13) := Hid.mk' (lhd_len (h.2.2.1 rfl))
  have B1 : Hid (Below w.heap.size w (w.alloc (.cells (hk 1 L).toArray 48))) := Hid.mk' ((Below.refl _ _).alloc (Nat.le_refl _) _)
  have R1 : Hid ((w.alloc (.cells (hk 1 L).toArray 48)).rangeAt w.heap.size 1 L) := Hid.mk' (hk_part (A := (Value.int .u8 1 :: ([]))) (B := K06.hd0 ++ (K07.hd0 ++ (K08.hd0 ++ (K09.hd0 ++ (K10.hd0))))) _ (heap_alloc_new w _) rfl 1 rfl)
  have c0 : (hk 1 L)[0]? = some (.int .u8 1) := rfl
  have C0 : (hk 1 L).toArray[0]? = some (.int .u8 1) := rfl
  obtain ⟨H, HH⟩ : ∃ H, Hid (hk 1 L = H) := ⟨_, rfl⟩
  rw [HH.out] at B1 R1 c0 C0
  rw [HH.out]
  obtain ⟨E, HE⟩ : ∃ E, Hid (bE 1 L ys = E) := ⟨_, rfl⟩
  obtain ⟨BB, HBB⟩ : ∃ BB, Hid (bB 1 L ys = BB) := ⟨_, rfl⟩
  rw [HE.out, HBB.out] at HC
  rw [HE.out, HBB.out]
  clear h hy hB HH
  go_enter Try.func26, Try.ntmps26
  go_wp2_with (first
    | refine wpList_load_mid rfl 33 _ rfl w.heap.size 1 rfl L _ R1.out Try.underlying33 rfl (by rw [hlc.out]; exact K05.info_lk) ?_
    | (go_at_call 35; refine (HC.out _ B1.out).mono ?_; rintro e w2 ⟨v, rfl, own2, b2⟩; have O2 := Hid.mk' own2; have B2 := Hid.mk' b2; clear own2 b2))
  go_ret2
  refine ⟨v, rfl, ownsRow_base O2.out B1.out.size, B1.out.trans (B2.out.mono B1.out.size)⟩

set_option maxHeartbeats 1000000 in
theorem bytes_2 (L : List Value) (a : Option Addr) (n c : Nat) (ys : List Int) (w : World) (h : KHd 2 L) (hy : ys.length = n) (hB : Bs w a ys) :
    Calls Try.prog 26 #[.agg (hk 2 L).toArray, .slice a n c] w fun e w' => ∃ v, e = .returned (.tuple #[v, .bool (bE 2 L ys == 0)]) ∧ w'.ownsRow w.heap.size 5 1 v (bB 2 L ys).length ((bB 2 L ys).map (Value.int .u8)) ∧ Below w.heap.size w w' := by
  have HC : Hid (∀ u, Below w.heap.size w u → Calls Try.prog 36 #[.agg L.toArray, .slice a n c] u fun e w' => ∃ v, e = .returned (.tuple #[v, .int .i64 (bE 2 L ys)]) ∧ w'.ownsRow u.heap.size 5 1 v (bB 2 L ys).length ((bB 2 L ys).map (Value.int .u8)) ∧ Below u.heap.size u w') := Hid.mk' (fun u hu => by rw [show bE 2 L ys = K06.byE L ys from rfl, show bB 2 L ys = K06.byB L ys from rfl]; exact K06.h_bytes L a n c ys u (h.2.2.2.1 rfl) hy (hB.below hu))
  have hlc : Hid (L.length = 3) := Hid.mk' (K06.hd_len (h.2.2.2.1 rfl))
  have B1 : Hid (Below w.heap.size w (w.alloc (.cells (hk 2 L).toArray 48))) := Hid.mk' ((Below.refl _ _).alloc (Nat.le_refl _) _)
  have R1 : Hid ((w.alloc (.cells (hk 2 L).toArray 48)).rangeAt w.heap.size 14 L) := Hid.mk' (hk_part (A := (Value.int .u8 2 :: (K05.lk0))) (B := K07.hd0 ++ (K08.hd0 ++ (K09.hd0 ++ (K10.hd0)))) _ (heap_alloc_new w _) rfl 14 rfl)
  have c0 : (hk 2 L)[0]? = some (.int .u8 2) := rfl
  have C0 : (hk 2 L).toArray[0]? = some (.int .u8 2) := rfl
  obtain ⟨H, HH⟩ : ∃ H, Hid (hk 2 L = H) := ⟨_, rfl⟩
  rw [HH.out] at B1 R1 c0 C0
  rw [HH.out]
  obtain ⟨E, HE⟩ : ∃ E, Hid (bE 2 L ys = E) := ⟨_, rfl⟩
  obtain ⟨BB, HBB⟩ : ∃ BB, Hid (bB 2 L ys = BB) := ⟨_, rfl⟩
  rw [HE.out, HBB.out] at HC
  rw [HE.out, HBB.out]
  clear h hy hB HH
  go_enter Try.func26, Try.ntmps26
  go_wp2_with (first
    | refine wpList_load_mid rfl 35 _ rfl w.heap.size 14 rfl L _ R1.out Try.underlying35 rfl (by rw [hlc.out]; exact K06.info_hd) ?_
    | (go_at_call 36; refine (HC.out _ B1.out).mono ?_; rintro e w2 ⟨v, rfl, own2, b2⟩; have O2 := Hid.mk' own2; have B2 := Hid.mk' b2; clear own2 b2))
  go_ret2
  refine ⟨v, rfl, ownsRow_base O2.out B1.out.size, B1.out.trans (B2.out.mono B1.out.size)⟩

set_option maxHeartbeats 1000000 in
theorem bytes_3 (L : List Value) (a : Option Addr) (n c : Nat) (ys : List Int) (w : World) (h : KHd 3 L) (hy : ys.length = n) (hB : Bs w a ys) :
    Calls Try.prog 26 #[.agg (hk 3 L).toArray, .slice a n c] w fun e w' => ∃ v, e = .returned (.tuple #[v, .bool (bE 3 L ys == 0)]) ∧ w'.ownsRow w.heap.size 5 1 v (bB 3 L ys).length ((bB 3 L ys).map (Value.int .u8)) ∧ Below w.heap.size w w' := by
  have HC : Hid (∀ u, Below w.heap.size w u → Calls Try.prog 37 #[.agg L.toArray, .slice a n c] u fun e w' => ∃ v, e = .returned (.tuple #[v, .int .i64 (bE 3 L ys)]) ∧ w'.ownsRow u.heap.size 5 1 v (bB 3 L ys).length ((bB 3 L ys).map (Value.int .u8)) ∧ Below u.heap.size u w') := Hid.mk' (fun u hu => by rw [show bE 3 L ys = K07.byE L ys from rfl, show bB 3 L ys = K07.byB L ys from rfl]; exact K07.h_bytes L a n c ys u (h.2.2.2.2.1 rfl) hy (hB.below hu))
  have hlc : Hid (L.length = 12) := Hid.mk' (K07.hd_len (h.2.2.2.2.1 rfl))
  have B1 : Hid (Below w.heap.size w (w.alloc (.cells (hk 3 L).toArray 48))) := Hid.mk' ((Below.refl _ _).alloc (Nat.le_refl _) _)
  have R1 : Hid ((w.alloc (.cells (hk 3 L).toArray 48)).rangeAt w.heap.size 17 L) := Hid.mk' (hk_part (A := (Value.int .u8 3 :: (K05.lk0 ++ K06.hd0))) (B := K08.hd0 ++ (K09.hd0 ++ (K10.hd0))) _ (heap_alloc_new w _) rfl 17 rfl)
  have c0 : (hk 3 L)[0]? = some (.int .u8 3) := rfl
  have C0 : (hk 3 L).toArray[0]? = some (.int .u8 3) := rfl
  obtain ⟨H, HH⟩ : ∃ H, Hid (hk 3 L = H) := ⟨_, rfl⟩
  rw [HH.out] at B1 R1 c0 C0
  rw [HH.out]
  obtain ⟨E, HE⟩ : ∃ E, Hid (bE 3 L ys = E) := ⟨_, rfl⟩
  obtain ⟨BB, HBB⟩ : ∃ BB, Hid (bB 3 L ys = BB) := ⟨_, rfl⟩
  rw [HE.out, HBB.out] at HC
  rw [HE.out, HBB.out]
  clear h hy hB HH
  go_enter Try.func26, Try.ntmps26
  go_wp2_with (first
    | refine wpList_load_mid rfl 38 _ rfl w.heap.size 17 rfl L _ R1.out Try.underlying38 rfl (by rw [hlc.out]; exact K07.info_hd) ?_
    | (go_at_call 37; refine (HC.out _ B1.out).mono ?_; rintro e w2 ⟨v, rfl, own2, b2⟩; have O2 := Hid.mk' own2; have B2 := Hid.mk' b2; clear own2 b2))
  go_ret2
  refine ⟨v, rfl, ownsRow_base O2.out B1.out.size, B1.out.trans (B2.out.mono B1.out.size)⟩

set_option maxHeartbeats 1000000 in
theorem bytes_4 (L : List Value) (a : Option Addr) (n c : Nat) (ys : List Int) (w : World) (h : KHd 4 L) (hy : ys.length = n) (hB : Bs w a ys) :
    Calls Try.prog 26 #[.agg (hk 4 L).toArray, .slice a n c] w fun e w' => ∃ v, e = .returned (.tuple #[v, .bool (bE 4 L ys == 0)]) ∧ w'.ownsRow w.heap.size 5 1 v (bB 4 L ys).length ((bB 4 L ys).map (Value.int .u8)) ∧ Below w.heap.size w w' := by
  have HC : Hid (∀ u, Below w.heap.size w u → Calls Try.prog 38 #[.agg L.toArray, .slice a n c] u fun e w' => ∃ v, e = .returned (.tuple #[v, .int .i64 (bE 4 L ys)]) ∧ w'.ownsRow u.heap.size 5 1 v (bB 4 L ys).length ((bB 4 L ys).map (Value.int .u8)) ∧ Below u.heap.size u w') := Hid.mk' (fun u hu => by rw [show bE 4 L ys = K08.byE L ys from rfl, show bB 4 L ys = K08.byB L ys from rfl]; exact K08.h_bytes L a n c ys u (h.2.2.2.2.2.1 rfl) hy (hB.below hu))
  have hlc : Hid (L.length = 36) := Hid.mk' (K08.hd_len (h.2.2.2.2.2.1 rfl))
  have B1 : Hid (Below w.heap.size w (w.alloc (.cells (hk 4 L).toArray 48))) := Hid.mk' ((Below.refl _ _).alloc (Nat.le_refl _) _)
  have R1 : Hid ((w.alloc (.cells (hk 4 L).toArray 48)).rangeAt w.heap.size 29 L) := Hid.mk' (hk_part (A := (Value.int .u8 4 :: (K05.lk0 ++ K06.hd0 ++ K07.hd0))) (B := K09.hd0 ++ (K10.hd0)) _ (heap_alloc_new w _) rfl 29 rfl)
  have c0 : (hk 4 L)[0]? = some (.int .u8 4) := rfl
  have C0 : (hk 4 L).toArray[0]? = some (.int .u8 4) := rfl
  obtain ⟨H, HH⟩ : ∃ H, Hid (hk 4 L = H) := ⟨_, rfl⟩
  rw [HH.out] at B1 R1 c0 C0
  rw [HH.out]
  obtain ⟨E, HE⟩ : ∃ E, Hid (bE 4 L ys = E) := ⟨_, rfl⟩
  obtain ⟨BB, HBB⟩ : ∃ BB, Hid (bB 4 L ys = BB) := ⟨_, rfl⟩
  rw [HE.out, HBB.out] at HC
  rw [HE.out, HBB.out]
  clear h hy hB HH
  go_enter Try.func26, Try.ntmps26
  go_wp2_with (first
    | refine wpList_load_mid rfl 42 _ rfl w.heap.size 29 rfl L _ R1.out Try.underlying42 rfl (by rw [hlc.out]; exact K08.info_hd) ?_
    | (go_at_call 38; refine (HC.out _ B1.out).mono ?_; rintro e w2 ⟨v, rfl, own2, b2⟩; have O2 := Hid.mk' own2; have B2 := Hid.mk' b2; clear own2 b2))
  go_ret2
  refine ⟨v, rfl, ownsRow_base O2.out B1.out.size, B1.out.trans (B2.out.mono B1.out.size)⟩

set_option maxHeartbeats 1000000 in
theorem bytes_5 (L : List Value) (a : Option Addr) (n c : Nat) (ys : List Int) (w : World) (h : KHd 5 L) (hy : ys.length = n) (hB : Bs w a ys) :
    Calls Try.prog 26 #[.agg (hk 5 L).toArray, .slice a n c] w fun e w' => ∃ v, e = .returned (.tuple #[v, .bool (bE 5 L ys == 0)]) ∧ w'.ownsRow w.heap.size 5 1 v (bB 5 L ys).length ((bB 5 L ys).map (Value.int .u8)) ∧ Below w.heap.size w w' := by
  have HC : Hid (∀ u, Below w.heap.size w u → Calls Try.prog 39 #[.agg L.toArray, .slice a n c] u fun e w' => ∃ v, e = .returned (.tuple #[v, .int .i64 (bE 5 L ys)]) ∧ w'.ownsRow u.heap.size 5 1 v (bB 5 L ys).length ((bB 5 L ys).map (Value.int .u8)) ∧ Below u.heap.size u w') := Hid.mk' (fun u hu => by rw [show bE 5 L ys = K09.byE L ys from rfl, show bB 5 L ys = K09.byB L ys from rfl]; exact K09.h_bytes L a n c ys u (h.2.2.2.2.2.2.1 rfl) hy (hB.below hu))
  have hlc : Hid (L.length = 6) := Hid.mk' (K09.hd_len (h.2.2.2.2.2.2.1 rfl))
  have B1 : Hid (Below w.heap.size w (w.alloc (.cells (hk 5 L).toArray 48))) := Hid.mk' ((Below.refl _ _).alloc (Nat.le_refl _) _)
  have R1 : Hid ((w.alloc (.cells (hk 5 L).toArray 48)).rangeAt w.heap.size 65 L) := Hid.mk' (hk_part (A := (Value.int .u8 5 :: (K05.lk0 ++ K06.hd0 ++ K07.hd0 ++ K08.hd0))) (B := K10.hd0) _ (heap_alloc_new w _) rfl 65 rfl)
  have c0 : (hk 5 L)[0]? = some (.int .u8 5) := rfl
  have C0 : (hk 5 L).toArray[0]? = some (.int .u8 5) := rfl
  obtain ⟨H, HH⟩ : ∃ H, Hid (hk 5 L = H) := ⟨_, rfl⟩
  rw [HH.out] at B1 R1 c0 C0
  rw [HH.out]
  obtain ⟨E, HE⟩ : ∃ E, Hid (bE 5 L ys = E) := ⟨_, rfl⟩
  obtain ⟨BB, HBB⟩ : ∃ BB, Hid (bB 5 L ys = BB) := ⟨_, rfl⟩
  rw [HE.out, HBB.out] at HC
  rw [HE.out, HBB.out]
  clear h hy hB HH
  go_enter Try.func26, Try.ntmps26
  go_wp2_with (first
    | refine wpList_load_mid rfl 44 _ rfl w.heap.size 65 rfl L _ R1.out Try.underlying44 rfl (by rw [hlc.out]; exact K09.info_hd) ?_
    | (go_at_call 39; refine (HC.out _ B1.out).mono ?_; rintro e w2 ⟨v, rfl, own2, b2⟩; have O2 := Hid.mk' own2; have B2 := Hid.mk' b2; clear own2 b2))
  go_ret2
  refine ⟨v, rfl, ownsRow_base O2.out B1.out.size, B1.out.trans (B2.out.mono B1.out.size)⟩

set_option maxHeartbeats 1000000 in
theorem bytes_6 (L : List Value) (a : Option Addr) (n c : Nat) (ys : List Int) (w : World) (h : KHd 6 L) (hy : ys.length = n) (hB : Bs w a ys) :
    Calls Try.prog 26 #[.agg (hk 6 L).toArray, .slice a n c] w fun e w' => ∃ v, e = .returned (.tuple #[v, .bool (bE 6 L ys == 0)]) ∧ w'.ownsRow w.heap.size 5 1 v (bB 6 L ys).length ((bB 6 L ys).map (Value.int .u8)) ∧ Below w.heap.size w w' := by
  have HC : Hid (∀ u, Below w.heap.size w u → Calls Try.prog 40 #[.agg L.toArray, .slice a n c] u fun e w' => ∃ v, e = .returned (.tuple #[v, .int .i64 (bE 6 L ys)]) ∧ w'.ownsRow u.heap.size 5 1 v (bB 6 L ys).length ((bB 6 L ys).map (Value.int .u8)) ∧ Below u.heap.size u w') := Hid.mk' (fun u hu => by rw [show bE 6 L ys = K10.byE L ys from rfl, show bB 6 L ys = K10.byB L ys from rfl]; exact K10.h_bytes L a n c ys u (h.2.2.2.2.2.2.2 rfl) hy (hB.below hu))
  have hlc : Hid (L.length = 2) := Hid.mk' (K10.hd_len (h.2.2.2.2.2.2.2 rfl))
  have B1 : Hid (Below w.heap.size w (w.alloc (.cells (hk 6 L).toArray 48))) := Hid.mk' ((Below.refl _ _).alloc (Nat.le_refl _) _)
  have R1 : Hid ((w.alloc (.cells (hk 6 L).toArray 48)).rangeAt w.heap.size 71 L) := Hid.mk' (hk_part (A := (Value.int .u8 6 :: (K05.lk0 ++ K06.hd0 ++ K07.hd0 ++ K08.hd0 ++ K09.hd0))) (B := []) _ (heap_alloc_new w _) (by rw [List.append_nil]; rfl) 71 rfl)
  have c0 : (hk 6 L)[0]? = some (.int .u8 6) := rfl
  have C0 : (hk 6 L).toArray[0]? = some (.int .u8 6) := rfl
  obtain ⟨H, HH⟩ : ∃ H, Hid (hk 6 L = H) := ⟨_, rfl⟩
  rw [HH.out] at B1 R1 c0 C0
  rw [HH.out]
  obtain ⟨E, HE⟩ : ∃ E, Hid (bE 6 L ys = E) := ⟨_, rfl⟩
  obtain ⟨BB, HBB⟩ : ∃ BB, Hid (bB 6 L ys = BB) := ⟨_, rfl⟩
  rw [HE.out, HBB.out] at HC
  rw [HE.out, HBB.out]
  clear h hy hB HH
  go_enter Try.func26, Try.ntmps26
  go_wp2_with (first
    | refine wpList_load_mid rfl 46 _ rfl w.heap.size 71 rfl L _ R1.out Try.underlying46 rfl (by rw [hlc.out]; exact K10.info_hd) ?_
    | (go_at_call 40; refine (HC.out _ B1.out).mono ?_; rintro e w2 ⟨v, rfl, own2, b2⟩; have O2 := Hid.mk' own2; have B2 := Hid.mk' b2; clear own2 b2))
  go_ret2
  refine ⟨v, rfl, ownsRow_base O2.out B1.out.size, B1.out.trans (B2.out.mono B1.out.size)⟩

theorem bytes_any (k : Int) (L : List Value) (a : Option Addr) (n c : Nat) (ys : List Int) (w : World) (h : KHd k L) (hy : ys.length = n) (hB : Bs w a ys) :
    Calls Try.prog 26 #[.agg (hk k L).toArray, .slice a n c] w fun e w' => ∃ v, e = .returned (.tuple #[v, .bool (bE k L ys == 0)]) ∧ w'.ownsRow w.heap.size 5 1 v (bB k L ys).length ((bB k L ys).map (Value.int .u8)) ∧ Below w.heap.size w w' := by
  rcases six h.1 h.2.1 with rfl | rfl | rfl | rfl | rfl | rfl
  · exact bytes_1 L a n c ys w h hy hB
  · exact bytes_2 L a n c ys w h hy hB
  · exact bytes_3 L a n c ys w h hy hB
  · exact bytes_4 L a n c ys w h hy hB
  · exact bytes_5 L a n c ys w h hy hB
  · exact bytes_6 L a n c ys w h hy hB

/-- Headers put ahead of a payload, the last one first. -/
def wP : Hs → List Int → Option (List Int)
  | [], ys => some ys
  | x :: r, ys => match wP r ys with
    | some p => if bE x.1 x.2 p = 0 then some (bB x.1 x.2 p ++ p) else none
    | none => none

theorem wP_cons {x : Int × List Value} {r : Hs} {ys p : List Int} (h : wP (x :: r) ys = some p) : ∃ q, wP r ys = some q ∧ bE x.1 x.2 q = 0 ∧ p = bB x.1 x.2 q ++ q := by
  unfold wP at h
  split at h
  · rename_i q hq
    split at h
    · rename_i he
      cases h
      exact ⟨q, hq, he, rfl⟩
    · cases h
  · cases h
theorem wP_drop {out : Hs} {ys : List Int} : ∀ (m : Nat) {p : List Int}, wP out ys = some p → ∃ q, wP (out.drop m) ys = some q := by
  intro m
  induction m generalizing out with
  | zero => intro p h; exact ⟨p, by simpa using h⟩
  | succ m ih =>
    intro p h
    cases out with
    | nil => exact ⟨p, by simpa using h⟩
    | cons x r =>
      obtain ⟨q, hq, -, -⟩ := wP_cons h
      simpa using ih hq
end Go.Proofs.Ythdgfhllieknlaa
