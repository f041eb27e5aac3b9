/- tag's calls and the document's, each in one form for all inputs: the face that the laws' walks (Na to Nf) see. -/
import Derived.Test.YtbdfhhaoeekhhaaTc
import Derived.Test.YtbdfhhaoeekhhaaGc
import Derived.Test.YtbdfhhaoeekhhaaSp
namespace Go.Proofs.Ytbdfhhaoeekhhaa
open Go.ChangeShapes Go.WideShapes Go.ChangeAt Go.RowKit

theorem wf_u8 {z : Int} (h0 : 0 ≤ z) (h1 : z ≤ 255) : (Lit.int .u8 z).wf = true := by
  have e0 : IntKind.u8.min = 0 := by decide
  have e1 : IntKind.u8.max = 255 := by decide
  simp [Lit.wf, e0, e1]; omega
theorem wf_u16 {z : Int} (h0 : 0 ≤ z) (h1 : z ≤ 65535) : (Lit.int .u16 z).wf = true := by
  have e0 : IntKind.u16.min = 0 := by decide
  have e1 : IntKind.u16.max = 65535 := by decide
  simp [Lit.wf, e0, e1]; omega

theorem kl_tg {p i t : Int} (h : Tg p i t) : Try.prog.keyLits 3 24 (tgC p i t) = some ([([Value.int .u8 p], [Lit.int .u8 p]), ([Value.int .u16 i], [Lit.int .u16 i]), ([Value.int .u16 t], [Lit.int .u16 t])].map (·.2)).flatten := by
  refine kl_struct (d := 2) Try.underlying24 (by kernel_rfl) _ _ (by simp [tgC]) (by kernel_rfl) rfl (fun j f q hf hq => ?_)
  match j, hf, hq with
  | 0, hf, hq =>
    cases hf; cases hq
    exact ⟨rfl, by kernel_rfl, kl_int Try.underlying5 1 p (wf_u8 h.p0 h.p1)⟩
  | 1, hf, hq =>
    cases hf; cases hq
    exact ⟨rfl, by kernel_rfl, kl_int Try.underlying22 1 i (wf_u16 h.i0 h.i1)⟩
  | 2, hf, hq =>
    cases hf; cases hq
    exact ⟨rfl, by kernel_rfl, kl_int Try.underlying22 1 t (wf_u16 h.t0 h.t1)⟩
  | j + 3, hf, hq => simp at hq

/-- Cells that are a header's. -/
def Hd (L : List Value) : Prop := ∃ p i t, L = tgC p i t ∧ Tg p i t

theorem hd_len {L : List Value} (h : Hd L) : L.length = 3 := by obtain ⟨p, i, t, rfl, _⟩ := h; rfl
theorem hd_one {L : List Value} (h : Hd L) : L.toArray.all (·.oneCell') = true := by
  obtain ⟨p, i, t, rfl, _⟩ := h
  refine all_oneCell_toArray (fun v hv => ?_)
  simp only [tgC, List.mem_cons, List.not_mem_nil, or_false] at hv
  rcases hv with rfl | rfl | rfl <;> rfl
theorem hd_eq {L : List Value} (h : Hd L) (w : World) : (Op.equalIn 10000 24 (.agg L.toArray) (.agg L.toArray)).run Try.prog w = .ok true w := by
  obtain ⟨p, i, t, rfl, h⟩ := h
  exact equal_same 3 (by omega) (by kernel_rfl) (by simp only [Value.formed, Try.underlying24]; kernel_rfl) 3 (kl_tg h) w
theorem hd_0 : Hd hd0 := ⟨0, 0, 0, rfl, by omega, by omega, by omega, by omega, by omega, by omega⟩

/-- Check's answer, of cells. -/
def ckE : List Value → Int
  | [.int _ p, .int _ i, .int _ _] => tgE p i
  | _ => 0
/-- A header's bytes, of cells. -/
def hdB : List Value → List Int
  | [.int _ p, .int _ i, .int _ t] => tgB p i t
  | _ => []
/-- Bytes' answer. -/
def byE (L : List Value) (ys : List Int) : Int := if ckE L = 0 then (if ys.length ≤ 2044 then 0 else 5) else ckE L
def byB (L : List Value) (ys : List Int) : List Int := if byE L ys = 0 then hdB L else []
/-- Read's answer. -/
def rdE (zs : List Int) : Int := if zs.length < 4 then 6 else if rdM zs / 4096 % 2 = 0 then 0 else 60
def rdL (zs : List Int) : List Value := if rdE zs = 0 then tgC (rdM zs / 8192) (rdM zs % 4096) (rdT zs) else hd0

theorem h_check (L : List Value) (w : World) (h : Hd L) : Calls Try.prog 11 #[.agg L.toArray] w fun e w' => e = .returned (.int .i64 (ckE L)) ∧ Below w.heap.size w w' := by
  obtain ⟨p, i, t, rfl, h⟩ := h
  exact lcheck_any p i t w h
theorem h_rcheck (L : List Value) (w : World) (h : Hd L) : Calls Try.prog 12 #[.agg L.toArray] w fun e w' => e = .returned (.int .i64 (ckE L)) ∧ Below w.heap.size w w' := by
  obtain ⟨p, i, t, rfl, h⟩ := h
  exact rcheck_any p i t w h

theorem h_bytes (L : List Value) (a : Option Addr) (n c : Nat) (ys : List Int) (w : World) (h : Hd L) (hy : ys.length = n) (hB : Bs w a ys) :
    Calls Try.prog 9 #[.agg L.toArray, .slice a n c] w fun e w' => ∃ v, e = .returned (.tuple #[v, .int .i64 (byE L ys)]) ∧ w'.ownsRow w.heap.size 5 1 v (byB L ys).length ((byB L ys).map (Value.int .u8)) ∧ Below w.heap.size w w' := by
  have hl := hB.len
  obtain ⟨p, i, t, rfl, h⟩ := h
  rw [hy] at hl
  by_cases hc : p ≤ 7 ∧ i ≤ 4095
  · have e0 : ckE (tgC p i t) = 0 := by show tgE p i = 0; unfold tgE; rw [if_pos hc]
    by_cases hn : n ≤ 2044
    · have e1 : byE (tgC p i t) ys = 0 := by unfold byE; rw [if_pos e0, hy, if_pos hn]
      unfold byB
      rw [e1, if_pos rfl]
      exact lbytes_ok p i t a n c w h hc.1 hc.2 hn
    · have e1 : byE (tgC p i t) ys = 5 := by unfold byE; rw [if_pos e0, hy, if_neg hn]
      unfold byB
      rw [e1, if_neg (by omega)]
      refine (lbytes_no p i t a n c w h hc.1 hc.2 hn hl).mono ?_
      rintro e w' ⟨rfl, b⟩
      exact ⟨_, rfl, World.ownsRow_nil _ _ _ _, b⟩
  · have e0 : ckE (tgC p i t) = 60 := by show tgE p i = 60; unfold tgE; rw [if_neg hc]
    have e1 : byE (tgC p i t) ys = 60 := by unfold byE; rw [e0, if_neg (by omega)]
    unfold byB
    rw [e1, if_neg (by omega)]
    refine (lbytes_bad p i t a n c w h hc).mono ?_
    rintro e w' ⟨rfl, b⟩
    exact ⟨_, rfl, World.ownsRow_nil _ _ _ _, b⟩

theorem h_rbytes (L : List Value) (a : Option Addr) (n c : Nat) (ys : List Int) (w : World) (h : Hd L) (hy : ys.length = n) (hB : Bs w a ys) :
    Calls Try.prog 10 #[.agg L.toArray, .slice a n c] w fun e w' => ∃ v, e = .returned (.tuple #[v, .int .i64 (byE L ys)]) ∧ w'.ownsRow w.heap.size 5 1 v (byB L ys).length ((byB L ys).map (Value.int .u8)) ∧ Below w.heap.size w w' := by
  have hl := hB.len
  obtain ⟨p, i, t, rfl, h⟩ := h
  rw [hy] at hl
  by_cases hc : p ≤ 7 ∧ i ≤ 4095
  · have e0 : ckE (tgC p i t) = 0 := by show tgE p i = 0; unfold tgE; rw [if_pos hc]
    by_cases hn : n ≤ 2044
    · have e1 : byE (tgC p i t) ys = 0 := by unfold byE; rw [if_pos e0, hy, if_pos hn]
      unfold byB
      rw [e1, if_pos rfl]
      exact rbytes_ok p i t a n c w h hc.1 hc.2 hn
    · have e1 : byE (tgC p i t) ys = 5 := by unfold byE; rw [if_pos e0, hy, if_neg hn]
      unfold byB
      rw [e1, if_neg (by omega)]
      refine (rbytes_no p i t a n c w h hc.1 hc.2 hn hl).mono ?_
      rintro e w' ⟨rfl, b⟩
      exact ⟨_, rfl, World.ownsRow_nil _ _ _ _, b⟩
  · have e0 : ckE (tgC p i t) = 60 := by show tgE p i = 60; unfold tgE; rw [if_neg hc]
    have e1 : byE (tgC p i t) ys = 60 := by unfold byE; rw [e0, if_neg (by omega)]
    unfold byB
    rw [e1, if_neg (by omega)]
    refine (rbytes_bad p i t a n c w h hc).mono ?_
    rintro e w' ⟨rfl, b⟩
    exact ⟨_, rfl, World.ownsRow_nil _ _ _ _, b⟩

theorem bs_some {w : World} {a : Option Addr} {zs : List Int} (h : Bs w a zs) (hp : 0 < zs.length) : ∃ b off, a = some ⟨b, off, none⟩ := by
  rcases h.lies with h0 | ⟨b, off, e, _⟩
  · omega
  · exact ⟨b, off, e⟩

theorem h_read (a : Option Addr) (n c : Nat) (zs : List Int) (w : World) (hz : zs.length = n) (hB : Bs w a zs) (_hc : n ≤ c) :
    Calls Try.prog 17 #[.slice a n c] w fun e w' => e = .returned (.tuple #[.agg (rdL zs).toArray, .int .i64 (rdE zs)]) ∧ Below w.heap.size w w' := by
  by_cases hn : n < 4
  · have e1 : rdE zs = 6 := by unfold rdE; rw [hz, if_pos hn]
    unfold rdL
    rw [e1, if_neg (by omega)]
    exact lread_short a n c w hn
  · obtain ⟨b, off, rfl⟩ := bs_some hB (by omega)
    by_cases hm : rdM zs / 4096 % 2 = 0
    · have e1 : rdE zs = 0 := by unfold rdE; rw [hz, if_neg hn, if_pos hm]
      unfold rdL
      rw [e1, if_pos rfl]
      exact lread_ok b off n c zs w hz hB (by omega) hm
    · have e1 : rdE zs = 60 := by unfold rdE; rw [hz, if_neg hn, if_neg hm]
      unfold rdL
      rw [e1, if_neg (by omega)]
      exact lread_bad b off n c zs w hz hB (by omega) hm

theorem h_rread (a : Option Addr) (n c : Nat) (zs : List Int) (w : World) (hz : zs.length = n) (hB : Bs w a zs) (_hc : n ≤ c) :
    Calls Try.prog 18 #[.slice a n c] w fun e w' => e = .returned (.tuple #[.agg (rdL zs).toArray, .int .i64 (rdE zs)]) ∧ Below w.heap.size w w' := by
  by_cases hn : n < 4
  · have e1 : rdE zs = 6 := by unfold rdE; rw [hz, if_pos hn]
    unfold rdL
    rw [e1, if_neg (by omega)]
    exact rread_short a n c w hn
  · obtain ⟨b, off, rfl⟩ := bs_some hB (by omega)
    by_cases hm : rdM zs / 4096 % 2 = 0
    · have e1 : rdE zs = 0 := by unfold rdE; rw [hz, if_neg hn, if_pos hm]
      unfold rdL
      rw [e1, if_pos rfl]
      exact rread_ok b off n c zs w hz hB (by omega) hm
    · have e1 : rdE zs = 60 := by unfold rdE; rw [hz, if_neg hn, if_neg hm]
      unfold rdL
      rw [e1, if_neg (by omega)]
      exact rread_bad b off n c zs w hz hB (by omega) hm

-- what is told of bytes and headers, as mathematics
theorem hd_rd {zs : List Int} (h : Bytes zs) : Hd (rdL zs) := by
  unfold rdL
  obtain ⟨m0, m1⟩ := rdM_bd h
  obtain ⟨t0, t1⟩ := rdT_bd h
  split
  · exact ⟨_, _, _, rfl, by omega, by omega, by omega, by omega, t0, t1⟩
  · exact hd_0

theorem tgE_le {p i : Int} (h : tgE p i = 0) : p ≤ 7 ∧ i ≤ 4095 := by
  unfold tgE at h
  split at h
  · assumption
  · omega

theorem byE_zero {L : List Value} {ys : List Int} (h : byE L ys = 0) : ckE L = 0 ∧ ys.length ≤ 2044 := by
  unfold byE at h
  split at h
  · split at h
    · exact ⟨by assumption, by assumption⟩
    · omega
  · contradiction

theorem byB_bytes {L : List Value} {ys : List Int} (h : Hd L) (_hy : Bytes ys) : Bytes (byB L ys) := by
  unfold byB
  split
  · rename_i he
    obtain ⟨p, i, t, rfl, h⟩ := h
    obtain ⟨p1, i1⟩ := tgE_le (byE_zero he).1
    obtain ⟨p0, -, i0, -, t0, t1⟩ := h
    intro z hz
    simp [hdB, tgC, tgB] at hz
    rcases hz with rfl | rfl | rfl | rfl <;> omega
  · intro z hz; simp at hz

theorem byB_le {L : List Value} {ys : List Int} (h : Hd L) : (byB L ys).length ≤ 4 := by
  obtain ⟨p, i, t, rfl, h⟩ := h
  unfold byB
  split <;> simp [hdB, tgC, tgB]

theorem m_back {L : List Value} {ys : List Int} (h : Hd L) (_hy : Bytes ys) (he : byE L ys = 0) : (byB L ys).length = 4 ∧ rdL (byB L ys ++ ys) = L ∧ rdE (byB L ys ++ ys) = 0 ∧ ckE L = 0 := by
  have hc := (byE_zero he).1
  obtain ⟨p, i, t, rfl, h⟩ := h
  obtain ⟨p1, i1⟩ := tgE_le hc
  obtain ⟨p0, -, i0, -, t0, t1⟩ := h
  have e : byB (tgC p i t) ys = tgB p i t := by unfold byB; rw [if_pos he]; rfl
  have eM : rdM (tgB p i t ++ ys) = p * 8192 + i := by simp [rdM, tgB]; omega
  have eT : rdT (tgB p i t ++ ys) = t := by simp [rdT, tgB]; omega
  have eE : rdE (tgB p i t ++ ys) = 0 := by
    unfold rdE
    rw [if_neg (by simp [tgB]), eM, if_pos (by omega)]
  rw [e]
  refine ⟨rfl, ?_, eE, hc⟩
  unfold rdL
  rw [if_pos eE, eM, eT]
  congr 1 <;> omega

theorem m_no {L : List Value} {ys : List Int} (he : ¬ byE L ys = 0) (hc : ckE L = 0) : ¬ ys.length ≤ 2044 := by
  intro hl
  apply he
  unfold byE
  rw [if_pos hc, if_pos hl]

theorem m_none {zs : List Int} (h : ¬ rdE zs = 0) : rdL zs = hd0 := by unfold rdL; rw [if_neg h]

theorem m_short {zs : List Int} (h : zs.length < 4) : rdE zs = 6 := by unfold rdE; rw [if_pos h]

theorem m_again {zs : List Int} (hb : Bytes zs) (he : rdE zs = 0) (hl : zs.length ≤ 2048) : 4 ≤ zs.length ∧ byE (rdL zs) (zs.drop 4) = 0 ∧ byB (rdL zs) (zs.drop 4) = zs.take 4 := by
  have h4 : 4 ≤ zs.length := by
    unfold rdE at he
    split at he
    · omega
    · omega
  have hm : rdM zs / 4096 % 2 = 0 := by
    unfold rdE at he
    rw [if_neg (by omega)] at he
    split at he
    · assumption
    · omega
  obtain ⟨m0, m1⟩ := rdM_bd hb
  have e0 : rdL zs = tgC (rdM zs / 8192) (rdM zs % 4096) (rdT zs) := by unfold rdL; rw [if_pos he]
  have e1 : byE (rdL zs) (zs.drop 4) = 0 := by
    rw [e0]
    unfold byE
    have : ckE (tgC (rdM zs / 8192) (rdM zs % 4096) (rdT zs)) = 0 := by show tgE _ _ = 0; unfold tgE; rw [if_pos (by omega)]
    rw [if_pos this, if_pos (by rw [List.length_drop]; omega)]
  refine ⟨h4, e1, ?_⟩
  unfold byB
  rw [if_pos e1, e0]
  show tgB _ _ _ = _
  match zs, hb, h4 with
  | z0 :: z1 :: z2 :: z3 :: r, hb, _ =>
    have k0 := hb z0 (by simp)
    have k1 := hb z1 (by simp)
    have k2 := hb z2 (by simp)
    have k3 := hb z3 (by simp)
    simp [rdM] at hm
    simp [tgB, rdM, rdT]
    omega

theorem m_first {xs zs : List Int} (hx : 4 ≤ xs.length) (hz : 4 ≤ zs.length) (h : xs.take 4 = zs.take 4) : rdL xs = rdL zs ∧ rdE xs = rdE zs := by
  have g : ∀ k, k < 4 → xs.getD k 0 = zs.getD k 0 := by
    intro k hk
    have e1 : xs.getD k 0 = (xs.take 4).getD k 0 := by rw [List.getD_eq_getElem?_getD, List.getD_eq_getElem?_getD, List.getElem?_take_of_lt hk]
    have e2 : zs.getD k 0 = (zs.take 4).getD k 0 := by rw [List.getD_eq_getElem?_getD, List.getD_eq_getElem?_getD, List.getElem?_take_of_lt hk]
    rw [e1, e2, h]
  have eM : rdM xs = rdM zs := by unfold rdM; rw [g 0 (by omega), g 1 (by omega)]
  have eT : rdT xs = rdT zs := by unfold rdT; rw [g 2 (by omega), g 3 (by omega)]
  have eE : rdE xs = rdE zs := by unfold rdE; rw [if_neg (show ¬ xs.length < 4 by omega), if_neg (show ¬ zs.length < 4 by omega), eM]
  exact ⟨by unfold rdL; rw [eE, eM, eT], eE⟩

-- the chapter's header
def uL : List Value := tgC 5 291 34525
def uY : List Int := []
def uB : List Int := [161, 35, 134, 221]
theorem hd_u : Hd uL := ⟨5, 291, 34525, rfl, by omega, by omega, by omega, by omega, by omega, by omega⟩
theorem uY_bytes : Bytes uY := fun z hz => by simp [uY] at hz
theorem by_u : byE uL uY = 0 ∧ byB uL uY = uB := by decide

set_option maxHeartbeats 400000 in
theorem usual_any (w : World) : Calls Try.prog 20 #[] w fun e w' => ∃ g pa pc, e = .returned (.tuple #[.agg uL.toArray, .slice pa uY.length pc, .slice (some ⟨g, 0, none⟩) 4 4]) ∧ Bs w' pa uY ∧ (pa = none → pc = 0) ∧ uY.length ≤ pc ∧ Bs w' (some ⟨g, 0, none⟩) uB ∧ Below w.heap.size w w' := by
  go_enter Try.func20, Try.ntmps20
  go_wp2_with fail
  refine ret_cell_tmp2 rfl w.heap.size 24 uL (0, 0) _ rfl (heap_alloc2_old w _ _) Try.underlying24 rfl info_hd rfl ?_
  refine ⟨w.heap.size + 1, none, 0, rfl, bs_nil _ _, fun _ => rfl, Nat.le_refl _, ?_, ((Below.refl _ _).alloc (Nat.le_refl _) _).alloc (by simp) _⟩
  exact bs_block (A := []) (D := []) (zs := uB) (heap_alloc2_new w _ _) 0 rfl (by intro z hz; simp [uB] at hz; omega) (by simp [uB])

-- a header that may not be
def badL : List Value := tgC 8 0 0
theorem hd_bad : Hd badL := ⟨8, 0, 0, rfl, by omega, by omega, by omega, by omega, by omega, by omega⟩
theorem ck_bad : ckE badL = 60 := by decide

/-- A header that came in. -/
theorem hd_open (W : World) (m : sh24.M) (o : sh24.ok W m) : Hd (sh24.cs m) := by
  obtain ⟨p, i, t⟩ := m
  obtain ⟨kp, ki, kt⟩ := o
  exact ⟨p, i, t, rfl, (bounds_u8 kp).1, (bounds_u8 kp).2, (bounds_u16 ki).1, (bounds_u16 ki).2, (bounds_u16 kt).1, (bounds_u16 kt).2⟩
end Go.Proofs.Ytbdfhhaoeekhhaa
