/- net4's calls and the document's, each in one form for all inputs: the face that the laws' walks (Na to Ng) see. -/
import Derived.Test.YtmeodhdmnoglcaaUe
import Derived.Test.YtmeodhdmnoglcaaGc
import Derived.Test.YtmeodhdmnoglcaaSp
namespace Go.Proofs.Ytmeodhdmnoglcaa
open Go.ChangeShapes Go.WideShapes Go.ChangeAt Go.RowKit

theorem wf_u8 {z : Int} (h0 : 0 ≤ z) (h1 : z ≤ 255) : (Lit.int .u8 z).wf = true := by
  have e0 : IntKind.u8.min = 0 := by decide
  have e1 : IntKind.u8.max = 255 := by decide
  simp [Lit.wf, e0, e1]; omega
theorem wf_u16 {z : Int} (h0 : 0 ≤ z) (h1 : z ≤ 65535) : (Lit.int .u16 z).wf = true := by
  have e0 : IntKind.u16.min = 0 := by decide
  have e1 : IntKind.u16.max = 65535 := by decide
  simp [Lit.wf, e0, e1]; omega

theorem kl_bytes {t : TypeId} {n : Nat} (hu : Try.prog.underlying t = some (.array n 5)) (hc : Try.prog.cellsOf t = n) (D : Nat) (zs : List Int) (hl : zs.length = n) (h : Bytes zs) : Try.prog.keyLits (D + 2) t (zs.map (Value.int .u8)) = some (zs.map (Lit.int .u8)) :=
  kl_arr hu Try.underlying5 hc (by kernel_rfl) D zs hl (fun z hz => wf_u8 (h z hz).1 (h z hz).2)

theorem kl_n4 {o l p i : Int} {s d : List Int} (h : N4 o l p i s d) : Try.prog.keyLits 3 25 (n4C o l p i s d) = some ([([Value.int .u8 o], [Lit.int .u8 o]), ([Value.int .u8 l], [Lit.int .u8 l]), ([Value.int .u8 p], [Lit.int .u8 p]), ([Value.int .u16 i], [Lit.int .u16 i]), (s.map (Value.int .u8), s.map (Lit.int .u8)), (d.map (Value.int .u8), d.map (Lit.int .u8))].map (·.2)).flatten := by
  refine kl_struct (d := 2) Try.underlying25 (by kernel_rfl) _ _ (by simp [n4C]) ?_ rfl (fun j f q hf hq => ?_)
  · rw [n4C_length h]; kernel_rfl
  · have hs := h.sl
    have hd := h.dl
    match j, hf, hq with
    | 0, hf, hq =>
      cases hf; cases hq
      exact ⟨rfl, by kernel_rfl, kl_int Try.underlying5 1 o (wf_u8 h.o0 h.o1)⟩
    | 1, hf, hq =>
      cases hf; cases hq
      exact ⟨rfl, by kernel_rfl, kl_int Try.underlying5 1 l (wf_u8 h.l0 h.l1)⟩
    | 2, hf, hq =>
      cases hf; cases hq
      exact ⟨rfl, by kernel_rfl, kl_int Try.underlying5 1 p (wf_u8 h.p0 h.p1)⟩
    | 3, hf, hq =>
      cases hf; cases hq
      exact ⟨rfl, by kernel_rfl, kl_int Try.underlying22 1 i (wf_u16 h.i0 h.i1)⟩
    | 4, hf, hq =>
      cases hf; cases hq
      exact ⟨rfl, by rw [List.length_map, hs]; kernel_rfl, kl_bytes Try.underlying23 (by kernel_rfl) 0 s hs h.sb⟩
    | 5, hf, hq =>
      cases hf; cases hq
      exact ⟨by simp [hs], by rw [List.length_map, hd]; kernel_rfl, kl_bytes Try.underlying23 (by kernel_rfl) 0 d hd h.db⟩
    | j + 6, hf, hq => simp at hq

/-- Cells that are a header's. -/
def Hd (L : List Value) : Prop := ∃ o l p i s d, L = n4C o l p i s d ∧ N4 o l p i s d

theorem hd_len {L : List Value} (h : Hd L) : L.length = 12 := by obtain ⟨o, l, p, i, s, d, rfl, h⟩ := h; exact n4C_length h
theorem hd_one {L : List Value} (h : Hd L) : L.toArray.all (·.oneCell') = true := by
  obtain ⟨o, l, p, i, s, d, rfl, _⟩ := h
  exact n4C_one _ _ _ _ _ _
theorem hd_eq {L : List Value} (h : Hd L) (w : World) : (Op.equalIn 10000 25 (.agg L.toArray) (.agg L.toArray)).run Try.prog w = .ok true w := by
  obtain ⟨o, l, p, i, s, d, rfl, h⟩ := h
  exact equal_same 3 (by omega) (by kernel_rfl) (by
    simp only [Value.formed, Try.underlying25, List.size_toArray, n4C_length h]; kernel_rfl) 3 (kl_n4 h) w
theorem hd_0 : Hd hd0 := ⟨0, 0, 0, 0, [0, 0, 0, 0], [0, 0, 0, 0], rfl, by omega, by omega, by omega, by omega, by omega, by omega, by omega, by omega, rfl, rfl, by intro z hz; simp at hz; omega, by intro z hz; simp at hz; omega⟩

/-- A cell's number. -/
def un : Value → Int
  | .int _ z => z
  | _ => 0
/-- Check's answer, of cells. -/
def ckE (_ : List Value) : Int := 0
/-- A header's bytes, of cells, ahead of m bytes. -/
def hdB (L : List Value) (m : Int) : List Int :=
  n4B (un (L.getD 0 undef)) (un (L.getD 1 undef)) (un (L.getD 2 undef)) (un (L.getD 3 undef)) (((L.drop 4).take 4).map un) ((L.drop 8).map un) m
    (n4F (un (L.getD 0 undef)) (un (L.getD 1 undef)) (un (L.getD 2 undef)) (un (L.getD 3 undef)) (((L.drop 4).take 4).map un) ((L.drop 8).map un) m)
theorem map_un : ∀ zs : List Int, (zs.map (Value.int .u8)).map un = zs
  | [] => rfl
  | z :: r => by rw [List.map_cons, List.map_cons, map_un r]; rfl
theorem hdB_n4 {o l p i : Int} {s d : List Int} (h : N4 o l p i s d) (m : Int) : hdB (n4C o l p i s d) m = n4B o l p i s d m (n4F o l p i s d m) := by
  have e1 : ((n4C o l p i s d).drop 4).take 4 = s.map (Value.int .u8) := by
    show (s.map (Value.int .u8) ++ d.map (Value.int .u8)).take 4 = _
    rw [List.take_left' (by rw [List.length_map, h.sl])]
  have e2 : (n4C o l p i s d).drop 8 = d.map (Value.int .u8) := by
    show (s.map (Value.int .u8) ++ d.map (Value.int .u8)).drop 4 = _
    rw [List.drop_left' (by rw [List.length_map, h.sl])]
  unfold hdB
  rw [e1, e2, map_un, map_un]
  rfl
/-- Bytes' answer. -/
def byE (_ : List Value) (ys : List Int) : Int := if ys.length ≤ 2028 then 0 else 5
def byB (L : List Value) (ys : List Int) : List Int := if byE L ys = 0 then hdB L ys.length else []
/-- Read's answer. -/
def rdE (zs : List Int) : Int := if zs.length < 20 then 6 else if rdQ zs then (if rdV zs 10 = rdF zs then 0 else 110) else 70
def rdL (zs : List Int) : List Value := if rdE zs = 0 then rdC zs else hd0

theorem h_check (L : List Value) (w : World) (_h : Hd L) : Calls Try.prog 11 #[.agg L.toArray] w fun e w' => e = .returned (.int .i64 (ckE L)) ∧ Below w.heap.size w w' := lcheck_any L w
theorem h_rcheck (L : List Value) (w : World) (_h : Hd L) : Calls Try.prog 12 #[.agg L.toArray] w fun e w' => e = .returned (.int .i64 (ckE L)) ∧ Below w.heap.size w w' := rcheck_any L w

theorem h_bytes (L : List Value) (a : Option Addr) (n c : Nat) (ys : List Int) (w : World) (h : Hd L) (hy : ys.length = n) (hB : Bs w a ys) :
    Calls Try.prog 9 #[.agg L.toArray, .slice a n c] w fun e w' => ∃ v, e = .returned (.tuple #[v, .int .i64 (byE L ys)]) ∧ w'.ownsRow w.heap.size 5 1 v (byB L ys).length ((byB L ys).map (Value.int .u8)) ∧ Below w.heap.size w w' := by
  have hl := hB.len
  rw [hy] at hl
  by_cases hn : n ≤ 2028
  · have e1 : byE L ys = 0 := by unfold byE; rw [hy, if_pos hn]
    unfold byB
    rw [e1, if_pos rfl, hy]
    obtain ⟨o, l, p, i, s, d, rfl, h⟩ := h
    rw [hdB_n4 h, n4B_length h]
    exact lbytes_ok o l p i s d a n c w h hn
  · have e1 : byE L ys = 5 := by unfold byE; rw [hy, if_neg hn]
    unfold byB
    rw [e1, if_neg (by omega)]
    refine (lbytes_no L a n c w hn hl).mono ?_
    rintro e w' ⟨rfl, b⟩
    exact ⟨_, rfl, World.ownsRow_nil _ _ _ _, b⟩

theorem h_rbytes (L : List Value) (a : Option Addr) (n c : Nat) (ys : List Int) (w : World) (h : Hd L) (hy : ys.length = n) (hB : Bs w a ys) :
    Calls Try.prog 10 #[.agg L.toArray, .slice a n c] w fun e w' => ∃ v, e = .returned (.tuple #[v, .int .i64 (byE L ys)]) ∧ w'.ownsRow w.heap.size 5 1 v (byB L ys).length ((byB L ys).map (Value.int .u8)) ∧ Below w.heap.size w w' := by
  have hl := hB.len
  rw [hy] at hl
  by_cases hn : n ≤ 2028
  · have e1 : byE L ys = 0 := by unfold byE; rw [hy, if_pos hn]
    unfold byB
    rw [e1, if_pos rfl, hy]
    obtain ⟨o, l, p, i, s, d, rfl, h⟩ := h
    rw [hdB_n4 h, n4B_length h]
    exact rbytes_ok o l p i s d a n c w h hn
  · have e1 : byE L ys = 5 := by unfold byE; rw [hy, if_neg hn]
    unfold byB
    rw [e1, if_neg (by omega)]
    refine (rbytes_no L a n c w (hd_len h) hn hl).mono ?_
    rintro e w' ⟨rfl, b⟩
    exact ⟨_, rfl, World.ownsRow_nil _ _ _ _, b⟩

theorem bs_some {w : World} {a : Option Addr} {zs : List Int} (h : Bs w a zs) (hp : 0 < zs.length) : ∃ b off, a = some ⟨b, off, none⟩ := by
  rcases h.lies with h0 | ⟨b, off, e, _⟩
  · omega
  · exact ⟨b, off, e⟩

theorem h_read (a : Option Addr) (n c : Nat) (zs : List Int) (w : World) (hz : zs.length = n) (hB : Bs w a zs) (hc : n ≤ c) :
    Calls Try.prog 17 #[.slice a n c] w fun e w' => e = .returned (.tuple #[.agg (rdL zs).toArray, .int .i64 (rdE zs)]) ∧ Below w.heap.size w w' := by
  by_cases hn : n < 20
  · have e1 : rdE zs = 6 := by unfold rdE; rw [if_pos (by rw [hz]; exact hn)]
    unfold rdL
    rw [e1, if_neg (by omega)]
    exact lread_short a n c w hn
  · obtain ⟨b, off, rfl⟩ := bs_some hB (by omega)
    by_cases hq : rdQ zs
    · by_cases hf : rdV zs 10 = rdF zs
      · have e1 : rdE zs = 0 := by unfold rdE; rw [if_neg (by rw [hz]; exact hn), if_pos hq, if_pos hf]
        unfold rdL
        rw [e1, if_pos rfl]
        exact lread_ok b off n c zs w hz hB (by omega) hc hq hf
      · have e1 : rdE zs = 110 := by unfold rdE; rw [if_neg (by rw [hz]; exact hn), if_pos hq, if_neg hf]
        unfold rdL
        rw [e1, if_neg (by omega)]
        exact lread_sum b off n c zs w hz hB (by omega) hq hf
    · have e1 : rdE zs = 70 := by unfold rdE; rw [if_neg (by rw [hz]; exact hn), if_neg hq]
      unfold rdL
      rw [e1, if_neg (by omega)]
      exact lread_bad b off n c zs w hz hB (by omega) hq

theorem h_rread (a : Option Addr) (n c : Nat) (zs : List Int) (w : World) (hz : zs.length = n) (hB : Bs w a zs) (hc : n ≤ c) :
    Calls Try.prog 18 #[.slice a n c] w fun e w' => e = .returned (.tuple #[.agg (rdL zs).toArray, .int .i64 (rdE zs)]) ∧ Below w.heap.size w w' := by
  by_cases hn : n < 20
  · have e1 : rdE zs = 6 := by unfold rdE; rw [if_pos (by rw [hz]; exact hn)]
    unfold rdL
    rw [e1, if_neg (by omega)]
    exact rread_short a n c w hn
  · obtain ⟨b, off, rfl⟩ := bs_some hB (by omega)
    by_cases hq : rdQ zs
    · by_cases hf : rdV zs 10 = rdF zs
      · have e1 : rdE zs = 0 := by unfold rdE; rw [if_neg (by rw [hz]; exact hn), if_pos hq, if_pos hf]
        unfold rdL
        rw [e1, if_pos rfl]
        exact rread_ok b off n c zs w hz hB (by omega) hc hq hf
      · have e1 : rdE zs = 110 := by unfold rdE; rw [if_neg (by rw [hz]; exact hn), if_pos hq, if_neg hf]
        unfold rdL
        rw [e1, if_neg (by omega)]
        exact rread_sum b off n c zs w hz hB (by omega) hc hq hf
    · have e1 : rdE zs = 70 := by unfold rdE; rw [if_neg (by rw [hz]; exact hn), if_neg hq]
      unfold rdL
      rw [e1, if_neg (by omega)]
      exact rread_bad b off n c zs w hz hB (by omega) hq

-- what is told of bytes and headers, as mathematics
theorem rdE_zero {zs : List Int} (h : rdE zs = 0) : 20 ≤ zs.length ∧ rdQ zs ∧ rdV zs 10 = rdF zs := by
  unfold rdE at h
  split at h
  · omega
  · split at h
    · split at h
      · exact ⟨by omega, by assumption, by assumption⟩
      · omega
    · omega

theorem hd_rd {zs : List Int} (h : Bytes zs) : Hd (rdL zs) := by
  unfold rdL
  split
  · rename_i he
    exact ⟨_, _, _, _, _, _, rfl, n4_of h (rdE_zero he).1⟩
  · exact hd_0

theorem byE_zero {L : List Value} {ys : List Int} (h : byE L ys = 0) : ckE L = 0 ∧ ys.length ≤ 2028 := by
  unfold byE at h
  split at h
  · exact ⟨rfl, by assumption⟩
  · omega

theorem byB_bytes {L : List Value} {ys : List Int} (h : Hd L) (_hy : Bytes ys) : Bytes (byB L ys) := by
  unfold byB
  split
  · rename_i he
    obtain ⟨o, l, p, i, s, d, rfl, h⟩ := h
    rw [hdB_n4 h]
    have := (byE_zero he).2
    have hf := n4F_bd o l p i s d ys.length
    exact n4B_bytes h (by omega) (by omega) hf.1 hf.2
  · intro z hz; simp at hz

theorem byB_le {L : List Value} {ys : List Int} (h : Hd L) : (byB L ys).length ≤ 20 := by
  obtain ⟨o, l, p, i, s, d, rfl, h⟩ := h
  unfold byB
  split
  · rw [hdB_n4 h, n4B_length h]; omega
  · simp

/-- The field's two bytes are passed over. -/
theorem zf_n4B' {o l p i : Int} {s d : List Int} (h : N4 o l p i s d) (m f : Int) (ys : List Int) : zf (n4B o l p i s d m f ++ ys) = n4B o l p i s d m 0 := by
  unfold zf
  rw [List.take_left' (n4B_length h m f)]
  simp [n4B]

theorem m_back {L : List Value} {ys : List Int} (h : Hd L) (_hy : Bytes ys) (he : byE L ys = 0) : (byB L ys).length = 20 ∧ rdL (byB L ys ++ ys) = L ∧ rdE (byB L ys ++ ys) = 0 ∧ ckE L = 0 := by
  have hc := (byE_zero he).1
  have hl := (byE_zero he).2
  obtain ⟨o, l, p, i, s, d, rfl, h⟩ := h
  have e : byB (n4C o l p i s d) ys = n4B o l p i s d ys.length (n4F o l p i s d ys.length) := by unfold byB; rw [if_pos he, hdB_n4 h]
  rw [e]
  have hlen := n4B_length h ys.length (n4F o l p i s d ys.length)
  have hF := n4F_bd o l p i s d ys.length
  have hz := zf_n4B' h ys.length (n4F o l p i s d ys.length) ys
  obtain ⟨o0, o1, l0, l1, p0, p1, i0, i1, sl, dl, sb, db⟩ := h
  have eQ : rdQ (n4B o l p i s d ys.length (n4F o l p i s d ys.length) ++ ys) := by
    unfold rdQ
    rw [List.length_append, hlen]
    refine ⟨rfl, rfl, ?_⟩
    show (20 + (ys.length : Int)) / 256 * 256 + (20 + (ys.length : Int)) % 256 = _
    omega
  have eV : rdV (n4B o l p i s d ys.length (n4F o l p i s d ys.length) ++ ys) 10 = n4F o l p i s d ys.length := by
    show n4F o l p i s d ys.length / 256 * 256 + n4F o l p i s d ys.length % 256 = _
    omega
  have eE : rdE (n4B o l p i s d ys.length (n4F o l p i s d ys.length) ++ ys) = 0 := by
    unfold rdE
    rw [if_neg (by rw [List.length_append, hlen]; omega), if_pos eQ, if_pos]
    rw [eV]; unfold rdF; rw [hz]; rfl
  refine ⟨hlen, ?_, eE, hc⟩
  unfold rdL
  rw [if_pos eE]
  unfold rdC
  have e1 : rdV (n4B o l p i s d ys.length (n4F o l p i s d ys.length) ++ ys) 4 = i := by
    show i / 256 * 256 + i % 256 = i
    omega
  have e2 : (n4B o l p i s d ys.length (n4F o l p i s d ys.length) ++ ys).drop 12 = s ++ (d ++ ys) := by simp [n4B]
  have e3 : (n4B o l p i s d ys.length (n4F o l p i s d ys.length) ++ ys).drop 16 = d ++ ys := by
    rw [show 16 = 12 + 4 from rfl, ← List.drop_drop, e2, List.drop_left' sl]
  rw [e1, e2, e3, List.take_left' sl, List.take_left' dl]
  rfl

theorem m_no {L : List Value} {ys : List Int} (he : ¬ byE L ys = 0) (_hc : ckE L = 0) : ¬ ys.length ≤ 2028 := by
  intro hl
  apply he
  unfold byE
  rw [if_pos hl]

theorem m_none {zs : List Int} (h : ¬ rdE zs = 0) : rdL zs = hd0 := by unfold rdL; rw [if_neg h]

theorem m_short {zs : List Int} (h : zs.length < 20) : rdE zs = 6 := by unfold rdE; rw [if_pos h]

theorem m_again {zs : List Int} (hb : Bytes zs) (he : rdE zs = 0) (hl : zs.length ≤ 2048) : 20 ≤ zs.length ∧ byE (rdL zs) (zs.drop 20) = 0 ∧ byB (rdL zs) (zs.drop 20) = zs.take 20 := by
  obtain ⟨h20, ⟨q0, q6, q2⟩, hf⟩ := rdE_zero he
  have e0 : rdL zs = rdC zs := by unfold rdL; rw [if_pos he]
  have e1 : byE (rdL zs) (zs.drop 20) = 0 := by unfold byE; rw [if_pos (by rw [List.length_drop]; omega)]
  refine ⟨h20, e1, ?_⟩
  unfold byB
  rw [if_pos e1, e0]
  unfold rdC
  rw [hdB_n4 (n4_of hb h20)]
  have hz6 := (rdV_zero hb 6).1 q6
  have em : (20 : Int) + ((zs.drop 20).length : Int) = zs.getD 2 0 * 256 + zs.getD 3 0 := by
    rw [List.length_drop]
    have : rdV zs 2 = zs.getD 2 0 * 256 + zs.getD 3 0 := rfl
    omega
  generalize ((zs.drop 20).length : Int) = m at em
  have eB : ∀ f : Int, n4B (zs.getD 1 0) (zs.getD 8 0) (zs.getD 9 0) (rdV zs 4) ((zs.drop 12).take 4) ((zs.drop 16).take 4) m f = ((zs.take 20).set 10 (f / 256)).set 11 (f % 256) := by
    intro f
    match zs, hb, h20 with
    | z0 :: z1 :: z2 :: z3 :: z4 :: z5 :: z6 :: z7 :: z8 :: z9 :: z10 :: z11 :: z12 :: z13 :: z14 :: z15 :: z16 :: z17 :: z18 :: z19 :: r, hb, _ =>
      have k2 := hb z2 (by simp)
      have k3 := hb z3 (by simp)
      have k4 := hb z4 (by simp)
      have k5 := hb z5 (by simp)
      simp at q0 hz6 em
      simp [n4B, rdV]
      omega
  have eF : n4F (zs.getD 1 0) (zs.getD 8 0) (zs.getD 9 0) (rdV zs 4) ((zs.drop 12).take 4) ((zs.drop 16).take 4) m = rdV zs 10 := by
    unfold n4F
    rw [eB 0, hf]
    rfl
  rw [eF, eB]
  match zs, hb, h20 with
  | z0 :: z1 :: z2 :: z3 :: z4 :: z5 :: z6 :: z7 :: z8 :: z9 :: z10 :: z11 :: z12 :: z13 :: z14 :: z15 :: z16 :: z17 :: z18 :: z19 :: r, hb, _ =>
    have k10 := hb z10 (by simp)
    have k11 := hb z11 (by simp)
    simp [rdV]
    omega

-- one byte turned
theorem zf_set_in (zs : List Int) {k : Nat} (y : Int) (h : k = 10 ∨ k = 11) : zf (zs.set k y) = zf zs := by
  unfold zf
  rw [List.take_set]
  rcases h with rfl | rfl
  · rw [List.set_set]
  · rw [List.set_comm _ _ (by decide : (11 : Nat) ≠ 10), List.set_set]
theorem zf_set_out (zs : List Int) {k : Nat} (y : Int) (h0 : k ≠ 10) (h1 : k ≠ 11) : zf (zs.set k y) = (zf zs).set k y := by
  unfold zf
  rw [List.take_set, List.set_comm _ _ h0, List.set_comm _ _ h1]
theorem zf_getD (zs : List Int) {k : Nat} (hk : k < 20) (h0 : k ≠ 10) (h1 : k ≠ 11) : (zf zs).getD k 0 = zs.getD k 0 := by
  unfold zf
  rw [List.getD_eq_getElem?_getD, List.getElem?_set_ne (Ne.symm h1), List.getElem?_set_ne (Ne.symm h0), List.getElem?_take_of_lt hk, List.getD_eq_getElem?_getD]
theorem tot_ge {zs : List Int} (h : Bytes zs) : ∀ k : Nat, zs.getD 0 0 * 256 ≤ tot zs (k + 1)
  | 0 => by simp [tot, wt]
  | k + 1 => by
    have ih := tot_ge h k
    have hb := h.getD (k + 1)
    have hw : wt (k + 1) = 256 ∨ wt (k + 1) = 1 := by unfold wt; split <;> simp
    rw [tot]
    rcases hw with hw | hw <;> rw [hw] <;> omega
theorem getD_set (zs : List Int) (k j : Nat) (y : Int) (hk : k < zs.length) : (zs.set k y).getD j 0 = if j = k then y else zs.getD j 0 := by
  by_cases e : j = k
  · subst e
    rw [if_pos rfl, List.getD_eq_getElem?_getD, List.getElem?_set_self hk]; rfl
  · rw [if_neg e, List.getD_eq_getElem?_getD, List.getElem?_set_ne (Ne.symm e), List.getD_eq_getElem?_getD]

/-- A header that is read is read no more with one of its bytes turned. -/
theorem rd_turned {zs : List Int} (hb : Bytes zs) (he : rdE zs = 0) (k : Nat) (hk : k < 20) (y : Int) (y0 : 0 ≤ y) (y1 : y ≤ 255) (hne : ¬ y = zs.getD k 0) : ¬ rdE (zs.set k y) = 0 := by
  intro h'
  obtain ⟨h20, ⟨q0, q6, q2⟩, hf⟩ := rdE_zero he
  obtain ⟨-, ⟨r0, r6, r2⟩, hg⟩ := rdE_zero h'
  have G : ∀ j, (zs.set k y).getD j 0 = if j = k then y else zs.getD j 0 := fun j => getD_set zs k j y (by omega)
  rw [List.length_set] at r2
  unfold rdV at q6 q2 r6 r2 hf hg
  rw [G] at r0 r6 r2 hg
  rw [G] at r6 r2 hg
  have b1 := hb.getD 2
  have b2 := hb.getD 3
  have b3 := hb.getD 6
  have b4 := hb.getD 7
  have b5 := hb.getD 10
  have b6 := hb.getD 11
  by_cases hin : k = 10 ∨ k = 11
  · have e : rdF (zs.set k y) = rdF zs := by unfold rdF; rw [zf_set_in zs y hin]
    rw [e, ← hf] at hg
    rcases hin with rfl | rfl
    · simp at hg hne; omega
    · simp at hg hne; omega
  · have h0 : k ≠ 10 := fun e => hin (.inl e)
    have h1 : k ≠ 11 := fun e => hin (.inr e)
    rw [if_neg (Ne.symm h0), if_neg (Ne.symm h1)] at hg
    have e : rdF (zs.set k y) = rdF zs := by rw [← hg, ← hf]
    unfold rdF su at e
    rw [zf_set_out zs y h0 h1, tot_set _ _ _ _ (by rw [zf_length h20]; exact hk), if_pos hk, zf_getD zs hk h0 h1] at e
    have hp : 0 < tot (zf zs) 20 := by
      have := tot_ge (zf_bytes hb) 19
      rw [show 19 + 1 = 20 from rfl, zf_getD zs (by omega) (by omega) (by omega)] at this
      omega
    have hp' : 0 < tot (zf (zs.set k y)) 20 := by
      have hbs := bytes_set hb k y y0 y1
      have := tot_ge (zf_bytes hbs) 19
      rw [show 19 + 1 = 20 from rfl, zf_getD _ (by omega) (by omega) (by omega), G, r0] at this
      omega
    rw [zf_set_out zs y h0 h1, tot_set _ _ _ _ (by rw [zf_length h20]; exact hk), if_pos hk, zf_getD zs hk h0 h1] at hp'
    have bk := hb.getD k
    generalize zs.getD k 0 = x at *
    have hw : wt k = 256 ∨ wt k = 1 := by unfold wt; split <;> simp
    rcases hw with hw | hw
    · rw [hw] at e hp'
      exact fo_turn (tot (zf zs) 20) _ ((y - x) * 256) hp hp' rfl (by omega) (by omega) (by omega) (by omega)
    · rw [hw] at e hp'
      exact fo_turn (tot (zf zs) 20) _ ((y - x) * 1) hp hp' rfl (by omega) (by omega) (by omega) (by omega)

theorem m_turned {L : List Value} {ys : List Int} (h : Hd L) (hy : Bytes ys) (he : byE L ys = 0) (k : Nat) (hk : k < 20) (y : Int) (y0 : 0 ≤ y) (y1 : y ≤ 255) (hne : ¬ y = (byB L ys ++ ys).getD k 0) : ¬ rdE ((byB L ys ++ ys).set k y) = 0 :=
  rd_turned (bytes_append (byB_bytes h hy) hy) (m_back h hy he).2.2.1 k hk y y0 y1 hne

-- the chapter's header
def uL : List Value := n4C 0 64 17 1 [10, 0, 0, 1] [10, 0, 0, 2]
def uY : List Int := [0, 0, 0, 0, 0, 0, 0, 0]
def uB : List Int := [69, 0, 0, 28, 0, 1, 0, 0, 64, 17, 102, 206, 10, 0, 0, 1, 10, 0, 0, 2]
theorem hd_u : Hd uL := ⟨0, 64, 17, 1, [10, 0, 0, 1], [10, 0, 0, 2], rfl, by omega, by omega, by omega, by omega, by omega, by omega, by omega, by omega, rfl, rfl, by intro z hz; simp at hz; omega, by intro z hz; simp at hz; omega⟩
theorem uY_bytes : Bytes uY := fun z hz => by simp [uY] at hz; omega
theorem by_u : byE uL uY = 0 ∧ byB uL uY = uB := by decide +kernel

theorem uB_by : Bytes uB := by rw [← by_u.2]; exact byB_bytes hd_u uY_bytes

theorem heap3_0 (w : World) (a b c : Obj) : (((w.alloc a).alloc b).alloc c).drew.heap[w.heap.size]? = some a := (Below.heap_alloc ((w.alloc a).alloc b) c _ (by simp; omega)).trans (heap_alloc2_old w a b)
theorem heap3_1 (w : World) (a b c : Obj) : (((w.alloc a).alloc b).alloc c).drew.heap[w.heap.size + 1]? = some b := (Below.heap_alloc ((w.alloc a).alloc b) c _ (by simp)).trans (heap_alloc2_new w a b)
theorem heap3_2 (w : World) (a b c : Obj) : (((w.alloc a).alloc b).alloc c).drew.heap[w.heap.size + 1 + 1]? = some c := by
  have h := heap_alloc_new ((w.alloc a).alloc b) c
  rw [show ((w.alloc a).alloc b).heap.size = w.heap.size + 1 + 1 by simp] at h
  exact h
theorem below3 (w : World) (a b c : Obj) : Below w.heap.size w (((w.alloc a).alloc b).alloc c) := (((Below.refl _ _).alloc (Nat.le_refl _) _).alloc (by simp) _).alloc (by simp; omega) _

set_option maxHeartbeats 1000000 in
theorem usual_any (w : World) : Calls Try.prog 21 #[] w fun e w' => ∃ g pa pc, e = .returned (.tuple #[.agg uL.toArray, .slice pa uY.length pc, .slice (some ⟨g, 0, none⟩) 20 20]) ∧ Bs w' pa uY ∧ (pa = none → pc = 0) ∧ uY.length ≤ pc ∧ Bs w' (some ⟨g, 0, none⟩) uB ∧ Below w.heap.size w w' := by
  have hmk : ∀ u : World, (Instr.makeSlice 26 (.int .i64 8) (.int .i64 8)).run Try.prog u = .ok (.slice (some ⟨u.heap.size, 0, none⟩) 8 8) (u.alloc (.cells #[.int .u8 0, .int .u8 0, .int .u8 0, .int .u8 0, .int .u8 0, .int .u8 0, .int .u8 0, .int .u8 0] 5)) := make_bytes 8 (by omega)
  go_enter Try.func21, Try.ntmps21
  go_wp2_with fail
  go_region
  · go_wp2_with fail
    refine ret_cell_tmp2 rfl w.heap.size 25 uL (0, 0) _ rfl (heap3_0 w _ _ _) Try.underlying25 rfl info_hd rfl ?_
    exact ⟨w.heap.size + 1 + 1, some ⟨w.heap.size + 1, 0, none⟩, 8, rfl, bs_block (A := []) (D := []) (zs := uY) (heap3_1 w _ _ _) 0 rfl uY_bytes (by simp [uY]), (fun e => by cases e), Nat.le_refl _, bs_block (A := []) (D := []) (zs := uB) (heap3_2 w _ _ _) 0 rfl uB_by (by simp [uB]), (below3 w _ _ _).drew⟩
  · go_wp2_with fail
    refine ret_cell_tmp2 rfl w.heap.size 25 uL (0, 0) _ rfl (heap3_0 w _ _ _) Try.underlying25 rfl info_hd rfl ?_
    exact ⟨w.heap.size + 1, some ⟨w.heap.size + 1 + 1, 0, none⟩, 8, rfl, bs_block (A := []) (D := []) (zs := uY) (heap3_2 w _ _ _) 0 rfl uY_bytes (by simp [uY]), (fun e => by cases e), Nat.le_refl _, bs_block (A := []) (D := []) (zs := uB) (heap3_1 w _ _ _) 0 rfl uB_by (by simp [uB]), (below3 w _ _ _).drew⟩

/-- A header that came in. -/
theorem hd_open (W : World) (m : sh25.M) (o : sh25.ok W m) : Hd (sh25.cs m) := by
  obtain ⟨t, l, p, i, ⟨s0, s1, s2, s3⟩, ⟨d0, d1, d2, d3⟩⟩ := m
  obtain ⟨kt, kl, kp, ki, ⟨e0, e1, e2, e3⟩, ⟨g0, g1, g2, g3⟩⟩ := o
  have four : ∀ (x0 x1 x2 x3 : Int), (Lit.int .u8 x0).wf = true → (Lit.int .u8 x1).wf = true → (Lit.int .u8 x2).wf = true → (Lit.int .u8 x3).wf = true → Bytes [x0, x1, x2, x3] := by
    intro x0 x1 x2 x3 e0 e1 e2 e3
    refine bytes_of_wf (fun z hz => ?_)
    simp only [List.mem_cons, List.not_mem_nil, or_false] at hz
    rcases hz with rfl | rfl | rfl | rfl <;> assumption
  exact ⟨t, l, p, i, [s0, s1, s2, s3], [d0, d1, d2, d3], rfl, (bounds_u8 kt).1, (bounds_u8 kt).2, (bounds_u8 kl).1, (bounds_u8 kl).2, (bounds_u8 kp).1, (bounds_u8 kp).2, (bounds_u16 ki).1, (bounds_u16 ki).2, rfl, rfl, four _ _ _ _ e0 e1 e2 e3, four _ _ _ _ g0 g1 g2 g3⟩
end Go.Proofs.Ytmeodhdmnoglcaa
