/- seg's calls and the document's, each in one form for all inputs: the face that the laws' walks (Na, Nb, Nd, Ne, Nf, Nm) see. -/
import Derived.Test.YtoakinmgjiklhaaXe
import Derived.Test.YtoakinmgjiklhaaGc
import Derived.Test.YtoakinmgjiklhaaSp
namespace Go.Proofs.Ytoakinmgjiklhaa
open Go.ChangeShapes Go.WideShapes Go.ChangeAt Go.RowKit

theorem wf_u8 {z : Int} (h0 : 0 ≤ z) (h1 : z ≤ 255) : (Lit.int .u8 z).wf = true := by
  have e0 : IntKind.u8.min = 0 := by decide
  have e1 : IntKind.u8.max = 255 := by decide
  simp [Lit.wf, e0, e1]; omega
theorem wf_u16 {z : Int} (h0 : 0 ≤ z) (h1 : z ≤ 65535) : (Lit.int .u16 z).wf = true := by
  have e0 : IntKind.u16.min = 0 := by decide
  have e1 : IntKind.u16.max = 65535 := by decide
  simp [Lit.wf, e0, e1]; omega
theorem wf_u32 {z : Int} (h0 : 0 ≤ z) (h1 : z ≤ 4294967295) : (Lit.int .u32 z).wf = true := by
  have e0 : IntKind.u32.min = 0 := by decide
  have e1 : IntKind.u32.max = 4294967295 := by decide
  simp [Lit.wf, e0, e1]; omega
theorem bounds32 {z : Int} (h : (Lit.int .u32 z).wf = true) : 0 ≤ z ∧ z ≤ 4294967295 := by
  have e0 : IntKind.u32.min = 0 := by decide
  have e1 : IntKind.u32.max = 4294967295 := by decide
  simpa [Lit.wf, e0, e1] using h

theorem kl_sg {sp dp sq ak fl wn : Int} (h : Sg sp dp sq ak fl wn) : Try.prog.keyLits 3 25 (sgC sp dp sq ak fl wn) = some ([([Value.int .u16 sp], [Lit.int .u16 sp]), ([Value.int .u16 dp], [Lit.int .u16 dp]), ([Value.int .u32 sq], [Lit.int .u32 sq]), ([Value.int .u32 ak], [Lit.int .u32 ak]), ([Value.int .u8 fl], [Lit.int .u8 fl]), ([Value.int .u16 wn], [Lit.int .u16 wn])].map (·.2)).flatten := by
  refine kl_struct (d := 2) Try.underlying25 (by kernel_rfl) _ _ (by simp [sgC]) (by kernel_rfl) rfl (fun j f q hf hq => ?_)
  match j, hf, hq with
  | 0, hf, hq =>
    cases hf; cases hq
    exact ⟨rfl, by kernel_rfl, kl_int Try.underlying22 1 sp (wf_u16 h.s0 h.s1)⟩
  | 1, hf, hq =>
    cases hf; cases hq
    exact ⟨rfl, by kernel_rfl, kl_int Try.underlying22 1 dp (wf_u16 h.d0 h.d1)⟩
  | 2, hf, hq =>
    cases hf; cases hq
    exact ⟨rfl, by kernel_rfl, kl_int Try.underlying23 1 sq (wf_u32 h.q0 h.q1)⟩
  | 3, hf, hq =>
    cases hf; cases hq
    exact ⟨rfl, by kernel_rfl, kl_int Try.underlying23 1 ak (wf_u32 h.a0 h.a1)⟩
  | 4, hf, hq =>
    cases hf; cases hq
    exact ⟨rfl, by kernel_rfl, kl_int Try.underlying5 1 fl (wf_u8 h.f0 h.f1)⟩
  | 5, hf, hq =>
    cases hf; cases hq
    exact ⟨rfl, by kernel_rfl, kl_int Try.underlying22 1 wn (wf_u16 h.w0 h.w1)⟩
  | j + 6, hf, hq => simp at hq

/-- Cells that are a header's. -/
def Hd (L : List Value) : Prop := ∃ sp dp sq ak fl wn, L = sgC sp dp sq ak fl wn ∧ Sg sp dp sq ak fl wn

theorem hd_len {L : List Value} (h : Hd L) : L.length = 6 := by obtain ⟨sp, dp, sq, ak, fl, wn, rfl, _⟩ := h; rfl
theorem hd_one {L : List Value} (h : Hd L) : L.toArray.all (·.oneCell') = true := by
  obtain ⟨sp, dp, sq, ak, fl, wn, rfl, _⟩ := h
  exact sgC_one _ _ _ _ _ _
theorem hd_eq {L : List Value} (h : Hd L) (w : World) : (Op.equalIn 10000 25 (.agg L.toArray) (.agg L.toArray)).run Try.prog w = .ok true w := by
  obtain ⟨sp, dp, sq, ak, fl, wn, rfl, h⟩ := h
  exact equal_same 3 (by omega) (by kernel_rfl) (by simp only [Value.formed, Try.underlying25]; kernel_rfl) 3 (kl_sg h) w
theorem hd_0 : Hd hd0 := ⟨0, 0, 0, 0, 0, 0, rfl, by omega, by omega, by omega, by omega, by omega, by omega, by omega, by omega, by omega, by omega, by omega, by omega⟩

/-- Check's answer, of cells. -/
def ckE : List Value → Int
  | [.int _ _, .int _ _, .int _ _, .int _ _, .int _ fl, .int _ _] => sgE fl
  | _ => 0
/-- A header's bytes, of cells, ahead of a payload. -/
def hdB : List Value → List Int → List Int
  | [.int _ sp, .int _ dp, .int _ sq, .int _ ak, .int _ fl, .int _ wn], ys => sgB sp dp sq ak fl wn (sgF sp dp sq ak fl wn ys)
  | _, _ => []
/-- Bytes' answer. -/
def byE (L : List Value) (ys : List Int) : Int := if ckE L = 0 then (if ys.length ≤ 2028 then 0 else 5) else ckE L
def byB (L : List Value) (ys : List Int) : List Int := if byE L ys = 0 then hdB L ys else []
/-- Read's answer. -/
def rdE (zs : List Int) : Int := if zs.length < 20 then 6 else if rdQ zs then (if rdV zs 16 = rdF zs then 0 else 110) else 90
def rdL (zs : List Int) : List Value := if rdE zs = 0 then rdC zs else hd0

theorem h_check (L : List Value) (w : World) (h : Hd L) : Calls Try.prog 11 #[.agg L.toArray] w fun e w' => e = .returned (.int .i64 (ckE L)) ∧ Below w.heap.size w w' := by
  obtain ⟨sp, dp, sq, ak, fl, wn, rfl, h⟩ := h
  exact lcheck_any _ fl w rfl
theorem h_rcheck (L : List Value) (w : World) (h : Hd L) : Calls Try.prog 12 #[.agg L.toArray] w fun e w' => e = .returned (.int .i64 (ckE L)) ∧ Below w.heap.size w w' := by
  obtain ⟨sp, dp, sq, ak, fl, wn, rfl, h⟩ := h
  exact rcheck_any _ fl w rfl

theorem h_bytes (L : List Value) (a : Option Addr) (n c : Nat) (ys : List Int) (w : World) (h : Hd L) (hy : ys.length = n) (hB : Bs w a ys) :
    Calls Try.prog 9 #[.agg L.toArray, .slice a n c] w fun e w' => ∃ v, e = .returned (.tuple #[v, .int .i64 (byE L ys)]) ∧ w'.ownsRow w.heap.size 5 1 v (byB L ys).length ((byB L ys).map (Value.int .u8)) ∧ Below w.heap.size w w' := by
  have hl := hB.len
  obtain ⟨sp, dp, sq, ak, fl, wn, rfl, h⟩ := h
  rw [hy] at hl
  by_cases hc : fl ≤ 63
  · have e0 : ckE (sgC sp dp sq ak fl wn) = 0 := by show sgE fl = 0; unfold sgE; rw [if_pos hc]
    by_cases hn : n ≤ 2028
    · have e1 : byE (sgC sp dp sq ak fl wn) ys = 0 := by unfold byE; rw [if_pos e0, hy, if_pos hn]
      unfold byB
      rw [e1, if_pos rfl]
      exact lbytes_ok sp dp sq ak fl wn a n c ys w h hc hn hy hB
    · have e1 : byE (sgC sp dp sq ak fl wn) ys = 5 := by unfold byE; rw [if_pos e0, hy, if_neg hn]
      unfold byB
      rw [e1, if_neg (by omega)]
      refine (lbytes_no _ fl a n c w rfl rfl hc hn hl).mono ?_
      rintro e w' ⟨rfl, b⟩
      exact ⟨_, rfl, World.ownsRow_nil _ _ _ _, b⟩
  · have e0 : ckE (sgC sp dp sq ak fl wn) = 90 := by show sgE fl = 90; unfold sgE; rw [if_neg hc]
    have e1 : byE (sgC sp dp sq ak fl wn) ys = 90 := by unfold byE; rw [e0, if_neg (by omega)]
    unfold byB
    rw [e1, if_neg (by omega)]
    refine (lbytes_bad _ fl a n c w rfl rfl hc).mono ?_
    rintro e w' ⟨rfl, b⟩
    exact ⟨_, rfl, World.ownsRow_nil _ _ _ _, b⟩

theorem h_rbytes (L : List Value) (a : Option Addr) (n c : Nat) (ys : List Int) (w : World) (h : Hd L) (hy : ys.length = n) (hB : Bs w a ys) :
    Calls Try.prog 10 #[.agg L.toArray, .slice a n c] w fun e w' => ∃ v, e = .returned (.tuple #[v, .int .i64 (byE L ys)]) ∧ w'.ownsRow w.heap.size 5 1 v (byB L ys).length ((byB L ys).map (Value.int .u8)) ∧ Below w.heap.size w w' := by
  have hl := hB.len
  obtain ⟨sp, dp, sq, ak, fl, wn, rfl, h⟩ := h
  rw [hy] at hl
  by_cases hc : fl ≤ 63
  · have e0 : ckE (sgC sp dp sq ak fl wn) = 0 := by show sgE fl = 0; unfold sgE; rw [if_pos hc]
    by_cases hn : n ≤ 2028
    · have e1 : byE (sgC sp dp sq ak fl wn) ys = 0 := by unfold byE; rw [if_pos e0, hy, if_pos hn]
      unfold byB
      rw [e1, if_pos rfl]
      exact rbytes_ok sp dp sq ak fl wn a n c ys w h hc hn hy hB
    · have e1 : byE (sgC sp dp sq ak fl wn) ys = 5 := by unfold byE; rw [if_pos e0, hy, if_neg hn]
      unfold byB
      rw [e1, if_neg (by omega)]
      refine (rbytes_no _ fl a n c w rfl rfl hc hn hl).mono ?_
      rintro e w' ⟨rfl, b⟩
      exact ⟨_, rfl, World.ownsRow_nil _ _ _ _, b⟩
  · have e0 : ckE (sgC sp dp sq ak fl wn) = 90 := by show sgE fl = 90; unfold sgE; rw [if_neg hc]
    have e1 : byE (sgC sp dp sq ak fl wn) ys = 90 := by unfold byE; rw [e0, if_neg (by omega)]
    unfold byB
    rw [e1, if_neg (by omega)]
    refine (rbytes_bad _ fl a n c w rfl rfl hc).mono ?_
    rintro e w' ⟨rfl, b⟩
    exact ⟨_, rfl, World.ownsRow_nil _ _ _ _, b⟩

theorem bs_some {w : World} {a : Option Addr} {zs : List Int} (h : Bs w a zs) (hp : 0 < zs.length) : ∃ b off, a = some ⟨b, off, none⟩ := by
  rcases h.lies with h0 | ⟨b, off, e, _⟩
  · omega
  · exact ⟨b, off, e⟩

theorem h_read (a : Option Addr) (n c : Nat) (zs : List Int) (w : World) (hz : zs.length = n) (hB : Bs w a zs) (hc : n ≤ c) :
    Calls Try.prog 17 #[.slice a n c] w fun e w' => e = .returned (.tuple #[.agg (rdL zs).toArray, .int .i64 (rdE zs)]) ∧ Below w.heap.size w w' := by
  by_cases hn : n < 20
  · have e1 : rdE zs = 6 := by unfold rdE; rw [if_pos (by rw [hz]; exact hn)]
    unfold rdL
    rw [e1, if_neg (by omega)]
    exact lread_short a n c w hn
  · obtain ⟨b, off, rfl⟩ := bs_some hB (by omega)
    by_cases hq : rdQ zs
    · by_cases hf : rdV zs 16 = rdF zs
      · have e1 : rdE zs = 0 := by unfold rdE; rw [if_neg (by rw [hz]; exact hn), if_pos hq, if_pos hf]
        unfold rdL
        rw [e1, if_pos rfl]
        exact lread_ok b off n c zs w hz hB (by omega) hc hq hf
      · have e1 : rdE zs = 110 := by unfold rdE; rw [if_neg (by rw [hz]; exact hn), if_pos hq, if_neg hf]
        unfold rdL
        rw [e1, if_neg (by omega)]
        exact lread_sum b off n c zs w hz hB (by omega) hc hq hf
    · have e1 : rdE zs = 90 := by unfold rdE; rw [if_neg (by rw [hz]; exact hn), if_neg hq]
      unfold rdL
      rw [e1, if_neg (by omega)]
      exact lread_bad b off n c zs w hz hB (by omega) hq

theorem h_rread (a : Option Addr) (n c : Nat) (zs : List Int) (w : World) (hz : zs.length = n) (hB : Bs w a zs) (_hc : n ≤ c) :
    Calls Try.prog 18 #[.slice a n c] w fun e w' => e = .returned (.tuple #[.agg (rdL zs).toArray, .int .i64 (rdE zs)]) ∧ Below w.heap.size w w' := by
  by_cases hn : n < 20
  · have e1 : rdE zs = 6 := by unfold rdE; rw [if_pos (by rw [hz]; exact hn)]
    unfold rdL
    rw [e1, if_neg (by omega)]
    exact rread_short a n c w hn
  · obtain ⟨b, off, rfl⟩ := bs_some hB (by omega)
    by_cases hq : rdQ zs
    · by_cases hf : rdV zs 16 = rdF zs
      · have e1 : rdE zs = 0 := by unfold rdE; rw [if_neg (by rw [hz]; exact hn), if_pos hq, if_pos hf]
        unfold rdL
        rw [e1, if_pos rfl]
        exact rread_ok b off n c zs w hz hB (by omega) hq hf
      · have e1 : rdE zs = 110 := by unfold rdE; rw [if_neg (by rw [hz]; exact hn), if_pos hq, if_neg hf]
        unfold rdL
        rw [e1, if_neg (by omega)]
        exact rread_sum b off n c zs w hz hB (by omega) hq hf
    · have e1 : rdE zs = 90 := by unfold rdE; rw [if_neg (by rw [hz]; exact hn), if_neg hq]
      unfold rdL
      rw [e1, if_neg (by omega)]
      exact rread_bad b off n c zs w hz hB (by omega) hq

-- what is told of bytes and headers, as mathematics
theorem rdE_zero {zs : List Int} (h : rdE zs = 0) : 20 ≤ zs.length ∧ rdQ zs ∧ rdV zs 16 = rdF zs := by
  unfold rdE at h
  split at h
  · omega
  · split at h
    · split at h
      · exact ⟨by omega, by assumption, by assumption⟩
      · omega
    · omega

theorem sg_of {zs : List Int} (hb : Bytes zs) (hq : rdQ zs) : Sg (rdV zs 0) (rdV zs 2) (rdW zs 4) (rdW zs 8) (rdV zs 12 - 20480) (rdV zs 14) := by
  obtain ⟨⟨q1, q2⟩, -⟩ := hq
  exact ⟨(rdV_bd hb 0).1, (rdV_bd hb 0).2, (rdV_bd hb 2).1, (rdV_bd hb 2).2, (rdW_bd hb 4).1, (rdW_bd hb 4).2, (rdW_bd hb 8).1, (rdW_bd hb 8).2, by omega, by omega, (rdV_bd hb 14).1, (rdV_bd hb 14).2⟩

theorem hd_rd {zs : List Int} (h : Bytes zs) : Hd (rdL zs) := by
  unfold rdL
  split
  · rename_i he
    exact ⟨_, _, _, _, _, _, rfl, sg_of h (rdE_zero he).2.1⟩
  · exact hd_0

theorem sgE_le {fl : Int} (h : sgE fl = 0) : fl ≤ 63 := by
  unfold sgE at h
  split at h
  · assumption
  · omega

theorem byE_zero {L : List Value} {ys : List Int} (h : byE L ys = 0) : ckE L = 0 ∧ ys.length ≤ 2028 := by
  unfold byE at h
  split at h
  · split at h
    · exact ⟨by assumption, by assumption⟩
    · omega
  · contradiction

theorem byB_bytes {L : List Value} {ys : List Int} (h : Hd L) (_hy : Bytes ys) : Bytes (byB L ys) := by
  unfold byB
  split
  · obtain ⟨sp, dp, sq, ak, fl, wn, rfl, h⟩ := h
    have hf := sgF_bd sp dp sq ak fl wn ys
    exact sgB_bytes h hf.1 hf.2
  · intro z hz; simp at hz

theorem byB_le {L : List Value} {ys : List Int} (h : Hd L) : (byB L ys).length ≤ 20 := by
  obtain ⟨sp, dp, sq, ak, fl, wn, rfl, h⟩ := h
  unfold byB
  split
  · exact Nat.le_refl _
  · simp

theorem m_back {L : List Value} {ys : List Int} (h : Hd L) (_hy : Bytes ys) (he : byE L ys = 0) : (byB L ys).length = 20 ∧ rdL (byB L ys ++ ys) = L ∧ rdE (byB L ys ++ ys) = 0 ∧ ckE L = 0 := by
  have hc := (byE_zero he).1
  obtain ⟨sp, dp, sq, ak, fl, wn, rfl, h⟩ := h
  have hfl := sgE_le hc
  have hF := sgF_bd sp dp sq ak fl wn ys
  have e : byB (sgC sp dp sq ak fl wn) ys = sgB sp dp sq ak fl wn (sgF sp dp sq ak fl wn ys) := by unfold byB; rw [if_pos he]; rfl
  rw [e]
  have eF : rdF (sgB sp dp sq ak fl wn (sgF sp dp sq ak fl wn ys) ++ ys) = sgF sp dp sq ak fl wn ys := by
    unfold rdF
    rw [zf_sgB, List.length_append, sgB_length]; rfl
  generalize sgF sp dp sq ak fl wn ys = F at *
  obtain ⟨s0, s1, d0, d1, q0, q1, a0, a1, f0, f1, w0, w1⟩ := h
  have e12 : rdV (sgB sp dp sq ak fl wn F ++ ys) 12 = 20480 + fl := by
    show 80 * 256 + fl = _
    omega
  have e18 : rdV (sgB sp dp sq ak fl wn F ++ ys) 18 = 0 := rfl
  have e16 : rdV (sgB sp dp sq ak fl wn F ++ ys) 16 = F := by
    show F / 256 * 256 + F % 256 = F
    omega
  have e0 : rdV (sgB sp dp sq ak fl wn F ++ ys) 0 = sp := by
    show sp / 256 * 256 + sp % 256 = sp
    omega
  have e2 : rdV (sgB sp dp sq ak fl wn F ++ ys) 2 = dp := by
    show dp / 256 * 256 + dp % 256 = dp
    omega
  have e14 : rdV (sgB sp dp sq ak fl wn F ++ ys) 14 = wn := by
    show wn / 256 * 256 + wn % 256 = wn
    omega
  have e4 : rdW (sgB sp dp sq ak fl wn F ++ ys) 4 = sq := by
    show (sq / 65536 / 256 * 256 + sq / 65536 % 256) * 65536 + (sq % 65536 / 256 * 256 + sq % 65536 % 256) = sq
    omega
  have e8 : rdW (sgB sp dp sq ak fl wn F ++ ys) 8 = ak := by
    show (ak / 65536 / 256 * 256 + ak / 65536 % 256) * 65536 + (ak % 65536 / 256 * 256 + ak % 65536 % 256) = ak
    omega
  have eE : rdE (sgB sp dp sq ak fl wn F ++ ys) = 0 := by
    unfold rdE
    rw [if_neg (by rw [List.length_append, sgB_length]; omega), if_pos ⟨by rw [e12]; omega, e18⟩, if_pos (by rw [e16, eF])]
  refine ⟨rfl, ?_, eE, hc⟩
  unfold rdL
  rw [if_pos eE]
  unfold rdC
  rw [e0, e2, e4, e8, e12, e14, show 20480 + fl - 20480 = fl by omega]

theorem m_no {L : List Value} {ys : List Int} (he : ¬ byE L ys = 0) (hc : ckE L = 0) : ¬ ys.length ≤ 2028 := by
  intro hl
  apply he
  unfold byE
  rw [if_pos hc, if_pos hl]

theorem m_none {zs : List Int} (h : ¬ rdE zs = 0) : rdL zs = hd0 := by unfold rdL; rw [if_neg h]

theorem m_short {zs : List Int} (h : zs.length < 20) : rdE zs = 6 := by unfold rdE; rw [if_pos h]

theorem m_again {zs : List Int} (hb : Bytes zs) (he : rdE zs = 0) (hl : zs.length ≤ 2048) : 20 ≤ zs.length ∧ byE (rdL zs) (zs.drop 20) = 0 ∧ byB (rdL zs) (zs.drop 20) = zs.take 20 := by
  obtain ⟨h20, hq, hf⟩ := rdE_zero he
  have e0 : rdL zs = rdC zs := by unfold rdL; rw [if_pos he]
  have e1 : byE (rdL zs) (zs.drop 20) = 0 := by
    rw [e0]
    unfold byE
    have hc : ckE (rdC zs) = 0 := by
      obtain ⟨⟨q1, q2⟩, -⟩ := hq
      show sgE (rdV zs 12 - 20480) = 0
      unfold sgE; rw [if_pos (by omega)]
    rw [if_pos hc, if_pos (by rw [List.length_drop]; omega)]
  refine ⟨h20, e1, ?_⟩
  unfold byB
  rw [if_pos e1, e0]
  show sgB (rdV zs 0) (rdV zs 2) (rdW zs 4) (rdW zs 8) (rdV zs 12 - 20480) (rdV zs 14) (sgF (rdV zs 0) (rdV zs 2) (rdW zs 4) (rdW zs 8) (rdV zs 12 - 20480) (rdV zs 14) (zs.drop 20)) = _
  have hq' := (rdQ_iff hb).1 hq
  have eB : ∀ f : Int, sgB (rdV zs 0) (rdV zs 2) (rdW zs 4) (rdW zs 8) (rdV zs 12 - 20480) (rdV zs 14) f = ((zs.take 20).set 16 (f / 256)).set 17 (f % 256) := by
    intro f
    match zs, hb, h20 with
    | z0 :: z1 :: z2 :: z3 :: z4 :: z5 :: z6 :: z7 :: z8 :: z9 :: z10 :: z11 :: z12 :: z13 :: z14 :: z15 :: z16 :: z17 :: z18 :: z19 :: r, hb, _ =>
      have k0 := hb z0 (by simp)
      have k1 := hb z1 (by simp)
      have k2 := hb z2 (by simp)
      have k3 := hb z3 (by simp)
      have k4 := hb z4 (by simp)
      have k5 := hb z5 (by simp)
      have k6 := hb z6 (by simp)
      have k7 := hb z7 (by simp)
      have k8 := hb z8 (by simp)
      have k9 := hb z9 (by simp)
      have k10 := hb z10 (by simp)
      have k11 := hb z11 (by simp)
      have k14 := hb z14 (by simp)
      have k15 := hb z15 (by simp)
      simp at hq'
      simp [sgB, rdV, rdW]
      omega
  have eF : sgF (rdV zs 0) (rdV zs 2) (rdW zs 4) (rdW zs 8) (rdV zs 12 - 20480) (rdV zs 14) (zs.drop 20) = rdV zs 16 := by
    unfold sgF
    rw [eB 0, hf]
    unfold rdF
    have e : ((zs.take 20).set 16 (0 / 256)).set 17 (0 % 256) ++ zs.drop 20 = zf zs := by
      match zs, h20 with
      | z0 :: z1 :: z2 :: z3 :: z4 :: z5 :: z6 :: z7 :: z8 :: z9 :: z10 :: z11 :: z12 :: z13 :: z14 :: z15 :: z16 :: z17 :: z18 :: z19 :: r, _ => rfl
    rw [e, List.length_drop, show 20 + (zs.length - 20) = zs.length by omega]
  rw [eF, eB]
  match zs, hb, h20 with
  | z0 :: z1 :: z2 :: z3 :: z4 :: z5 :: z6 :: z7 :: z8 :: z9 :: z10 :: z11 :: z12 :: z13 :: z14 :: z15 :: z16 :: z17 :: z18 :: z19 :: r, hb, _ =>
    have k16 := hb z16 (by simp)
    have k17 := hb z17 (by simp)
    simp [rdV]
    omega

-- one byte turned
theorem zf_set_in (zs : List Int) {k : Nat} (y : Int) (h : k = 16 ∨ k = 17) : zf (zs.set k y) = zf zs := by
  unfold zf
  rcases h with rfl | rfl
  · rw [List.set_set]
  · rw [List.set_comm _ _ (by decide : (17 : Nat) ≠ 16), List.set_set]
theorem zf_set_out (zs : List Int) {k : Nat} (y : Int) (h0 : k ≠ 16) (h1 : k ≠ 17) : zf (zs.set k y) = (zf zs).set k y := by
  unfold zf
  rw [List.set_comm _ _ h0, List.set_comm _ _ h1]
theorem zf_getD (zs : List Int) {k : Nat} (h0 : k ≠ 16) (h1 : k ≠ 17) : (zf zs).getD k 0 = zs.getD k 0 := by
  unfold zf
  rw [List.getD_eq_getElem?_getD, List.getElem?_set_ne (Ne.symm h1), List.getElem?_set_ne (Ne.symm h0), List.getD_eq_getElem?_getD]
theorem getD_set (zs : List Int) (k j : Nat) (y : Int) (hk : k < zs.length) : (zs.set k y).getD j 0 = if j = k then y else zs.getD j 0 := by
  by_cases e : j = k
  · subst e
    rw [if_pos rfl, List.getD_eq_getElem?_getD, List.getElem?_set_self hk]; rfl
  · rw [if_neg e, List.getD_eq_getElem?_getD, List.getElem?_set_ne (Ne.symm e), List.getD_eq_getElem?_getD]

/-- A header that is read is read no more with one byte of it or of its payload turned. -/
theorem rd_turned {zs : List Int} (hb : Bytes zs) (he : rdE zs = 0) (k : Nat) (hk : k < zs.length) (y : Int) (y0 : 0 ≤ y) (y1 : y ≤ 255) (hne : ¬ y = zs.getD k 0) : ¬ rdE (zs.set k y) = 0 := by
  intro h'
  obtain ⟨h20, hq, hf⟩ := rdE_zero he
  obtain ⟨-, hr, hg⟩ := rdE_zero h'
  have hbs := bytes_set hb k y y0 y1
  obtain ⟨⟨q12, q13⟩, q18, q19⟩ := (rdQ_iff hb).1 hq
  obtain ⟨⟨r12, r13⟩, r18, r19⟩ := (rdQ_iff hbs).1 hr
  have G : ∀ j, (zs.set k y).getD j 0 = if j = k then y else zs.getD j 0 := fun j => getD_set zs k j y hk
  unfold rdV at hf hg
  rw [G, G] at hg
  have b5 := hb.getD 16
  have b6 := hb.getD 17
  by_cases hin : k = 16 ∨ k = 17
  · have e : rdF (zs.set k y) = rdF zs := by unfold rdF; rw [zf_set_in zs y hin, List.length_set]
    rw [e, ← hf] at hg
    rcases hin with rfl | rfl
    · simp at hg hne; omega
    · simp at hg hne; omega
  · have h0 : k ≠ 16 := fun e => hin (.inl e)
    have h1 : k ≠ 17 := fun e => hin (.inr e)
    rw [if_neg (Ne.symm h0), if_neg (Ne.symm h1)] at hg
    have e : rdF (zs.set k y) = rdF zs := by rw [← hg, ← hf]
    have hp : 0 < tot (zf zs) zs.length := by
      have := tot_ge_at (zf_bytes hb) 12 zs.length (by omega)
      rw [zf_getD zs (by omega) (by omega), q12, wt_even 12 rfl] at this
      omega
    have hp' : 0 < tot (zf (zs.set k y)) zs.length := by
      have := tot_ge_at (zf_bytes hbs) 12 zs.length (by omega)
      rw [zf_getD _ (by omega) (by omega), r12, wt_even 12 rfl] at this
      omega
    unfold rdF su at e
    rw [List.length_set] at e
    rw [zf_set_out zs y h0 h1, tot_set _ _ _ _ (by rw [zf_length]; exact hk), if_pos hk, zf_getD zs h0 h1] at e hp'
    have bk := hb.getD k
    generalize zs.getD k 0 = x at *
    have hw : wt k = 256 ∨ wt k = 1 := by unfold wt; split <;> simp
    rcases hw with hw | hw
    · rw [hw] at e hp'
      exact fo_turn (tot (zf zs) zs.length) _ ((y - x) * 256) hp hp' rfl (by omega) (by omega) (by omega) (by omega)
    · rw [hw] at e hp'
      exact fo_turn (tot (zf zs) zs.length) _ ((y - x) * 1) hp hp' rfl (by omega) (by omega) (by omega) (by omega)

theorem m_turned {L : List Value} {ys : List Int} (h : Hd L) (hy : Bytes ys) (he : byE L ys = 0) (k : Nat) (hk : k < 20 + ys.length) (y : Int) (y0 : 0 ≤ y) (y1 : y ≤ 255) (hne : ¬ y = (byB L ys ++ ys).getD k 0) : ¬ rdE ((byB L ys ++ ys).set k y) = 0 :=
  rd_turned (bytes_append (byB_bytes h hy) hy) (m_back h hy he).2.2.1 k (by rw [List.length_append, (m_back h hy he).1]; exact hk) y y0 y1 hne

-- the chapter's header
def uL : List Value := sgC 80 1024 1 0 2 512
def uY : List Int := [1]
def uB : List Int := [0, 80, 4, 0, 0, 0, 0, 1, 0, 0, 0, 0, 80, 2, 2, 0, 168, 172, 0, 0]
theorem hd_u : Hd uL := ⟨80, 1024, 1, 0, 2, 512, rfl, by omega, by omega, by omega, by omega, by omega, by omega, by omega, by omega, by omega, by omega, by omega, by omega⟩
theorem uY_bytes : Bytes uY := fun z hz => by simp [uY] at hz; omega
theorem by_u : byE uL uY = 0 ∧ byB uL uY = uB := by decide +kernel

theorem uB_by : Bytes uB := by rw [← by_u.2]; exact byB_bytes hd_u uY_bytes

theorem heap3_0 (w : World) (a b c : Obj) : (((w.alloc a).alloc b).alloc c).heap[w.heap.size]? = some a := (Below.heap_alloc ((w.alloc a).alloc b) c _ (by simp; omega)).trans (heap_alloc2_old w a b)
theorem heap3_1 (w : World) (a b c : Obj) : (((w.alloc a).alloc b).alloc c).heap[w.heap.size + 1]? = some b := (Below.heap_alloc ((w.alloc a).alloc b) c _ (by simp)).trans (heap_alloc2_new w a b)
theorem heap3_2 (w : World) (a b c : Obj) : (((w.alloc a).alloc b).alloc c).heap[w.heap.size + 1 + 1]? = some c := by
  have h := heap_alloc_new ((w.alloc a).alloc b) c
  rw [show ((w.alloc a).alloc b).heap.size = w.heap.size + 1 + 1 by simp] at h
  exact h
theorem below3 (w : World) (a b c : Obj) : Below w.heap.size w (((w.alloc a).alloc b).alloc c) := (((Below.refl _ _).alloc (Nat.le_refl _) _).alloc (by simp) _).alloc (by simp; omega) _

set_option maxHeartbeats 1000000 in
theorem usual_any (w : World) : Calls Try.prog 21 #[] w fun e w' => ∃ g pa pc, e = .returned (.tuple #[.agg uL.toArray, .slice pa uY.length pc, .slice (some ⟨g, 0, none⟩) 20 20]) ∧ Bs w' pa uY ∧ (pa = none → pc = 0) ∧ uY.length ≤ pc ∧ Bs w' (some ⟨g, 0, none⟩) uB ∧ Below w.heap.size w w' := by
  go_enter Try.func21, Try.ntmps21
  go_wp2_with fail
  refine ret_cell_tmp2 rfl w.heap.size 25 uL (0, 0) _ rfl (heap3_0 w _ _ _) Try.underlying25 rfl info_hd rfl ?_
  exact ⟨w.heap.size + 1 + 1, some ⟨w.heap.size + 1, 0, none⟩, 1, rfl, bs_block (A := []) (D := []) (zs := uY) (heap3_1 w _ _ _) 0 rfl uY_bytes (by simp [uY]), (fun e => by cases e), Nat.le_refl _, bs_block (A := []) (D := []) (zs := uB) (heap3_2 w _ _ _) 0 rfl uB_by (by simp [uB]), below3 w _ _ _⟩

-- a header that may not be
def badL : List Value := sgC 0 0 0 0 64 0
theorem hd_bad : Hd badL := ⟨0, 0, 0, 0, 64, 0, rfl, by omega, by omega, by omega, by omega, by omega, by omega, by omega, by omega, by omega, by omega, by omega, by omega⟩
theorem ck_bad : ckE badL = 90 := by decide

/-- A header that came in. -/
theorem hd_open (W : World) (m : sh25.M) (o : sh25.ok W m) : Hd (sh25.cs m) := by
  obtain ⟨sp, dp, sq, ak, fl, wn⟩ := m
  obtain ⟨k0, k1, k2, k3, k4, k5⟩ := o
  exact ⟨sp, dp, sq, ak, fl, wn, rfl, (bounds_u16 k0).1, (bounds_u16 k0).2, (bounds_u16 k1).1, (bounds_u16 k1).2, (bounds32 k2).1, (bounds32 k2).2, (bounds32 k3).1, (bounds32 k3).2, (bounds_u8 k4).1, (bounds_u8 k4).2, (bounds_u16 k5).1, (bounds_u16 k5).2⟩
end Go.Proofs.Ytoakinmgjiklhaa
