/- dgram's calls and the document's, each in one form for all inputs: the face that the laws' walks (Na, Nb, Nd, Ne, Nm) see. -/
import Derived.Test.YtbbnoogkgobeoaaYe
import Derived.Test.YtbbnoogkgobeoaaGc
import Derived.Test.YtbbnoogkgobeoaaSp
namespace Go.Proofs.Ytbbnoogkgobeoaa
open Go.ChangeShapes Go.WideShapes Go.ChangeAt Go.RowKit

theorem wf_u16 {z : Int} (h0 : 0 ≤ z) (h1 : z ≤ 65535) : (Lit.int .u16 z).wf = true := by
  have e0 : IntKind.u16.min = 0 := by decide
  have e1 : IntKind.u16.max = 65535 := by decide
  simp [Lit.wf, e0, e1]; omega

theorem kl_dg {sp dp : Int} (h : Dg sp dp) : Try.prog.keyLits 3 24 (dgC sp dp) = some ([([Value.int .u16 sp], [Lit.int .u16 sp]), ([Value.int .u16 dp], [Lit.int .u16 dp])].map (·.2)).flatten := by
  refine kl_struct (d := 2) Try.underlying24 (by kernel_rfl) _ _ (by simp [dgC]) (by kernel_rfl) rfl (fun j f q hf hq => ?_)
  match j, hf, hq with
  | 0, hf, hq =>
    cases hf; cases hq
    exact ⟨rfl, by kernel_rfl, kl_int Try.underlying22 1 sp (wf_u16 h.s0 h.s1)⟩
  | 1, hf, hq =>
    cases hf; cases hq
    exact ⟨rfl, by kernel_rfl, kl_int Try.underlying22 1 dp (wf_u16 h.d0 h.d1)⟩
  | j + 2, hf, hq => simp at hq

/-- Cells that are a header's. -/
def Hd (L : List Value) : Prop := ∃ sp dp, L = dgC sp dp ∧ Dg sp dp

theorem hd_len {L : List Value} (h : Hd L) : L.length = 2 := by obtain ⟨sp, dp, rfl, _⟩ := h; rfl
theorem hd_one {L : List Value} (h : Hd L) : L.toArray.all (·.oneCell') = true := by
  obtain ⟨sp, dp, rfl, _⟩ := h
  exact dgC_one _ _
theorem hd_eq {L : List Value} (h : Hd L) (w : World) : (Op.equalIn 10000 24 (.agg L.toArray) (.agg L.toArray)).run Try.prog w = .ok true w := by
  obtain ⟨sp, dp, rfl, h⟩ := h
  exact equal_same 3 (by omega) (by kernel_rfl) (by simp only [Value.formed, Try.underlying24]; kernel_rfl) 3 (kl_dg h) w
theorem hd_0 : Hd hd0 := ⟨0, 0, rfl, by omega, by omega, by omega, by omega⟩

/-- Check's answer, of cells. -/
def ckE (_L : List Value) : Int := 0
/-- A header's bytes, of cells, ahead of a payload. -/
def hdB : List Value → List Int → List Int
  | [.int _ sp, .int _ dp], ys => dgB sp dp ys.length (dgF sp dp ys)
  | _, _ => []
/-- Bytes' answer. -/
def byE (_L : List Value) (ys : List Int) : Int := if ys.length ≤ 2040 then 0 else 5
def byB (L : List Value) (ys : List Int) : List Int := if byE L ys = 0 then hdB L ys else []
/-- Read's answer. -/
def rdE (zs : List Int) : Int := if zs.length < 8 then 6 else if rdQ zs then (if rdV zs 6 = rdF zs then 0 else 110) else 100
def rdL (zs : List Int) : List Value := if rdE zs = 0 then rdC zs else hd0

theorem h_check (L : List Value) (w : World) (_h : Hd L) : Calls Try.prog 11 #[.agg L.toArray] w fun e w' => e = .returned (.int .i64 (ckE L)) ∧ Below w.heap.size w w' := lcheck_any L w
theorem h_rcheck (L : List Value) (w : World) (_h : Hd L) : Calls Try.prog 12 #[.agg L.toArray] w fun e w' => e = .returned (.int .i64 (ckE L)) ∧ Below w.heap.size w w' := rcheck_any L w

theorem h_bytes (L : List Value) (a : Option Addr) (n c : Nat) (ys : List Int) (w : World) (h : Hd L) (hy : ys.length = n) (hB : Bs w a ys) :
    Calls Try.prog 9 #[.agg L.toArray, .slice a n c] w fun e w' => ∃ v, e = .returned (.tuple #[v, .int .i64 (byE L ys)]) ∧ w'.ownsRow w.heap.size 5 1 v (byB L ys).length ((byB L ys).map (Value.int .u8)) ∧ Below w.heap.size w w' := by
  have hl := hB.len
  obtain ⟨sp, dp, rfl, h⟩ := h
  rw [hy] at hl
  by_cases hn : n ≤ 2040
  · have e1 : byE (dgC sp dp) ys = 0 := by unfold byE; rw [hy, if_pos hn]
    unfold byB
    rw [e1, if_pos rfl]
    exact lbytes_ok sp dp a n c ys w h hn hy hB
  · have e1 : byE (dgC sp dp) ys = 5 := by unfold byE; rw [hy, if_neg hn]
    unfold byB
    rw [e1, if_neg (by omega)]
    refine (lbytes_no _ a n c w rfl hn hl).mono ?_
    rintro e w' ⟨rfl, b⟩
    exact ⟨_, rfl, World.ownsRow_nil _ _ _ _, b⟩

theorem h_rbytes (L : List Value) (a : Option Addr) (n c : Nat) (ys : List Int) (w : World) (h : Hd L) (hy : ys.length = n) (hB : Bs w a ys) :
    Calls Try.prog 10 #[.agg L.toArray, .slice a n c] w fun e w' => ∃ v, e = .returned (.tuple #[v, .int .i64 (byE L ys)]) ∧ w'.ownsRow w.heap.size 5 1 v (byB L ys).length ((byB L ys).map (Value.int .u8)) ∧ Below w.heap.size w w' := by
  have hl := hB.len
  obtain ⟨sp, dp, rfl, h⟩ := h
  rw [hy] at hl
  by_cases hn : n ≤ 2040
  · have e1 : byE (dgC sp dp) ys = 0 := by unfold byE; rw [hy, if_pos hn]
    unfold byB
    rw [e1, if_pos rfl]
    exact rbytes_ok sp dp a n c ys w h hn hy hB
  · have e1 : byE (dgC sp dp) ys = 5 := by unfold byE; rw [hy, if_neg hn]
    unfold byB
    rw [e1, if_neg (by omega)]
    refine (rbytes_no _ a n c w rfl hn hl).mono ?_
    rintro e w' ⟨rfl, b⟩
    exact ⟨_, rfl, World.ownsRow_nil _ _ _ _, b⟩

theorem bs_some {w : World} {a : Option Addr} {zs : List Int} (h : Bs w a zs) (hp : 0 < zs.length) : ∃ b off, a = some ⟨b, off, none⟩ := by
  rcases h.lies with h0 | ⟨b, off, e, _⟩
  · omega
  · exact ⟨b, off, e⟩

theorem h_read (a : Option Addr) (n c : Nat) (zs : List Int) (w : World) (hz : zs.length = n) (hB : Bs w a zs) (hc : n ≤ c) :
    Calls Try.prog 17 #[.slice a n c] w fun e w' => e = .returned (.tuple #[.agg (rdL zs).toArray, .int .i64 (rdE zs)]) ∧ Below w.heap.size w w' := by
  by_cases hn : n < 8
  · have e1 : rdE zs = 6 := by unfold rdE; rw [if_pos (by rw [hz]; exact hn)]
    unfold rdL
    rw [e1, if_neg (by omega)]
    exact lread_short a n c w hn
  · obtain ⟨b, off, rfl⟩ := bs_some hB (by omega)
    by_cases hq : rdQ zs
    · by_cases hf : rdV zs 6 = rdF zs
      · have e1 : rdE zs = 0 := by unfold rdE; rw [if_neg (by rw [hz]; exact hn), if_pos hq, if_pos hf]
        unfold rdL
        rw [e1, if_pos rfl]
        exact lread_ok b off n c zs w hz hB (by omega) hc hq hf
      · have e1 : rdE zs = 110 := by unfold rdE; rw [if_neg (by rw [hz]; exact hn), if_pos hq, if_neg hf]
        unfold rdL
        rw [e1, if_neg (by omega)]
        exact lread_sum b off n c zs w hz hB (by omega) hc hq hf
    · have e1 : rdE zs = 100 := by unfold rdE; rw [if_neg (by rw [hz]; exact hn), if_neg hq]
      unfold rdL
      rw [e1, if_neg (by omega)]
      exact lread_bad b off n c zs w hz hB (by omega) hq

theorem h_rread (a : Option Addr) (n c : Nat) (zs : List Int) (w : World) (hz : zs.length = n) (hB : Bs w a zs) (_hc : n ≤ c) :
    Calls Try.prog 18 #[.slice a n c] w fun e w' => e = .returned (.tuple #[.agg (rdL zs).toArray, .int .i64 (rdE zs)]) ∧ Below w.heap.size w w' := by
  by_cases hn : n < 8
  · have e1 : rdE zs = 6 := by unfold rdE; rw [if_pos (by rw [hz]; exact hn)]
    unfold rdL
    rw [e1, if_neg (by omega)]
    exact rread_short a n c w hn
  · obtain ⟨b, off, rfl⟩ := bs_some hB (by omega)
    by_cases hq : rdQ zs
    · by_cases hf : rdV zs 6 = rdF zs
      · have e1 : rdE zs = 0 := by unfold rdE; rw [if_neg (by rw [hz]; exact hn), if_pos hq, if_pos hf]
        unfold rdL
        rw [e1, if_pos rfl]
        exact rread_ok b off n c zs w hz hB (by omega) hq hf
      · have e1 : rdE zs = 110 := by unfold rdE; rw [if_neg (by rw [hz]; exact hn), if_pos hq, if_neg hf]
        unfold rdL
        rw [e1, if_neg (by omega)]
        exact rread_sum b off n c zs w hz hB (by omega) hq hf
    · have e1 : rdE zs = 100 := by unfold rdE; rw [if_neg (by rw [hz]; exact hn), if_neg hq]
      unfold rdL
      rw [e1, if_neg (by omega)]
      exact rread_bad b off n c zs w hz hB (by omega) hq

-- what is told of bytes and headers, as mathematics
theorem rdE_zero {zs : List Int} (h : rdE zs = 0) : 8 ≤ zs.length ∧ rdQ zs ∧ rdV zs 6 = rdF zs := by
  unfold rdE at h
  split at h
  · omega
  · split at h
    · split at h
      · exact ⟨by omega, by assumption, by assumption⟩
      · omega
    · omega

theorem hd_rd {zs : List Int} (h : Bytes zs) : Hd (rdL zs) := by
  unfold rdL
  split
  · exact ⟨_, _, rfl, (rdV_bd h 0).1, (rdV_bd h 0).2, (rdV_bd h 2).1, (rdV_bd h 2).2⟩
  · exact hd_0

theorem byE_zero {L : List Value} {ys : List Int} (h : byE L ys = 0) : ckE L = 0 ∧ ys.length ≤ 2040 := by
  unfold byE at h
  split at h
  · exact ⟨rfl, by assumption⟩
  · omega

theorem byB_bytes {L : List Value} {ys : List Int} (h : Hd L) (_hy : Bytes ys) : Bytes (byB L ys) := by
  unfold byB
  split
  · rename_i he
    have hl := (byE_zero he).2
    obtain ⟨sp, dp, rfl, h⟩ := h
    have hf := dgF_bd sp dp ys
    exact dgB_bytes h (by omega) (by omega) hf.1 hf.2
  · intro z hz; simp at hz

theorem byB_le {L : List Value} {ys : List Int} (h : Hd L) : (byB L ys).length ≤ 8 := by
  obtain ⟨sp, dp, rfl, h⟩ := h
  unfold byB
  split
  · exact Nat.le_refl _
  · simp

theorem m_back {L : List Value} {ys : List Int} (h : Hd L) (_hy : Bytes ys) (he : byE L ys = 0) : (byB L ys).length = 8 ∧ rdL (byB L ys ++ ys) = L ∧ rdE (byB L ys ++ ys) = 0 ∧ ckE L = 0 := by
  have hl := (byE_zero he).2
  obtain ⟨sp, dp, rfl, h⟩ := h
  have hF := dgF_bd sp dp ys
  have e : byB (dgC sp dp) ys = dgB sp dp ys.length (dgF sp dp ys) := by unfold byB; rw [if_pos he]; rfl
  rw [e]
  have eF : rdF (dgB sp dp ys.length (dgF sp dp ys) ++ ys) = dgF sp dp ys := by
    unfold rdF
    rw [zf_dgB, List.length_append, dgB_length]; rfl
  have eL : (dgB sp dp ys.length (dgF sp dp ys) ++ ys).length = 8 + ys.length := by rw [List.length_append, dgB_length]
  generalize dgF sp dp ys = F at *
  obtain ⟨s0, s1, d0, d1⟩ := h
  have e4 : rdV (dgB sp dp ys.length F ++ ys) 4 = 8 + (ys.length : Int) := by
    show (8 + (ys.length : Int)) / 256 * 256 + (8 + (ys.length : Int)) % 256 = _
    omega
  have e6 : rdV (dgB sp dp ys.length F ++ ys) 6 = F := by
    show F / 256 * 256 + F % 256 = F
    omega
  have e0 : rdV (dgB sp dp ys.length F ++ ys) 0 = sp := by
    show sp / 256 * 256 + sp % 256 = sp
    omega
  have e2 : rdV (dgB sp dp ys.length F ++ ys) 2 = dp := by
    show dp / 256 * 256 + dp % 256 = dp
    omega
  have eE : rdE (dgB sp dp ys.length F ++ ys) = 0 := by
    unfold rdE
    rw [if_neg (by rw [eL]; omega), if_pos (by unfold rdQ; rw [e4, eL]; omega), if_pos (by rw [e6, eF])]
  refine ⟨rfl, ?_, eE, rfl⟩
  unfold rdL
  rw [if_pos eE]
  unfold rdC
  rw [e0, e2]

theorem m_no {L : List Value} {ys : List Int} (he : ¬ byE L ys = 0) (_hc : ckE L = 0) : ¬ ys.length ≤ 2040 := by
  intro hl
  apply he
  unfold byE
  rw [if_pos hl]

theorem m_none {zs : List Int} (h : ¬ rdE zs = 0) : rdL zs = hd0 := by unfold rdL; rw [if_neg h]

theorem m_short {zs : List Int} (h : zs.length < 8) : rdE zs = 6 := by unfold rdE; rw [if_pos h]

theorem m_again {zs : List Int} (hb : Bytes zs) (he : rdE zs = 0) (hl : zs.length ≤ 2048) : 8 ≤ zs.length ∧ byE (rdL zs) (zs.drop 8) = 0 ∧ byB (rdL zs) (zs.drop 8) = zs.take 8 := by
  obtain ⟨h8, hq, hf⟩ := rdE_zero he
  have e0 : rdL zs = rdC zs := by unfold rdL; rw [if_pos he]
  have e1 : byE (rdL zs) (zs.drop 8) = 0 := by
    unfold byE
    rw [if_pos (by rw [List.length_drop]; omega)]
  refine ⟨h8, e1, ?_⟩
  unfold byB
  rw [if_pos e1, e0]
  show dgB (rdV zs 0) (rdV zs 2) (zs.drop 8).length (dgF (rdV zs 0) (rdV zs 2) (zs.drop 8)) = _
  have hd8 : 8 + (zs.drop 8).length = zs.length := by rw [List.length_drop]; omega
  have h4 : rdV zs 4 = 8 + ((zs.drop 8).length : Int) := by unfold rdQ at hq; omega
  have eB : ∀ f : Int, dgB (rdV zs 0) (rdV zs 2) (zs.drop 8).length f = ((zs.take 8).set 6 (f / 256)).set 7 (f % 256) := by
    intro f
    unfold dgB
    rw [← h4]
    clear h4 hd8 hq hf e0 e1 he
    match zs, hb, h8 with
    | z0 :: z1 :: z2 :: z3 :: z4 :: z5 :: z6 :: z7 :: r, hb, _ =>
      have k0 := hb z0 (by simp)
      have k1 := hb z1 (by simp)
      have k2 := hb z2 (by simp)
      have k3 := hb z3 (by simp)
      have k4 := hb z4 (by simp)
      have k5 := hb z5 (by simp)
      simp [rdV]
      omega
  have eF : dgF (rdV zs 0) (rdV zs 2) (zs.drop 8) = rdV zs 6 := by
    unfold dgF
    rw [eB 0, hf]
    unfold rdF
    have e : ((zs.take 8).set 6 (0 / 256)).set 7 (0 % 256) ++ zs.drop 8 = zf zs := by
      match zs, h8 with
      | z0 :: z1 :: z2 :: z3 :: z4 :: z5 :: z6 :: z7 :: r, _ => rfl
    rw [e, hd8]
  rw [eF, eB]
  match zs, hb, h8 with
  | z0 :: z1 :: z2 :: z3 :: z4 :: z5 :: z6 :: z7 :: r, hb, _ =>
    have k6 := hb z6 (by simp)
    have k7 := hb z7 (by simp)
    simp [rdV]
    omega

-- one byte turned
theorem zf_set_in (zs : List Int) {k : Nat} (y : Int) (h : k = 6 ∨ k = 7) : zf (zs.set k y) = zf zs := by
  unfold zf
  rcases h with rfl | rfl
  · rw [List.set_set]
  · rw [List.set_comm _ _ (by decide : (7 : Nat) ≠ 6), List.set_set]
theorem zf_set_out (zs : List Int) {k : Nat} (y : Int) (h0 : k ≠ 6) (h1 : k ≠ 7) : zf (zs.set k y) = (zf zs).set k y := by
  unfold zf
  rw [List.set_comm _ _ h0, List.set_comm _ _ h1]
theorem zf_getD (zs : List Int) {k : Nat} (h0 : k ≠ 6) (h1 : k ≠ 7) : (zf zs).getD k 0 = zs.getD k 0 := by
  unfold zf
  rw [List.getD_eq_getElem?_getD, List.getElem?_set_ne (Ne.symm h1), List.getElem?_set_ne (Ne.symm h0), List.getD_eq_getElem?_getD]
theorem getD_set (zs : List Int) (k j : Nat) (y : Int) (hk : k < zs.length) : (zs.set k y).getD j 0 = if j = k then y else zs.getD j 0 := by
  by_cases e : j = k
  · subst e
    rw [if_pos rfl, List.getD_eq_getElem?_getD, List.getElem?_set_self hk]; rfl
  · rw [if_neg e, List.getD_eq_getElem?_getD, List.getElem?_set_ne (Ne.symm e), List.getD_eq_getElem?_getD]

/-- Fields of sums that are not 0 differ where the sums do. -/
theorem fd_inj {a b : Int} (a0 : 0 < a) (a1 : a ≤ 65535) (b0 : 0 < b) (b1 : b ≤ 65535) (h : fd a = fd b) : a = b := by
  unfold fd at h
  split at h <;> split at h <;> omega

/-- A header that is read is read no more with one byte of it or of its payload turned. -/
theorem rd_turned {zs : List Int} (hb : Bytes zs) (he : rdE zs = 0) (k : Nat) (hk : k < zs.length) (y : Int) (y0 : 0 ≤ y) (y1 : y ≤ 255) (hne : ¬ y = zs.getD k 0) : ¬ rdE (zs.set k y) = 0 := by
  intro h'
  obtain ⟨h8, hq, hf⟩ := rdE_zero he
  obtain ⟨-, hr, hg⟩ := rdE_zero h'
  have hbs := bytes_set hb k y y0 y1
  have G : ∀ j, (zs.set k y).getD j 0 = if j = k then y else zs.getD j 0 := fun j => getD_set zs k j y hk
  have b4 := hb.getD 4
  have b5 := hb.getD 5
  have b6 := hb.getD 6
  have b7 := hb.getD 7
  have hp : ∀ ts : List Int, Bytes ts → rdV ts 4 = (zs.length : Int) → 0 < tot (zf ts) zs.length := by
    intro ts ht h4
    have t4 := tot_ge_at (zf_bytes ht) 4 zs.length (by omega)
    have t5 := tot_ge_at (zf_bytes ht) 5 zs.length (by omega)
    rw [zf_getD ts (by omega) (by omega), wt_even 4 rfl] at t4
    rw [zf_getD ts (by omega) (by omega), wt_odd 5 (by decide)] at t5
    have c4 := ht.getD 4
    have c5 := ht.getD 5
    unfold rdV at h4
    simp only [Nat.reduceAdd] at h4
    omega
  unfold rdQ at hq hr
  rw [List.length_set] at hr
  have p1 := hp zs hb hq
  have p2 := hp (zs.set k y) hbs hr
  unfold rdV at hf hg hq hr
  rw [G, G] at hg hr
  by_cases hin : k = 6 ∨ k = 7
  · have e : rdF (zs.set k y) = rdF zs := by unfold rdF; rw [zf_set_in zs y hin, List.length_set]
    rw [e, ← hf] at hg
    rcases hin with rfl | rfl
    · simp at hg hne; omega
    · simp at hg hne; omega
  · have h0 : k ≠ 6 := fun e => hin (.inl e)
    have h1 : k ≠ 7 := fun e => hin (.inr e)
    rw [if_neg (Ne.symm h0), if_neg (Ne.symm h1)] at hg
    have e : rdF (zs.set k y) = rdF zs := by rw [← hg, ← hf]
    unfold rdF at e
    rw [List.length_set] at e
    have e := fd_inj (fo_pos _ p2) (fo_le _) (fo_pos _ p1) (fo_le _) e
    unfold su at e
    rw [zf_set_out zs y h0 h1, tot_set _ _ _ _ (by rw [zf_length]; exact hk), if_pos hk, zf_getD zs h0 h1] at e p2
    have bk := hb.getD k
    generalize zs.getD k 0 = x at *
    have hw : wt k = 256 ∨ wt k = 1 := by unfold wt; split <;> simp
    rcases hw with hw | hw
    · rw [hw] at e p2
      exact fo_turn (tot (zf zs) zs.length) _ ((y - x) * 256) p1 p2 rfl (by omega) (by omega) (by omega) e.symm
    · rw [hw] at e p2
      exact fo_turn (tot (zf zs) zs.length) _ ((y - x) * 1) p1 p2 rfl (by omega) (by omega) (by omega) e.symm

theorem m_turned {L : List Value} {ys : List Int} (h : Hd L) (hy : Bytes ys) (he : byE L ys = 0) (k : Nat) (hk : k < 8 + ys.length) (y : Int) (y0 : 0 ≤ y) (y1 : y ≤ 255) (hne : ¬ y = (byB L ys ++ ys).getD k 0) : ¬ rdE ((byB L ys ++ ys).set k y) = 0 :=
  rd_turned (bytes_append (byB_bytes h hy) hy) (m_back h hy he).2.2.1 k (by rw [List.length_append, (m_back h hy he).1]; exact hk) y y0 y1 hne

-- the chapter's header
def uL : List Value := dgC 53 1024
def uY : List Int := [255, 255]
def uB : List Int := [0, 53, 4, 0, 0, 10, 251, 192]
theorem hd_u : Hd uL := ⟨53, 1024, rfl, by omega, by omega, by omega, by omega⟩
theorem uY_bytes : Bytes uY := fun z hz => by simp [uY] at hz; omega
theorem by_u : byE uL uY = 0 ∧ byB uL uY = uB := by decide +kernel

theorem uB_by : Bytes uB := by rw [← by_u.2]; exact byB_bytes hd_u uY_bytes

theorem heap3_0 (w : World) (a b c : Obj) : (((w.alloc a).alloc b).alloc c).heap[w.heap.size]? = some a := (Below.heap_alloc ((w.alloc a).alloc b) c _ (by simp; omega)).trans (heap_alloc2_old w a b)
theorem heap3_1 (w : World) (a b c : Obj) : (((w.alloc a).alloc b).alloc c).heap[w.heap.size + 1]? = some b := (Below.heap_alloc ((w.alloc a).alloc b) c _ (by simp)).trans (heap_alloc2_new w a b)
theorem heap3_2 (w : World) (a b c : Obj) : (((w.alloc a).alloc b).alloc c).heap[w.heap.size + 1 + 1]? = some c := by
  have h := heap_alloc_new ((w.alloc a).alloc b) c
  rw [show ((w.alloc a).alloc b).heap.size = w.heap.size + 1 + 1 by simp] at h
  exact h
theorem below3 (w : World) (a b c : Obj) : Below w.heap.size w (((w.alloc a).alloc b).alloc c) := (((Below.refl _ _).alloc (Nat.le_refl _) _).alloc (by simp) _).alloc (by simp; omega) _

set_option maxHeartbeats 1000000 in
theorem usual_any (w : World) : Calls Try.prog 21 #[] w fun e w' => ∃ g pa pc, e = .returned (.tuple #[.agg uL.toArray, .slice pa uY.length pc, .slice (some ⟨g, 0, none⟩) 8 8]) ∧ Bs w' pa uY ∧ (pa = none → pc = 0) ∧ uY.length ≤ pc ∧ Bs w' (some ⟨g, 0, none⟩) uB ∧ Below w.heap.size w w' := by
  go_enter Try.func21, Try.ntmps21
  go_wp2_with fail
  refine ret_cell_tmp2 rfl w.heap.size 24 uL (0, 0) _ rfl (heap3_0 w _ _ _) Try.underlying24 rfl info_hd rfl ?_
  exact ⟨w.heap.size + 1 + 1, some ⟨w.heap.size + 1, 0, none⟩, 2, rfl, bs_block (A := []) (D := []) (zs := uY) (heap3_1 w _ _ _) 0 rfl uY_bytes (by simp [uY]), (fun e => by cases e), Nat.le_refl _, bs_block (A := []) (D := []) (zs := uB) (heap3_2 w _ _ _) 0 rfl uB_by (by simp [uB]), below3 w _ _ _⟩

/-- A header that came in. -/
theorem hd_open (W : World) (m : sh24.M) (o : sh24.ok W m) : Hd (sh24.cs m) := by
  obtain ⟨sp, dp⟩ := m
  obtain ⟨k0, k1⟩ := o
  exact ⟨sp, dp, rfl, (bounds_u16 k0).1, (bounds_u16 k0).2, (bounds_u16 k1).1, (bounds_u16 k1).2⟩
end Go.Proofs.Ytbbnoogkgobeoaa
