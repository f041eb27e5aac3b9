/- Several texts in one (Ja Jx Jb Jc Jd). -/
import Derived.Test.YtednmdkjhiihcaaGreatP05
import Derived.Test.YtednmdkjhiihcaaGreatP06
import Derived.Test.YtednmdkjhiihcaaGreatP07
import Derived.Test.YtednmdkjhiihcaaGreatP08
import Derived.Test.YtednmdkjhiihcaaGreatP09
import Derived.Test.YtednmdkjhiihcaaGreatP10
import Derived.Great.BuildSlice
namespace Go.Proofs.YtednmdkjhiihcaaGreat
open Go.ChangeShapes Go.WideShapes Go.ChangeAt Go.RowKit

set_option maxRecDepth 10000

/-- Cells that are a link's header. -/
def LHd (L : List Value) : Prop := ∃ d s t, L = K05.lkC d s t ∧ K05.Lk d s t

theorem lhd_len {L : List Value} (h : LHd L) : L.length = 13 := by obtain ⟨d, s, t, rfl, h⟩ := h; exact K05.lkC_length h

theorem lhd_one {L : List Value} (h : LHd L) : L.toArray.all (·.oneCell') = true := by obtain ⟨d, s, t, rfl, _⟩ := h; exact K05.lkC_one d s t

theorem lhd_0 : LHd K05.lk0 := ⟨_, _, _, rfl, K05.lk_0⟩

theorem lhd_rd {zs : List Int} (h : Bytes zs) : LHd (K05.rdL zs) := by
  unfold K05.rdL; split
  · rename_i hl; exact ⟨_, _, _, rfl, K05.lk_of h hl⟩
  · exact lhd_0

/-- A head's cells, by its parts. -/
def hC (k : Int) (a b c d e f : List Value) : List Value := .int .u8 k :: (a ++ (b ++ (c ++ (d ++ (e ++ f)))))

structure HdP (k : Int) (a b c d e f : List Value) : Prop where
  k0 : 0 ≤ k
  k1 : k ≤ 255
  a : LHd a
  b : K06.Hd b
  c : K07.Hd c
  d : K08.Hd d
  e : K09.Hd e
  f : K10.Hd f

/-- Cells that are a head's. -/
def Hh (H : List Value) : Prop := ∃ k a b c d e f, H = hC k a b c d e f ∧ HdP k a b c d e f

theorem hh_len {H : List Value} (h : Hh H) : H.length = 73 := by
  obtain ⟨k, a, b, c, d, e, f, rfl, h⟩ := h
  simp only [hC, List.length_cons, List.length_append, lhd_len h.a, K06.hd_len h.b, K07.hd_len h.c, K08.hd_len h.d, K09.hd_len h.e, K10.hd_len h.f]

theorem one_mem {L : List Value} (h : L.toArray.all (·.oneCell') = true) : ∀ v ∈ L, v.oneCell' = true := by
  intro v hv
  have := (Array.all_eq_true_iff_forall_mem.1 h) v (by simpa using hv)
  exact this

theorem hh_mem {H : List Value} (h : Hh H) : ∀ v ∈ H, v.oneCell' = true := by
  obtain ⟨k, a, b, c, d, e, f, rfl, h⟩ := h
  intro v hv
  simp only [hC, List.mem_cons, List.mem_append] at hv
  rcases hv with rfl | hv | hv | hv | hv | hv | hv
  · rfl
  · exact one_mem (lhd_one h.a) v hv
  · exact one_mem (K06.hd_one h.b) v hv
  · exact one_mem (K07.hd_one h.c) v hv
  · exact one_mem (K08.hd_one h.d) v hv
  · exact one_mem (K09.hd_one h.e) v hv
  · exact one_mem (K10.hd_one h.f) v hv

theorem hh_one {H : List Value} (h : Hh H) : H.toArray.all (·.oneCell') = true := all_oneCell_toArray (hh_mem h)

theorem info_hh : (Tryz.prog.info? 46).map (·.size) = some 73 := by kernel_rfl

theorem kl_ex5 {L : List Value} (h : LHd L) : ∃ l, Tryz.prog.keyLits 3 31 L = some l := by obtain ⟨d, s, t, rfl, h⟩ := h; exact ⟨_, K05.kl_lk h⟩

theorem kl_ex6 {L : List Value} (h : K06.Hd L) : ∃ l, Tryz.prog.keyLits 3 33 L = some l := by obtain ⟨_, _, _, rfl, h⟩ := h; exact ⟨_, K06.kl_tg h⟩

theorem kl_ex7 {L : List Value} (h : K07.Hd L) : ∃ l, Tryz.prog.keyLits 3 36 L = some l := by obtain ⟨_, _, _, _, _, _, rfl, h⟩ := h; exact ⟨_, K07.kl_n4 h⟩

theorem kl_ex8 {L : List Value} (h : K08.Hd L) : ∃ l, Tryz.prog.keyLits 3 40 L = some l := by obtain ⟨_, _, _, _, _, _, rfl, h⟩ := h; exact ⟨_, K08.kl_n6 h⟩

theorem kl_ex9 {L : List Value} (h : K09.Hd L) : ∃ l, Tryz.prog.keyLits 3 42 L = some l := by obtain ⟨_, _, _, _, _, _, rfl, h⟩ := h; exact ⟨_, K09.kl_sg h⟩

theorem kl_ex10 {L : List Value} (h : K10.Hd L) : ∃ l, Tryz.prog.keyLits 3 44 L = some l := by obtain ⟨_, _, rfl, h⟩ := h; exact ⟨_, K10.kl_dg h⟩

theorem kl_hh {H : List Value} (h : Hh H) : ∃ l, Tryz.prog.keyLits 4 46 H = some l := by
  have hlen := hh_len h
  obtain ⟨k, a, b, c, d, e, f, rfl, h⟩ := h
  obtain ⟨la, ka⟩ := kl_ex5 h.a
  obtain ⟨lb, kb⟩ := kl_ex6 h.b
  obtain ⟨lc, kc⟩ := kl_ex7 h.c
  obtain ⟨ld, kd⟩ := kl_ex8 h.d
  obtain ⟨le, ke⟩ := kl_ex9 h.e
  obtain ⟨lf, kf⟩ := kl_ex10 h.f
  have na := lhd_len h.a
  have nb := K06.hd_len h.b
  have nc := K07.hd_len h.c
  have nd := K08.hd_len h.d
  have ne := K09.hd_len h.e
  have nf := K10.hd_len h.f
  refine ⟨_, kl_struct (d := 3) Tryz.underlying46 (by kernel_rfl) [([.int .u8 k], [.int .u8 k]), (a, la), (b, lb), (c, lc), (d, ld), (e, le), (f, lf)] _ (by simp [hC]) ?_ rfl (fun j f' q hf hq => ?_)⟩
  · rw [hlen]; kernel_rfl
  · match j, hf, hq with
    | 0, hf, hq => cases hf; cases hq; exact ⟨rfl, by kernel_rfl, kl_int Tryz.underlying5 2 k (K05.wf_u8 h.k0 h.k1)⟩
    | 1, hf, hq => cases hf; cases hq; exact ⟨by simp, by rw [na]; kernel_rfl, ka⟩
    | 2, hf, hq => cases hf; cases hq; exact ⟨by simp [na], by rw [nb]; kernel_rfl, kb⟩
    | 3, hf, hq => cases hf; cases hq; exact ⟨by simp [na, nb], by rw [nc]; kernel_rfl, kc⟩
    | 4, hf, hq => cases hf; cases hq; exact ⟨by simp [na, nb, nc], by rw [nd]; kernel_rfl, kd⟩
    | 5, hf, hq => cases hf; cases hq; exact ⟨by simp [na, nb, nc, nd], by rw [ne]; kernel_rfl, ke⟩
    | 6, hf, hq => cases hf; cases hq; exact ⟨by simp [na, nb, nc, nd, ne], by rw [nf]; kernel_rfl, kf⟩
    | j + 7, hf, hq => simp at hq

theorem hh_eq {H : List Value} (h : Hh H) (w : World) : (Op.equalIn 10000 46 (.agg H.toArray) (.agg H.toArray)).run Tryz.prog w = .ok true w := by
  obtain ⟨l, hl⟩ := kl_hh h
  exact equal_same 4 (by omega) (by kernel_rfl) (by simp only [Value.formed, Tryz.underlying46, List.size_toArray, hh_len h]; kernel_rfl) 4 hl w

/-- The number at a cell. -/
def num (H : List Value) (i : Nat) : Int := match H[i]? with
  | some (.int _ v) => v
  | _ => 0

theorem num_of {H : List Value} {i : Nat} {k : IntKind} {v : Int} (h : H[i]? = some (.int k v)) : num H i = v := by unfold num; rw [h]

theorem hC_at {k : Int} {a b c d e f : List Value} (h : HdP k a b c d e f) : (hC k a b c d e f)[0]? = some (.int .u8 k) ∧ (hC k a b c d e f)[13]? = a[12]? ∧ (hC k a b c d e f)[16]? = b[2]? ∧ (hC k a b c d e f)[19]? = c[2]? ∧ (hC k a b c d e f)[31]? = d[2]? := by
  have na := lhd_len h.a
  have nb := K06.hd_len h.b
  have nc := K07.hd_len h.c
  have nd := K08.hd_len h.d
  refine ⟨rfl, ?_, ?_, ?_, ?_⟩ <;> simp only [hC, List.getElem?_cons_succ]
  · rw [List.getElem?_append_left (by omega)]
  · rw [List.getElem?_append_right (by omega), List.getElem?_append_left (by omega), na]
  · rw [List.getElem?_append_right (by omega), List.getElem?_append_right (by omega), List.getElem?_append_left (by omega), na, nb]
  · rw [List.getElem?_append_right (by omega), List.getElem?_append_right (by omega), List.getElem?_append_right (by omega), List.getElem?_append_left (by omega), na, nb, nc]

theorem hh_cells {H : List Value} (h : Hh H) : (H[0]? = some (.int .u8 (num H 0)) ∧ 0 ≤ num H 0 ∧ num H 0 ≤ 255) ∧ (H[13]? = some (.int .u16 (num H 13)) ∧ 0 ≤ num H 13 ∧ num H 13 ≤ 65535) ∧ (H[16]? = some (.int .u16 (num H 16)) ∧ 0 ≤ num H 16 ∧ num H 16 ≤ 65535) ∧ (H[19]? = some (.int .u8 (num H 19)) ∧ 0 ≤ num H 19 ∧ num H 19 ≤ 255) ∧ (H[31]? = some (.int .u8 (num H 31)) ∧ 0 ≤ num H 31 ∧ num H 31 ≤ 255) := by
  obtain ⟨k, a, b, c, d, e, f, rfl, h⟩ := h
  obtain ⟨e0, e1, e2, e3, e4⟩ := hC_at h
  obtain ⟨k0, k1, ha, hb, hc, hd, -, -⟩ := h
  obtain ⟨xd, xs, xt, rfl, hx⟩ := ha
  obtain ⟨yp, yi, yt, rfl, hy⟩ := hb
  obtain ⟨zo, zl, zp, zi, zs, zd, rfl, hz⟩ := hc
  obtain ⟨vc, vf, vn, vh, vs, vd, rfl, hv⟩ := hd
  rw [K05.lkC_cell hx] at e1
  have e2' : (K06.tgC yp yi yt)[2]? = some (.int .u16 yt) := rfl
  have e3' : (K07.n4C zo zl zp zi zs zd)[2]? = some (.int .u8 zp) := rfl
  have e4' : (K08.n6C vc vf vn vh vs vd)[2]? = some (.int .u8 vn) := rfl
  rw [e2'] at e2
  rw [e3'] at e3
  rw [e4'] at e4
  rw [num_of e0, num_of e1, num_of e2, num_of e3, num_of e4]
  exact ⟨⟨e0, k0, k1⟩, ⟨e1, hx.t0, hx.t1⟩, ⟨e2, hy.t0, hy.t1⟩, ⟨e3, hz.p0, hz.p1⟩, ⟨e4, hv.x0, hv.x1⟩⟩

/-- Which kind comes next: of a Type; of a Proto or a Next; of a head. -/
def nT (v : Int) : Int := if v = 33024 then 2 else if v = 2048 then 3 else if v = 34525 then 4 else 0

def nP (v : Int) : Int := if v = 6 then 5 else if v = 17 then 6 else 0

def nx (H : List Value) : Int := if num H 0 = 1 then nT (num H 13) else if num H 0 = 2 then nT (num H 16) else if num H 0 = 3 then nP (num H 19) else if num H 0 = 4 then nP (num H 31) else 0

theorem nT_bd (v : Int) : nT v = 0 ∨ 2 ≤ nT v ∧ nT v ≤ 4 := by unfold nT; split; omega; split; omega; split <;> omega

theorem nP_bd (v : Int) : nP v = 0 ∨ 5 ≤ nP v ∧ nP v ≤ 6 := by unfold nP; split; omega; split <;> omega

theorem nx_bd (H : List Value) : nx H = 0 ∨ 2 ≤ nx H ∧ nx H ≤ 6 := by
  have h1 := nT_bd (num H 13)
  have h2 := nT_bd (num H 16)
  have h3 := nP_bd (num H 19)
  have h4 := nP_bd (num H 31)
  unfold nx
  split; omega
  split; omega
  split; omega
  split <;> omega

/-- A kind's size; what is read of it; its cells as a head. -/
def sz (k : Int) : Nat := if k = 1 then 14 else if k = 2 then 4 else if k = 3 then 20 else if k = 4 then 40 else if k = 5 then 20 else if k = 6 then 8 else 0

def rE (k : Int) (zs : List Int) : Int := if k = 1 then K05.rdE zs else if k = 2 then K06.rdE zs else if k = 3 then K07.rdE zs else if k = 4 then K08.rdE zs else if k = 5 then K09.rdE zs else K10.rdE zs

def rL (k : Int) (zs : List Int) : List Value := if k = 1 then K05.rdL zs else if k = 2 then K06.rdL zs else if k = 3 then K07.rdL zs else if k = 4 then K08.rdL zs else if k = 5 then K09.rdL zs else K10.rdL zs

def hk (k : Int) (L : List Value) : List Value := hC k (if k = 1 then L else K05.lk0) (if k = 2 then L else K06.hd0) (if k = 3 then L else K07.hd0) (if k = 4 then L else K08.hd0) (if k = 5 then L else K09.hd0) (if k = 6 then L else K10.hd0)

/-- Cells that are a header's of a kind. -/
def KHd (k : Int) (L : List Value) : Prop := 1 ≤ k ∧ k ≤ 6 ∧ (k = 1 → LHd L) ∧ (k = 2 → K06.Hd L) ∧ (k = 3 → K07.Hd L) ∧ (k = 4 → K08.Hd L) ∧ (k = 5 → K09.Hd L) ∧ (k = 6 → K10.Hd L)

theorem six {k : Int} (h0 : 1 ≤ k) (h1 : k ≤ 6) : k = 1 ∨ k = 2 ∨ k = 3 ∨ k = 4 ∨ k = 5 ∨ k = 6 := by omega

theorem hk_hdp {k : Int} {L : List Value} (h : KHd k L) : HdP k (if k = 1 then L else K05.lk0) (if k = 2 then L else K06.hd0) (if k = 3 then L else K07.hd0) (if k = 4 then L else K08.hd0) (if k = 5 then L else K09.hd0) (if k = 6 then L else K10.hd0) := by
  obtain ⟨h0, h1, h2, h3, h4, h5, h6, h7⟩ := h
  refine ⟨by omega, by omega, ?_, ?_, ?_, ?_, ?_, ?_⟩
  · split
    · exact h2 (by assumption)
    · exact lhd_0
  · split
    · exact h3 (by assumption)
    · exact K06.hd_0
  · split
    · exact h4 (by assumption)
    · exact K07.hd_0
  · split
    · exact h5 (by assumption)
    · exact K08.hd_0
  · split
    · exact h6 (by assumption)
    · exact K09.hd_0
  · split
    · exact h7 (by assumption)
    · exact K10.hd_0

theorem hk_hh {k : Int} {L : List Value} (h : KHd k L) : Hh (hk k L) := ⟨_, _, _, _, _, _, _, rfl, hk_hdp h⟩

theorem hk_kind (k : Int) (L : List Value) : num (hk k L) 0 = k := rfl

theorem rL_hd {k : Int} {zs : List Int} (h0 : 1 ≤ k) (h1 : k ≤ 6) (h : Bytes zs) : KHd k (rL k zs) := by
  refine ⟨h0, h1, ?_, ?_, ?_, ?_, ?_, ?_⟩ <;> rintro rfl
  · exact lhd_rd h
  · exact K06.hd_rd h
  · exact K07.hd_rd h
  · exact K08.hd_rd h
  · exact K09.hd_rd h
  · exact K10.hd_rd h

theorem rE_len {k : Int} {zs : List Int} (h0 : 1 ≤ k) (h1 : k ≤ 6) (h : rE k zs = 0) : sz k ≤ zs.length := by
  rcases six h0 h1 with rfl | rfl | rfl | rfl | rfl | rfl
  · show 14 ≤ _; have h : K05.rdE zs = 0 := h
    unfold K05.rdE at h; split at h <;> omega
  · show 4 ≤ _; by_cases hl : zs.length < 4
    · have := K06.m_short hl; have h : K06.rdE zs = 0 := h; omega
    · omega
  · show 20 ≤ _; by_cases hl : zs.length < 20
    · have := K07.m_short hl; have h : K07.rdE zs = 0 := h; omega
    · omega
  · show 40 ≤ _; by_cases hl : zs.length < 40
    · have := K08.m_short hl; have h : K08.rdE zs = 0 := h; omega
    · omega
  · show 20 ≤ _; by_cases hl : zs.length < 20
    · have := K09.m_short hl; have h : K09.rdE zs = 0 := h; omega
    · omega
  · show 8 ≤ _; by_cases hl : zs.length < 8
    · have := K10.m_short hl; have h : K10.rdE zs = 0 := h; omega
    · omega

/-- Headers: a kind and its cells each. -/
abbrev Hs := List (Int × List Value)

def hTot : Hs → Nat
  | [] => 0
  | x :: r => sz x.1 + hTot r

theorem hTot_app : ∀ (l : Hs) (m : Hs), hTot (l ++ m) = hTot l + hTot m
  | [], m => by simp [hTot]
  | x :: r, m => by simp [hTot, hTot_app r m]; omega

/-- A packet's headers: the error, and the headers. -/
def pe : Nat → Int → Hs → List Int → Int × Hs
  | 0, _, _, _ => (3, [])
  | n + 1, k, out, zs => if rE k zs = 0 then (if nx (hk k (rL k zs)) = 0 then (0, out ++ [(k, rL k zs)]) else pe n (nx (hk k (rL k zs))) (out ++ [(k, rL k zs)]) (zs.drop (sz k))) else (rE k zs, [])

def HsOk (l : Hs) : Prop := ∀ x ∈ l, KHd x.1 x.2

theorem HsOk.nil : HsOk [] := fun x hx => by simp at hx

theorem HsOk.push {l : Hs} (h : HsOk l) {k : Int} {L : List Value} (hk : KHd k L) : HsOk (l ++ [(k, L)]) := by
  intro x hx
  rcases List.mem_append.1 hx with hx | hx
  · exact h x hx
  · simp at hx; subst hx; exact hk

/-- What is known of the headers that have been told: they are headers, and fit into the packet. -/
theorem pe_ok : ∀ (n : Nat) (k : Int) (out : Hs) (zs ys : List Int), 1 ≤ k → k ≤ 6 → Bytes zs → zs = ys.drop (hTot out) → hTot out ≤ ys.length → HsOk out → (pe n k out zs).1 = 0 →
    HsOk (pe n k out zs).2 ∧ hTot (pe n k out zs).2 ≤ ys.length ∧ out.length < (pe n k out zs).2.length ∧ (pe n k out zs).2.length ≤ out.length + n
  | 0, _, _, _, _, _, _, _, _, _, _, h => by simp [pe] at h
  | n + 1, k, out, zs, ys, h0, h1, hb, hz, ht, ho, h => by
    unfold pe at h ⊢
    by_cases hr : rE k zs = 0
    · have hl := rE_len h0 h1 hr
      have hzl : zs.length = ys.length - hTot out := by rw [hz, List.length_drop]
      have t2 : hTot (out ++ [(k, rL k zs)]) = hTot out + sz k := by rw [hTot_app]; simp [hTot]
      rw [if_pos hr] at h ⊢
      by_cases hn : nx (hk k (rL k zs)) = 0
      · rw [if_pos hn] at h ⊢
        refine ⟨ho.push (rL_hd h0 h1 hb), ?_, ?_, ?_⟩
        · show hTot (out ++ [(k, rL k zs)]) ≤ _
          rw [t2]; omega
        · simp
        · simp
      · rw [if_neg hn] at h ⊢
        have hnx := nx_bd (hk k (rL k zs))
        have ih := pe_ok n (nx (hk k (rL k zs))) (out ++ [(k, rL k zs)]) (zs.drop (sz k)) ys (by omega) (by omega) (fun z hz => hb z (List.mem_of_mem_drop hz)) (by rw [t2, ← List.drop_drop, hz]) (by rw [t2]; omega) (ho.push (rL_hd h0 h1 hb)) h
        refine ⟨ih.1, ih.2.1, ?_, ?_⟩
        · have := ih.2.2.1; simp at this; omega
        · have := ih.2.2.2; simp at this; omega
    · rw [if_neg hr] at h
      exact absurd h hr

/-- A packet's headers. -/
def PE (zs : List Int) : Int × Hs := pe 8 1 [] zs

def peH (zs : List Int) : Hs := if (PE zs).1 = 0 then (PE zs).2 else []

def peR (zs : List Int) : List Int := if (PE zs).1 = 0 then zs.drop (hTot (PE zs).2) else []

theorem PE_ok {zs : List Int} (hb : Bytes zs) (h : (PE zs).1 = 0) : HsOk (PE zs).2 ∧ hTot (PE zs).2 ≤ zs.length ∧ 1 ≤ (PE zs).2.length ∧ (PE zs).2.length ≤ 8 := by
  have := pe_ok 8 1 [] zs zs (by omega) (by omega) hb (by simp [hTot]) (by simp [hTot]) HsOk.nil h
  refine ⟨this.1, this.2.1, ?_, ?_⟩
  · have := this.2.2.1; show 1 ≤ (pe 8 1 [] zs).2.length; simp at this; omega
  · have := this.2.2.2; show (pe 8 1 [] zs).2.length ≤ 8; simp at this; omega

/-- The cells of heads in a row; of what the program has found. -/
def hsC (l : Hs) : List Value := l.flatMap (fun x => hk x.1 x.2)

def fC : Nat → Hs → List Value
  | _, [] => []
  | n, x :: r => (hk x.1 x.2 ++ [.int .i64 n, .int .i64 (sz x.1 : Nat)]) ++ fC (n + sz x.1) r

theorem fC_app : ∀ (l m : Hs) (n : Nat), fC n (l ++ m) = fC n l ++ fC (n + hTot l) m
  | [], m, n => by simp [fC, hTot]
  | x :: r, m, n => by simp [fC, hTot, fC_app r m, Nat.add_assoc]

theorem fC_len : ∀ (l : Hs) (n : Nat), HsOk l → (fC n l).length = l.length * 75
  | [], n, _ => by simp [fC]
  | x :: r, n, h => by
    simp only [fC, List.length_append, List.length_cons, List.length_nil, hh_len (hk_hh (h x (by simp))), fC_len r (n + sz x.1) (fun y hy => h y (by simp [hy]))]; omega

theorem hsC_len : ∀ (l : Hs), HsOk l → (hsC l).length = l.length * 73
  | [], _ => by simp [hsC]
  | x :: r, h => by
    have ih := hsC_len r (fun y hy => h y (by simp [hy]))
    simp only [hsC] at ih
    simp only [hsC, List.flatMap_cons, List.length_append, List.length_cons, hh_len (hk_hh (h x (by simp))), ih]; omega

theorem hsC_push (l : Hs) (k : Int) (L : List Value) : hsC (l ++ [(k, L)]) = hsC l ++ hk k L := by simp [hsC]

set_option maxRecDepth 10000

/-- A literal as a cell. -/
def lv : Lit → Value
  | .int k z => .int k z
  | _ => undef

theorem lv_map (k : IntKind) (zs : List Int) : (zs.map (Lit.int k)).map lv = zs.map (Value.int k) := by
  rw [List.map_map]; rfl

theorem kv5 {L : List Value} (h : LHd L) : ∃ l, Tryz.prog.keyLits 3 31 L = some l ∧ l.map lv = L := by
  obtain ⟨d, s, t, rfl, h⟩ := h
  refine ⟨_, K05.kl_lk h, ?_⟩
  simp only [List.map_cons, List.map_nil, List.flatten_cons, List.flatten_nil, List.append_nil, List.map_append, lv_map, K05.lkC, lv]

theorem kv6 {L : List Value} (h : K06.Hd L) : ∃ l, Tryz.prog.keyLits 3 33 L = some l ∧ l.map lv = L := by
  obtain ⟨_, _, _, rfl, h⟩ := h
  exact ⟨_, K06.kl_tg h, rfl⟩

theorem kv7 {L : List Value} (h : K07.Hd L) : ∃ l, Tryz.prog.keyLits 3 36 L = some l ∧ l.map lv = L := by
  obtain ⟨_, _, _, _, _, _, rfl, h⟩ := h
  refine ⟨_, K07.kl_n4 h, ?_⟩
  simp only [List.map_cons, List.map_nil, List.flatten_cons, List.flatten_nil, List.append_nil, List.map_append, lv_map, K07.n4C, lv, List.cons_append, List.nil_append]

theorem kv8 {L : List Value} (h : K08.Hd L) : ∃ l, Tryz.prog.keyLits 3 40 L = some l ∧ l.map lv = L := by
  obtain ⟨_, _, _, _, _, _, rfl, h⟩ := h
  refine ⟨_, K08.kl_n6 h, ?_⟩
  simp only [List.map_cons, List.map_nil, List.flatten_cons, List.flatten_nil, List.append_nil, List.map_append, lv_map, K08.n6C, lv, List.cons_append, List.nil_append]

theorem kv9 {L : List Value} (h : K09.Hd L) : ∃ l, Tryz.prog.keyLits 3 42 L = some l ∧ l.map lv = L := by
  obtain ⟨_, _, _, _, _, _, rfl, h⟩ := h
  exact ⟨_, K09.kl_sg h, rfl⟩

theorem kv10 {L : List Value} (h : K10.Hd L) : ∃ l, Tryz.prog.keyLits 3 44 L = some l ∧ l.map lv = L := by
  obtain ⟨_, _, rfl, h⟩ := h
  exact ⟨_, K10.kl_dg h, rfl⟩

theorem kv_hh {H : List Value} (h : Hh H) : ∃ l, Tryz.prog.keyLits 4 46 H = some l ∧ l.map lv = H := by
  have hlen := hh_len h
  obtain ⟨k, a, b, c, d, e, f, rfl, h⟩ := h
  obtain ⟨la, ka, va⟩ := kv5 h.a
  obtain ⟨lb, kb, vb⟩ := kv6 h.b
  obtain ⟨lc, kc, vc⟩ := kv7 h.c
  obtain ⟨ld, kd, vd⟩ := kv8 h.d
  obtain ⟨le, ke, ve⟩ := kv9 h.e
  obtain ⟨lf, kf, vf⟩ := kv10 h.f
  have na := lhd_len h.a
  have nb := K06.hd_len h.b
  have nc := K07.hd_len h.c
  have nd := K08.hd_len h.d
  have ne := K09.hd_len h.e
  have nf := K10.hd_len h.f
  refine ⟨_, kl_struct (d := 3) Tryz.underlying46 (by kernel_rfl) [([.int .u8 k], [.int .u8 k]), (a, la), (b, lb), (c, lc), (d, ld), (e, le), (f, lf)] _ (by simp [hC]) ?_ rfl (fun j f' q hf hq => ?_), ?_⟩
  · rw [hlen]; kernel_rfl
  · match j, hf, hq with
    | 0, hf, hq => cases hf; cases hq; exact ⟨rfl, by kernel_rfl, kl_int Tryz.underlying5 2 k (K05.wf_u8 h.k0 h.k1)⟩
    | 1, hf, hq => cases hf; cases hq; exact ⟨by simp, by rw [na]; kernel_rfl, ka⟩
    | 2, hf, hq => cases hf; cases hq; exact ⟨by simp [na], by rw [nb]; kernel_rfl, kb⟩
    | 3, hf, hq => cases hf; cases hq; exact ⟨by simp [na, nb], by rw [nc]; kernel_rfl, kc⟩
    | 4, hf, hq => cases hf; cases hq; exact ⟨by simp [na, nb, nc], by rw [nd]; kernel_rfl, kd⟩
    | 5, hf, hq => cases hf; cases hq; exact ⟨by simp [na, nb, nc, nd], by rw [ne]; kernel_rfl, ke⟩
    | 6, hf, hq => cases hf; cases hq; exact ⟨by simp [na, nb, nc, nd, ne], by rw [nf]; kernel_rfl, kf⟩
    | j + 7, hf, hq => simp at hq
  · simp only [List.map_cons, List.map_nil, List.flatten_cons, List.flatten_nil, List.append_nil, List.map_append, va, vb, vc, vd, ve, vf, lv, hC, List.cons_append, List.nil_append]

theorem cells_ne {H J : List Value} (h : Hh H) (j : Hh J) (w : World) : ∃ b : Bool, (Op.equalIn 10000 46 (.agg H.toArray) (.agg J.toArray)).run Tryz.prog w = .ok b w ∧ (b = true ↔ H = J) := by
  obtain ⟨l, hl, vl⟩ := kv_hh h
  obtain ⟨m, hm, vm⟩ := kv_hh j
  have fH : (Value.agg H.toArray).formed Tryz.prog 46 = true := by simp only [Value.formed, Tryz.underlying46, List.size_toArray, hh_len h]; kernel_rfl
  have fJ : (Value.agg J.toArray).formed Tryz.prog 46 = true := by simp only [Value.formed, Tryz.underlying46, List.size_toArray, hh_len j]; kernel_rfl
  obtain ⟨r, hr, hiff⟩ := run_equalIn_deep (P := Tryz.prog) (10000 - 4) 4 46 (by kernel_rfl) w 4 4 (.agg H.toArray) (.agg J.toArray) l m fH fJ (by simpa [Value.cells] using hl) (by simpa [Value.cells] using hm)
  rw [show 10000 - 4 + 4 = 10000 by omega] at hr
  refine ⟨r, hr, hiff.trans ⟨fun e => by rw [← vl, ← vm, e], fun e => ?_⟩⟩
  subst e
  rw [hl] at hm
  exact Option.some.inj hm

/-- Two heads, held against each other. -/
theorem eql_hh {H J : List Value} (h : Hh H) (j : Hh J) : ∃ b : Bool, (b = true ↔ H = J) ∧ (∀ w, (binOp .eql 46 (.agg H.toArray) (.agg J.toArray)).run Tryz.prog w = .ok (.bool b) w) ∧ ∀ w, (binOp .neq 46 (.agg H.toArray) (.agg J.toArray)).run Tryz.prog w = .ok (.bool (!b)) w := by
  by_cases e : H = J
  · refine ⟨true, ⟨fun _ => e, fun _ => rfl⟩, fun w => ?_, fun w => ?_⟩
    · obtain ⟨b, hb, hi⟩ := cells_ne h j w
      rw [run_eql_struct, hb, hi.2 e]; rfl
    · obtain ⟨b, hb, hi⟩ := cells_ne h j w
      rw [run_neq_struct, hb, hi.2 e]; rfl
  · refine ⟨false, ⟨(fun h => by cases h), fun h => absurd h e⟩, fun w => ?_, fun w => ?_⟩
    · obtain ⟨b, hb, hi⟩ := cells_ne h j w
      have : b = false := by cases b with
        | false => rfl
        | true => exact absurd (hi.1 rfl) e
      rw [run_eql_struct, hb, this]; rfl
    · obtain ⟨b, hb, hi⟩ := cells_ne h j w
      have : b = false := by cases b with
        | false => rfl
        | true => exact absurd (hi.1 rfl) e
      rw [run_neq_struct, hb, this]; rfl

set_option maxRecDepth 10000

theorem type_any (v : Int) (w : World) (h0 : 0 ≤ v) (h1 : v ≤ 65535) : Calls Tryz.prog 26 #[.int .u16 v] w fun e w' => e = .returned (.int .u8 (nT v)) ∧ w = w' := by
  unfold nT
  by_cases e0 : v = 33024
  · subst e0
    go_enter Tryz.func26, Tryz.ntmps26
    go_wp2
    go_ret
    exact ⟨rfl, rfl⟩
  by_cases e1 : v = 2048
  · subst e1
    go_enter Tryz.func26, Tryz.ntmps26
    go_wp2
    go_ret
    exact ⟨rfl, rfl⟩
  by_cases e2 : v = 34525
  · subst e2
    go_enter Tryz.func26, Tryz.ntmps26
    go_wp2
    go_ret
    exact ⟨rfl, rfl⟩
  rw [if_neg e0, if_neg e1, if_neg e2]
  go_enter Tryz.func26, Tryz.ntmps26
  go_wp2
  go_ret
  exact ⟨rfl, rfl⟩

theorem proto_any (v : Int) (w : World) (h0 : 0 ≤ v) (h1 : v ≤ 255) : Calls Tryz.prog 27 #[.int .u8 v] w fun e w' => e = .returned (.int .u8 (nP v)) ∧ w = w' := by
  unfold nP
  by_cases e0 : v = 6
  · subst e0
    go_enter Tryz.func27, Tryz.ntmps27
    go_wp2
    go_ret
    exact ⟨rfl, rfl⟩
  by_cases e1 : v = 17
  · subst e1
    go_enter Tryz.func27, Tryz.ntmps27
    go_wp2
    go_ret
    exact ⟨rfl, rfl⟩
  rw [if_neg e0, if_neg e1]
  go_enter Tryz.func27, Tryz.ntmps27
  go_wp2
  go_ret
  exact ⟨rfl, rfl⟩

theorem size_any (k : Int) (w : World) (h0 : 0 ≤ k) (h1 : k ≤ 255) : Calls Tryz.prog 55 #[.int .u8 k] w fun e w' => e = .returned (.int .i64 (sz k : Nat)) ∧ Below w.heap.size w w' := by
  have hB : Below w.heap.size w (w.alloc (.cells #[.int .i64 0, .int .i64 14, .int .i64 4, .int .i64 20, .int .i64 40, .int .i64 20, .int .i64 8] 3)) := (Below.refl _ _).alloc (Nat.le_refl _) _
  by_cases hk : k ≤ 6
  · have : k = 0 ∨ k = 1 ∨ k = 2 ∨ k = 3 ∨ k = 4 ∨ k = 5 ∨ k = 6 := by omega
    rcases this with rfl | rfl | rfl | rfl | rfl | rfl | rfl <;>
    · go_enter Tryz.func55, Tryz.ntmps55
      go_wp2
      go_ret
      exact ⟨rfl, hB⟩
  · have e : sz k = 0 := by unfold sz; rw [if_neg (by omega), if_neg (by omega), if_neg (by omega), if_neg (by omega), if_neg (by omega), if_neg (by omega)]
    rw [e]
    go_enter Tryz.func55, Tryz.ntmps55
    go_wp2
    go_ret
    exact ⟨rfl, hB⟩

set_option maxRecDepth 10000

set_option maxHeartbeats 1000000 in
theorem next_any (H : List Value) (w : World) (h : Hh H) : Calls Tryz.prog 7 #[.agg H.toArray] w fun e w' => e = .returned (.tuple #[.int .u8 (nx H), .bool (!(nx H == 0))]) ∧ Below w.heap.size w w' := by
  obtain ⟨⟨a0, k0, k1⟩, ⟨a1, p0, p1⟩, ⟨a2, q0, q1⟩, ⟨a3, r0, r1⟩, ⟨a4, s0, s1⟩⟩ := hh_cells h
  have hB : Below w.heap.size w (w.alloc (.cells H.toArray 46)) := (Below.refl _ _).alloc (Nat.le_refl _) _
  have A0 : H.toArray[0]? = some (.int .u8 (num H 0)) := by simpa using a0
  have A1 : H.toArray[13]? = some (.int .u16 (num H 13)) := by simpa using a1
  have A2 : H.toArray[16]? = some (.int .u16 (num H 16)) := by simpa using a2
  have A3 : H.toArray[19]? = some (.int .u8 (num H 19)) := by simpa using a3
  have A4 : H.toArray[31]? = some (.int .u8 (num H 31)) := by simpa using a4
  obtain ⟨n, HN⟩ : ∃ n, Hid (nx H = n) := ⟨_, rfl⟩
  rw [HN.out]
  obtain ⟨k, HK⟩ : ∃ k, Hid (num H 0 = k) := ⟨_, rfl⟩
  obtain ⟨p, HP⟩ : ∃ p, Hid (num H 13 = p) := ⟨_, rfl⟩
  obtain ⟨q, HQ⟩ : ∃ q, Hid (num H 16 = q) := ⟨_, rfl⟩
  obtain ⟨r, HR⟩ : ∃ r, Hid (num H 19 = r) := ⟨_, rfl⟩
  obtain ⟨s, HS⟩ : ∃ s, Hid (num H 31 = s) := ⟨_, rfl⟩
  rw [HK.out] at a0 A0 k0 k1
  rw [HP.out] at a1 A1 p0 p1
  rw [HQ.out] at a2 A2 q0 q1
  rw [HR.out] at a3 A3 r0 r1
  rw [HS.out] at a4 A4 s0 s1
  have e : n = if k = 1 then nT p else if k = 2 then nT q else if k = 3 then nP r else if k = 4 then nP s else 0 := by
    rw [← HN.out, ← HK.out, ← HP.out, ← HQ.out, ← HR.out, ← HS.out]; rfl
  clear HN HK HP HQ HR HS h
  by_cases e1 : k = 1
  · subst e1
    rw [if_pos rfl] at e
    subst e
    go_enter Tryz.func7, Tryz.ntmps7
    go_wp2_with fail
    refine (type_any p _ p0 p1).mono ?_
    rintro e w1 ⟨rfl, rfl⟩
    go_wp2
    go_ret2
    exact ⟨rfl, hB⟩
  rw [if_neg e1] at e
  by_cases e2 : k = 2
  · subst e2
    rw [if_pos rfl] at e
    subst e
    go_enter Tryz.func7, Tryz.ntmps7
    go_wp2_with fail
    refine (type_any q _ q0 q1).mono ?_
    rintro e w1 ⟨rfl, rfl⟩
    go_wp2
    go_ret2
    exact ⟨rfl, hB⟩
  rw [if_neg e2] at e
  by_cases e3 : k = 3
  · subst e3
    rw [if_pos rfl] at e
    subst e
    go_enter Tryz.func7, Tryz.ntmps7
    go_wp2_with fail
    refine (proto_any r _ r0 r1).mono ?_
    rintro e w1 ⟨rfl, rfl⟩
    go_wp2
    go_ret2
    exact ⟨rfl, hB⟩
  rw [if_neg e3] at e
  by_cases e4 : k = 4
  · subst e4
    rw [if_pos rfl] at e
    subst e
    go_enter Tryz.func7, Tryz.ntmps7
    go_wp2_with fail
    refine (proto_any s _ s0 s1).mono ?_
    rintro e w1 ⟨rfl, rfl⟩
    go_wp2
    go_ret2
    exact ⟨rfl, hB⟩
  rw [if_neg e4] at e
  subst e
  go_enter Tryz.func7, Tryz.ntmps7
  go_wp2
  go_ret2
  exact ⟨rfl, hB⟩

set_option maxRecDepth 10000

theorem fold_put : ∀ (vs : List Value) (n off : Nat) (cs : List Value), off + n + vs.length ≤ cs.length → ((vs.zipIdx n).foldl (fun (cs : Array Value) (x : Value × Nat) => cs.setIfInBounds (off + x.2) x.1) cs.toArray) = (put cs (off + n) vs).toArray
  | [], n, off, cs, _ => by simp [put]
  | v :: r, n, off, cs, h => by
    simp only [List.length_cons] at h
    rw [List.zipIdx_cons, List.foldl_cons, List.setIfInBounds_toArray, fold_put r (n + 1) off (cs.set (off + n) v) (by rw [List.length_set]; omega)]
    congr 1
    unfold put
    have ho : off + n < cs.length := by omega
    rw [show off + (n + 1) = off + n + 1 by omega, List.take_succ_eq_append_getElem (by simpa using ho), List.take_set_of_le (Nat.le_refl _), List.drop_set_of_lt (by omega)]
    simp only [List.getElem_set_self, List.append_assoc, List.nil_append, List.cons_append, List.length_cons]
    rw [show off + n + 1 + r.length = off + n + (r.length + 1) by omega]

theorem fill_cons (place : Nat → Option (Nat × Nat)) (cs : List Value) (i off : Nat) (L : List Value) (v : Value) (rest : List (Nat × Value)) (hv : v.cells = L.toArray) (hp : place i = some (off, L.length)) (hf : off + L.length ≤ cs.length) :
    Instr.fill place cs.toArray ((i, v) :: rest) = Instr.fill place (put cs off L).toArray rest := by
  have e := fold_put L 0 off cs (by omega)
  rw [Nat.add_zero] at e
  rw [Instr.fill, hp]
  simp only [hv, List.size_toArray]
  rw [if_neg (by simp; omega)]
  congr 1
  rw [← e]
  simp

/-- A head of noughts. -/
def hz : List Value := hC 0 K05.lk0 K06.hd0 K07.hd0 K08.hd0 K09.hd0 K10.hd0

def hplaces : Array (Nat × Nat) := #[(0, 1), (1, 13), (14, 3), (17, 12), (29, 36), (65, 6), (71, 2)]

theorem hz_hh : Hh hz := ⟨0, _, _, _, _, _, _, rfl, by omega, by omega, lhd_0, K06.hd_0, K07.hd_0, K08.hd_0, K09.hd_0, K10.hd_0⟩

theorem hz_len : hz.length = 73 := hh_len hz_hh

theorem built_head (parts : List (Nat × Value)) : Tryz.prog.built 46 parts = Instr.fill (fun i => hplaces[i]?) hz.toArray parts := by
  kernel_rfl

theorem built_1 (L : List Value) (h : L.length = 13) : Tryz.prog.built 46 [(0, .int .u8 1), (1, .agg L.toArray)] = some (hk 1 L).toArray := by
  rw [built_head, fill_cons _ _ 0 0 [.int .u8 1] _ _ rfl rfl (by rw [hz_len]; simp), fill_cons _ _ 1 1 L _ _ rfl (by rw [h]; rfl) (by rw [put_length _ _ _ (by rw [hz_len]; simp), hz_len, h]; omega), Instr.fill]
  congr 2
  unfold put
  rw [h]
  rfl

theorem built_2 (L : List Value) (h : L.length = 3) : Tryz.prog.built 46 [(0, .int .u8 2), (2, .agg L.toArray)] = some (hk 2 L).toArray := by
  rw [built_head, fill_cons _ _ 0 0 [.int .u8 2] _ _ rfl rfl (by rw [hz_len]; simp), fill_cons _ _ 2 14 L _ _ rfl (by rw [h]; rfl) (by rw [put_length _ _ _ (by rw [hz_len]; simp), hz_len, h]; omega), Instr.fill]
  congr 2
  unfold put
  rw [h]
  rfl

theorem built_3 (L : List Value) (h : L.length = 12) : Tryz.prog.built 46 [(0, .int .u8 3), (3, .agg L.toArray)] = some (hk 3 L).toArray := by
  rw [built_head, fill_cons _ _ 0 0 [.int .u8 3] _ _ rfl rfl (by rw [hz_len]; simp), fill_cons _ _ 3 17 L _ _ rfl (by rw [h]; rfl) (by rw [put_length _ _ _ (by rw [hz_len]; simp), hz_len, h]; omega), Instr.fill]
  congr 2
  unfold put
  rw [h]
  rfl

theorem built_4 (L : List Value) (h : L.length = 36) : Tryz.prog.built 46 [(0, .int .u8 4), (4, .agg L.toArray)] = some (hk 4 L).toArray := by
  rw [built_head, fill_cons _ _ 0 0 [.int .u8 4] _ _ rfl rfl (by rw [hz_len]; simp), fill_cons _ _ 4 29 L _ _ rfl (by rw [h]; rfl) (by rw [put_length _ _ _ (by rw [hz_len]; simp), hz_len, h]; omega), Instr.fill]
  congr 2
  unfold put
  rw [h]
  rfl

theorem built_5 (L : List Value) (h : L.length = 6) : Tryz.prog.built 46 [(0, .int .u8 5), (5, .agg L.toArray)] = some (hk 5 L).toArray := by
  rw [built_head, fill_cons _ _ 0 0 [.int .u8 5] _ _ rfl rfl (by rw [hz_len]; simp), fill_cons _ _ 5 65 L _ _ rfl (by rw [h]; rfl) (by rw [put_length _ _ _ (by rw [hz_len]; simp), hz_len, h]; omega), Instr.fill]
  congr 2
  unfold put
  rw [h]
  rfl

theorem built_6 (L : List Value) (h : L.length = 2) : Tryz.prog.built 46 [(0, .int .u8 6), (6, .agg L.toArray)] = some (hk 6 L).toArray := by
  rw [built_head, fill_cons _ _ 0 0 [.int .u8 6] _ _ rfl rfl (by rw [hz_len]; simp), fill_cons _ _ 6 71 L _ _ rfl (by rw [h]; rfl) (by rw [put_length _ _ _ (by rw [hz_len]; simp), hz_len, h]; omega), Instr.fill]
  congr 2
  unfold put
  rw [h]
  show _ ++ L ++ ([] : List Value) = _
  rw [List.append_nil]
  rfl

end Go.Proofs.YtednmdkjhiihcaaGreat
