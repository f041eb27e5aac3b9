/- net6's calls and the document's, each in one form for all inputs: the face that the laws' walks (Na to Nh) see. -/
import Derived.Test.YtidlgbidffldoaaVf
import Derived.Test.YtidlgbidffldoaaGc
import Derived.Test.YtidlgbidffldoaaSp
namespace Go.Proofs.Ytidlgbidffldoaa
open Go.ChangeShapes Go.WideShapes Go.ChangeAt Go.RowKit

theorem wf_u8 {z : Int} (h0 : 0 ≤ z) (h1 : z ≤ 255) : (Lit.int .u8 z).wf = true := by
  have e0 : IntKind.u8.min = 0 := by decide
  have e1 : IntKind.u8.max = 255 := by decide
  simp [Lit.wf, e0, e1]; omega
theorem wf_u32 {z : Int} (h0 : 0 ≤ z) (h1 : z ≤ 4294967295) : (Lit.int .u32 z).wf = true := by
  have e0 : IntKind.u32.min = 0 := by decide
  have e1 : IntKind.u32.max = 4294967295 := by decide
  simp [Lit.wf, e0, e1]; omega
theorem bounds32 {z : Int} (h : (Lit.int .u32 z).wf = true) : 0 ≤ z ∧ z ≤ 4294967295 := by
  have e0 : IntKind.u32.min = 0 := by decide
  have e1 : IntKind.u32.max = 4294967295 := by decide
  simpa [Lit.wf, e0, e1] using h

theorem kl_bytes {t : TypeId} {n : Nat} (hu : Try.prog.underlying t = some (.array n 5)) (hc : Try.prog.cellsOf t = n) (D : Nat) (zs : List Int) (hl : zs.length = n) (h : Bytes zs) : Try.prog.keyLits (D + 2) t (zs.map (Value.int .u8)) = some (zs.map (Lit.int .u8)) :=
  kl_arr hu Try.underlying5 hc (by kernel_rfl) D zs hl (fun z hz => wf_u8 (h z hz).1 (h z hz).2)

theorem kl_n6 {cl fl nx hp : Int} {s d : List Int} (h : N6 cl fl nx hp s d) : Try.prog.keyLits 3 25 (n6C cl fl nx hp s d) = some ([([Value.int .u8 cl], [Lit.int .u8 cl]), ([Value.int .u32 fl], [Lit.int .u32 fl]), ([Value.int .u8 nx], [Lit.int .u8 nx]), ([Value.int .u8 hp], [Lit.int .u8 hp]), (s.map (Value.int .u8), s.map (Lit.int .u8)), (d.map (Value.int .u8), d.map (Lit.int .u8))].map (·.2)).flatten := by
  refine kl_struct (d := 2) Try.underlying25 (by kernel_rfl) _ _ (by simp [n6C]) ?_ rfl (fun j f q hf hq => ?_)
  · rw [n6C_length h]; kernel_rfl
  · have hs := h.sl
    have hd := h.dl
    match j, hf, hq with
    | 0, hf, hq =>
      cases hf; cases hq
      exact ⟨rfl, by kernel_rfl, kl_int Try.underlying5 1 cl (wf_u8 h.c0 h.c1)⟩
    | 1, hf, hq =>
      cases hf; cases hq
      exact ⟨rfl, by kernel_rfl, kl_int Try.underlying22 1 fl (wf_u32 h.f0 h.f1)⟩
    | 2, hf, hq =>
      cases hf; cases hq
      exact ⟨rfl, by kernel_rfl, kl_int Try.underlying5 1 nx (wf_u8 h.x0 h.x1)⟩
    | 3, hf, hq =>
      cases hf; cases hq
      exact ⟨rfl, by kernel_rfl, kl_int Try.underlying5 1 hp (wf_u8 h.h0 h.h1)⟩
    | 4, hf, hq =>
      cases hf; cases hq
      exact ⟨rfl, by rw [List.length_map, hs]; kernel_rfl, kl_bytes Try.underlying23 (by kernel_rfl) 0 s hs h.sb⟩
    | 5, hf, hq =>
      cases hf; cases hq
      exact ⟨by simp [hs], by rw [List.length_map, hd]; kernel_rfl, kl_bytes Try.underlying23 (by kernel_rfl) 0 d hd h.db⟩
    | j + 6, hf, hq => simp at hq

/-- Cells that are a header's. -/
def Hd (L : List Value) : Prop := ∃ cl fl nx hp s d, L = n6C cl fl nx hp s d ∧ N6 cl fl nx hp s d

theorem hd_len {L : List Value} (h : Hd L) : L.length = 36 := by obtain ⟨cl, fl, nx, hp, s, d, rfl, h⟩ := h; exact n6C_length h
theorem hd_one {L : List Value} (h : Hd L) : L.toArray.all (·.oneCell') = true := by
  obtain ⟨cl, fl, nx, hp, s, d, rfl, _⟩ := h
  exact n6C_one _ _ _ _ _ _
theorem hd_eq {L : List Value} (h : Hd L) (w : World) : (Op.equalIn 10000 25 (.agg L.toArray) (.agg L.toArray)).run Try.prog w = .ok true w := by
  obtain ⟨cl, fl, nx, hp, s, d, rfl, h⟩ := h
  exact equal_same 3 (by omega) (by kernel_rfl) (by
    simp only [Value.formed, Try.underlying25, List.size_toArray, n6C_length h]; kernel_rfl) 3 (kl_n6 h) w
theorem bytes16 (x : Int) (h0 : 0 ≤ x) (h1 : x ≤ 255) : Bytes [x, x, x, x, x, x, x, x, x, x, x, x, x, x, x, x] := by
  intro z hz
  have e : z = x := by simpa using hz
  omega
theorem hd_0 : Hd hd0 := ⟨0, 0, 0, 0, [0, 0, 0, 0, 0, 0, 0, 0, 0, 0, 0, 0, 0, 0, 0, 0], [0, 0, 0, 0, 0, 0, 0, 0, 0, 0, 0, 0, 0, 0, 0, 0], rfl, by omega, by omega, by omega, by omega, by omega, by omega, by omega, by omega, rfl, rfl, bytes16 0 (by omega) (by omega), bytes16 0 (by omega) (by omega)⟩

/-- A cell's number. -/
def un : Value → Int
  | .int _ z => z
  | _ => 0
/-- Check's answer, of cells. -/
def ckE (L : List Value) : Int := n6E (un (L.getD 1 undef))
/-- A header's bytes, of cells, ahead of m bytes. -/
def hdB (L : List Value) (m : Int) : List Int :=
  n6B (un (L.getD 0 undef)) (un (L.getD 1 undef)) (un (L.getD 2 undef)) (un (L.getD 3 undef)) (((L.drop 4).take 16).map un) ((L.drop 20).map un) m
theorem map_un : ∀ zs : List Int, (zs.map (Value.int .u8)).map un = zs
  | [] => rfl
  | z :: r => by rw [List.map_cons, List.map_cons, map_un r]; rfl
theorem hdB_n6 {cl fl nx hp : Int} {s d : List Int} (h : N6 cl fl nx hp s d) (m : Int) : hdB (n6C cl fl nx hp s d) m = n6B cl fl nx hp s d m := by
  have e1 : ((n6C cl fl nx hp s d).drop 4).take 16 = s.map (Value.int .u8) := by
    show (s.map (Value.int .u8) ++ d.map (Value.int .u8)).take 16 = _
    rw [List.take_left' (by rw [List.length_map, h.sl])]
  have e2 : (n6C cl fl nx hp s d).drop 20 = d.map (Value.int .u8) := by
    show (s.map (Value.int .u8) ++ d.map (Value.int .u8)).drop 16 = _
    rw [List.drop_left' (by rw [List.length_map, h.sl])]
  unfold hdB
  rw [e1, e2, map_un, map_un]
  rfl
/-- Bytes' answer. -/
def byE (L : List Value) (ys : List Int) : Int := if ckE L = 0 then (if ys.length ≤ 2008 then 0 else 5) else ckE L
def byB (L : List Value) (ys : List Int) : List Int := if byE L ys = 0 then hdB L ys.length else []
/-- Read's answer. -/
def rdE (zs : List Int) : Int := if zs.length < 40 then 6 else if rdQ zs then 0 else 80
def rdL (zs : List Int) : List Value := if rdE zs = 0 then rdC zs else hd0

theorem h_check (L : List Value) (w : World) (h : Hd L) : Calls Try.prog 11 #[.agg L.toArray] w fun e w' => e = .returned (.int .i64 (ckE L)) ∧ Below w.heap.size w w' := by
  obtain ⟨cl, fl, nx, hp, s, d, rfl, h⟩ := h
  exact lcheck_any _ fl w rfl
theorem h_rcheck (L : List Value) (w : World) (h : Hd L) : Calls Try.prog 12 #[.agg L.toArray] w fun e w' => e = .returned (.int .i64 (ckE L)) ∧ Below w.heap.size w w' := by
  obtain ⟨cl, fl, nx, hp, s, d, rfl, h⟩ := h
  exact rcheck_any _ fl w rfl

theorem h_bytes (L : List Value) (a : Option Addr) (n c : Nat) (ys : List Int) (w : World) (h : Hd L) (hy : ys.length = n) (hB : Bs w a ys) :
    Calls Try.prog 9 #[.agg L.toArray, .slice a n c] w fun e w' => ∃ v, e = .returned (.tuple #[v, .int .i64 (byE L ys)]) ∧ w'.ownsRow w.heap.size 5 1 v (byB L ys).length ((byB L ys).map (Value.int .u8)) ∧ Below w.heap.size w w' := by
  have hl := hB.len
  rw [hy] at hl
  obtain ⟨cl, fl, nx, hp, s, d, rfl, h⟩ := h
  by_cases hf : fl ≤ 1048575
  · have e0 : ckE (n6C cl fl nx hp s d) = 0 := by show n6E fl = 0; unfold n6E; rw [if_pos hf]
    by_cases hn : n ≤ 2008
    · have e1 : byE (n6C cl fl nx hp s d) ys = 0 := by unfold byE; rw [if_pos e0, hy, if_pos hn]
      unfold byB
      rw [e1, if_pos rfl, hy, hdB_n6 h, n6B_length h]
      exact lbytes_ok cl fl nx hp s d a n c w h hf hn
    · have e1 : byE (n6C cl fl nx hp s d) ys = 5 := by unfold byE; rw [if_pos e0, hy, if_neg hn]
      unfold byB
      rw [e1, if_neg (by omega)]
      refine (lbytes_no _ fl a n c w (n6C_length h) rfl hf hn hl).mono ?_
      rintro e w' ⟨rfl, b⟩
      exact ⟨_, rfl, World.ownsRow_nil _ _ _ _, b⟩
  · have e0 : ckE (n6C cl fl nx hp s d) = 80 := by show n6E fl = 80; unfold n6E; rw [if_neg hf]
    have e1 : byE (n6C cl fl nx hp s d) ys = 80 := by unfold byE; rw [e0, if_neg (by omega)]
    unfold byB
    rw [e1, if_neg (by omega)]
    refine (lbytes_bad _ fl a n c w (n6C_length h) rfl hf).mono ?_
    rintro e w' ⟨rfl, b⟩
    exact ⟨_, rfl, World.ownsRow_nil _ _ _ _, b⟩

theorem h_rbytes (L : List Value) (a : Option Addr) (n c : Nat) (ys : List Int) (w : World) (h : Hd L) (hy : ys.length = n) (hB : Bs w a ys) :
    Calls Try.prog 10 #[.agg L.toArray, .slice a n c] w fun e w' => ∃ v, e = .returned (.tuple #[v, .int .i64 (byE L ys)]) ∧ w'.ownsRow w.heap.size 5 1 v (byB L ys).length ((byB L ys).map (Value.int .u8)) ∧ Below w.heap.size w w' := by
  have hl := hB.len
  rw [hy] at hl
  obtain ⟨cl, fl, nx, hp, s, d, rfl, h⟩ := h
  by_cases hf : fl ≤ 1048575
  · have e0 : ckE (n6C cl fl nx hp s d) = 0 := by show n6E fl = 0; unfold n6E; rw [if_pos hf]
    by_cases hn : n ≤ 2008
    · have e1 : byE (n6C cl fl nx hp s d) ys = 0 := by unfold byE; rw [if_pos e0, hy, if_pos hn]
      unfold byB
      rw [e1, if_pos rfl, hy, hdB_n6 h, n6B_length h]
      exact rbytes_ok cl fl nx hp s d a n c w h hf hn
    · have e1 : byE (n6C cl fl nx hp s d) ys = 5 := by unfold byE; rw [if_pos e0, hy, if_neg hn]
      unfold byB
      rw [e1, if_neg (by omega)]
      refine (rbytes_no _ fl a n c w (n6C_length h) rfl hf hn hl).mono ?_
      rintro e w' ⟨rfl, b⟩
      exact ⟨_, rfl, World.ownsRow_nil _ _ _ _, b⟩
  · have e0 : ckE (n6C cl fl nx hp s d) = 80 := by show n6E fl = 80; unfold n6E; rw [if_neg hf]
    have e1 : byE (n6C cl fl nx hp s d) ys = 80 := by unfold byE; rw [e0, if_neg (by omega)]
    unfold byB
    rw [e1, if_neg (by omega)]
    refine (rbytes_bad _ fl a n c w (n6C_length h) rfl hf).mono ?_
    rintro e w' ⟨rfl, b⟩
    exact ⟨_, rfl, World.ownsRow_nil _ _ _ _, b⟩


theorem bs_some {w : World} {a : Option Addr} {zs : List Int} (h : Bs w a zs) (hp : 0 < zs.length) : ∃ b off, a = some ⟨b, off, none⟩ := by
  rcases h.lies with h0 | ⟨b, off, e, _⟩
  · omega
  · exact ⟨b, off, e⟩

theorem h_read (a : Option Addr) (n c : Nat) (zs : List Int) (w : World) (hz : zs.length = n) (hB : Bs w a zs) (hc : n ≤ c) :
    Calls Try.prog 17 #[.slice a n c] w fun e w' => e = .returned (.tuple #[.agg (rdL zs).toArray, .int .i64 (rdE zs)]) ∧ Below w.heap.size w w' := by
  by_cases hn : n < 40
  · have e1 : rdE zs = 6 := by unfold rdE; rw [if_pos (by rw [hz]; exact hn)]
    unfold rdL
    rw [e1, if_neg (by omega)]
    exact lread_short a n c w hn
  · obtain ⟨b, off, rfl⟩ := bs_some hB (by omega)
    by_cases hq : rdQ zs
    · have e1 : rdE zs = 0 := by unfold rdE; rw [if_neg (by rw [hz]; exact hn), if_pos hq]
      unfold rdL
      rw [e1, if_pos rfl]
      exact lread_ok b off n c zs w hz hB (by omega) hc hq
    · have e1 : rdE zs = 80 := by unfold rdE; rw [if_neg (by rw [hz]; exact hn), if_neg hq]
      unfold rdL
      rw [e1, if_neg (by omega)]
      exact lread_bad b off n c zs w hz hB (by omega) hq

theorem h_rread (a : Option Addr) (n c : Nat) (zs : List Int) (w : World) (hz : zs.length = n) (hB : Bs w a zs) (_hc : n ≤ c) :
    Calls Try.prog 18 #[.slice a n c] w fun e w' => e = .returned (.tuple #[.agg (rdL zs).toArray, .int .i64 (rdE zs)]) ∧ Below w.heap.size w w' := by
  by_cases hn : n < 40
  · have e1 : rdE zs = 6 := by unfold rdE; rw [if_pos (by rw [hz]; exact hn)]
    unfold rdL
    rw [e1, if_neg (by omega)]
    exact rread_short a n c w hn
  · obtain ⟨b, off, rfl⟩ := bs_some hB (by omega)
    by_cases hq : rdQ zs
    · have e1 : rdE zs = 0 := by unfold rdE; rw [if_neg (by rw [hz]; exact hn), if_pos hq]
      unfold rdL
      rw [e1, if_pos rfl]
      exact rread_ok b off n c zs w hz hB (by omega) hq
    · have e1 : rdE zs = 80 := by unfold rdE; rw [if_neg (by rw [hz]; exact hn), if_neg hq]
      unfold rdL
      rw [e1, if_neg (by omega)]
      exact rread_bad b off n c zs w hz hB (by omega) hq


-- what is told of bytes and headers, as mathematics
theorem rdE_zero {zs : List Int} (h : rdE zs = 0) : 40 ≤ zs.length ∧ rdQ zs := by
  unfold rdE at h
  split at h
  · omega
  · split at h
    · exact ⟨by omega, by assumption⟩
    · omega

theorem hd_rd {zs : List Int} (h : Bytes zs) : Hd (rdL zs) := by
  unfold rdL
  split
  · rename_i he
    exact ⟨_, _, _, _, _, _, rfl, n6_of h (rdE_zero he).1⟩
  · exact hd_0

theorem n6E_le {fl : Int} (h : n6E fl = 0) : fl ≤ 1048575 := by
  unfold n6E at h
  split at h
  · assumption
  · omega

theorem byE_zero {L : List Value} {ys : List Int} (h : byE L ys = 0) : ckE L = 0 ∧ ys.length ≤ 2008 := by
  unfold byE at h
  split at h
  · split at h
    · exact ⟨by assumption, by assumption⟩
    · omega
  · contradiction

theorem byB_bytes {L : List Value} {ys : List Int} (h : Hd L) (_hy : Bytes ys) : Bytes (byB L ys) := by
  unfold byB
  split
  · rename_i he
    obtain ⟨cl, fl, nx, hp, s, d, rfl, h⟩ := h
    rw [hdB_n6 h]
    have h0 := byE_zero he
    have hl := h0.2
    exact n6B_bytes h (n6E_le h0.1) (by omega) (by omega)
  · intro z hz; simp at hz

theorem byB_le {L : List Value} {ys : List Int} (h : Hd L) : (byB L ys).length ≤ 40 := by
  obtain ⟨cl, fl, nx, hp, s, d, rfl, h⟩ := h
  unfold byB
  split
  · rw [hdB_n6 h, n6B_length h]; omega
  · simp

theorem m_back {L : List Value} {ys : List Int} (h : Hd L) (_hy : Bytes ys) (he : byE L ys = 0) : (byB L ys).length = 40 ∧ rdL (byB L ys ++ ys) = L ∧ rdE (byB L ys ++ ys) = 0 ∧ ckE L = 0 := by
  have hc := (byE_zero he).1
  have hl := (byE_zero he).2
  obtain ⟨cl, fl, nx, hp, s, d, rfl, h⟩ := h
  have hf : fl ≤ 1048575 := n6E_le hc
  have e : byB (n6C cl fl nx hp s d) ys = n6B cl fl nx hp s d ys.length := by unfold byB; rw [if_pos he, hdB_n6 h]
  rw [e]
  have hlen := n6B_length h ys.length
  have hM := n6M_bd h hf
  obtain ⟨c0, c1, f0, f1, x0, x1, h0, h1, sl, dl, sb, db⟩ := h
  have eW : rdW (n6B cl fl nx hp s d ys.length ++ ys) 0 = n6M cl fl := by
    show (n6M cl fl / 65536 / 256 * 256 + n6M cl fl / 65536 % 256) * 65536 + (n6M cl fl % 65536 / 256 * 256 + n6M cl fl % 65536 % 256) = _
    omega
  have eQ : rdQ (n6B cl fl nx hp s d ys.length ++ ys) := by
    unfold rdQ
    rw [List.length_append, hlen, eW]
    refine ⟨by omega, ?_⟩
    show (ys.length : Int) / 256 * 256 + (ys.length : Int) % 256 = _
    omega
  have eE : rdE (n6B cl fl nx hp s d ys.length ++ ys) = 0 := by
    unfold rdE
    rw [if_neg (by rw [List.length_append, hlen]; omega), if_pos eQ]
  refine ⟨hlen, ?_, eE, hc⟩
  unfold rdL
  rw [if_pos eE]
  unfold rdC
  have e2 : (n6B cl fl nx hp s d ys.length ++ ys).drop 8 = s ++ (d ++ ys) := by simp [n6B]
  have e3 : (n6B cl fl nx hp s d ys.length ++ ys).drop 24 = d ++ ys := by
    rw [show 24 = 8 + 16 from rfl, ← List.drop_drop, e2, List.drop_left' sl]
  rw [eW, e2, e3, List.take_left' sl, List.take_left' dl]
  have e4 : n6M cl fl / 1048576 % 256 = cl := by unfold n6M; omega
  have e5 : n6M cl fl % 1048576 = fl := by unfold n6M; omega
  rw [e4, e5]
  rfl

theorem m_no {L : List Value} {ys : List Int} (he : ¬ byE L ys = 0) (hc : ckE L = 0) : ¬ ys.length ≤ 2008 := by
  intro hl
  apply he
  unfold byE
  rw [if_pos hc, if_pos hl]

theorem m_none {zs : List Int} (h : ¬ rdE zs = 0) : rdL zs = hd0 := by unfold rdL; rw [if_neg h]

theorem m_short {zs : List Int} (h : zs.length < 40) : rdE zs = 6 := by unfold rdE; rw [if_pos h]

theorem take_40 {zs : List Int} (h : 40 ≤ zs.length) : zs.take 40 = [zs.getD 0 0, zs.getD 1 0, zs.getD 2 0, zs.getD 3 0, zs.getD 4 0, zs.getD 5 0, zs.getD 6 0, zs.getD 7 0] ++ ((zs.drop 8).take 16 ++ (zs.drop 24).take 16) := by
  match zs, h with
  | z0 :: z1 :: z2 :: z3 :: z4 :: z5 :: z6 :: z7 :: r, h =>
    show z0 :: z1 :: z2 :: z3 :: z4 :: z5 :: z6 :: z7 :: r.take 32 = z0 :: z1 :: z2 :: z3 :: z4 :: z5 :: z6 :: z7 :: (r.take 16 ++ (r.drop 16).take 16)
    rw [← List.take_add]

theorem m_again {zs : List Int} (hb : Bytes zs) (he : rdE zs = 0) (hl : zs.length ≤ 2048) : 40 ≤ zs.length ∧ byE (rdL zs) (zs.drop 40) = 0 ∧ byB (rdL zs) (zs.drop 40) = zs.take 40 := by
  obtain ⟨h40, q0, q4⟩ := rdE_zero he
  have e0 : rdL zs = rdC zs := by unfold rdL; rw [if_pos he]
  have ec : ckE (rdC zs) = 0 := by show n6E (rdW zs 0 % 1048576) = 0; unfold n6E; rw [if_pos (by omega)]
  have e1 : byE (rdL zs) (zs.drop 40) = 0 := by unfold byE; rw [e0, if_pos ec, if_pos (by rw [List.length_drop]; omega)]
  refine ⟨h40, e1, ?_⟩
  unfold byB
  rw [if_pos e1, e0]
  unfold rdC
  rw [hdB_n6 (n6_of hb h40), take_40 h40]
  have b0 := rdW_bd hb 0
  have eM : n6M (rdW zs 0 / 1048576 % 256) (rdW zs 0 % 1048576) = rdW zs 0 := by unfold n6M; omega
  have em : ((zs.drop 40).length : Int) = rdV zs 4 := by rw [List.length_drop]; omega
  unfold n6B
  rw [eM, em]
  have k0 := hb.getD 0
  have k1 := hb.getD 1
  have k2 := hb.getD 2
  have k3 := hb.getD 3
  have k4 := hb.getD 4
  have k5 := hb.getD 5
  have eW : rdW zs 0 = (zs.getD 0 0 * 256 + zs.getD 1 0) * 65536 + (zs.getD 2 0 * 256 + zs.getD 3 0) := rfl
  have eV : rdV zs 4 = zs.getD 4 0 * 256 + zs.getD 5 0 := rfl
  rw [eW, eV]
  generalize zs.getD 0 0 = z0 at *
  generalize zs.getD 1 0 = z1 at *
  generalize zs.getD 2 0 = z2 at *
  generalize zs.getD 3 0 = z3 at *
  generalize zs.getD 4 0 = z4 at *
  generalize zs.getD 5 0 = z5 at *
  congr 1
  simp only [List.cons.injEq, and_true]
  omega

theorem m_first {xs zs : List Int} (hx : 40 ≤ xs.length) (he : xs.length = zs.length) (h : xs.take 40 = zs.take 40) : rdL xs = rdL zs ∧ rdE xs = rdE zs := by
  have g : ∀ k, k < 40 → xs.getD k 0 = zs.getD k 0 := by
    intro k hk
    have e1 : xs.getD k 0 = (xs.take 40).getD k 0 := by rw [List.getD_eq_getElem?_getD, List.getD_eq_getElem?_getD, List.getElem?_take_of_lt hk]
    have e2 : zs.getD k 0 = (zs.take 40).getD k 0 := by rw [List.getD_eq_getElem?_getD, List.getD_eq_getElem?_getD, List.getElem?_take_of_lt hk]
    rw [e1, e2, h]
  have eV : ∀ k, k < 39 → rdV xs k = rdV zs k := fun k hk => by unfold rdV; rw [g k (by omega), g (k + 1) (by omega)]
  have eW : rdW xs 0 = rdW zs 0 := by unfold rdW; rw [eV 0 (by omega), eV 2 (by omega)]
  have ed : ∀ k m, k + m ≤ 40 → (xs.drop k).take m = (zs.drop k).take m := by
    intro k m hkm
    have f : ∀ L : List Int, (L.drop k).take m = ((L.take 40).drop k).take m := fun L => by
      rw [List.drop_take, List.take_take, Nat.min_eq_left (by omega)]
    rw [f xs, f zs, h]
  have eQ : rdQ xs ↔ rdQ zs := by unfold rdQ; rw [eW, eV 4 (by omega), he]
  have eE : rdE xs = rdE zs := by
    unfold rdE
    rw [if_neg (show ¬ xs.length < 40 by omega), if_neg (show ¬ zs.length < 40 by omega)]
    by_cases hq : rdQ zs
    · rw [if_pos hq, if_pos (eQ.2 hq)]
    · rw [if_neg hq, if_neg (fun e => hq (eQ.1 e))]
  refine ⟨?_, eE⟩
  unfold rdL rdC
  rw [eE, eW, g 6 (by omega), g 7 (by omega), ed 8 16 (by omega), ed 24 16 (by omega)]

-- the chapter's header
def uL : List Value := [.int .u8 18, .int .u32 214375, .int .u8 6, .int .u8 64, .int .u8 1, .int .u8 1, .int .u8 1, .int .u8 1, .int .u8 1, .int .u8 1, .int .u8 1, .int .u8 1, .int .u8 1, .int .u8 1, .int .u8 1, .int .u8 1, .int .u8 1, .int .u8 1, .int .u8 1, .int .u8 1, .int .u8 2, .int .u8 2, .int .u8 2, .int .u8 2, .int .u8 2, .int .u8 2, .int .u8 2, .int .u8 2, .int .u8 2, .int .u8 2, .int .u8 2, .int .u8 2, .int .u8 2, .int .u8 2, .int .u8 2, .int .u8 2]
def uY : List Int := [0, 0, 0]
def uB : List Int := [97, 35, 69, 103, 0, 3, 6, 64, 1, 1, 1, 1, 1, 1, 1, 1, 1, 1, 1, 1, 1, 1, 1, 1, 2, 2, 2, 2, 2, 2, 2, 2, 2, 2, 2, 2, 2, 2, 2, 2]
theorem hd_u : Hd uL := ⟨18, 214375, 6, 64, [1, 1, 1, 1, 1, 1, 1, 1, 1, 1, 1, 1, 1, 1, 1, 1], [2, 2, 2, 2, 2, 2, 2, 2, 2, 2, 2, 2, 2, 2, 2, 2], rfl, by omega, by omega, by omega, by omega, by omega, by omega, by omega, by omega, rfl, rfl, bytes16 1 (by omega) (by omega), bytes16 2 (by omega) (by omega)⟩
theorem uY_bytes : Bytes uY := fun z hz => by simp [uY] at hz; omega
theorem by_u : byE uL uY = 0 ∧ byB uL uY = uB := by decide +kernel

theorem uB_by : Bytes uB := by rw [← by_u.2]; exact byB_bytes hd_u uY_bytes

-- a header that may not be
def badL : List Value := [.int .u8 0, .int .u32 1048576, .int .u8 0, .int .u8 0, .int .u8 0, .int .u8 0, .int .u8 0, .int .u8 0, .int .u8 0, .int .u8 0, .int .u8 0, .int .u8 0, .int .u8 0, .int .u8 0, .int .u8 0, .int .u8 0, .int .u8 0, .int .u8 0, .int .u8 0, .int .u8 0, .int .u8 0, .int .u8 0, .int .u8 0, .int .u8 0, .int .u8 0, .int .u8 0, .int .u8 0, .int .u8 0, .int .u8 0, .int .u8 0, .int .u8 0, .int .u8 0, .int .u8 0, .int .u8 0, .int .u8 0, .int .u8 0]
theorem hd_bad : Hd badL := ⟨0, 1048576, 0, 0, [0, 0, 0, 0, 0, 0, 0, 0, 0, 0, 0, 0, 0, 0, 0, 0], [0, 0, 0, 0, 0, 0, 0, 0, 0, 0, 0, 0, 0, 0, 0, 0], rfl, by omega, by omega, by omega, by omega, by omega, by omega, by omega, by omega, rfl, rfl, bytes16 0 (by omega) (by omega), bytes16 0 (by omega) (by omega)⟩
theorem ck_bad : ckE badL = 80 := by decide +kernel

theorem sixteen (x0 x1 x2 x3 x4 x5 x6 x7 x8 x9 x10 x11 x12 x13 x14 x15 : Int) (h0 : (Lit.int .u8 x0).wf = true) (h1 : (Lit.int .u8 x1).wf = true) (h2 : (Lit.int .u8 x2).wf = true) (h3 : (Lit.int .u8 x3).wf = true) (h4 : (Lit.int .u8 x4).wf = true) (h5 : (Lit.int .u8 x5).wf = true) (h6 : (Lit.int .u8 x6).wf = true) (h7 : (Lit.int .u8 x7).wf = true) (h8 : (Lit.int .u8 x8).wf = true) (h9 : (Lit.int .u8 x9).wf = true) (h10 : (Lit.int .u8 x10).wf = true) (h11 : (Lit.int .u8 x11).wf = true) (h12 : (Lit.int .u8 x12).wf = true) (h13 : (Lit.int .u8 x13).wf = true) (h14 : (Lit.int .u8 x14).wf = true) (h15 : (Lit.int .u8 x15).wf = true) : Bytes [x0, x1, x2, x3, x4, x5, x6, x7, x8, x9, x10, x11, x12, x13, x14, x15] := by
  refine bytes_of_wf (fun z hz => ?_)
  simp only [List.mem_cons, List.not_mem_nil, or_false] at hz
  rcases hz with rfl | rfl | rfl | rfl | rfl | rfl | rfl | rfl | rfl | rfl | rfl | rfl | rfl | rfl | rfl | rfl <;> assumption

/-- A header that came in. -/
theorem hd_open (W : World) (m : sh25.M) (o : sh25.ok W m) : Hd (sh25.cs m) := by
  obtain ⟨cl, fl, nx, hp, ⟨s0, s1, s2, s3, s4, s5, s6, s7, s8, s9, s10, s11, s12, s13, s14, s15⟩, ⟨d0, d1, d2, d3, d4, d5, d6, d7, d8, d9, d10, d11, d12, d13, d14, d15⟩⟩ := m
  obtain ⟨kc, kf, kx, kh, ⟨e0, e1, e2, e3, e4, e5, e6, e7, e8, e9, e10, e11, e12, e13, e14, e15⟩, ⟨g0, g1, g2, g3, g4, g5, g6, g7, g8, g9, g10, g11, g12, g13, g14, g15⟩⟩ := o
  exact ⟨cl, fl, nx, hp, [s0, s1, s2, s3, s4, s5, s6, s7, s8, s9, s10, s11, s12, s13, s14, s15], [d0, d1, d2, d3, d4, d5, d6, d7, d8, d9, d10, d11, d12, d13, d14, d15], rfl, (bounds_u8 kc).1, (bounds_u8 kc).2, (bounds32 kf).1, (bounds32 kf).2, (bounds_u8 kx).1, (bounds_u8 kx).2, (bounds_u8 kh).1, (bounds_u8 kh).2, rfl, rfl, sixteen _ _ _ _ _ _ _ _ _ _ _ _ _ _ _ _ e0 e1 e2 e3 e4 e5 e6 e7 e8 e9 e10 e11 e12 e13 e14 e15, sixteen _ _ _ _ _ _ _ _ _ _ _ _ _ _ _ _ g0 g1 g2 g3 g4 g5 g6 g7 g8 g9 g10 g11 g12 g13 g14 g15⟩
end Go.Proofs.Ytidlgbidffldoaa
