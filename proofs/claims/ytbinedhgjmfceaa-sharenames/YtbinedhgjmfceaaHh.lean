/- The contracts of all calls on the document's handles (dcS). -/
import Derived.Test.YtbinedhgjmfceaaHg
namespace Go.Proofs.Ytbinedhgjmfceaa
open Go.ChangeShapes Go.WideShapes Go.ChangeAt Go.RowKit

section document
variable {w : World} {F : Nat → Prop} {sl pl : List Nat} {σ : St} {i j s : Nat} {G : Gr}

theorem Open.rhd {lab : Nat → Lab} {cl : List Nat} {c p : Nat} {x : dcS.X} {cs : Array Value} (o : Open dcS w lab cl sl pl σ i j s c p x G cs) : RHd w s c := by
  have h1 := o.bs
  have h2 : cs = #[.pointer (some ⟨c, 0, none⟩), .bool false] := o.hc
  rw [h2] at h1; exact h1
theorem Open.rcm {lab : Nat → Lab} {cl : List Nat} {c p : Nat} {x : dcS.X} {cs : Array Value} (o : Open dcS w lab cl sl pl σ i j s c p x G cs) : RCm w c p (many σ.hs j) := o.bc
theorem Open.rpk {lab : Nat → Lab} {cl : List Nat} {c p : Nat} {x : dcS.X} {cs : Array Value} (o : Open dcS w lab cl sl pl σ i j s c p x G cs) : RfIs w 0 p x G.B G.a G.d G.m := o.pk

theorem rd_gone (h : Shs dcS w F sl pl σ) (hs : sl[i]? = some s) (hi : σ.hs[i]? = some none) : RGn w s := by
  obtain ⟨cs, h1, u, h2⟩ := h.gone hs hi
  rw [h2] at h1
  exact ⟨u, h1⟩

theorem rd_clone (h : Shs dcS w F sl pl σ) (hs : sl[i]? = some s) (hi : σ.hs[i]? = some (some j)) (hl : σ.hs.length ≤ 1000) :
    Calls Try.prog 26 #[.pointer (some ⟨s, 0, none⟩)] w fun e w' => ∃ t, e = .returned (.tuple #[.pointer (some ⟨t, 0, none⟩), .int .i64 0]) ∧ Next dcS w F w' (sl ++ [t]) pl ⟨σ.hs ++ [some j], σ.gs⟩ := by
  obtain ⟨lab, cl, c, p, x, G, cs, hF, o⟩ := h.opened hs hi
  have hm := many_le σ.hs j
  exact (rclone_ok s c p _ w o.rhd o.rcm (by omega)).mono fun e w' ⟨t, k1, k2, k3, k4, k5⟩ => ⟨t, k1, o.clone hF k5 k2 k3 rfl k4⟩

theorem rd_free (h : Shs dcS w F sl pl σ) (hs : sl[i]? = some s) (hi : σ.hs[i]? = some (some j)) (hl : σ.hs.length ≤ 1000) :
    Calls Try.prog 27 #[.pointer (some ⟨s, 0, none⟩)] w fun e w' => e = .returned (.int .i64 0) ∧ Next dcS w F w' sl pl ⟨σ.hs.set i none, σ.gs⟩ := by
  obtain ⟨lab, cl, c, p, x, G, cs, hF, o⟩ := h.opened hs hi
  have hm := many_le σ.hs j
  have hp := many_pos hi
  obtain ⟨n, hn⟩ : ∃ n, many σ.hs j = n + 1 := ⟨many σ.hs j - 1, by omega⟩
  have kc := o.rcm
  rw [hn] at kc
  exact (rfree_ok s c p n w o.rhd kc (by omega)).mono fun e w' ⟨k1, ⟨u, k2⟩, k3, k4⟩ => ⟨k1, o.free hF k4 k2 ⟨u, rfl⟩ hn.symm k3⟩

theorem rd_count (h : Shs dcS w F sl pl σ) (hs : sl[i]? = some s) (hi : σ.hs[i]? = some (some j)) :
    Calls Try.prog 40 #[.pointer (some ⟨s, 0, none⟩)] w fun e w' => e = .returned (.int .i64 (many σ.hs j)) ∧ w = w' := by
  obtain ⟨lab, cl, c, p, x, G, cs, hF, o⟩ := h.opened hs hi
  exact rcount_ok s c p _ w o.rhd o.rcm

theorem rd_len (h : Shs dcS w F sl pl σ) (hs : sl[i]? = some s) (hi : σ.hs[i]? = some (some j)) (hG : σ.gs[j]? = some G) :
    Calls Try.prog 39 #[.pointer (some ⟨s, 0, none⟩)] w fun e w' => e = .returned (.int .i64 (G.B.length : Int)) ∧ w = w' := by
  obtain ⟨lab, cl, c, p, x, G', cs, hF, o⟩ := h.opened hs hi
  obtain rfl : G = G' := by have := hG.symm.trans o.hgs; simpa using this
  exact rslen_ok s c p _ 0 x G.B G.a G.d G.m w o.rhd o.rcm o.rpk

theorem rd_bytes (h : Shs dcS w F sl pl σ) (hs : sl[i]? = some s) (hi : σ.hs[i]? = some (some j)) (hG : σ.gs[j]? = some G) :
    Calls Try.prog 38 #[.pointer (some ⟨s, 0, none⟩)] w fun e w' => ∃ v, e = .returned v ∧ w'.ownsRow w.heap.size 5 1 v G.B.length (G.B.map (Value.int .u8)) ∧ Below w.heap.size w w' := by
  obtain ⟨lab, cl, c, p, x, G', cs, hF, o⟩ := h.opened hs hi
  obtain rfl : G = G' := by have := hG.symm.trans o.hgs; simpa using this
  exact rsbytes_ok s c p _ 0 x G.B G.a G.d G.m w o.rhd o.rcm o.rpk

theorem rd_load (x k : Int) (h : Shs dcS w F sl pl σ) (hs : sl[i]? = some s) (hi : σ.hs[i]? = some (some j)) (hG : σ.gs[j]? = some G) :
    Calls Try.prog 28 #[.pointer (some ⟨s, 0, none⟩), .int .i64 x, .int .i64 k] w fun e w' => e = .returned (.tuple #[.int .u64 (ldE G.B x k), .int .i64 (askE G.B.length x k)]) ∧ Dr w w' := by
  obtain ⟨lab, cl, c, p, y, G', cs, hF, o⟩ := h.opened hs hi
  obtain rfl : G = G' := by have := hG.symm.trans o.hgs; simpa using this
  exact rsload_ok s c p _ 0 y G.B G.a G.d G.m x k w o.rhd o.rcm o.rpk

theorem RParted.next {lab : Nat → Lab} {cl : List Nat} {c p n c' p' : Nat} {bv' : Value} {x : dcS.X} {cs : Array Value} {w' : World} (o : Open dcS w lab cl sl pl σ i j s c p x G cs) (hF : ∀ k, F k ↔ lab k ≠ .no) (h : RParted w w' s c p n G.B c' p' bv') (hn : n + 1 = many σ.hs j) :
    Next dcS w F w' sl (pl ++ [p']) ⟨σ.hs.set i (some σ.gs.length), σ.gs ++ [⟨G.B, 64, 64, 0⟩]⟩ :=
  o.part hF (x' := bv') h.kept h.hd rfl hn h.old h.cm h.newc h.pk.lower (fun _ hk => ⟨(h.pk.above hk).1, fun e => h.pk.apart (k := c') h.cm (by decide) (by decide) (by rw [← e]; exact hk)⟩)

theorem rd_own (h : Shs dcS w F sl pl σ) (hs : sl[i]? = some s) (hi : σ.hs[i]? = some (some j)) (hG : σ.gs[j]? = some G) (hl : σ.hs.length ≤ 1000) :
    Calls Try.prog 30 #[.pointer (some ⟨s, 0, none⟩)] w fun e w' => ∃ p pl', e = .returned (.tuple #[.pointer (some ⟨p, 0, none⟩), .int .i64 0]) ∧ pl'[σ.pJ j]? = some p ∧ Next dcS w F w' sl pl' (σ.part i j G) := by
  obtain ⟨lab, cl, c, p, x, G', cs, hF, o⟩ := h.opened hs hi
  obtain rfl : G = G' := by have := hG.symm.trans o.hgs; simpa using this
  have hm := many_le σ.hs j
  have hp := many_pos hi
  have kc := o.rcm
  unfold St.pJ St.part
  by_cases h1 : many σ.hs j = 1
  · rw [if_pos h1, if_pos h1]
    rw [h1] at kc
    exact (rsown_one s c p w o.rhd kc).mono fun e w' ⟨k1, k2⟩ => ⟨p, pl, k1, o.hpl, by rw [← k2]; exact Next.refl h⟩
  · rw [if_neg h1, if_neg h1]
    obtain ⟨n, hn⟩ : ∃ n, many σ.hs j = n + 2 := ⟨many σ.hs j - 2, by omega⟩
    rw [hn] at kc
    exact (rsown_many s c p n 0 x G.B G.a G.d G.m w o.rhd kc o.rpk (by omega)).mono fun e w' ⟨c', p', bv', k1, k2⟩ => ⟨p', pl ++ [p'], k1, by rw [← o.at_.lenp]; exact snoc_new _ _, RParted.next o hF k2 (by omega)⟩

theorem RfIs.same {w : World} {p base base' : Nat} {bv bv' : Value} {B B' : List Int} {a d m a' d' m' : Nat} (h : RfIs w base p bv B a d m) (h' : RfIs w base' p bv' B' a' d' m') : bv = bv' := by
  have a1 := h.box
  rw [h'.box] at a1
  simp at a1
  exact a1.1.symm

theorem rd_store (x k v : Int) (h : Shs dcS w F sl pl σ) (hs : sl[i]? = some s) (hi : σ.hs[i]? = some (some j)) (hG : σ.gs[j]? = some G) (hl : σ.hs.length ≤ 1000) (v0 : 0 ≤ v) (v1 : v ≤ 18446744073709551615) :
    Calls Try.prog 29 #[.pointer (some ⟨s, 0, none⟩), .int .i64 x, .int .i64 k, .int .u64 v] w fun e w' => e = .returned (.int .i64 (askE G.B.length x k)) ∧ ∃ pl', Next dcS w F w' sl pl' (σ.store i j G x k v) := by
  obtain ⟨lab, cl, c, p, y, G', cs, hF, o⟩ := h.opened hs hi
  obtain rfl : G = G' := by have := hG.symm.trans o.hgs; simpa using this
  have hm := many_le σ.hs j
  have hp := many_pos hi
  have kc := o.rcm
  unfold St.store
  by_cases he : askE G.B.length x k = 0
  · rw [if_pos he, he]
    unfold St.pJ St.part St.pG St.putG
    by_cases h1 : many σ.hs j = 1
    · rw [if_pos h1, if_pos h1, if_pos h1]
      rw [h1] at kc
      refine (rsstore_one s c p 0 y G.B G.a G.d G.m x k v w o.rhd kc o.rpk v0 v1 he).mono fun e w' ⟨k1, k2, k3⟩ => ⟨k1, pl, ?_⟩
      obtain ⟨y', r1, r2, r3⟩ := h.put o.hpl hG
      obtain rfl : y' = y := RfIs.same r1 o.rpk
      exact r3 w' y' ⟨stE G.B x k v, G.a, G.d, G.m⟩ (k3.mono (fun i _ e => .inr e)) k2 (fun k hk => .inl hk)
    · rw [if_neg h1, if_neg h1, if_neg h1]
      obtain ⟨n, hn⟩ : ∃ n, many σ.hs j = n + 2 := ⟨many σ.hs j - 2, by omega⟩
      rw [hn] at kc
      refine (rsstore_many s c p n 0 y G.B G.a G.d G.m x k v w o.rhd kc o.rpk (by omega) v0 v1 he).mono fun e w' ⟨k1, w1, w2, c', p', bv', k2, k3, k4, k5⟩ => ⟨k1, pl ++ [p'], ?_⟩
      refine (Next.dr h k2).after fun F1 H1 => ?_
      obtain ⟨lab1, cl1, c1, p1, y1, G1, cs1, hF1, o1⟩ := H1.opened hs hi
      obtain rfl : G = G1 := by have := hG.symm.trans o1.hgs; simpa using this
      obtain rfl : p = p1 := by have := o.hpl.symm.trans o1.hpl; simpa using this
      obtain rfl : c = c1 := by
        have a1 := o.rhd.dr k2
        have a2 := o1.rhd
        unfold RHd at a1 a2
        rw [a1] at a2
        simp at a2
        exact a2
      refine (RParted.next o1 hF1 k3 (by omega)).after fun F2 H2 => ?_
      have hlp : (pl ++ [p'])[σ.gs.length]? = some p' := by rw [← o.at_.lenp]; exact snoc_new _ _
      obtain ⟨y', r1, r2, r3⟩ := H2.put hlp (snoc_new σ.gs _)
      obtain rfl : y' = bv' := RfIs.same r1 k3.pk
      exact r3 w' y' ⟨stE G.B x k v, 64, 64, 0⟩ (k5.mono (fun i _ e => .inr e)) k4.lower (fun k hk => .inl hk)
  · rw [if_neg he]
    exact (rsstore_err s c p _ 0 y G.B G.a G.d G.m x k v w o.rhd kc o.rpk he).mono fun e w' ⟨k1, k2⟩ => ⟨k1, pl, Next.dr h k2⟩

theorem rhd_cm_ne' {w : World} {s c c' p n : Nat} (h : RHd w s c') (k : RCm w c p n) : s ≠ c := rhd_cm_ne h k

theorem rd_new (a : Option Addr) (n c : Nat) (zs : List Int) (h : Shs dcS w F sl pl σ) (hn : zs.length = n) (hB : Bs w a zs) (ha : a = none → c = 0) (hl : n ≤ 2048) :
    Calls Try.prog 25 #[.slice a n c] w fun e w' => ∃ t p, e = .returned (.tuple #[.pointer (some ⟨t, 0, none⟩), .int .i64 0]) ∧ w.heap.size ≤ t ∧ Below w.heap.size w w' ∧ Next dcS w F w' (sl ++ [t]) (pl ++ [p]) ⟨σ.hs ++ [some σ.gs.length], σ.gs ++ [⟨zs, 64, 64, 0⟩]⟩ := by
  refine (rsnew_ok a n c zs w hn hB ha hl).mono fun e w' ⟨t, x, p, bv, k1, k2, k3, k6, k7, k8, k9⟩ => ⟨t, p, k1, k2, k9, ?_⟩
  exact h.new k9 (x' := bv) k2 k3 (rhd_cm_ne k6 k7) k6 rfl k7 k8.lower (fun k hk => ⟨(k8.above hk).1, fun e => k8.apart (k := x) k7 (by decide) (by decide) (by rw [← e]; exact hk), fun e => k8.apart (k := t) k6 (by decide) (by decide) (by rw [← e]; exact hk)⟩)

theorem rd_head (n : Int) {p : Nat} (h : Shs dcS w F sl pl σ) (hp : pl[j]? = some p) (hG : σ.gs[j]? = some G) (hm : G.m + 1 ≤ 100000) (ha : G.a ≤ 90000) :
    Calls Try.prog 34 #[.pointer (some ⟨p, 0, none⟩), .int .i64 n] w fun e w' => e = .returned (.int .i64 (mayE G.B.length n)) ∧ Next dcS w F w' sl pl (σ.putG j ⟨hB n G.B, hA G.B.length n G.a, hD G.B.length n G.a G.d, mM G.B.length n G.m⟩) := by
  obtain ⟨y, r1, r2, r3⟩ := h.put hp hG
  refine (rhead_any 0 p y G.B G.a G.d G.m n w r1 hm ha).mono fun e w' ⟨k1, bv', k2, k5, k6⟩ => ⟨k1, r3 w' bv' _ k5 k2 (fun k hk => ?_)⟩
  rcases hk with hk | hk
  · exact .inl (.inl hk)
  · rcases k6 k hk with e | e
    · exact .inl (.inr e)
    · exact .inr e
theorem rd_tail (n : Int) {p : Nat} (h : Shs dcS w F sl pl σ) (hp : pl[j]? = some p) (hG : σ.gs[j]? = some G) (hm : G.m + 1 ≤ 100000) (ha : G.d ≤ 90000) :
    Calls Try.prog 36 #[.pointer (some ⟨p, 0, none⟩), .int .i64 n] w fun e w' => e = .returned (.int .i64 (mayE G.B.length n)) ∧ Next dcS w F w' sl pl (σ.putG j ⟨tB n G.B, tA G.B.length n G.a G.d, tD G.B.length n G.d, mM G.B.length n G.m⟩) := by
  obtain ⟨y, r1, r2, r3⟩ := h.put hp hG
  refine (rtail_any 0 p y G.B G.a G.d G.m n w r1 hm ha).mono fun e w' ⟨k1, bv', k2, k5, k6⟩ => ⟨k1, r3 w' bv' _ k5 k2 (fun k hk => ?_)⟩
  rcases hk with hk | hk
  · exact .inl (.inl hk)
  · rcases k6 k hk with e | e
    · exact .inl (.inr e)
    · exact .inr e
theorem rd_moves {p : Nat} (h : Shs dcS w F sl pl σ) (hp : pl[j]? = some p) (hG : σ.gs[j]? = some G) :
    Calls Try.prog 32 #[.pointer (some ⟨p, 0, none⟩)] w fun e w' => e = .returned (.int .i64 G.m) ∧ w = w' := by
  obtain ⟨y, r1, r2, r3⟩ := h.put hp hG
  exact rmoves_any 0 p y G.B G.a G.d G.m w r1
/-- Its bytes: where they lie, and what becomes of it when one of them is written. -/
theorem rd_data {p : Nat} (h : Shs dcS w F sl pl σ) (hp : pl[j]? = some p) (hG : σ.gs[j]? = some G) : ∃ x c, F p ∧ w.cell? ⟨p, 0, none⟩ = some (.slice x G.B.length c) ∧
    ∀ y, y < G.B.length → ∃ g, x = some ⟨g, 0, none⟩ ∧ F g ∧ G.B.length ≤ c ∧ w.cell? ⟨g, y, none⟩ = some (.int .u8 (G.B.getD y 0)) ∧ w.frozen? ⟨g, y, none⟩ = false ∧ ∀ z u, Dr w u → 0 ≤ z → z ≤ 255 → Next dcS w F (u.setCell ⟨g, y, none⟩ (.int .u8 z)) sl pl (σ.putG j ⟨G.B.set y z, G.a, G.d, G.m⟩) := by
  obtain ⟨bv, r1, r2, r3⟩ := h.put hp hG
  have r1 : RfIs w 0 p bv G.B G.a G.d G.m := r1
  obtain ⟨x, c, hbv, -, -⟩ := r1.bs
  refine ⟨x, c, r2 _ (.inl rfl), by rw [← hbv]; exact r1.cells.1, fun y hy => ?_⟩
  obtain ⟨g, c', e, hc⟩ := r1.lies (by omega)
  rw [hbv] at e
  simp only [Value.slice.injEq] at e
  obtain ⟨e1, -, e2⟩ := e
  subst e1; subst e2
  subst hbv
  obtain ⟨c1, c2⟩ := r1.byte y hy
  refine ⟨g, rfl, r2 _ (.inr rfl), hc, c1, c2, fun z u hu z0 z1 => ?_⟩
  have hk : Kept (rfG p (.slice (some ⟨g, 0, none⟩) G.B.length c) G).foot w (u.setCell ⟨g, y, none⟩ (.int .u8 z)) := (Kept.of_below (hu.below _)).then ((kept_set u g _ _).mono (T := rfS p (.slice (some ⟨g, 0, none⟩) G.B.length c)) (fun _ _ e => .inr (by rw [e]; rfl))) (fun _ _ e => e)
  exact r3 _ (.slice (some ⟨g, 0, none⟩) G.B.length c) _ hk ((r1.dr hu).put y z z0 z1) (fun k hk => .inl hk)
end document
end Go.Proofs.Ytbinedhgjmfceaa
