/- Both sides' handles as things (pgS: the program's, dcS: the document's); the contracts of all calls on them. -/
import Derived.Test.YtbinedhgjmfceaaHf
import Derived.Test.YtbinedhgjmfceaaHc
namespace Go.Proofs.Ytbinedhgjmfceaa
open Go.ChangeShapes Go.WideShapes Go.ChangeAt Go.RowKit

def pkG (p : Nat) (x : Nat × List Int × List Int) (G : Gr) : Thing where
  foot := pkS p x.1
  holds := fun w => PkIs w p x.1 x.2.1 G.B x.2.2 G.m ∧ x.2.1.length = G.a ∧ x.2.2.length = G.d
  keeps := fun h k hs => ⟨h.1.kept k (hs p (.inl rfl)) (hs x.1 (.inr rfl)), h.2⟩
  lt := fun {_ k} h e => by
    rcases e with rfl | rfl
    · exact h.1.raw.lt
    · exact h.1.glt

def rfG (q : Nat) (bv : Value) (G : Gr) : Thing where
  foot := rfS q bv
  holds := fun w => RfIs w 0 q bv G.B G.a G.d G.m
  keeps := fun h k hs => h.kept k hs
  lt := fun h e => (h.above e).2

def pgS : Sd where
  X := Nat × List Int × List Int
  hc := fun o cs => match o with | some c => cs = #[.pointer (some ⟨c, 0, none⟩), .bool false] | none => cs = #[.pointer none, .bool true]
  tS := 59
  tG := 73
  pk := pkG

def dcS : Sd where
  X := Value
  hc := fun o cs => match o with | some c => cs = #[.pointer (some ⟨c, 0, none⟩), .bool false] | none => ∃ u, cs = #[u, .bool true]
  tS := 79
  tG := 77
  pk := rfG

theorem RfIs.lower {w : World} {base q : Nat} {bv : Value} {B : List Int} {a d m : Nat} (h : RfIs w base q bv B a d m) : RfIs w 0 q bv B a d m :=
  ⟨h.box, ownsRow_base h.row (Nat.zero_le _), h.ne, Nat.zero_le _, h.bytes, h.most, h.mvs⟩

/-- Parting: where the handle is then, its packet, all. -/
def St.pJ (σ : St) (j : Nat) : Nat := if many σ.hs j = 1 then j else σ.gs.length
def St.pG (σ : St) (j : Nat) (G : Gr) : Gr := if many σ.hs j = 1 then G else ⟨G.B, 64, 64, 0⟩
def St.part (σ : St) (i j : Nat) (G : Gr) : St := if many σ.hs j = 1 then σ else ⟨σ.hs.set i (some σ.gs.length), σ.gs ++ [⟨G.B, 64, 64, 0⟩]⟩
def St.putG (σ : St) (j : Nat) (G : Gr) : St := ⟨σ.hs, σ.gs.set j G⟩
def St.store (σ : St) (i j : Nat) (G : Gr) (x k v : Int) : St := if askE G.B.length x k = 0 then (σ.part i j G).putG (σ.pJ j) ⟨stE G.B x k v, (σ.pG j G).a, (σ.pG j G).d, (σ.pG j G).m⟩ else σ

theorem St.part_get {σ : St} {i j : Nat} {G : Gr} (hG : σ.gs[j]? = some G) : (σ.part i j G).gs[σ.pJ j]? = some (σ.pG j G) := by
  unfold St.part St.pJ St.pG
  by_cases h : many σ.hs j = 1
  · rw [if_pos h, if_pos h, if_pos h]; exact hG
  · rw [if_neg h, if_neg h, if_neg h]; exact snoc_new _ _
theorem St.part_hs {σ : St} {i j : Nat} {G : Gr} (hi : σ.hs[i]? = some (some j)) : (σ.part i j G).hs[i]? = some (some (σ.pJ j)) := by
  unfold St.part St.pJ
  by_cases h : many σ.hs j = 1
  · rw [if_pos h, if_pos h]; exact hi
  · rw [if_neg h, if_neg h]
    exact List.getElem?_set_self (List.getElem?_eq_some_iff.1 hi).1
theorem St.part_len (σ : St) (i j : Nat) (G : Gr) : (σ.part i j G).hs.length = σ.hs.length := by
  unfold St.part; split <;> simp
theorem St.pG_B (σ : St) (j : Nat) (G : Gr) : (σ.pG j G).B = G.B := by unfold St.pG; split <;> rfl

theorem Next.refl {d : Sd} {w : World} {F : Nat → Prop} {sl pl : List Nat} {σ : St} (h : Shs d w F sl pl σ) : Next d w F w sl pl σ := ⟨F, h, Kept.refl _ _, fun _ hk => .inl hk⟩
theorem Next.dr {d : Sd} {w w' : World} {F : Nat → Prop} {sl pl : List Nat} {σ : St} (h : Shs d w F sl pl σ) (k : Dr w w') : Next d w F w' sl pl σ :=
  ⟨F, h.kept (Kept.of_below (S := fun _ => False) (k.below _)) (fun _ _ h => h), Kept.of_below (k.below _), fun _ hk => .inl hk⟩
theorem Next.after {d : Sd} {w w1 w2 : World} {F : Nat → Prop} {sl pl sl2 pl2 : List Nat} {σ σ2 : St} (h : Next d w F w1 sl pl σ) (k : ∀ F', Shs d w1 F' sl pl σ → Next d w1 F' w2 sl2 pl2 σ2) : Next d w F w2 sl2 pl2 σ2 := by
  obtain ⟨F1, h1, h2, h3⟩ := h
  obtain ⟨F2, k1, k2, k3⟩ := k F1 h1
  refine ⟨F2, k1, h2.then k2 (fun i hi e => ?_), fun i hi => ?_⟩
  · rcases h3 i e with e | e
    · exact e
    · omega
  · rcases k3 i hi with e | e
    · exact h3 i e
    · exact .inr (Nat.le_trans h2.size e)

section program
variable {w : World} {F : Nat → Prop} {sl pl : List Nat} {σ : St} {i j s : Nat} {G : Gr}

theorem Open.hd {lab : Nat → Lab} {cl : List Nat} {c p : Nat} {x : pgS.X} {cs : Array Value} (o : Open pgS w lab cl sl pl σ i j s c p x G cs) : Hd w s c := by
  have h1 := o.bs
  have h2 : cs = #[.pointer (some ⟨c, 0, none⟩), .bool false] := o.hc
  rw [h2] at h1; exact h1
theorem Open.cm {lab : Nat → Lab} {cl : List Nat} {c p : Nat} {x : pgS.X} {cs : Array Value} (o : Open pgS w lab cl sl pl σ i j s c p x G cs) : Cm w c p (many σ.hs j) := o.bc

theorem sh_bad (h : Shs pgS w F sl pl σ) (hs : sl[i]? = some s) (hi : σ.hs[i]? = some none) : Bad w (.pointer (some ⟨s, 0, none⟩)) 40 := by
  obtain ⟨cs, h1, h2⟩ := h.gone hs hi
  have h2 : cs = #[.pointer none, .bool true] := h2
  rw [h2] at h1
  exact .inr ⟨rfl, s, rfl, h1⟩

theorem sh_clone (h : Shs pgS w F sl pl σ) (hs : sl[i]? = some s) (hi : σ.hs[i]? = some (some j)) (hl : σ.hs.length ≤ 1000) :
    Calls Try.prog 15 #[.pointer (some ⟨s, 0, none⟩)] w fun e w' => ∃ t, e = .returned (.tuple #[.pointer (some ⟨t, 0, none⟩), .int .i64 0]) ∧ Next pgS w F w' (sl ++ [t]) pl ⟨σ.hs ++ [some j], σ.gs⟩ := by
  obtain ⟨lab, cl, c, p, x, G, cs, hF, o⟩ := h.opened hs hi
  have hm := many_le σ.hs j
  exact (clone_ok s c p _ w o.hd o.cm (by omega)).mono fun e w' ⟨t, k1, k2, k3, k4, k5⟩ => ⟨t, k1, o.clone hF k5 k2 k3 rfl k4⟩

theorem sh_free (h : Shs pgS w F sl pl σ) (hs : sl[i]? = some s) (hi : σ.hs[i]? = some (some j)) (hl : σ.hs.length ≤ 1000) :
    Calls Try.prog 19 #[.pointer (some ⟨s, 0, none⟩)] w fun e w' => e = .returned (.int .i64 0) ∧ Next pgS w F w' sl pl ⟨σ.hs.set i none, σ.gs⟩ := by
  obtain ⟨lab, cl, c, p, x, G, cs, hF, o⟩ := h.opened hs hi
  have hm := many_le σ.hs j
  have hp := many_pos hi
  obtain ⟨n, hn⟩ : ∃ n, many σ.hs j = n + 1 := ⟨many σ.hs j - 1, by omega⟩
  have kc := o.cm
  rw [hn] at kc
  exact (free_ok s c p n w o.hd kc (by omega)).mono fun e w' ⟨k1, k2, k3, k4⟩ => ⟨k1, o.free hF k4 k2 rfl hn.symm k3⟩

theorem sh_count (h : Shs pgS w F sl pl σ) (hs : sl[i]? = some s) (hi : σ.hs[i]? = some (some j)) :
    Calls Try.prog 21 #[.pointer (some ⟨s, 0, none⟩)] w fun e w' => e = .returned (.int .i64 (many σ.hs j)) ∧ w = w' := by
  obtain ⟨lab, cl, c, p, x, G, cs, hF, o⟩ := h.opened hs hi
  exact count_ok s c p _ w o.hd o.cm

theorem sh_len (h : Shs pgS w F sl pl σ) (hs : sl[i]? = some s) (hi : σ.hs[i]? = some (some j)) (hG : σ.gs[j]? = some G) :
    Calls Try.prog 24 #[.pointer (some ⟨s, 0, none⟩)] w fun e w' => e = .returned (.int .i64 (G.B.length : Int)) ∧ Dr w w' := by
  obtain ⟨lab, cl, c, p, x, G', cs, hF, o⟩ := h.opened hs hi
  obtain rfl : G = G' := by have := hG.symm.trans o.hgs; simpa using this
  exact slen_ok s c p _ x.1 x.2.1 G.B x.2.2 G.m w o.hd o.cm o.pk.1

theorem sh_bytes (h : Shs pgS w F sl pl σ) (hs : sl[i]? = some s) (hi : σ.hs[i]? = some (some j)) (hG : σ.gs[j]? = some G) :
    Calls Try.prog 18 #[.pointer (some ⟨s, 0, none⟩)] w fun e w' => ∃ v, e = .returned v ∧ w'.ownsRow w.heap.size 5 1 v G.B.length (G.B.map (Value.int .u8)) ∧ Below w.heap.size w w' := by
  obtain ⟨lab, cl, c, p, x, G', cs, hF, o⟩ := h.opened hs hi
  obtain rfl : G = G' := by have := hG.symm.trans o.hgs; simpa using this
  exact sbytes_ok s c p _ x.1 x.2.1 G.B x.2.2 G.m w o.hd o.cm o.pk.1

theorem sh_load (x k : Int) (h : Shs pgS w F sl pl σ) (hs : sl[i]? = some s) (hi : σ.hs[i]? = some (some j)) (hG : σ.gs[j]? = some G) (hx : -9223372036854775808 ≤ x) (hx' : x ≤ 9223372036854775807) :
    Calls Try.prog 23 #[.pointer (some ⟨s, 0, none⟩), .int .i64 x, .int .i64 k] w fun e w' => e = .returned (.tuple #[.int .u64 (ldE G.B x k), .int .i64 (askE G.B.length x k)]) ∧ Dr w w' := by
  obtain ⟨lab, cl, c, p, y, G', cs, hF, o⟩ := h.opened hs hi
  obtain rfl : G = G' := by have := hG.symm.trans o.hgs; simpa using this
  exact sload_ok s c p _ y.1 y.2.1 G.B y.2.2 G.m x k w o.hd o.cm o.pk.1 hx hx'

theorem Parted.next {lab : Nat → Lab} {cl : List Nat} {c p n c' p' g' : Nat} {x : pgS.X} {cs : Array Value} {w' : World} (o : Open pgS w lab cl sl pl σ i j s c p x G cs) (hF : ∀ k, F k ↔ lab k ≠ .no) (h : Parted w w' s c p n G.B c' p' g') (hn : n + 1 = many σ.hs j) :
    Next pgS w F w' sl (pl ++ [p']) ⟨σ.hs.set i (some σ.gs.length), σ.gs ++ [⟨G.B, 64, 64, 0⟩]⟩ := by
  refine o.part hF (x' := (g', List.replicate 64 0, List.replicate 64 0)) h.kept h.hd rfl hn h.old h.cm h.newc ⟨h.pk, by simp, by simp⟩ (fun k hk => ?_)
  have h1 := h.newp
  have h2 := h.newg
  have hcm := h.cm
  have hb := h.pk.raw.box
  have hr := h.pk.row
  unfold Cm at hcm
  rcases hk with rfl | rfl
  · refine ⟨h1, fun e => ?_⟩
    rw [e, hcm] at hb
    simp only [Option.some.injEq, Obj.cells.injEq] at hb; exact absurd hb.2.1 (by decide)
  · refine ⟨h2, fun e => ?_⟩
    rw [e, hcm] at hr
    simp only [Option.some.injEq, Obj.cells.injEq] at hr; exact absurd hr.2.1 (by decide)

theorem sh_own (h : Shs pgS w F sl pl σ) (hs : sl[i]? = some s) (hi : σ.hs[i]? = some (some j)) (hG : σ.gs[j]? = some G) (hl : σ.hs.length ≤ 1000) :
    Calls Try.prog 22 #[.pointer (some ⟨s, 0, none⟩)] w fun e w' => ∃ p pl', e = .returned (.tuple #[.pointer (some ⟨p, 0, none⟩), .int .i64 0]) ∧ pl'[σ.pJ j]? = some p ∧ Next pgS w F w' sl pl' (σ.part i j G) := by
  obtain ⟨lab, cl, c, p, x, G', cs, hF, o⟩ := h.opened hs hi
  obtain rfl : G = G' := by have := hG.symm.trans o.hgs; simpa using this
  have hm := many_le σ.hs j
  have hp := many_pos hi
  have kc := o.cm
  unfold St.pJ St.part
  by_cases h1 : many σ.hs j = 1
  · rw [if_pos h1, if_pos h1]
    rw [h1] at kc
    exact (sown_one s c p w o.hd kc).mono fun e w' ⟨k1, k2⟩ => ⟨p, pl, k1, o.hpl, by rw [← k2]; exact Next.refl h⟩
  · rw [if_neg h1, if_neg h1]
    obtain ⟨n, hn⟩ : ∃ n, many σ.hs j = n + 2 := ⟨many σ.hs j - 2, by omega⟩
    rw [hn] at kc
    exact (sown_many s c p n x.1 x.2.1 G.B x.2.2 G.m w o.hd kc o.pk.1 (by omega)).mono fun e w' ⟨c', p', g', k1, k2⟩ => ⟨p', pl ++ [p'], k1, by rw [← o.at_.lenp]; exact snoc_new _ _, Parted.next o hF k2 (by omega)⟩

theorem sh_store (x k v : Int) (h : Shs pgS w F sl pl σ) (hs : sl[i]? = some s) (hi : σ.hs[i]? = some (some j)) (hG : σ.gs[j]? = some G) (hl : σ.hs.length ≤ 1000) (hx : -9223372036854775808 ≤ x) (hx' : x ≤ 9223372036854775807) (v0 : 0 ≤ v) (v1 : v ≤ 18446744073709551615) :
    Calls Try.prog 20 #[.pointer (some ⟨s, 0, none⟩), .int .i64 x, .int .i64 k, .int .u64 v] w fun e w' => e = .returned (.int .i64 (askE G.B.length x k)) ∧ ∃ pl', Next pgS w F w' sl pl' (σ.store i j G x k v) := by
  obtain ⟨lab, cl, c, p, y, G', cs, hF, o⟩ := h.opened hs hi
  obtain rfl : G = G' := by have := hG.symm.trans o.hgs; simpa using this
  have hm := many_le σ.hs j
  have hp := many_pos hi
  have kc := o.cm
  unfold St.store
  by_cases he : askE G.B.length x k = 0
  · rw [if_pos he, he]
    unfold St.pJ St.part St.pG St.putG
    by_cases h1 : many σ.hs j = 1
    · rw [if_pos h1, if_pos h1, if_pos h1]
      rw [h1] at kc
      refine (sstore_one s c p y.1 y.2.1 G.B y.2.2 G.m x k v w o.hd kc o.pk.1 hx hx' v0 v1 he).mono fun e w' ⟨k1, k2, k3⟩ => ⟨k1, pl, ?_⟩
      obtain ⟨y', r1, r2, r3⟩ := h.put o.hpl hG
      have e1 : y'.1 = y.1 := by
        have a1 := r1.1.raw.box
        have a2 := o.pk.1.raw.box
        rw [a1] at a2
        simp at a2
        exact a2.1.1
      refine r3 w' y ⟨stE G.B x k v, G.a, G.d, G.m⟩ (k3.mono (fun i _ e => .inr (e.trans e1.symm))) ⟨k2, o.pk.2⟩ (fun k hk => .inl ?_)
      rcases hk with hk | hk
      · exact .inl hk
      · exact .inr (hk.trans e1.symm)
    · rw [if_neg h1, if_neg h1, if_neg h1]
      obtain ⟨n, hn⟩ : ∃ n, many σ.hs j = n + 2 := ⟨many σ.hs j - 2, by omega⟩
      rw [hn] at kc
      refine (sstore_many s c p n y.1 y.2.1 G.B y.2.2 G.m x k v w o.hd kc o.pk.1 (by omega) hx hx' v0 v1 he).mono fun e w' ⟨k1, w1, w2, c', p', g', k2, k3, k4, k5⟩ => ⟨k1, pl ++ [p'], ?_⟩
      refine (Next.dr h k2).after fun F1 H1 => ?_
      obtain ⟨lab1, cl1, c1, p1, y1, G1, cs1, hF1, o1⟩ := H1.opened hs hi
      obtain rfl : G = G1 := by have := hG.symm.trans o1.hgs; simpa using this
      obtain rfl : p = p1 := by have := o.hpl.symm.trans o1.hpl; simpa using this
      obtain rfl : c = c1 := by
        have a1 := o.hd.dr k2
        have a2 := o1.hd
        unfold Hd at a1 a2
        rw [a1] at a2
        simp at a2
        exact a2
      refine (Parted.next o1 hF1 k3 (by omega)).after fun F2 H2 => ?_
      have hlp : (pl ++ [p'])[σ.gs.length]? = some p' := by rw [← o.at_.lenp]; exact snoc_new _ _
      obtain ⟨y', r1, r2, r3⟩ := H2.put hlp (snoc_new σ.gs _)
      have e1 : y'.1 = g' := by
        have a1 := r1.1.raw.box
        have a2 := k3.pk.raw.box
        rw [a1] at a2
        simp at a2
        exact a2.1.1
      refine r3 w' (g', List.replicate 64 0, List.replicate 64 0) ⟨stE G.B x k v, 64, 64, 0⟩ (k5.mono (fun i _ e => .inr (e.trans e1.symm))) ⟨k4, by simp, by simp⟩ (fun k hk => .inl ?_)
      rcases hk with hk | hk
      · exact .inl hk
      · exact .inr (hk.trans e1.symm)
  · rw [if_neg he]
    exact (sstore_err s c p _ y.1 y.2.1 G.B y.2.2 G.m x k v w o.hd kc o.pk.1 hx hx' he).mono fun e w' ⟨k1, k2⟩ => ⟨k1, pl, Next.dr h k2⟩

theorem sh_new_long (a : Option Addr) (n c : Nat) (w : World) (hl : n ≤ 140737488355328) (h : 2048 < n) :
    Calls Try.prog 12 #[.slice a n c] w fun e w' => e = .returned (.tuple #[.pointer none, .int .i64 5]) ∧ w = w' := snew_long a n c w hl h

theorem sh_new (a : Option Addr) (n c : Nat) (zs : List Int) (h : Shs pgS w F sl pl σ) (hn : zs.length = n) (hB : Bs w a zs) (hl : n ≤ 2048) :
    Calls Try.prog 12 #[.slice a n c] w fun e w' => ∃ t p, e = .returned (.tuple #[.pointer (some ⟨t, 0, none⟩), .int .i64 0]) ∧ w.heap.size ≤ t ∧ Below w.heap.size w w' ∧ Next pgS w F w' (sl ++ [t]) (pl ++ [p]) ⟨σ.hs ++ [some σ.gs.length], σ.gs ++ [⟨zs, 64, 64, 0⟩]⟩ := by
  refine (snew_ok a n c zs w hn hB hl).mono fun e w' ⟨t, x, p, g, k1, k2, k3, k4, k5, k6, k7, k8, k9⟩ => ⟨t, p, k1, k2, k9, ?_⟩
  refine h.new k9 (x' := (g, List.replicate 64 0, List.replicate 64 0)) k2 k3 (hd_cm_ne k6 k7) k6 rfl k7 ⟨k8, by simp, by simp⟩ (fun k hk => ?_)
  have hb := k8.raw.box
  have hr := k8.row
  unfold Cm at k7
  unfold Hd at k6
  rcases hk with rfl | rfl
  · refine ⟨k4, fun e => ?_, fun e => ?_⟩
    · rw [e, k7] at hb
      simp only [Option.some.injEq, Obj.cells.injEq] at hb; exact absurd hb.2.1 (by decide)
    · rw [e, k6] at hb
      simp only [Option.some.injEq, Obj.cells.injEq] at hb; exact absurd hb.2.1 (by decide)
  · refine ⟨k5, fun e => ?_, fun e => ?_⟩
    · rw [e, k7] at hr
      simp only [Option.some.injEq, Obj.cells.injEq] at hr; exact absurd hr.2.1 (by decide)
    · rw [e, k6] at hr
      simp only [Option.some.injEq, Obj.cells.injEq] at hr; exact absurd hr.2.1 (by decide)

/-- A packet that Own told is moved. -/
theorem sh_head (n : Int) {p : Nat} (h : Shs pgS w F sl pl σ) (hp : pl[j]? = some p) (hG : σ.gs[j]? = some G) (hm : G.m + 1 ≤ 100000) :
    Calls Try.prog 33 #[.pointer (some ⟨p, 0, none⟩), .int .i64 n] w fun e w' => e = .returned (.int .i64 (mayE G.B.length n)) ∧ Next pgS w F w' sl pl (σ.putG j ⟨hB n G.B, hA G.B.length n G.a, hD G.B.length n G.a G.d, mM G.B.length n G.m⟩) := by
  obtain ⟨y, ⟨r1, r1a, r1d⟩, r2, r3⟩ := h.put hp hG
  refine (head_any p y.1 y.2.1 G.B y.2.2 G.m n w r1 hm).mono fun e w' ⟨k1, g', A', D', k2, k3, k4, k5, k6⟩ => ⟨k1, r3 w' (g', A', D') _ k5 ⟨k2, by rw [← r1a]; exact k3, by rw [← r1a, ← r1d]; exact k4⟩ (fun k hk => ?_)⟩
  rcases hk with hk | hk
  · exact .inl (.inl hk)
  · rcases k6 with e | e
    · exact .inl (.inr (hk.trans e))
    · have hk : k = g' := hk
      exact .inr (by omega)
theorem sh_tail (n : Int) {p : Nat} (h : Shs pgS w F sl pl σ) (hp : pl[j]? = some p) (hG : σ.gs[j]? = some G) (hm : G.m + 1 ≤ 100000) :
    Calls Try.prog 35 #[.pointer (some ⟨p, 0, none⟩), .int .i64 n] w fun e w' => e = .returned (.int .i64 (mayE G.B.length n)) ∧ Next pgS w F w' sl pl (σ.putG j ⟨tB n G.B, tA G.B.length n G.a G.d, tD G.B.length n G.d, mM G.B.length n G.m⟩) := by
  obtain ⟨y, ⟨r1, r1a, r1d⟩, r2, r3⟩ := h.put hp hG
  refine (tail_any p y.1 y.2.1 G.B y.2.2 G.m n w r1 hm).mono fun e w' ⟨k1, g', A', D', k2, k3, k4, k5, k6⟩ => ⟨k1, r3 w' (g', A', D') _ k5 ⟨k2, by rw [← r1a, ← r1d]; exact k3, by rw [← r1d]; exact k4⟩ (fun k hk => ?_)⟩
  rcases hk with hk | hk
  · exact .inl (.inl hk)
  · rcases k6 with e | e
    · exact .inl (.inr (hk.trans e))
    · have hk : k = g' := hk
      exact .inr (by omega)
theorem sh_moves {p : Nat} (h : Shs pgS w F sl pl σ) (hp : pl[j]? = some p) (hG : σ.gs[j]? = some G) :
    Calls Try.prog 31 #[.pointer (some ⟨p, 0, none⟩)] w fun e w' => e = .returned (.int .i64 G.m) ∧ w = w' := by
  obtain ⟨y, r1, r2, r3⟩ := h.put hp hG
  exact moves_any p y.1 y.2.1 G.B y.2.2 G.m w r1.1
theorem sh_facts {p : Nat} (h : Shs pgS w F sl pl σ) (hp : pl[j]? = some p) (hG : σ.gs[j]? = some G) : Bytes G.B ∧ G.B.length ≤ 2048 ∧ G.m ≤ 100000 := by
  obtain ⟨y, r1, r2, r3⟩ := h.put hp hG
  exact ⟨r1.1.bytes.mid.2.1, r1.1.most, r1.1.mvs⟩
/-- Its Data: where its bytes lie, and what becomes of it when one of them is written. -/
theorem sh_data {p : Nat} (h : Shs pgS w F sl pl σ) (hp : pl[j]? = some p) (hG : σ.gs[j]? = some G) : ∃ g o a, F g ∧ (0 < G.B.length → o = a) ∧
    (∀ u, Dr w u → Calls Try.prog 37 #[.pointer (some ⟨p, 0, none⟩)] u fun e w' => e = .returned (.slice (some ⟨g, o, none⟩) G.B.length G.B.length) ∧ Dr u w') ∧
    ∀ y, y < G.B.length → w.cell? ⟨g, a + y, none⟩ = some (.int .u8 (G.B.getD y 0)) ∧ w.frozen? ⟨g, a + y, none⟩ = false ∧ ∀ z u, Dr w u → 0 ≤ z → z ≤ 255 → Next pgS w F (u.setCell ⟨g, a + y, none⟩ (.int .u8 z)) sl pl (σ.putG j ⟨G.B.set y z, G.a, G.d, G.m⟩) := by
  obtain ⟨x, ⟨r1, r1a, r1d⟩, r2, r3⟩ := h.put hp hG
  refine ⟨x.1, pO x.2.1 G.B, x.2.1.length, r2 _ (.inr rfl), fun h0 => by unfold pO; rw [if_neg (by omega)], fun u hu => data_any p x.1 x.2.1 G.B x.2.2 G.m u (r1.dr hu), fun y hy => ?_⟩
  obtain ⟨c1, c2⟩ := r1.byte y hy
  refine ⟨c1, c2, fun z u hu z0 z1 => ?_⟩
  have hk : Kept (pkG p x G).foot w (u.setCell ⟨x.1, x.2.1.length + y, none⟩ (.int .u8 z)) := (Kept.of_below (hu.below _)).then ((kept_set u x.1 _ _).mono (T := pkS p x.1) (fun _ _ e => .inr e)) (fun _ _ e => e)
  exact r3 _ x _ hk ⟨(r1.dr hu).put y z hy z0 z1, r1a, r1d⟩ (fun k hk => .inl hk)
end program
end Go.Proofs.Ytbinedhgjmfceaa
