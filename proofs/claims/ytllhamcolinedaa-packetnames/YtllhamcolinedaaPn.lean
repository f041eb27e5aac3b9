/- Both packets beside each other (Pl); the contract of the statements' own 'shows'. -/
import Derived.Test.YtllhamcolinedaaPm
import Derived.Test.YtllhamcolinedaaPk
import Derived.Deep.CutRange
import Derived.Deep.CutBlock
namespace Go.Proofs.Ytllhamcolinedaa
open Go.ChangeShapes Go.WideShapes Go.ChangeAt Go.RowKit

/-- The program's packet at block p and the document's at block q, apart from each other and from the blocks in S, which are as they were in world W. -/
structure P2 (W : World) (N : Nat) (S : Nat → Prop) (w : World) (p q : Nat) (B : List Int) (a d m : Nat) (B' : List Int) (a' d' m' : Nat) : Prop where
  is : ∃ g A D bv, PkIs w p g A B D m ∧ A.length = a ∧ D.length = d ∧ RfIs w N q bv B' a' d' m' ∧ (∀ k, pkS p g k → ¬ rfS q bv k) ∧ (∀ k, pkS p g k → ¬ S k) ∧ (∀ k, rfS q bv k → ¬ S k)
  low : ∀ k, S k → k < W.heap.size
  old : Kept (fun k => ¬ S k) W w

theorem P2.below {W : World} {N : Nat} {S : Nat → Prop} {w w' : World} {p q : Nat} {B B' : List Int} {a d m a' d' m' : Nat} (h : P2 W N S w p q B a d m B' a' d' m') (b : Below w.heap.size w w') : P2 W N S w' p q B a d m B' a' d' m' := by
  obtain ⟨g, A, D, bv, h1, h2, h3, h4, h5⟩ := h.is
  exact ⟨⟨g, A, D, bv, h1.below b, h2, h3, h4.below b, h5⟩, h.low, h.old.trans (Kept.of_below b)⟩
theorem P2.dr {W : World} {N : Nat} {S : Nat → Prop} {w w' : World} {p q : Nat} {B B' : List Int} {a d m a' d' m' : Nat} (h : P2 W N S w p q B a d m B' a' d' m') (b : Dr w w') : P2 W N S w' p q B a d m B' a' d' m' := h.below (b.below _)
/-- More blocks are set apart, from a later world on. -/
theorem P2.more {W : World} {N : Nat} {S : Nat → Prop} {w w1 : World} {p q : Nat} {B B' : List Int} {a d m a' d' m' : Nat} (h : P2 W N S w p q B a d m B' a' d' m') (b : Below w.heap.size w w1) (T : Nat → Prop) (hT : ∀ k, T k → w.heap.size ≤ k ∧ k < w1.heap.size) : P2 w1 N (fun k => S k ∨ T k) w1 p q B a d m B' a' d' m' := by
  obtain ⟨g, A, D, bv, h1, h2, h3, h4, h5, h6, h7⟩ := h.is
  refine ⟨⟨g, A, D, bv, h1.below b, h2, h3, h4.below b, h5, fun k hk => ?_, fun k hk => ?_⟩, fun k hk => ?_, Kept.refl _ _⟩
  · rintro (e | e)
    · exact h6 k hk e
    · have := (hT k e).1
      rcases hk with rfl | rfl
      · have := h1.raw.lt; omega
      · have := h1.glt; omega
  · rintro (e | e)
    · exact h7 k hk e
    · have := (hT k e).1
      have := (h4.above hk).2; omega
  · rcases hk with e | e
    · have := h.low k e; have := h.old.size; have := b.size; omega
    · exact (hT k e).2
/-- .. and no longer. -/
theorem P2.less {W : World} {N : Nat} {S T : Nat → Prop} {w w1 w2 : World} {p q : Nat} {B B' B2 B2' : List Int} {a d m a' d' m' a2 d2 m2 a2' d2' m2' : Nat} (h : P2 W N S w p q B a d m B' a' d' m') (b : Below w.heap.size w w1) (h2 : P2 w1 N (fun k => S k ∨ T k) w2 p q B2 a2 d2 m2 B2' a2' d2' m2') : P2 W N S w2 p q B2 a2 d2 m2 B2' a2' d2' m2' := by
  obtain ⟨g, A, D, bv, k1, k2, k3, k4, k5, k6, k7⟩ := h2.is
  refine ⟨⟨g, A, D, bv, k1, k2, k3, k4, k5, fun k hk e => k6 k hk (.inl e), fun k hk e => k7 k hk (.inl e)⟩, h.low, ?_⟩
  refine (h.old.trans (Kept.of_below b)).trans (h2.old.mono (fun k _ e1 e2 => e1 (.inl e2)))

/-- .. where the program's alone has changed. -/
theorem P2.left {W : World} {N : Nat} {S : Nat → Prop} {w w' : World} {p q g g2 : Nat} {A B D A2 B2 D2 B' : List Int} {m m2 a' d' m' : Nat} {bv : Value} (_h1 : PkIs w p g A B D m) (h4 : RfIs w N q bv B' a' d' m') (h5 : ∀ k, pkS p g k → ¬ rfS q bv k) (h6 : ∀ k, pkS p g k → ¬ S k) (h7 : ∀ k, rfS q bv k → ¬ S k) (low : ∀ k, S k → k < W.heap.size) (old : Kept (fun k => ¬ S k) W w)
    (k1 : PkIs w' p g2 A2 B2 D2 m2) (k2 : Kept (pkS p g) w w') (k3 : g2 = g ∨ w.heap.size ≤ g2) : P2 W N S w' p q B2 A2.length D2.length m2 B' a' d' m' := by
  refine ⟨⟨g2, A2, D2, bv, k1, rfl, rfl, h4.kept k2 (fun i hi hs => h5 i hs hi), fun k hk hr => ?_, fun k hk e => ?_, h7⟩, low, old.then k2 (fun k hk e => h6 k e)⟩
  · rcases hk with hk | hk
    · exact h5 k (.inl hk) hr
    · rcases k3 with e | e
      · exact h5 k (.inr (hk.trans e)) hr
      · have := (h4.above hr).2; omega
  · rcases hk with hk | hk
    · exact h6 k (.inl hk) e
    · rcases k3 with e' | e'
      · exact h6 k (.inr (hk.trans e')) e
      · have := low k e; have := old.size; omega

/-- .. where the document's alone has changed. -/
theorem P2.right {W : World} {N : Nat} {S : Nat → Prop} {w w' : World} {p q g : Nat} {A B D B' B2 : List Int} {m a' d' m' a2 d2 m2 : Nat} {bv bv2 : Value} (h1 : PkIs w p g A B D m) (_h4 : RfIs w N q bv B' a' d' m') (h5 : ∀ k, pkS p g k → ¬ rfS q bv k) (h6 : ∀ k, pkS p g k → ¬ S k) (h7 : ∀ k, rfS q bv k → ¬ S k) (low : ∀ k, S k → k < W.heap.size) (old : Kept (fun k => ¬ S k) W w)
    (k1 : RfIs w' N q bv2 B2 a2 d2 m2) (k2 : Kept (rfS q bv) w w') (k3 : ∀ i, bv2.ownBlock = some i → bv.ownBlock = some i ∨ w.heap.size ≤ i) : P2 W N S w' p q B A.length D.length m B2 a2 d2 m2 := by
  refine ⟨⟨g, A, D, bv2, h1.kept k2 (h5 p (.inl rfl)) (h5 g (.inr rfl)), rfl, rfl, k1, fun k hk hr => ?_, h6, fun k hr e => ?_⟩, low, old.then k2 (fun k hk e => h7 k e)⟩
  · rcases hr with hr | hr
    · exact h5 k hk (.inl hr)
    · rcases k3 k hr with e | e
      · exact h5 k hk (.inr e)
      · rcases hk with rfl | rfl
        · have := h1.raw.lt; omega
        · have := h1.glt; omega
  · rcases hr with hr | hr
    · exact h7 k (.inl hr) e
    · rcases k3 k hr with e' | e'
      · exact h7 k (.inr e') e
      · have := low k e; have := old.size; omega

theorem p2_head {W : World} {N : Nat} {S : Nat → Prop} {w : World} {p q : Nat} {B B' : List Int} {a d m a' d' m' : Nat} (n : Int) (h : P2 W N S w p q B a d m B' a' d' m') (hm : m + 1 ≤ 100000) :
    Calls Try.prog 15 #[.pointer (some ⟨p, 0, none⟩), .int .i64 n] w fun e w' => e = .returned (.int .i64 (mayE B.length n)) ∧ P2 W N S w' p q (hB n B) (hA B.length n a) (hD B.length n a d) (mM B.length n m) B' a' d' m' := by
  obtain ⟨g, A, D, bv, h1, rfl, rfl, h4, h5, h6, h7⟩ := h.is
  refine (head_any p g A B D m n w h1 hm).mono fun e w' ⟨k1, g2, A2, D2, k2, k3, k4, k5, k6⟩ => ⟨k1, ?_⟩
  rw [← k3, ← k4]; exact P2.left h1 h4 h5 h6 h7 h.low h.old k2 k5 k6
theorem p2_tail {W : World} {N : Nat} {S : Nat → Prop} {w : World} {p q : Nat} {B B' : List Int} {a d m a' d' m' : Nat} (n : Int) (h : P2 W N S w p q B a d m B' a' d' m') (hm : m + 1 ≤ 100000) :
    Calls Try.prog 16 #[.pointer (some ⟨p, 0, none⟩), .int .i64 n] w fun e w' => e = .returned (.int .i64 (mayE B.length n)) ∧ P2 W N S w' p q (tB n B) (tA B.length n a d) (tD B.length n d) (mM B.length n m) B' a' d' m' := by
  obtain ⟨g, A, D, bv, h1, rfl, rfl, h4, h5, h6, h7⟩ := h.is
  refine (tail_any p g A B D m n w h1 hm).mono fun e w' ⟨k1, g2, A2, D2, k2, k3, k4, k5, k6⟩ => ⟨k1, ?_⟩
  rw [← k3, ← k4]; exact P2.left h1 h4 h5 h6 h7 h.low h.old k2 k5 k6
theorem p2_store {W : World} {N : Nat} {S : Nat → Prop} {w : World} {p q : Nat} {B B' : List Int} {a d m a' d' m' : Nat} (x k v : Int) (h : P2 W N S w p q B a d m B' a' d' m') (hx : -9223372036854775808 ≤ x) (hx' : x ≤ 9223372036854775807) (v0 : 0 ≤ v) (v1 : v ≤ 18446744073709551615) :
    Calls Try.prog 18 #[.pointer (some ⟨p, 0, none⟩), .int .i64 x, .int .i64 k, .int .u64 v] w fun e w' => e = .returned (.int .i64 (askE B.length x k)) ∧ P2 W N S w' p q (stE B x k v) a d m B' a' d' m' := by
  obtain ⟨g, A, D, bv, h1, rfl, rfl, h4, h5, h6, h7⟩ := h.is
  exact (store_any p g A B D m x k v w h1 hx hx' v0 v1).mono fun e w' ⟨k1, k2, k3⟩ => ⟨k1, P2.left h1 h4 h5 h6 h7 h.low h.old k2 (k3.mono (fun _ _ e => .inr e)) (.inl rfl)⟩
theorem p2_load {W : World} {N : Nat} {S : Nat → Prop} {w : World} {p q : Nat} {B B' : List Int} {a d m a' d' m' : Nat} (x k : Int) (h : P2 W N S w p q B a d m B' a' d' m') (hx : -9223372036854775808 ≤ x) (hx' : x ≤ 9223372036854775807) :
    Calls Try.prog 17 #[.pointer (some ⟨p, 0, none⟩), .int .i64 x, .int .i64 k] w fun e w' => e = .returned (.tuple #[.int .u64 (ldE B x k), .int .i64 (askE B.length x k)]) ∧ Dr w w' := by
  obtain ⟨g, A, D, bv, h1, rfl, rfl, h4, h5, h6, h7⟩ := h.is
  exact load_any p g A B D m x k w h1 hx hx'
theorem p2_rhead {W : World} {N : Nat} {S : Nat → Prop} {w : World} {p q : Nat} {B B' : List Int} {a d m a' d' m' : Nat} (n : Int) (h : P2 W N S w p q B a d m B' a' d' m') (hm : m' + 1 ≤ 100000) (ha : a' ≤ 90000) :
    Calls Try.prog 26 #[.pointer (some ⟨q, 0, none⟩), .int .i64 n] w fun e w' => e = .returned (.int .i64 (mayE B'.length n)) ∧ P2 W N S w' p q B a d m (hB n B') (hA B'.length n a') (hD B'.length n a' d') (mM B'.length n m') := by
  obtain ⟨g, A, D, bv, h1, rfl, rfl, h4, h5, h6, h7⟩ := h.is
  exact (rhead_any N q bv B' a' d' m' n w h4 hm ha).mono fun e w' ⟨k1, bv2, k2, k3, k4⟩ => ⟨k1, P2.right h1 h4 h5 h6 h7 h.low h.old k2 k3 k4⟩
theorem p2_rtail {W : World} {N : Nat} {S : Nat → Prop} {w : World} {p q : Nat} {B B' : List Int} {a d m a' d' m' : Nat} (n : Int) (h : P2 W N S w p q B a d m B' a' d' m') (hm : m' + 1 ≤ 100000) (ha : d' ≤ 90000) :
    Calls Try.prog 27 #[.pointer (some ⟨q, 0, none⟩), .int .i64 n] w fun e w' => e = .returned (.int .i64 (mayE B'.length n)) ∧ P2 W N S w' p q B a d m (tB n B') (tA B'.length n a' d') (tD B'.length n d') (mM B'.length n m') := by
  obtain ⟨g, A, D, bv, h1, rfl, rfl, h4, h5, h6, h7⟩ := h.is
  exact (rtail_any N q bv B' a' d' m' n w h4 hm ha).mono fun e w' ⟨k1, bv2, k2, k3, k4⟩ => ⟨k1, P2.right h1 h4 h5 h6 h7 h.low h.old k2 k3 k4⟩
theorem p2_rstore {W : World} {N : Nat} {S : Nat → Prop} {w : World} {p q : Nat} {B B' : List Int} {a d m a' d' m' : Nat} (x k v : Int) (h : P2 W N S w p q B a d m B' a' d' m') (v0 : 0 ≤ v) (v1 : v ≤ 18446744073709551615) :
    Calls Try.prog 29 #[.pointer (some ⟨q, 0, none⟩), .int .i64 x, .int .i64 k, .int .u64 v] w fun e w' => e = .returned (.int .i64 (askE B'.length x k)) ∧ P2 W N S w' p q B a d m (stE B' x k v) a' d' m' := by
  obtain ⟨g, A, D, bv, h1, rfl, rfl, h4, h5, h6, h7⟩ := h.is
  exact (rstore_any N q bv B' a' d' m' x k v w h4 v0 v1).mono fun e w' ⟨k1, k2, k3⟩ => ⟨k1, P2.right h1 h4 h5 h6 h7 h.low h.old k2 (k3.mono (fun _ _ e => .inr e)) (fun _ e => .inl e)⟩
theorem p2_rload {W : World} {N : Nat} {S : Nat → Prop} {w : World} {p q : Nat} {B B' : List Int} {a d m a' d' m' : Nat} (x k : Int) (h : P2 W N S w p q B a d m B' a' d' m') :
    Calls Try.prog 28 #[.pointer (some ⟨q, 0, none⟩), .int .i64 x, .int .i64 k] w fun e w' => e = .returned (.tuple #[.int .u64 (ldE B' x k), .int .i64 (askE B'.length x k)]) ∧ Dr w w' := by
  obtain ⟨g, A, D, bv, h1, rfl, rfl, h4, h5, h6, h7⟩ := h.is
  exact rload_any N q bv B' a' d' m' x k w h4

theorem quiet_same {P : Program} {f : FuncId} {args : Array Value} {w : World} {n : Nat} {v : Value}
    (h : Calls P f args (w.drewN n) fun e w' => e = .returned v ∧ w.drewN n = w') : Calls P f args (w.drewN n) fun e w'' => e = .returned v ∧ ∃ m, w'' = w.drewN m :=
  h.mono fun _ _ ⟨he, hm⟩ => ⟨he, n, hm.symm⟩

theorem bs_row {w : World} {base : Nat} {t : TypeId} {a : Option Addr} {n c : Nat} {zs : List Int} (h : w.ownsRow base t 1 (.slice a n c) zs.length (zs.map (Value.int .u8))) (hb : Bytes zs) (hl : zs.length ≤ 140737488355328) : Bs w a zs := by
  obtain ⟨a', c', e, h1, -⟩ := bs_own h hb hl
  simp only [Value.slice.injEq] at e
  rw [e.1]; exact h1

theorem eq_same (a b : Option Addr) (n c d : Nat) (zs : List Int) (w : World) (hn : zs.length = n) (hx : Bs w a zs) (hy : Bs w b zs) :
    Calls Try.prog 10 #[.slice a n c, .slice b n d] w fun e w' => e = .returned (.bool true) ∧ Dr w w' := by
  have := eq_at a b n n c d zs zs w hn hn hx hy
  rw [show decide (zs = zs) = true from by simp] at this
  exact this

set_option maxHeartbeats 2000000 in
theorem shows_any (p g q : Nat) (A B D : List Int) (m : Nat) (bv : Value) (base : Nat) (w : World) (h : PkIs w p g A B D m) (hr : RfIs w base q bv B A.length D.length m) :
    Calls Try.prog 13 #[.pointer (some ⟨p, 0, none⟩), .pointer (some ⟨q, 0, none⟩)] w fun e w' => e = .returned (.bool true) ∧ Below w.heap.size w w' := by
  obtain ⟨xb, cb, rfl, -, -⟩ := hr.bs
  have hmost := h.most
  have hall := h.all
  have HP := Hid.mk' h
  have HR := Hid.mk' hr
  clear h hr
  go_enter Try.func13, Try.ntmps13
  go_wp2_with fail
  refine (room_any p g A B D m w HP.out).mono ?_
  rintro e w1 ⟨rfl, d1⟩
  have P1 := Hid.mk' (HP.out.dr d1)
  have R1 := Hid.mk' (HR.out.dr d1)
  have B1 : Hid (Below w.heap.size w w1) := d1.below _
  clear d1
  go_wp2_with fail
  refine (bytes_any p g A B D m w1 P1.out).mono ?_
  rintro e w2 ⟨vx, rfl, hox, b2⟩
  obtain ⟨ax, cx, rfl⟩ := own_slice hox
  have P2 := Hid.mk' (P1.out.below b2)
  have R2 := Hid.mk' (R1.out.below b2)
  have B2 : Hid (Below w.heap.size w w2) := B1.out.trans (b2.mono B1.out.size)
  have OX := Hid.mk' (ownsRow_base hox B1.out.size)
  clear P1 R1 B1 b2 hox
  go_wp2_with fail
  refine (bytes_any p g A B D m w2 P2.out).mono ?_
  rintro e w3 ⟨vy, rfl, hoy, b3⟩
  obtain ⟨ay, cy, rfl⟩ := own_slice hoy
  have P3 := Hid.mk' (P2.out.below b3)
  have R3 := Hid.mk' (R2.out.below b3)
  have B3 : Hid (Below w.heap.size w w3) := B2.out.trans (b3.mono B2.out.size)
  have OX3 : Hid (w3.ownsRow w.heap.size 5 1 (.slice ax B.length cx) B.length (B.map (Value.int .u8))) := Kept.owns OX.out (Kept.of_below (S := fun _ => False) b3) (fun _ _ h => h)
  have OY := Hid.mk' (ownsRow_base hoy B2.out.size)
  have XY : Hid (∀ k, (Value.slice ax B.length cx).ownBlock = some k → (Value.slice ay B.length cy).ownBlock ≠ some k) := fun k hk e => by
    have h1 := (OX.out.lt k hk).2
    have h2 := (hoy.lt k e).1
    omega
  clear P2 R2 B2 b3 hoy OX
  have BX : Hid (Bs w3 ax B) := bs_row OX3.out P3.out.bytes.mid.2.1 (by omega)
  have BR : Hid (Bs w3 xb B) := bs_row R3.out.row P3.out.bytes.mid.2.1 (by omega)
  obtain ⟨r0, r1, r2, r3, -, -, -, -⟩ := R3.out.cells
  go_wp2_with fail
  go_quiet (first | (go_at_call 21; exact Calls.quiet_of (len_any p g A B D m _ (P3.out.dr ⟨_, rfl⟩))) | (go_at_call 19; exact quiet_same (moves_any p g A B D m _ (P3.out.dr ⟨_, rfl⟩))) | (go_at_call 23; exact Calls.quiet_of (data_any p g A B D m _ (P3.out.dr ⟨_, rfl⟩))) | (go_at_call_of 10 (Value.slice ax B.length cx); exact Calls.quiet_of (eq_same ax xb _ _ _ B _ rfl (Dr.bs ⟨_, rfl⟩ BX.out) (Dr.bs ⟨_, rfl⟩ BR.out))) | (go_at_call_of 10 (Value.slice (some ⟨g, pO A B, none⟩) B.length B.length); exact Calls.quiet_of (eq_same (some ⟨g, pO A B, none⟩) xb _ _ _ B _ rfl (P3.out.dr ⟨_, rfl⟩).bs (Dr.bs ⟨_, rfl⟩ BR.out))))
  have OX4 : Hid ((w3.drewN nq).ownsRow w.heap.size 5 1 (.slice ax B.length cx) B.length (B.map (Value.int .u8))) := Kept.owns OX3.out (Kept.of_below (S := fun _ => False) (Dr.below ⟨nq, rfl⟩ _)) (fun _ _ h => h)
  have OY4 : Hid ((w3.drewN nq).ownsRow w.heap.size 5 1 (.slice ay B.length cy) B.length (B.map (Value.int .u8))) := Kept.owns OY.out (Kept.of_below (S := fun _ => False) (Dr.below ⟨nq, rfl⟩ _)) (fun _ _ h => h)
  have B4 : Hid (Below w.heap.size w (w3.drewN nq)) := B3.out.trans (Dr.below ⟨nq, rfl⟩ _)
  clear OX3 OY B3 BX BR P3 R3 r0 r1 r2 r3
  generalize w3.drewN nq = w4 at *
  obtain ⟨nb, hnb⟩ : ∃ n, n = B.length := ⟨_, rfl⟩
  rw [← hnb] at hmost hall XY OX4 OY4 ⊢
  have HNB := Hid.mk' hnb.symm
  have HR' : Hid (RfIs w base q (.slice xb nb cb) B A.length D.length m) := by rw [hnb]; exact HR.out
  clear hnb HR
  go_wp2_with fail
  go_loopg [9] nb (fun f s9 wr => ∃ (k : Nat) (X : List Int), s9 = .int .i64 k ∧ k ≤ nb ∧ nb - k ≤ f ∧ Hid (X.length = nb) ∧ Hid (wr.ownsRow w.heap.size 5 1 (.slice ax nb cx) nb (X.map (Value.int .u8))) ∧ Hid (wr.ownsRow w.heap.size 5 1 (.slice ay nb cy) nb (B.map (Value.int .u8))) ∧ Hid (Below w.heap.size w wr))
  case atStart => exact ⟨0, B, rfl, by omega, by omega, HNB, OX4, OY4, B4⟩
  case round =>
    clear OX4 OY4 B4
    obtain ⟨k, X, rfl, hk, hf, hX, hox, hoy, hb⟩ := hrel
    by_cases hlt : k < nb
    · obtain ⟨gx, hgx⟩ : ∃ g, ax = some ⟨g, 0, none⟩ := by
        rcases hox.out.2 with ⟨_, h2⟩ | ⟨g, cap, cur, h, _⟩
        · omega
        · simp at h; exact ⟨g, h.1⟩
      subst hgx
      have cc : wr.cell? ⟨gx, k, none⟩ = some (.int .u8 (X.getD k 0)) := by
        rw [hox.out.cellAt k (by omega)]
        have : k < X.length := by rw [hX.out]; exact hlt
        simp [this]
      have ff := hox.out.frozenAt k
      generalize X.getD k 0 = z at cc
      have hox' : Hid ((wr.setCell ⟨gx, k, none⟩ (.int .u8 (bits .xor .u8 z 90))).ownsRow w.heap.size 5 1 (.slice (some ⟨gx, 0, none⟩) nb cx) nb ((X.set k (bits .xor .u8 z 90)).map (Value.int .u8))) := by
        have := (hox.out.stored k (.int .u8 (bits .xor .u8 z 90))).1
        rw [← List.map_set] at this
        exact this
      have hoy' : Hid ((wr.setCell ⟨gx, k, none⟩ (.int .u8 (bits .xor .u8 z 90))).ownsRow w.heap.size 5 1 (.slice ay nb cy) nb (B.map (Value.int .u8))) :=
        Kept.owns hoy.out ((Kept.refl (fun i => i = gx) wr).setCell (p := ⟨gx, k, none⟩) (fun _ => rfl) _) (fun g' hg' e => XY.out gx rfl (by rw [hg', e]))
      have hb' : Hid (Below w.heap.size w (wr.setCell ⟨gx, k, none⟩ (.int .u8 (bits .xor .u8 z 90)))) := hb.out.setCell (p := ⟨gx, k, none⟩) ((hox.out.lt gx rfl).1) _
      have hsp : (k : Int) < (nb : Int) := by omega
      go_wp2_with fail
      go_roundg (nb - (k + 1))
      case measure => omega
      case rel => exact ⟨k + 1, X.set k (bits .xor .u8 z 90), by go_num, by omega, by omega, Hid.mk' (by rw [List.length_set]; exact hX.out), hox', hoy', hb'⟩
    · have P5 := Hid.mk' (HP.out.below hb.out)
      have R5 := Hid.mk' (HR'.out.below hb.out)
      have BY5 : Hid (Bs wr ay B) := bs_row (by rw [HNB.out]; exact hoy.out) P5.out.bytes.mid.2.1 (by rw [HNB.out]; omega)
      have BR5 : Hid (Bs wr xb B) := bs_row (c := cb) (n := nb) (base := base) (t := 5) R5.out.row P5.out.bytes.mid.2.1 (by rw [HNB.out]; omega)
      obtain ⟨r0, -, -, -, -, -, -, -⟩ := R5.out.cells
      have hdata := fun u (h : PkIs u p g A B D m) => data_any p g A B D m u h
      rw [HNB.out] at hdata
      have HDT := Hid.mk' hdata
      clear hox hoy hdata
      go_wp2_with fail
      go_quiet (first | (go_at_call 23; exact Calls.quiet_of (HDT.out _ (P5.out.dr ⟨_, rfl⟩))) | (go_at_call_of 10 (Value.slice ay nb cy); exact Calls.quiet_of (eq_same ay xb _ _ _ B _ HNB.out (Dr.bs ⟨_, rfl⟩ BY5.out) (Dr.bs ⟨_, rfl⟩ BR5.out))) | (go_at_call_of 10 (Value.slice (some ⟨g, pO A B, none⟩) nb nb); exact Calls.quiet_of (eq_same (some ⟨g, pO A B, none⟩) xb _ _ _ B _ HNB.out (P5.out.dr ⟨_, rfl⟩).bs (Dr.bs ⟨_, rfl⟩ BR5.out))))
      have B6 : Below w.heap.size w (wr.drewN nq) := hb.out.trans (Dr.below ⟨nq, rfl⟩ _)
      go_wp2_with fail
      go_ret
      exact ⟨rfl, B6⟩
end Go.Proofs.Ytllhamcolinedaa
