/- What the laws share; TrackProves. -/
import Derived.Test.YtagnaefpkgekmaaCq
import Derived.Test.YtagnaefpkgekmaaCl
import Derived.Test.YtagnaefpkgekmaaSp
namespace Go.Proofs.Ytagnaefpkgekmaa
open Go.ChangeShapes Go.WideShapes Go.ChangeAt Go.RowKit Go.Maps Go.Sort Go.Shelf
set_option maxRecDepth 10000

theorem ks_open (a : Option Addr) (c : Nat) (xs : List sh60.M) (W : World) (o : SlOk sh60 W a c xs) (l : xs.length ≤ 140737488355328) : Ks W (.slice a xs.length c) (xs : List Kn) := by
  obtain ⟨_, h4, h5⟩ := o
  refine ⟨⟨a, c, rfl, ?_⟩, ?_, l⟩
  · rcases h4 with h0 | ⟨b, off, rfl, hc⟩
    · exact .inl (List.eq_nil_of_length_eq_zero h0)
    · refine .inr ⟨b, off, rfl, fun k i n hk => ?_⟩
      have := hc k (i, n) hk
      exact ⟨this 0 _ rfl, this 1 _ rfl⟩
  · intro p hp
    obtain ⟨w1, w2⟩ : (Lit.int .i64 p.1).wf = true ∧ (Lit.int .i64 p.2).wf = true := h5 p hp
    exact ⟨bounds_i64 w1, bounds_i64 w2⟩
theorem lkn_pre {w : World} {b off : Nat} {l m : List Kn} (h : Lkn w b off (l ++ m)) : Lkn w b off l := fun k i n hk => h k i n (by
  rw [List.getElem?_append_left (List.getElem?_eq_some_iff.1 hk).1]; exact hk)
theorem ks_pre {w : World} {g c : Nat} {l m : List Kn} (h : Lkn w g 0 (l ++ m)) (hb : ∀ p ∈ l, In64 p.1 ∧ In64 p.2) (hl : l.length ≤ 140737488355328) : Ks w (.slice (some ⟨g, 0, none⟩) l.length c) l :=
  ⟨⟨_, c, rfl, .inr ⟨g, 0, rfl, lkn_pre h⟩⟩, hb, hl⟩
/-- A row that a call answered. -/
def Rw (base : Nat) (w : World) (v : Value) (l : List Kn) : Prop := w.ownsRow base 60 2 v l.length (knC l)
theorem Rw.below {base : Nat} {w w' : World} {v : Value} {l : List Kn} (h : Rw base w v l) (hb : Below w.heap.size w w') : Rw base w' v l :=
  Kept.owns h (Kept.of_below (S := fun _ => False) hb) (fun _ _ e => e)
/-- What the calls answer is within bounds. -/
def RIn (r : List Kn × Int) : Prop := (∀ p ∈ r.1, In64 p.1 ∧ In64 p.2) ∧ r.1.length ≤ 257
theorem rin_none (e : Int) : RIn ([], e) := ⟨by simp, by simp⟩
theorem rin_nf {f : Int → Int} (h : Fn f) (e : Int) : RIn (nf f, e) := ⟨nf_in h, nf_len f⟩
theorem rin_pr (l : List Kn) (id n : Int) : RIn (pvN l id n) := by
  unfold pvN
  by_cases h : ckN l = 0
  · rw [if_pos h]
    by_cases h2 : isId id = true
    · rw [if_pos h2]
      by_cases h3 : n < 0
      · rw [if_pos h3]; exact rin_none _
      · rw [if_neg h3]
        have hf := fn_by (ck_fn h).1
        have h0 := hf.low id
        have h1 := hf.high id
        exact rin_nf (hf.upd ((isId_iff id).1 h2) (by omega) (by omega)) _
    · rw [if_neg h2]; exact rin_none _
  · rw [if_neg h]; exact rin_none _
theorem rin_fg (l : List Kn) (id : Int) : RIn (fgN l id) := by
  unfold fgN
  by_cases h : ckN l = 0
  · rw [if_pos h]
    by_cases h2 : isId id = true
    · rw [if_pos h2]
      exact rin_nf ((fn_by (ck_fn h).1).upd ((isId_iff id).1 h2) (by omega) (by omega)) _
    · rw [if_neg h2]; exact rin_none _
  · rw [if_neg h]; exact rin_none _
theorem rin_jn (a b : List Kn) : RIn (jnN a b) := by
  unfold jnN
  by_cases h : ckN a = 0
  · rw [if_pos h]
    by_cases h2 : ckN b = 0
    · rw [if_pos h2]; exact rin_nf (fn_join (ck_fn h).1 (ck_fn h2).1) _
    · rw [if_neg h2]; exact rin_none _
  · rw [if_neg h]; exact rin_none _
theorem rin_sa (l : List Kn) (h : ckN l = 0) (op : Int) (yes first : Bool) (p : Vl) : RIn (saN l op yes first p) := by
  unfold saN
  by_cases h2 : sayN op yes first = 0
  · rw [if_pos h2]; exact rin_nf (fn_by (ck_fn h).1) _
  · rw [if_neg h2]; exact rin_pr _ _ _
theorem rin_sh (l : List Kn) (op : Int) (yes : Bool) (a b : Vl) : RIn (shN l op yes a b) := by
  unfold shN
  by_cases h : ckN l = 0
  · rw [if_pos h]
    repeat' split
    all_goals first | exact rin_none _ | exact rin_sa l h _ _ _ _
  · rw [if_neg h]; exact rin_none _
theorem known_bytes : Try.prog.bytesOf 60 = 16 := by kernel_rfl
/-- The bytes that a slice takes are within reach. -/
theorem reach_by {H : Type} {ts : List TypeId} {ds : List (DataW H)} (h : (DataW.weightsEach Try.prog ts ds).all (· ≤ reachBytes) = true) {j : Nat} {t e : TypeId} {d : DataW H} {k : Nat} (ht : ts[j]? = some t) (hd : ds[j]? = some d) (hu : Try.prog.underlying t = some (.slice e))
    {α : Type} {xs : List α} (hx : d = .nil ∧ xs = [] ∨ ∃ el sp, d = .slice el sp ∧ el.length = xs.length) (hk : k = xs.length := by rfl) : k * Try.prog.bytesOf e ≤ 140737488351232 := by
  subst hk
  rcases hx with ⟨_, rfl⟩ | ⟨elems, spare, rfl, he⟩
  · simp
  · have h1 := sized_slice h ht hd hu
    rw [reachBytes] at h1
    have h2 : elems.length * Try.prog.bytesOf e ≤ (elems.length + spare.length) * Try.prog.bytesOf e := Nat.mul_le_mul_right _ (Nat.le_add_right _ _)
    rw [← he]
    omega

theorem kept_bel (g c' : Nat) (v : Value) (l : List Kn) (w : World) (hv : Ks w v l) (hX : Lkn w g 0 (l ++ mkL 4)) (hc' : l.length + 4 ≤ c') :
    Calls Try.prog 20 #[.slice (some ⟨g, 0, none⟩) l.length c', v] w fun e w' => e = .returned (.bool true) ∧ Below w.heap.size w w' :=
  (kept_any g c' v l w hv hX hc').mono fun _ _ ⟨h1, h2⟩ => ⟨h1, h2.below _⟩

set_option maxHeartbeats 8000000 in
theorem proves_any (a : Option Addr) (c : Nat) (xs : List Kn) (id n : Int) (W : World) (hk : Ks W (.slice a xs.length c) xs) (xbig : xs.length * 16 ≤ 140737488351232) (hid : In64 id) :
    Calls Try.prog 3 #[.slice a xs.length c, .int .i64 id, .int .i64 n] W fun e w' => e = .returned (.bool true) ∧ Below W.heap.size W w' := by
  have KL := Hid.mk' hk
  have xin := hk.inb
  have xle := hk.len
  clear hk
  go_enter Try.func3, Try.ntmps3
  go_wp2_with fail
  refine (spare_any (.slice a xs.length c) xs W KL.out xbig).mono ?_
  rintro e w1 ⟨⟨gx, cx, rfl, hcx, -, hX⟩, b1⟩
  have HB := Hid.mk' b1
  replace KL := Hid.mk' (KL.out.below b1)
  have HXx := Hid.mk' hX
  have KIx := Hid.mk' (ks_pre (c := cx) HXx.out xin xle)
  clear hX
  clear b1
  have KC := check_any _ xs w1 KIx.out
  have KD := fun u hu => rcheck_any (.slice a xs.length c) xs u hu
  have KE := fun u hu => bytes_any (.slice (some ⟨gx, 0, none⟩) xs.length cx) xs id u hu
  have KG := fun u hu => rbytes_any (.slice a xs.length c) xs id u hu
  generalize ckN xs = E at *
  generalize byN xs id = Y at *
  go_wp2_with fail
  refine (KC).mono ?_
  rintro e w2 ⟨rfl, b2⟩
  replace HB := Hid.mk' (HB.out.trans (b2.mono HB.out.size))
  replace KL := Hid.mk' (KL.out.below b2)
  replace HXx := Hid.mk' (HXx.out.below b2)
  replace KIx := Hid.mk' (KIx.out.below b2)
  clear KC
  clear b2
  go_wp2_with fail
  refine (KD w2 KL.out).mono ?_
  rintro e w3 ⟨rfl, b3⟩
  replace HB := Hid.mk' (HB.out.trans (b3.mono HB.out.size))
  replace KL := Hid.mk' (KL.out.below b3)
  replace HXx := Hid.mk' (HXx.out.below b3)
  replace KIx := Hid.mk' (KIx.out.below b3)
  clear KD
  clear b3
  go_wp2_with fail
  refine (KE w3 KIx.out).mono ?_
  rintro e w4 ⟨rfl, b4⟩
  replace HB := Hid.mk' (HB.out.trans (b4.mono HB.out.size))
  replace KL := Hid.mk' (KL.out.below b4)
  replace HXx := Hid.mk' (HXx.out.below b4)
  replace KIx := Hid.mk' (KIx.out.below b4)
  clear KE
  clear b4
  go_wp2_with fail
  refine (KG w4 KL.out).mono ?_
  rintro e u ⟨rfl, rfl⟩
  clear KG
  have KQ := prove_any (.slice (some ⟨gx, 0, none⟩) xs.length cx) xs id n w4 KIx.out hid
  have KR := fun u (hu : Below w4.heap.size w4 u) => rprove_any (.slice a xs.length c) xs id n u (KL.out.below hu)
  have HRI := Hid.mk' (rin_pr xs id n)
  obtain ⟨⟨RL, RE⟩, hRq⟩ : ∃ R, pvN xs id n = R := ⟨_, rfl⟩
  rw [hRq] at KQ KR HRI
  clear hRq
  go_wp2_with fail
  refine KQ.mono ?_
  rintro e w5 ⟨⟨va, rfl, hrow⟩, b1⟩
  have RA : Hid (Rw w4.heap.size w5 va RL) := Hid.mk' hrow
  have BI : Hid (Below w4.heap.size w4 w5) := Hid.mk' b1
  have KR1 := KR _ BI.out
  clear hrow b1 KQ KR
  go_wp2_with fail
  refine KR1.mono ?_
  rintro e w6 ⟨⟨vb, rfl, hrow⟩, b1⟩
  have KB : Hid (Ks w6 vb RL) := Hid.mk' (own_ks hrow HRI.out.1 (Nat.le_trans HRI.out.2 (by decide)))
  replace RA := Hid.mk' (RA.out.below b1)
  replace BI := Hid.mk' (BI.out.trans (b1.mono BI.out.size))
  clear hrow b1 KR1
  have KA := own_ks RA.out HRI.out.1 (Nat.le_trans HRI.out.2 (by decide))
  go_wp2_with fail
  refine (same_bel va vb RL _ KA KB.out).mono ?_
  rintro e w7 ⟨rfl, b1⟩
  replace RA := Hid.mk' (RA.out.below b1)
  replace BI := Hid.mk' (BI.out.trans (b1.mono BI.out.size))
  clear b1 KA KB
  have KS := spoil_any w4.heap.size va _ _ w7 RA.out BI.out.size (Nat.le_trans HRI.out.2 (by decide))
  go_wp2_with fail
  refine KS.mono ?_
  rintro e w8 ⟨rfl, b1⟩
  replace BI := Hid.mk' (BI.out.trans b1)
  clear b1 KS RA HRI
  replace HB := Hid.mk' (HB.out.trans (BI.out.mono HB.out.size))
  replace KL := Hid.mk' (KL.out.below BI.out)
  replace HXx := Hid.mk' (HXx.out.below BI.out)
  replace KIx := Hid.mk' (KIx.out.below BI.out)
  clear BI
  have KQ := forget_any (.slice (some ⟨gx, 0, none⟩) xs.length cx) xs id w8 KIx.out hid
  have KR := fun u (hu : Below w8.heap.size w8 u) => rforget_any (.slice a xs.length c) xs id u (KL.out.below hu)
  have HRI := Hid.mk' (rin_fg xs id)
  obtain ⟨⟨RL, RE⟩, hRq⟩ : ∃ R, fgN xs id = R := ⟨_, rfl⟩
  rw [hRq] at KQ KR HRI
  clear hRq
  go_wp2_with fail
  refine KQ.mono ?_
  rintro e w9 ⟨⟨va, rfl, hrow⟩, b1⟩
  have RA : Hid (Rw w8.heap.size w9 va RL) := Hid.mk' hrow
  have BI : Hid (Below w8.heap.size w8 w9) := Hid.mk' b1
  have KR1 := KR _ BI.out
  clear hrow b1 KQ KR
  go_wp2_with fail
  refine KR1.mono ?_
  rintro e w10 ⟨⟨vb, rfl, hrow⟩, b1⟩
  have KB : Hid (Ks w10 vb RL) := Hid.mk' (own_ks hrow HRI.out.1 (Nat.le_trans HRI.out.2 (by decide)))
  replace RA := Hid.mk' (RA.out.below b1)
  replace BI := Hid.mk' (BI.out.trans (b1.mono BI.out.size))
  clear hrow b1 KR1
  have KA := own_ks RA.out HRI.out.1 (Nat.le_trans HRI.out.2 (by decide))
  go_wp2_with fail
  refine (same_bel va vb RL _ KA KB.out).mono ?_
  rintro e w11 ⟨rfl, b1⟩
  replace RA := Hid.mk' (RA.out.below b1)
  replace BI := Hid.mk' (BI.out.trans (b1.mono BI.out.size))
  clear b1 KA KB
  have KS := spoil_any w8.heap.size va _ _ w11 RA.out BI.out.size (Nat.le_trans HRI.out.2 (by decide))
  go_wp2_with fail
  refine KS.mono ?_
  rintro e w12 ⟨rfl, b1⟩
  replace BI := Hid.mk' (BI.out.trans b1)
  clear b1 KS RA HRI
  replace HB := Hid.mk' (HB.out.trans (BI.out.mono HB.out.size))
  replace KL := Hid.mk' (KL.out.below BI.out)
  replace HXx := Hid.mk' (HXx.out.below BI.out)
  replace KIx := Hid.mk' (KIx.out.below BI.out)
  clear BI
  go_wp2_with fail
  refine (kept_bel gx cx (.slice a xs.length c) xs w12 KL.out HXx.out hcx).mono ?_
  rintro e w13 ⟨rfl, b13⟩
  replace HB := Hid.mk' (HB.out.trans (b13.mono HB.out.size))
  replace KL := Hid.mk' (KL.out.below b13)
  replace HXx := Hid.mk' (HXx.out.below b13)
  replace KIx := Hid.mk' (KIx.out.below b13)
  clear b13
  go_wp2_with fail
  refine (works_any w13).mono ?_
  rintro e w14 ⟨rfl, b14⟩
  replace HB := Hid.mk' (HB.out.trans (b14.mono HB.out.size))
  replace KL := Hid.mk' (KL.out.below b14)
  replace HXx := Hid.mk' (HXx.out.below b14)
  replace KIx := Hid.mk' (KIx.out.below b14)
  clear b14
  go_wp2_with fail
  go_ret
  exact ⟨rfl, HB.out⟩

theorem walkTrackProves (a : Option Addr) (c : Nat) (xs : List sh60.M) (x1 x2 : Int) (W : World) (o0 : SlOk sh60 W a c xs) (l0 : xs.length * Try.prog.bytesOf 60 ≤ 140737488351232) (w1 : (Lit.int .i64 x1).wf = true) (_w2 : (Lit.int .i64 x2).wf = true) :
    Calls Try.prog 3 #[.slice a xs.length c, .int .i64 x1, .int .i64 x2] W fun e w' => e = .returned (.bool true) ∧ Below W.heap.size W w' := by
  rw [known_bytes] at l0
  exact proves_any a c xs x1 x2 W (ks_open a c xs W o0 (by omega)) l0 (bounds_i64 w1)
end Go.Proofs.Ytagnaefpkgekmaa
