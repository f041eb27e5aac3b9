/- TrackJoins. -/
import Derived.Test.YtagnaefpkgekmaaCr
namespace Go.Proofs.Ytagnaefpkgekmaa
open Go.ChangeShapes Go.WideShapes Go.ChangeAt Go.RowKit Go.Maps Go.Sort Go.Shelf
set_option maxRecDepth 10000

set_option maxHeartbeats 8000000 in
theorem joins_any (a : Option Addr) (c : Nat) (xs : List Kn) (a' : Option Addr) (c' : Nat) (ys : List Kn) (W : World) (hk : Ks W (.slice a xs.length c) xs) (hm : Ks W (.slice a' ys.length c') ys) (xbig : xs.length * 16 ≤ 140737488351232) (ybig : ys.length * 16 ≤ 140737488351232) :
    Calls Try.prog 4 #[.slice a xs.length c, .slice a' ys.length c'] W fun e w' => e = .returned (.bool true) ∧ Below W.heap.size W w' := by
  have KL := Hid.mk' hk
  have KM := Hid.mk' hm
  have xin := hk.inb
  have xle := hk.len
  have yin := hm.inb
  have yle := hm.len
  clear hk hm
  go_enter Try.func4, Try.ntmps4
  go_wp2_with fail
  refine (spare_any (.slice a xs.length c) xs W KL.out xbig).mono ?_
  rintro e w1 ⟨⟨gx, cx, rfl, hcx, -, hX⟩, b1⟩
  have HB := Hid.mk' b1
  replace KL := Hid.mk' (KL.out.below b1)
  replace KM := Hid.mk' (KM.out.below b1)
  have HXx := Hid.mk' hX
  have KIx := Hid.mk' (ks_pre (c := cx) HXx.out xin xle)
  clear hX
  clear b1
  go_wp2_with fail
  refine (spare_any (.slice a' ys.length c') ys w1 KM.out ybig).mono ?_
  rintro e w2 ⟨⟨gy, cy, rfl, hcy, -, hX⟩, b2⟩
  replace HB := Hid.mk' (HB.out.trans (b2.mono HB.out.size))
  replace KL := Hid.mk' (KL.out.below b2)
  replace KM := Hid.mk' (KM.out.below b2)
  replace HXx := Hid.mk' (HXx.out.below b2)
  replace KIx := Hid.mk' (KIx.out.below b2)
  have HXy := Hid.mk' hX
  have KIy := Hid.mk' (ks_pre (c := cy) HXy.out yin yle)
  clear hX
  clear b2
  have KQ := join_any (.slice (some ⟨gx, 0, none⟩) xs.length cx) (.slice (some ⟨gy, 0, none⟩) ys.length cy) xs ys w2 KIx.out KIy.out
  have KR := fun u (hu : Below w2.heap.size w2 u) => rjoin_any (.slice a xs.length c) (.slice a' ys.length c') xs ys u (KL.out.below hu) (KM.out.below hu)
  have HRI := Hid.mk' (rin_jn xs ys)
  obtain ⟨⟨RL, RE⟩, hRq⟩ : ∃ R, jnN xs ys = R := ⟨_, rfl⟩
  rw [hRq] at KQ KR HRI
  clear hRq
  go_wp2_with fail
  refine KQ.mono ?_
  rintro e w3 ⟨⟨va, rfl, hrow⟩, b1⟩
  have RA : Hid (Rw w2.heap.size w3 va RL) := Hid.mk' hrow
  have BI : Hid (Below w2.heap.size w2 w3) := Hid.mk' b1
  have KR1 := KR _ BI.out
  clear hrow b1 KQ KR
  go_wp2_with fail
  refine KR1.mono ?_
  rintro e w4 ⟨⟨vb, rfl, hrow⟩, b1⟩
  have KB : Hid (Ks w4 vb RL) := Hid.mk' (own_ks hrow HRI.out.1 (Nat.le_trans HRI.out.2 (by decide)))
  replace RA := Hid.mk' (RA.out.below b1)
  replace BI := Hid.mk' (BI.out.trans (b1.mono BI.out.size))
  clear hrow b1 KR1
  have KA := own_ks RA.out HRI.out.1 (Nat.le_trans HRI.out.2 (by decide))
  go_wp2_with fail
  refine (same_bel va vb RL _ KA KB.out).mono ?_
  rintro e w5 ⟨rfl, b1⟩
  replace RA := Hid.mk' (RA.out.below b1)
  replace BI := Hid.mk' (BI.out.trans (b1.mono BI.out.size))
  clear b1 KA KB
  have KS := spoil_any w2.heap.size va _ _ w5 RA.out BI.out.size (Nat.le_trans HRI.out.2 (by decide))
  go_wp2_with fail
  refine KS.mono ?_
  rintro e w6 ⟨rfl, b1⟩
  replace BI := Hid.mk' (BI.out.trans b1)
  clear b1 KS RA HRI
  replace HB := Hid.mk' (HB.out.trans (BI.out.mono HB.out.size))
  replace KL := Hid.mk' (KL.out.below BI.out)
  replace KM := Hid.mk' (KM.out.below BI.out)
  replace HXx := Hid.mk' (HXx.out.below BI.out)
  replace KIx := Hid.mk' (KIx.out.below BI.out)
  replace HXy := Hid.mk' (HXy.out.below BI.out)
  replace KIy := Hid.mk' (KIy.out.below BI.out)
  clear BI
  go_wp2_with fail
  refine (kept_bel gx cx (.slice a xs.length c) xs w6 KL.out HXx.out hcx).mono ?_
  rintro e w7 ⟨rfl, b7⟩
  replace HB := Hid.mk' (HB.out.trans (b7.mono HB.out.size))
  replace KL := Hid.mk' (KL.out.below b7)
  replace KM := Hid.mk' (KM.out.below b7)
  replace HXx := Hid.mk' (HXx.out.below b7)
  replace KIx := Hid.mk' (KIx.out.below b7)
  replace HXy := Hid.mk' (HXy.out.below b7)
  replace KIy := Hid.mk' (KIy.out.below b7)
  clear b7
  go_wp2_with fail
  refine (kept_bel gy cy (.slice a' ys.length c') ys w7 KM.out HXy.out hcy).mono ?_
  rintro e w8 ⟨rfl, b8⟩
  replace HB := Hid.mk' (HB.out.trans (b8.mono HB.out.size))
  replace KL := Hid.mk' (KL.out.below b8)
  replace KM := Hid.mk' (KM.out.below b8)
  replace HXx := Hid.mk' (HXx.out.below b8)
  replace KIx := Hid.mk' (KIx.out.below b8)
  replace HXy := Hid.mk' (HXy.out.below b8)
  replace KIy := Hid.mk' (KIy.out.below b8)
  clear b8
  go_wp2_with fail
  refine (works_any w8).mono ?_
  rintro e w9 ⟨rfl, b9⟩
  replace HB := Hid.mk' (HB.out.trans (b9.mono HB.out.size))
  replace KL := Hid.mk' (KL.out.below b9)
  replace KM := Hid.mk' (KM.out.below b9)
  replace HXx := Hid.mk' (HXx.out.below b9)
  replace KIx := Hid.mk' (KIx.out.below b9)
  replace HXy := Hid.mk' (HXy.out.below b9)
  replace KIy := Hid.mk' (KIy.out.below b9)
  clear b9
  go_wp2_with fail
  go_ret
  exact ⟨rfl, HB.out⟩

theorem walkTrackJoins (a : Option Addr) (c : Nat) (xs : List sh60.M) (a' : Option Addr) (c' : Nat) (ys : List sh60.M) (W : World) (o0 : SlOk sh60 W a c xs) (l0 : xs.length * Try.prog.bytesOf 60 ≤ 140737488351232) (o1 : SlOk sh60 W a' c' ys) (l1 : ys.length * Try.prog.bytesOf 60 ≤ 140737488351232) :
    Calls Try.prog 4 #[.slice a xs.length c, .slice a' ys.length c'] W fun e w' => e = .returned (.bool true) ∧ Below W.heap.size W w' := by
  rw [known_bytes] at l0 l1
  exact joins_any a c xs a' c' ys W (ks_open a c xs W o0 (by omega)) (ks_open a' c' ys W o1 (by omega)) l0 l1
end Go.Proofs.Ytagnaefpkgekmaa
