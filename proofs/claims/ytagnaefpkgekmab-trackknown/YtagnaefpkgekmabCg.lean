/- The contract of Within. -/
import Derived.Test.YtagnaefpkgekmabCf
import Derived.Deep.RegionHeld3
namespace Go.Proofs.Ytagnaefpkgekmab
open Go.ChangeShapes Go.WideShapes Go.ChangeAt Go.RowKit Go.Maps Go.Sort Go.Shelf
set_option maxRecDepth 10000

/-- What Within answers. -/
def wiB (l : List Kn) (x : Vl) (off size : Int) : Bool := decide (-x.off ≤ off) && decide (off ≤ byN l x.id - x.off - size)
def wiN (l : List Kn) (x : Vl) (off size : Int) : Bool × Int :=
  if ckN l = 0 then (if isPt x = true then (if 1 ≤ size ∧ size ≤ 8 then (wiB l x off size, 0) else (false, 2)) else (false, 171)) else (false, ckN l)

set_option maxHeartbeats 2000000 in
theorem within_any (v : Value) (l : List Kn) (x : Vl) (off size : Int) (w : World) (h : Ks w v l) (hx : x.In) (ho : In64 off) (hs : In64 size) :
    Calls Try.prog 9 #[v, x.v, .int .i64 off, .int .i64 size] w fun e w' => e = .returned (.tuple #[.bool (wiN l x off size).1, .int .i64 (wiN l x off size).2]) ∧ Below w.heap.size w w' := by
  have KC := fun u hu => check_any v l u hu
  have HV := Hid.mk' h
  have KB := fun id u hu => bytes_any v l id u hu
  have KP := fun u => ispacket_any x u hx
  have HF : Hid (ckN l = 0 → Fn (byN l)) := Hid.mk' (fun e => fn_by (ck_fn e).1)
  obtain ⟨R, hR⟩ : ∃ R, Hid (wiN l x off size = R) := ⟨_, rfl⟩
  have HR : Hid (R = if ckN l = 0 then (if isPt x = true then (if 1 ≤ size ∧ size ≤ 8 then (wiB l x off size, 0) else (false, 2)) else (false, 171)) else (false, ckN l)) := Hid.mk' (by rw [← hR.out]; rfl)
  rw [hR.out]
  have HPT := Hid.mk' (isPt_iff x)
  have HWB : Hid (∀ n, byN l x.id = n → wiB l x off size = (decide (-x.off ≤ off) && decide (off ≤ n - x.off - size))) := Hid.mk' (fun n e => by rw [← e]; rfl)
  clear hR h
  generalize ckN l = E at *
  generalize isPt x = T at *
  generalize wiB l x off size = WB at *
  obtain ⟨k, mi, ma, id, vo⟩ := x
  obtain ⟨⟨k0, k1⟩, ⟨m0, m1⟩, ⟨n0, n1⟩, ⟨i0, i1⟩, ⟨v0, v1⟩⟩ := hx
  obtain ⟨o0, o1⟩ := ho
  obtain ⟨s0, s1⟩ := hs
  simp only at k0 k1 m0 m1 n0 n1 i0 i1 v0 v1 HPT HWB
  have KP : ∀ u, Calls Try.prog 20 #[.agg #[.int .u8 k, .int .u64 mi, .int .u64 ma, .int .i64 id, .int .i64 vo]] u fun e w' => e = .returned (.bool T) ∧ Below u.heap.size u w' := KP
  unfold Vl.v
  simp only
  go_enter Try.func9, Try.ntmps9
  go_wp2_with fail
  have B0 : Hid (Below w.heap.size w (w.alloc (.cells #[.int .u8 k, .int .u64 mi, .int .u64 ma, .int .i64 id, .int .i64 vo] 38))) := (Below.refl _ _).alloc (Nat.le_refl _) _
  refine (KC _ (HV.out.below B0.out)).mono ?_
  rintro e w1 ⟨rfl, b1⟩
  have B1 := Hid.mk' (B0.out.trans (b1.mono (by simp)))
  have hsz : w.heap.size < w1.heap.size := by have := b1.size; simp at this; omega
  have c0 := (b1.cell (p := ⟨w.heap.size, 0, none⟩) (by simp)).trans (World.cell?_alloc_new _ _ _ _)
  have c1 := (b1.cell (p := ⟨w.heap.size, 1, none⟩) (by simp)).trans (World.cell?_alloc_new _ _ _ _)
  have c2 := (b1.cell (p := ⟨w.heap.size, 2, none⟩) (by simp)).trans (World.cell?_alloc_new _ _ _ _)
  have c3 := (b1.cell (p := ⟨w.heap.size, 3, none⟩) (by simp)).trans (World.cell?_alloc_new _ _ _ _)
  have c4 := (b1.cell (p := ⟨w.heap.size, 4, none⟩) (by simp)).trans (World.cell?_alloc_new _ _ _ _)
  simp at c0 c1 c2 c3 c4
  clear b1 KC
  by_cases hE : E = 0
  · subst hE
    have HFN := HF.out rfl
    have HF2 := Hid.mk' HFN
    clear HF HFN
    go_wp2_with fail
    refine (KP _).mono ?_
    rintro e w2 ⟨rfl, b2⟩
    have B2 := Hid.mk' (B1.out.trans (b2.mono B1.out.size))
    have c3 := (b2.cell (p := ⟨w.heap.size, 3, none⟩) hsz).trans c3
    have c4 := (b2.cell (p := ⟨w.heap.size, 4, none⟩) hsz).trans c4
    have hsz2 : w.heap.size < w2.heap.size := Nat.lt_of_lt_of_le hsz b2.size
    clear b2 KP
    cases T with
    | false =>
      have HRE : Hid (R = (false, 171)) := Hid.mk' (by rw [HR.out]; simp)
      go_wp2_with fail
      go_ret2
      rw [HRE.out]
      exact ⟨rfl, B2.out⟩
    | true =>
      obtain ⟨-, hid, hv0, hv1, -, -⟩ := HPT.out.1 rfl
      by_cases g1 : size < 1
      · have HRE : Hid (R = (false, 2)) := Hid.mk' (by rw [HR.out, if_neg (show ¬ (1 ≤ size ∧ size ≤ 8) by omega)]; simp)
        go_wp2_with fail
        go_ret2
        rw [HRE.out]
        exact ⟨rfl, B2.out⟩
      by_cases g2 : 8 < size
      · have HRE : Hid (R = (false, 2)) := Hid.mk' (by rw [HR.out, if_neg (show ¬ (1 ≤ size ∧ size ≤ 8) by omega)]; simp)
        go_wp2_with fail
        go_ret2
        rw [HRE.out]
        exact ⟨rfl, B2.out⟩
      have HRE : Hid (R = (WB, 0)) := Hid.mk' (by rw [HR.out, if_pos (show 1 ≤ size ∧ size ≤ 8 by omega)]; simp)
      have hw1 : IntKind.i64.wrap (-vo) = -vo := IntWalk.i64_in _ ⟨by omega, by omega⟩
      by_cases g3 : -vo ≤ off
      · have hd : decide (-vo ≤ off) = true := decide_eq_true g3
        obtain ⟨n, hn⟩ : ∃ n, byN l id = n := ⟨_, rfl⟩
        have hnb : 0 ≤ n ∧ n ≤ 2048 := by rw [← hn]; exact ⟨HF2.out.low id, HF2.out.high id⟩
        have hw2 : IntKind.i64.wrap (n - vo) = n - vo := IntWalk.i64_in _ ⟨by omega, by omega⟩
        have hw3 : IntKind.i64.wrap (n - vo - size) = n - vo - size := IntWalk.i64_in _ ⟨by omega, by omega⟩
        have HW2 : Hid (WB = decide (off ≤ n - vo - size)) := Hid.mk' (by rw [HWB.out n hn, hd]; rfl)
        have KB2 := fun u hu => KB id u hu
        rw [hn] at KB2
        have HV2 : Hid (∀ m, Ks (w2.drewN m) v l) := Hid.mk' (fun m => (HV.out.below B2.out).below (Dr.below ⟨m, rfl⟩ _))
        go_wp2_with fail
        go_region_held3 (fun w' => w'.cell? ⟨w.heap.size, 3, none⟩ = some (.int .i64 id) ∧ w'.cell? ⟨w.heap.size, 4, none⟩ = some (.int .i64 vo)) (go_keep) (first
          | (go_at_call 13; refine (KB2 _ (HV2.out 1)).mono ?_; rintro e w4 ⟨rfl, b4⟩; have e3 := (b4.cell (p := ⟨w.heap.size, 3, none⟩) hsz2).trans c3; have e4 := (b4.cell (p := ⟨w.heap.size, 4, none⟩) hsz2).trans c4; have B4 : Hid (Below w.heap.size w w4) := Hid.mk' (B2.out.trans ((Dr.below (a := w2) ⟨1, rfl⟩ _).trans (b4.mono B2.out.size))); clear b4))

        go_wp2_with fail
        go_ret2
        rw [HRE.out]
        exact ⟨by rw [HW2.out]; rfl, B4.out⟩
      · have hd : decide (-vo ≤ off) = false := decide_eq_false g3
        go_wp2_with fail
        go_quiet (fail)
        go_wp2_with fail
        go_ret2
        rw [HRE.out]
        have HWF : WB = false := by rw [HWB.out _ rfl, hd]; rfl
        rw [HWF]
        exact ⟨rfl, B2.out.trans (Dr.below ⟨_, rfl⟩ _)⟩
  · have HRE : Hid (R = (false, E)) := Hid.mk' (by rw [HR.out, if_neg hE])
    go_wp2_with fail
    go_ret2
    rw [HRE.out]
    exact ⟨rfl, B1.out⟩
end Go.Proofs.Ytagnaefpkgekmab
