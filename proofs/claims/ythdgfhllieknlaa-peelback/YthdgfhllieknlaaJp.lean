/- PeelAll. -/
import Derived.Test.YthdgfhllieknlaaJo
namespace Go.Proofs.Ythdgfhllieknlaa
open Go.ChangeShapes Go.WideShapes Go.ChangeAt Go.RowKit
set_option maxRecDepth 10000

def szC : List Value := [.int .i64 0, .int .i64 14, .int .i64 4, .int .i64 20, .int .i64 40, .int .i64 20, .int .i64 8]
theorem szC_at {k : Int} (h0 : 1 ≤ k) (h1 : k ≤ 6) : szC.toArray[k.toNat]? = some (.int .i64 (sz k : Nat)) := by
  rcases six h0 h1 with rfl | rfl | rfl | rfl | rfl | rfl <;> rfl

theorem peR_len {zs : List Int} (h : (PE zs).1 = 0) : peR zs = zs.drop (hTot (PE zs).2) := by unfold peR; rw [if_pos h]

set_option maxHeartbeats 2000000 in
theorem walkPeelAll (a : Option Addr) (c : Nat) (zs : List Int) (W : World) (h0 : Bs W a zs) (n0 : (a = none → c = 0) ∧ zs.length ≤ c) :
    Calls Try.prog 6 #[.slice a zs.length c] W fun e w' => e = .returned (.bool true) ∧ Below W.heap.size W w' := by
  have HB := Hid.mk' h0
  have hln := h0.len
  have hc := n0.2
  have HN0 := Hid.mk' n0.1
  clear h0 n0
  obtain ⟨n, HZ⟩ : ∃ n, Hid (zs.length = n) := ⟨_, rfl⟩
  rw [HZ.out] at hln hc
  rw [HZ.out]
  have HPC : Hid (∀ u, Below W.heap.size W u → Calls Try.prog 9 #[.slice a n c] u fun e w' => ∃ va vr, e = .returned (.tuple #[va, vr, .int .i64 (PE zs).1]) ∧ Heap u w' (plT u zs va vr)) := Hid.mk' (fun u hu => peel_any a n c zs u HZ.out (HB.out.below hu) HN0.out hc)
  go_enter Try.func6, Try.ntmps6
  go_wp2_with fail
  refine (awake_any _).mono ?_
  rintro e w1 ⟨rfl, b1⟩
  have B1 := Hid.mk' b1
  clear b1
  by_cases hE : (PE zs).1 = 0
  · obtain ⟨ok, fits, one, few⟩ := PE_ok HB.out.bytes hE
    have hR := peR_len hE
    unfold plT at HPC
    rw [hE, hR] at HPC
    rw [HZ.out] at fits
    obtain ⟨out, HO⟩ : ∃ out, Hid ((PE zs).2 = out) := ⟨_, rfl⟩
    rw [HO.out] at ok fits one few HPC
    clear hE hR HO
    have OK := Hid.mk' ok
    clear ok
    obtain ⟨N, HN⟩ : ∃ N, Hid (out.length = N) := ⟨_, rfl⟩
    rw [HN.out] at one few HPC
    obtain ⟨M, HM⟩ : ∃ M, Hid (hTot out = M) := ⟨_, rfl⟩
    rw [HM.out] at fits HPC
    obtain ⟨q, rfl⟩ : ∃ q, n = M + q := ⟨n - M, by omega⟩
    have SL : Hid ((zs.drop M).length = q) := Hid.mk' (by rw [List.length_drop, HZ.out]; omega)
    rw [SL.out] at HPC
    go_wp2_with fail
    refine (HPC.out _ B1.out).mono ?_
    rintro e w2 ⟨va, vr, rfl, h2⟩
    have OW : Hid (w2.ownsRow w1.heap.size 48 73 va N (hsC out)) := Hid.mk' (h2.get (i := 0) rfl)
    have OR : Hid (w2.ownsRow w1.heap.size 5 1 vr q ((zs.drop M).map (Value.int .u8))) := Hid.mk' (h2.get (i := 1) rfl)
    have B2 : Hid (Below W.heap.size W w2) := Hid.mk' (B1.out.trans (h2.old.mono B1.out.size))
    obtain ⟨gl, cl, rfl, hcl⟩ := own_some OW.out (by omega)
    have hbd : Bytes (zs.drop M) := fun z hz => HB.out.bytes z (List.mem_of_mem_drop hz)
    obtain ⟨ar, cr, rfl, SR, -, -⟩ := K05.own_bs OR.out SL.out hbd (by rw [SL.out]; omega)
    have HSR := Hid.mk' SR
    clear h2 HPC OR SR hbd
    have B3' : Hid (Below w2.heap.size w2 (w2.alloc (.cells szC.toArray 3))) := Hid.mk' ((Below.refl _ _).alloc (Nat.le_refl _) _)
    have R3 : Hid ((w2.alloc (.cells szC.toArray 3)).heap[w2.heap.size]? = some (.cells szC.toArray 3 (0, 0))) := Hid.mk' (heap_alloc_new w2 _)
    go_wp2_with fail
    obtain ⟨w3, hw3⟩ : ∃ w3, w3 = w2.alloc (.cells szC.toArray 3) := ⟨_, rfl⟩
    have hw3' : w2.alloc (.cells #[.int .i64 0, .int .i64 14, .int .i64 4, .int .i64 20, .int .i64 40, .int .i64 20, .int .i64 8] 3) = w3 := hw3.symm
    rw [hw3']
    rw [← hw3] at B3' R3
    clear hw3 hw3'
    go_loopg [7, 8] N (fun f s7 s8 wr => ∃ i : Nat, s8 = .int .i64 i ∧ s7 = .int .i64 (hTot (out.take i) : Nat) ∧ i ≤ N ∧ N - i ≤ f ∧ w3 = wr)
    case atStart => exact ⟨0, rfl, rfl, by omega, by omega, rfl⟩
    case round =>
      obtain ⟨i, rfl, rfl, hi, hf, rfl⟩ := hrel
      by_cases hlt : i < N
      · obtain ⟨⟨kx, L⟩, hx⟩ : ∃ x, out[i]? = some x := ⟨_, List.getElem?_eq_getElem (by rw [HN.out]; exact hlt)⟩
        have KX := OK.out (kx, L) (List.mem_of_getElem? hx)
        have k1 : 1 ≤ kx := KX.1
        have k6 : kx ≤ 6 := KX.2.1
        have kn0 : 0 ≤ kx := by omega
        have kn7 : kx < 7 := by omega
        have HTP := Hid.mk' (take_push out i kx L hx)
        have hPs := hTot_take out (i + 1)
        rw [HTP.out, hTot_app, HM.out] at hPs
        simp only [hTot] at hPs
        have ckx := head_kind (Kept.owns OW.out (Kept.of_below (S := fun _ => False) B3'.out) (fun _ _ h => h)) OK.out i kx L hx
        obtain ⟨P, HP⟩ : ∃ P, Hid (hTot (out.take i) = P) := ⟨_, rfl⟩
        obtain ⟨s, HSZ⟩ : ∃ s, Hid (sz kx = s) := ⟨_, rfl⟩
        rw [HP.out, HSZ.out] at hPs
        rw [HP.out]
        have csz : w3.cell? ⟨w2.heap.size, kx.toNat, none⟩ = some (.int .i64 s) := by
          rw [cell_of_row w3 w2.heap.size kx.toNat _ _ _ R3.out, szC_at k1 k6, HSZ.out]
        have hP1 : Hid (hTot (out.take (i + 1)) = P + s) := Hid.mk' (by rw [HTP.out, hTot_app, HP.out]; simp [hTot, HSZ.out])
        clear hx KX
        go_wp2_with fail
        go_roundg (N - (i + 1))
        case measure => omega
        case rel => exact ⟨i + 1, by go_num, by rw [hP1.out]; go_num, by omega, by omega, rfl⟩
      · have hiN : i = N := by omega
        have HTK : Hid (out.take i = out) := Hid.mk' (List.take_of_length_le (by rw [HN.out]; omega))
        rw [HTK.out, HM.out]
        have hMc : M ≤ c := by omega
        have hMq : M + q - M = q := by omega
        have hsub : (if c = M then a else a.map (fun x => x.add M)) = subA a c M := rfl
        have SB : Hid (Bs w3 (subA a c M) (zs.drop M)) := Hid.mk' (bs_sub ((HB.out.below B2.out).below B3'.out) c M (by rw [HZ.out]; exact hc))
        obtain ⟨A1, HA1⟩ : ∃ A1, Hid (subA a c M = A1) := ⟨_, rfl⟩
        rw [HA1.out] at hsub SB
        subst hiN
        go_wp2_with (first | (go_at_call 12; refine (eq_at ar A1 q q cr (c - M) (zs.drop M) (zs.drop M) _ SL.out SL.out (HSR.out.below B3'.out) SB.out).mono ?_; rintro e w9 ⟨rfl, d9⟩))
        go_ret
        refine ⟨?_, (B2.out.trans (B3'.out.mono B2.out.size)).trans ((d9.below _).mono (B2.out.trans (B3'.out.mono B2.out.size)).size)⟩
        simp
  · have hd := PE_err hE
    have hR : peR zs = [] := by unfold peR; rw [if_neg hE]
    unfold plT at HPC
    rw [hR] at HPC
    obtain ⟨E, HE⟩ : ∃ E, Hid ((PE zs).1 = E) := ⟨_, rfl⟩
    rw [HE.out] at hd hE
    rw [hd] at HPC
    have hEb : (E == 0) = false := by simpa using hE
    clear hR hd
    go_wp2_with fail
    refine (HPC.out _ B1.out).mono ?_
    rintro e w2 ⟨va, vr, rfl, h2⟩
    obtain ⟨sa, sc, hs⟩ := own_slice (h2.get (i := 0) rfl)
    obtain ⟨ra, rc, hr⟩ := own_slice (h2.get (i := 1) rfl)
    have hs : va = .slice sa 0 sc := hs
    have hr : vr = .slice ra 0 rc := hr
    subst hs hr
    have B2 : Hid (Below W.heap.size W w2) := Hid.mk' (B1.out.trans (h2.old.mono B1.out.size))
    clear h2 HPC
    go_wp2_with fail
    go_ret
    exact ⟨rfl, B2.out⟩
end Go.Proofs.Ythdgfhllieknlaa
