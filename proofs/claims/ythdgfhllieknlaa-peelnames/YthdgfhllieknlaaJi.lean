/- The packet's headers as the document tells them. -/
import Derived.Test.YthdgfhllieknlaaJg
import Derived.Test.YthdgfhllieknlaaJh
namespace Go.Proofs.Ythdgfhllieknlaa
open Go.ChangeShapes Go.WideShapes Go.ChangeAt Go.RowKit
set_option maxRecDepth 10000

theorem info_head : (Try.prog.info? 48).map (fun i => (i.zero, i.size, i.bytes)) = some (some (.agg hz.toArray), 73, 100) := by kernel_rfl

theorem subA_none {a : Option Addr} {c M : Nat} (h : a = none → c = 0) (hM : M ≤ c) : subA a c M = none → c - M = 0 := by
  intro e
  unfold subA at e
  split at e
  · omega
  · cases a with
    | none => have := h rfl; omega
    | some x => simp at e

/-- What Peel answers: heads and what is behind them. -/
def plT (w : World) (zs : List Int) (va vr : Value) : List Thing := [rowT w.heap.size 48 73 va (PE zs).2.length (hsC (PE zs).2), rowT w.heap.size 5 1 vr (peR zs).length ((peR zs).map (Value.int .u8))]

theorem pl_err {w u : World} {zs : List Int} {E : Int} (h : PE zs = (E, [])) (hE : ¬ E = 0) (b : Below w.heap.size w u) : Heap w u (plT w zs (.slice none 0 0) (.slice none 0 0)) := by
  have hr : peR zs = [] := by unfold peR; rw [h, if_neg hE]
  unfold plT
  rw [hr, h]
  exact ((Heap.nil b).add (Below.refl _ _) (rowT w.heap.size 5 1 (.slice none 0 0) 0 []) (World.ownsRow_nil _ _ _ _) (fun k hk => by cases hk)).add (Below.refl _ _) (rowT w.heap.size 48 73 (.slice none 0 0) 0 (hsC [])) (World.ownsRow_nil _ _ _ _) (fun k hk => by cases hk)

set_option maxHeartbeats 2000000 in
theorem rpeel_any (a : Option Addr) (n c : Nat) (zs : List Int) (w : World) (hz' : zs.length = n) (hB : Bs w a zs) (hn0 : a = none → c = 0) (hc : n ≤ c) :
    Calls Try.prog 10 #[.slice a n c] w fun e w' => ∃ va vr, e = .returned (.tuple #[va, vr, .int .i64 (PE zs).1]) ∧ Heap w w' (plT w zs va vr) := by
  have hln : n ≤ 140737488355328 := by rw [← hz']; exact hB.len
  have HB := Hid.mk' hB
  have HZ := Hid.mk' hz'
  have HN0 := Hid.mk' hn0
  clear hB hz' hn0
  go_enter Try.func10, Try.ntmps10
  go_wp2_with fail
  have H2 : Hid (Heap w w [rowT w.heap.size 48 73 (.slice none 0 0) 0 (hsC [])]) := (Heap.nil (Below.refl _ _)).add (Below.refl _ _) (rowT w.heap.size 48 73 (.slice none 0 0) 0 (hsC [])) (World.ownsRow_nil _ _ _ _) (fun k hk => by cases hk)
  go_loopg [5, 6, 7, 8] 8 (fun f s5 s6 s7 s8 wr => ∃ (out : Hs) (k : Int) (m : Bool), s8 = .int .i64 (hTot out : Nat) ∧ s6 = .int .u8 k ∧ s7 = .bool m ∧ 8 - out.length ≤ f ∧ Hid (WkI zs out k m) ∧ Hid (Heap w wr [rowT w.heap.size 48 73 s5 out.length (hsC out)]))
  case atStart => exact ⟨[], 1, true, rfl, rfl, rfl, by simp, WkI.first zs, H2⟩
  case round =>
    obtain ⟨out, k, m, rfl, rfl, rfl, hf, HI, HH⟩ := hrel
    have hle := HI.out.few
    have hfits := HI.out.fits
    rw [HZ.out] at hfits
    obtain ⟨sa, sc, hs⟩ := own_slice (HH.out.get (i := 0) rfl)
    obtain ⟨N, HN⟩ : ∃ N, Hid (out.length = N) := ⟨_, rfl⟩
    obtain ⟨M, HM⟩ : ∃ M, Hid (hTot out = M) := ⟨_, rfl⟩
    rw [HN.out] at hf hle hs HH
    rw [HM.out] at hfits
    rw [HM.out]
    subst hs
    have hMc : M ≤ c := by omega
    have hsub : (if c = M then a else a.map (fun x => x.add M)) = subA a c M := rfl
    have SB : Hid (∀ u, Below w.heap.size w u → Bs u (subA a c M) (zs.drop M)) := Hid.mk' (fun u hu => bs_sub (HB.out.below hu) c M (by rw [HZ.out]; exact hc))
    have SN := Hid.mk' (subA_none HN0.out hMc)
    have SL : Hid ((zs.drop M).length = n - M) := Hid.mk' (by rw [List.length_drop, HZ.out])
    obtain ⟨A1, HA1⟩ : ∃ A1, Hid (subA a c M = A1) := ⟨_, rfl⟩
    rw [HA1.out] at hsub SB SN
    cases m with
    | false =>
      have hd := HI.out.done rfl
      have HD := Hid.mk' hd
      have HR : Hid (peR zs = zs.drop M) := Hid.mk' (by unfold peR; rw [hd, if_pos rfl, HM.out])
      go_wp2_with (go_at_call 8; refine (copy_at A1 (n - M) (c - M) (zs.drop M) _ SL.out (SB.out _ HH.out.old) SN.out).mono ?_; rintro e w4 ⟨v, rfl, hown, b4⟩; have OW := Hid.mk' hown; have B4 := Hid.mk' b4; clear hown b4)
      go_ret3
      refine ⟨.slice sa N sc, v, ?_, ?_⟩
      · rw [HD.out]; rfl
      unfold plT
      rw [HR.out, HD.out, HN.out, SL.out]
      exact (HH.out.push B4.out (rowT w.heap.size 5 1 v (n - M) ((zs.drop M).map (Value.int .u8))) (ownsRow_base OW.out HH.out.old.size) (fun j hj => (OW.out.lt j hj).1))
    | true =>
      by_cases h8 : N = 8
      · have hd := Hid.mk' (HI.out.many (by rw [HN.out]; exact h8))
        subst h8
        go_wp2_with fail
        go_ret3
        refine ⟨.slice none 0 0, .slice none 0 0, ?_, pl_err hd.out (by omega) HH.out.old⟩
        rw [hd.out]; rfl
      · obtain ⟨k0, k1, -⟩ := HI.out.more rfl
        have k255 : k ≤ 255 := by omega
        have kn0 : 0 ≤ k := by omega
        have HRD : Hid (∀ u, Below w.heap.size w u → Calls Try.prog 22 #[.slice A1 (n - M) (c - M), .int .u8 k] u fun e w' => e = .returned (.tuple #[.agg (rH k (zs.drop M)).toArray, .int .i64 (rE k (zs.drop M))]) ∧ Below u.heap.size u w') := Hid.mk' (fun u hu => rread_any k k0 k1 A1 (n - M) (c - M) (zs.drop M) u SL.out (SB.out u hu) (by omega))
        have KH := Hid.mk' (hk_hh (rL_hd k0 k1 (fun z hz => HB.out.bytes z (List.mem_of_mem_drop hz) : Bytes (zs.drop M))))
        by_cases hE : rE k (zs.drop M) = 0
        · have HW := Hid.mk' (HI.out.next HB.out.bytes (by rw [HN.out]; omega) (by rw [HM.out]; exact hE))
          have e1 : rH k (zs.drop M) = hk k (rL k (zs.drop M)) := by unfold rH; rw [if_pos hE]
          rw [e1, hE] at HRD
          rw [HM.out] at HW
          obtain ⟨H, HHk⟩ : ∃ H, Hid (hk k (rL k (zs.drop M)) = H) := ⟨_, rfl⟩
          rw [HHk.out] at HRD HW KH
          have hh73 := Hid.mk' (hh_len KH.out)
          have hh1 := Hid.mk' (hh_one KH.out)
          have hhm := Hid.mk' (hh_mem KH.out)
          have HHS : Hid (hsC (out ++ [(k, rL k (zs.drop M))]) = hsC out ++ H) := Hid.mk' (by rw [hsC_push, HHk.out])
          obtain ⟨s, HSZ⟩ : ∃ s, Hid (sz k = s) := ⟨_, rfl⟩
          have hfit2 : M + s ≤ n := by
            have := HW.out.fits
            rw [hTot_app, HZ.out, HM.out] at this
            simp [hTot, HSZ.out] at this
            exact this
          have HSE : Hid (∀ u, Calls Try.prog 23 #[.int .u8 k] u fun e w' => e = .returned (.int .i64 (s : Nat)) ∧ Below u.heap.size u w') := Hid.mk' (fun u => by rw [← HSZ.out]; exact size_any k u kn0 k255)
          have hbs : Hid (Try.prog.builtSlice 48 1 [(0, .agg H.toArray)] = some H.toArray) := Hid.mk' (bslice_1 H hh73.out)
          obtain ⟨i0, hif, hz0, hz1, hz2⟩ := info_parts info_head
          have hzs : (Value.agg hz.toArray).cells.size = 73 := by rfl
          have INF : Hid (Try.prog.info? 48 = some i0 ∧ i0.zero = some (.agg hz.toArray) ∧ i0.size = 73 ∧ i0.bytes = 100) := ⟨hif, hz0, hz1, hz2⟩
          clear hif hz0 hz1 hz2 e1 hE
          go_wp2_with fail
          refine (HRD.out _ HH.out.old).mono ?_
          rintro e w4 ⟨rfl, b4⟩
          have H4 := Hid.mk' (HH.out.below b4)
          clear b4
          have H5 : Hid (Heap w (w4.alloc (.cells H.toArray 48)) [rowT w.heap.size 48 73 (.slice sa N sc) N (hsC out), cellsT w4.heap.size H.toArray 48]) := H4.out.push ((Below.refl _ _).alloc (Nat.le_refl _) _) (cellsT w4.heap.size H.toArray 48) (heap_alloc_new w4 _) (fun j hj => Nat.le_of_eq hj.symm)
          have R5 : Hid ((w4.alloc (.cells H.toArray 48)).heap[w4.heap.size]? = some (.cells H.toArray 48 (0, 0))) := Hid.mk' (heap_alloc_new w4 _)
          have OWN : Hid ((w4.alloc (.cells H.toArray 48)).ownsRow w.heap.size 48 73 (.slice sa N sc) N (hsC out)) := Hid.mk' (H5.out.get (i := 0) rfl)
          have CL : Hid (∀ (j : Nat) (u : Value), H[j]? = some u → ((w4.alloc (.cells H.toArray 48)).alloc (.cells H.toArray 48)).cell? ((⟨w4.heap.size + 1, 0, none⟩ : Addr).add j) = some u) := Hid.mk' (by
            have := cells_laid (w4.alloc (.cells H.toArray 48)) 48 H
            rwa [show (w4.alloc (.cells H.toArray 48)).heap.size = w4.heap.size + 1 by simp] at this)
          have hws := H4.out.old.size
          go_wp2_with (first
            | refine wpList_store_new rfl 48 _ _ rfl _ _ H rfl rfl (by rw [hh73.out]; rfl) (by rw [hh73.out]; exact info_hh) hh1.out ?_
            | refine wpList_load_mid rfl 48 _ rfl w4.heap.size 0 rfl H _ (range_block R5.out) Try.underlying48 rfl (by rw [hh73.out]; exact info_hh) ?_
            | refine Great.wpList_buildSliceTo rfl 24 48 1 #[(0, .tmp 27)] rfl (w4.heap.size + 1) (by simp) (some 28) rfl Try.underlying24 H.toArray (by simpa [Act.eval, Act.put] using hbs.out) ?_
            | (at_builtin; go_loud (refine wpList_append_own2 rfl _ _ 24 rfl w.heap.size 48 i0 (.agg hz.toArray) 73 100 Try.underlying24 INF.out.1 INF.out.2.1 INF.out.2.2.1 INF.out.2.2.2 hzs (by decide) (.slice sa N sc) N (hsC out) rfl (World.ownsRow.alloc OWN.out _) ⟨w4.heap.size + 1, 0, none⟩ 1 1 H rfl (by rw [hh73.out]) CL.out hhm.out (by unfold maxLen; omega) (by omega) (by simp; omega) ?_; intro v' w6 hown6 hgr6 hob6; have H6 := Hid.mk' ((H5.out.below ((Below.refl _ _).alloc (Nat.le_refl _) (.cells H.toArray 48))).grown 0 rfl hown6 hgr6 hob6); clear hown6 hgr6 hob6))
            | (go_at_call 23; refine (HSE.out w6).mono ?_; rintro e w7 ⟨rfl, b7⟩; have H7 := Hid.mk' (H6.out.below b7); have R7 : Hid (w7.heap[w4.heap.size]? = some (.cells H.toArray 48 (0, 0))) := Hid.mk' (H7.out.get (i := 1) rfl); clear b7)
            | refine wpList_load_mid rfl 48 _ rfl w4.heap.size 0 rfl H _ (range_block R7.out) Try.underlying48 rfl (by rw [hh73.out]; exact info_hh) ?_
            | (go_at_call 17; refine (rnext_any H w7 KH.out).mono ?_; rintro e w8 ⟨rfl, b8⟩; have H8 := Hid.mk' (H7.out.below b8); clear b8))
          go_roundg (8 - (N + 1))
          case measure => omega
          case rel =>
            refine ⟨out ++ [(k, rL k (zs.drop M))], nx H, !(nx H == 0), ?_, rfl, rfl, ?_, HW, ?_⟩
            · rw [hTot_app, HM.out]; simp [hTot, HSZ.out]
            · simp [HN.out]
            · rw [HHS.out, List.length_append, HN.out]
              exact Heap.front (L := [_]) (M := [_]) H8.out
        · have hd := Hid.mk' (HI.out.bad (by rw [HN.out]; omega) (by rw [HM.out]; exact hE))
          rw [HM.out] at hd
          have KZ : Hid (rH k (zs.drop M) = hz) := Hid.mk' (by unfold rH; rw [if_neg hE])
          rw [KZ.out] at HRD
          have hz73 := Hid.mk' hz_len
          have hz1 := Hid.mk' (hh_one hz_hh)
          obtain ⟨Z, HZZ⟩ : ∃ Z, Hid (hz = Z) := ⟨_, rfl⟩
          rw [HZZ.out] at HRD hz73 hz1
          obtain ⟨E, HE⟩ : ∃ E, Hid (rE k (zs.drop M) = E) := ⟨_, rfl⟩
          rw [HE.out] at hE HRD hd
          have hEb : (E == 0) = false := by simpa using hE
          clear KZ HZZ KH
          go_wp2_with (first
            | (go_at_call 22; refine (HRD.out _ HH.out.old).mono ?_; rintro e w4 ⟨rfl, b4⟩; have B5 : Hid (Below w.heap.size w (w4.alloc (.cells Z.toArray 48))) := Hid.mk' ((HH.out.below b4).below ((Below.refl _ _).alloc (Nat.le_refl _) (.cells Z.toArray 48))).old; clear b4)
            | refine wpList_store_new rfl 48 _ _ rfl _ _ Z rfl rfl (by rw [hz73.out]; rfl) (by rw [hz73.out]; exact info_hh) hz1.out ?_)
          go_ret3
          refine ⟨.slice none 0 0, .slice none 0 0, ?_, pl_err hd.out hE B5.out⟩
          rw [hd.out]; rfl
end Go.Proofs.Ythdgfhllieknlaa
