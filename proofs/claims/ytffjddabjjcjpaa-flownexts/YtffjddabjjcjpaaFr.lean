/- The document's Closes, Inside, has, opens, jumps. -/
import Derived.Test.YtffjddabjjcjpaaFi
import Derived.Test.YtffjddabjjcjpaaIh
namespace Go.Proofs.Ytffjddabjjcjpaa
open Go.ChangeShapes Go.WideShapes Go.ChangeAt Go.RowKit
set_option maxRecDepth 10000
variable {L : List Q5}

theorem rjumps_any (p d s o i : Int) (w : World) : Calls Try.prog 26 #[insV p d s o i] w fun e w' => e = .returned (.bool (isJ p)) ∧ Below w.heap.size w w' := by
  have HK : Hid (∀ ob, Below w.heap.size w (w.alloc ob)) := fun ob => (Below.refl _ _).alloc (Nat.le_refl _) _
  go_enter Try.func26, Try.ntmps26
  go_wp2_with fail
  all_goals
    go_ret
    refine ⟨ret_bool ?_, HK.out _⟩
    first | rfl | (simp [isJ, *]; done) | (rw [Bool.eq_iff_iff]; simp [isJ] at *; omega)

set_option maxHeartbeats 1000000 in
theorem closes_any (b off c n x : Nat) (w : World) (hL : L.length = n) (hC : Lie w b off L) (hn : n ≤ 256) (hx : x < n) (h33 : opA L x = 33) :
    Calls Try.prog 35 #[.slice (some ⟨b, off, none⟩) n c, .int .i64 x] w fun e w' => e = .returned (.int .i64 (enN L n x)) ∧ w = w' := by
  have HC := Hid.mk' hC
  have HL := Hid.mk' hL
  clear hC hL
  obtain ⟨E, hE⟩ : ∃ E, Hid (enN L n x = E) := ⟨_, Hid.mk' rfl⟩
  rw [hE.out]
  have H33 := Hid.mk' h33
  clear h33
  obtain ⟨D, hD⟩ : ∃ D, Hid ((stk L x).length = D) := ⟨_, Hid.mk' rfl⟩
  go_enter Try.func35, Try.ntmps35
  go_wp2_with fail
  go_loopw [5, 6] (fun o i wr => ∃ k m : Nat, x ≤ k ∧ k ≤ n ∧ o = .int .i64 m ∧ i = .int .i64 k ∧ m ≤ k ∧ Hid (m + D = (stk L k).length ∧ (k = x ∨ x ∈ stk L k)) ∧ wr = w) (fun _ i _ => n - (intOf i).toNat)
  case atStart => exact ⟨x, 0, Nat.le_refl _, Nat.le_of_lt hx, rfl, rfl, Nat.zero_le _, Hid.mk' ⟨by rw [hD.out]; omega, .inl rfl⟩, rfl⟩
  case round =>
    obtain ⟨k, m, hxk, hk, rfl, rfl, hmk, hJ, rfl⟩ := hrel
    by_cases hlt : k < n
    · have hlk : (k : Int) < (n : Int) := by omega
      obtain ⟨p, d, s, o, i, hq, q1, -, -⟩ := at_get (L := L) (k := k) (by rw [HL.out]; exact hlt)
      obtain ⟨c0, -, -, -, -⟩ := HC.out k _ _ _ _ _ hq
      have Q1 := Hid.mk' q1
      clear hq q1
      by_cases hp3 : p = 33
      · subst hp3
        have hJ' : Hid (m + 1 + D = (stk L (k + 1)).length ∧ (k + 1 = x ∨ x ∈ stk L (k + 1))) := Hid.mk' (by
          rw [stk_rep Q1.out, List.length_cons]
          refine ⟨by have := hJ.out.1; omega, .inr ?_⟩
          rcases hJ.out.2 with e | e
          · rw [e]; exact List.mem_cons_self
          · exact List.mem_cons_of_mem _ e)
        go_wp2_with fail
        go_roundw
        case rel => exact ⟨k + 1, m + 1, by omega, hlt, by go_num, by go_num, by omega, hJ', by trivial⟩
        case measure => simp [intOf]; omega
      · by_cases hp4 : p = 34
        · subst hp4
          have hkx : k ≠ x := fun e => by have := Q1.out; rw [e, H33.out] at this; omega
          have hin : x ∈ stk L k := by
            rcases hJ.out.2 with e | e
            · exact absurd e hkx
            · exact e
          obtain ⟨U, eU, hU⟩ := stk_split hin
          have hlen : m = U.length + 1 := by
            have := hJ.out.1
            rw [eU, List.length_append, List.length_cons, hD.out] at this
            omega
          by_cases hm1 : m = 1
          · have hU0 : U = [] := List.eq_nil_of_length_eq_zero (by omega)
            rw [hU0, List.nil_append] at eU
            have hEk : E = k := by
              rw [← hE.out]
              exact en_top Q1.out (by rw [eU]; rfl) hlt
            subst hm1 hEk
            clear hlen eU hU hin
            go_wp2_with fail
            go_ret
            exact ⟨rfl, rfl⟩
          · have hJ' : Hid ((m - 1) + D = (stk L (k + 1)).length ∧ (k + 1 = x ∨ x ∈ stk L (k + 1))) := Hid.mk' (by
              rw [stk_end Q1.out, List.length_tail]
              refine ⟨by have := hJ.out.1; omega, .inr ?_⟩
              rw [eU]
              cases U with
              | nil => simp at hlen; omega
              | cons u U => simp)
            have h1 : ¬ (m : Int) - 1 = 0 := by omega
            have h1' : ¬ (m : Int) = 1 := by omega
            have hm0 : 1 ≤ m := by omega
            clear hlen eU hU hin
            go_wp2_with fail
            go_roundw
            case rel => exact ⟨k + 1, m - 1, by omega, hlt, by go_num, by go_num, by omega, hJ', by trivial⟩
            case measure => simp [intOf]; omega
        · have hkx : k ≠ x := fun e => hp3 (by rw [← Q1.out, e, H33.out])
          have hJ' : Hid (m + D = (stk L (k + 1)).length ∧ (k + 1 = x ∨ x ∈ stk L (k + 1))) := Hid.mk' (by
            rw [stk_else (by rw [Q1.out]; exact hp3) (by rw [Q1.out]; exact hp4)]
            refine ⟨hJ.out.1, .inr ?_⟩
            rcases hJ.out.2 with e | e
            · exact absurd e hkx
            · exact e)
          go_wp2_with fail
          go_roundw
          case rel => exact ⟨k + 1, m, by omega, hlt, by go_num, by go_num, by omega, hJ', by trivial⟩
          case measure => simp [intOf]; omega
    · have hlk : ¬ (k : Int) < (n : Int) := by omega
      have hkn : k = n := by omega
      have e1 : E = -1 := by
        rw [← hE.out]
        rcases hJ.out.2 with e | e
        · omega
        · rw [hkn] at e
          exact (en_mem H33.out hx).1 e
      subst e1
      go_wp2_with fail
      go_ret
      exact ⟨rfl, rfl⟩

/-- The places of the OpReps around a place, as the document lists them. -/
def inL (L : List Q5) (x : Nat) : List Int := (stk L x).reverse.map (fun (r : Nat) => (r : Int))
def inK (L : List Q5) (x k : Nat) : List Int := ((stk L x).filter (· < k)).reverse.map (fun (r : Nat) => (r : Int))
theorem inK_all (x : Nat) : inK L x x = inL L x := by
  unfold inK inL
  rw [List.filter_eq_self.2 (fun r hr => by simpa using (stk_lt hr).1)]
theorem inK_zero (x : Nat) : inK L x 0 = [] := by
  unfold inK
  rw [List.filter_eq_nil_iff.2 (fun r _ => by simp)]
  rfl
theorem inK_in {x k : Nat} (h : k ∈ stk L x) : inK L x (k + 1) = inK L x k ++ [(k : Int)] := by
  unfold inK
  rw [filter_top (stk_dec x), if_pos h]
  simp
theorem inK_out {x k : Nat} (h : k ∉ stk L x) : inK L x (k + 1) = inK L x k := by
  unfold inK
  rw [filter_top (stk_dec x), if_neg h]
theorem inL_len (x : Nat) : (inL L x).length = (stk L x).length := by simp [inL]
theorem inK_len (x k : Nat) : (inK L x k).length ≤ x := by
  unfold inK
  rw [List.length_map, List.length_reverse]
  exact Nat.le_trans (List.length_filter_le _ _) (stk_len x)

theorem info_int : (Try.prog.info? 3).map (fun i => (i.zero, i.size, i.bytes)) = some (some (.int .i64 0), 1, 8) := by kernel_rfl

theorem below_grown' {B : Nat} {w3 w4 X w5 : World} {u : Value} (b : Below B w3 w4) (hB : B ≤ w4.heap.size) (bX : Below w4.heap.size w4 X) (hu : ∀ k, u.ownBlock = some k → B ≤ k) (hg : X.grownBy w5 u.ownBlock) : Below B w3 w5 := by
  have h1 : Below B w3 X := b.trans (bX.mono hB)
  refine h1.trans ⟨hg.os, hg.tape, hg.output, hg.size, fun k hk => hg.block k (Nat.lt_of_lt_of_le hk (Nat.le_trans hB bX.size)) (fun e => ?_)⟩
  have := hu k e.symm
  omega

set_option maxHeartbeats 1000000 in
theorem inside_any (b off c n x : Nat) (w : World) (hL : L.length = n) (hC : Lie w b off L) (hn : n ≤ 256) (hx : x ≤ n) :
    Calls Try.prog 27 #[.slice (some ⟨b, off, none⟩) n c, .int .i64 x] w fun e w' => (∃ u, e = .returned u ∧ Iw w' w.heap.size u (inL L x)) ∧ Below w.heap.size w w' := by
  obtain ⟨iI, hi, hz0, hz1, hz2⟩ := info_parts info_int
  have HC := Hid.mk' hC
  have HL := Hid.mk' hL
  clear hC hL
  have KC : Hid (∀ (k : Nat) (u : World), k < n → opA L k = 33 → Below w.heap.size w u → Calls Try.prog 35 #[.slice (some ⟨b, off, none⟩) n c, .int .i64 k] u fun e w' => e = .returned (.int .i64 (enN L n k)) ∧ u = w') := Hid.mk' (fun k u hk h33 hu => closes_any b off c n k u HL.out (HC.out.below hu) hn hk h33)
  go_enter Try.func27, Try.ntmps27
  go_wp2_with fail
  go_loopw [5, 6] (fun o i wr => ∃ k : Nat, k ≤ x ∧ i = .int .i64 k ∧ Hid (wr.ownsRow w.heap.size 3 1 o (inK L x k).length ((inK L x k).map (Value.int .i64))) ∧ Hid (Below w.heap.size w wr)) (fun _ i _ => x - (intOf i).toNat)
  case atStart => exact ⟨0, Nat.zero_le _, rfl, Hid.mk' (by rw [inK_zero]; exact World.ownsRow_nil _ _ _ _), Hid.mk' (Below.refl _ _)⟩
  case round =>
    obtain ⟨k, hk, rfl, hO, hB⟩ := hrel
    by_cases hlt : k < x
    · have hlk : (k : Int) < (x : Int) := by omega
      have hln : (k : Int) < (n : Int) := by omega
      obtain ⟨p, d, s, o, i, hq, q1, -, -⟩ := at_get (L := L) (k := k) (by rw [HL.out]; omega)
      obtain ⟨c0, -, -, -, -⟩ := (HC.out.below hB.out) k _ _ _ _ _ hq
      have Q1 := Hid.mk' q1
      clear hq q1
      by_cases hp3 : p = 33
      · subst hp3
        have K := Hid.mk' (KC.out k wr (by omega) Q1.out hB.out)
        have hIff := Hid.mk' (in_iff (L := L) (n := n) Q1.out hlt hx)
        obtain ⟨E, hE⟩ : ∃ E, enN L n k = E := ⟨_, rfl⟩
        rw [hE] at K hIff
        clear hE
        by_cases hin : k ∈ stk L x
        · have hE2 := hIff.out.1 hin
          have hlen := inK_len (L := L) x k
          have hks := hB.out.size
          have hE3 : ¬ E < 0 → (x : Int) ≤ E := fun h => by omega
          clear hIff
          go_wp2_with (first
            | (at_builtin; refine wpList_append_own2 rfl _ _ 24 rfl w.heap.size 3 iI (.int .i64 0) 1 8 Try.underlying24 hi hz0 hz1 hz2 rfl (by decide) _ _ _ rfl (hO.out.alloc _) ⟨wr.heap.size, 0, none⟩ 1 1 [.int .i64 k] rfl rfl (by intro j u hj; rw [addr_add, Nat.zero_add, World.cell?_alloc_new]; simpa using hj) (by intro u hu; simp at hu; subst hu; rfl) (by unfold maxLen; omega) (by omega) (by simp; omega) ?_; intro v' w5 hown5 hgr5; intro hwh; have HO5 := Hid.mk' hown5; have HG5 := Hid.mk' hgr5; clear hown5 hgr5 hwh)
            | (go_at_call 35; refine K.out.mono ?_; rintro e w4 ⟨rfl, rfl⟩))
          all_goals
            have B5 : Hid (Below w.heap.size w w5) := Hid.mk' (below_grown' hB.out hB.out.size ((Below.refl _ _).alloc (Nat.le_refl _) _) (own_base hO.out) HG5.out)
            go_roundw
            case rel => exact ⟨k + 1, hlt, by go_num, Hid.mk' (by
              rw [inK_in hin, List.length_append, List.map_append]
              exact HO5.out), B5⟩
            case measure => simp [intOf]; omega
        · have hE2 : ¬ (E < 0 ∨ (x : Int) ≤ E) := fun h => hin (hIff.out.2 h)
          have hE3 : ¬ E < 0 := fun h => hE2 (.inl h)
          have hE4 : ¬ (x : Int) ≤ E := fun h => hE2 (.inr h)
          clear hIff hE2
          go_wp2_with (go_at_call 35; refine K.out.mono ?_; rintro e w4 ⟨rfl, rfl⟩)
          go_roundw
          case rel => exact ⟨k + 1, hlt, by go_num, Hid.mk' (by rw [inK_out hin]; exact hO.out), hB⟩
          case measure => simp [intOf]; omega
      · have hin : k ∉ stk L x := fun h => hp3 (by rw [← Q1.out]; exact (stk_lt h).2)
        go_wp2_with fail
        go_roundw
        case rel => exact ⟨k + 1, hlt, by go_num, Hid.mk' (by rw [inK_out hin]; exact hO.out), hB⟩
        case measure => simp [intOf]; omega
    · have hlk : ¬ (k : Int) < (x : Int) := by omega
      have hkx : k = x := by omega
      subst hkx
      rw [inK_all] at hO
      go_wp2_with fail
      go_ret
      exact ⟨⟨_, rfl, Iw.own hO.out⟩, hB.out⟩
end Go.Proofs.Ytffjddabjjcjpaa
