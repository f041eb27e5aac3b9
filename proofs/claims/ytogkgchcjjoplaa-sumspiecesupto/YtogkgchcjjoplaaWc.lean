/- The walk of SumsPieces, where both pieces together are of at most 2^46 bytes. -/
import Derived.Test.YtogkgchcjjoplaaSj
namespace Go.Proofs.Ytogkgchcjjoplaa
open Go.ChangeShapes Go.WideShapes Go.ChangeAt Go.RowKit

set_option maxHeartbeats 4000000 in
theorem walkSumsPieces (a : Option Addr) (c : Nat) (xs : List Int) (b : Option Addr) (d : Nat) (ys : List Int) (W : World) (h0 : Bs W a xs) (n0 : (a = none → c = 0) ∧ xs.length ≤ c) (h1 : Bs W b ys) (n1 : (b = none → d = 0) ∧ ys.length ≤ d) (u0 : xs.length ≤ 1048576) (u1 : ys.length ≤ 1048576) :
    Calls Try.prog 6 #[.slice a xs.length c, .slice b ys.length d] W fun e w' => e = .returned (.bool true) ∧ Below W.heap.size W w' := by
  have H0 : Hid (a = none → c = 0) := n0.1
  have H1 : Hid (b = none → d = 0) := n1.1
  have r1 := su_range xs xs.length
  have r2 := su_range ys ys.length
  clear n0 n1
  have hpar : ((xs.length : Int) % 2 == 1) = true ∧ Hid (¬ xs.length % 2 = 0) ∨ ((xs.length : Int) % 2 == 1) = false ∧ Hid (xs.length % 2 = 0) := by
    by_cases he : xs.length % 2 = 0
    · exact .inr ⟨by simp; omega, he⟩
    · exact .inl ⟨by simp; omega, he⟩
  have HS := su_append h0.bytes h1.bytes
  have HSW := swap_bits (su ys ys.length) r2.1 r2.2
  have hsw : 0 ≤ swp (su ys ys.length) ∧ swp (su ys ys.length) ≤ 65535 := by unfold swp; omega
  obtain ⟨s, Hs⟩ : ∃ s, Hid (su xs xs.length = s) := ⟨_, rfl⟩
  obtain ⟨t, Ht⟩ : ∃ t, Hid (su ys ys.length = t) := ⟨_, rfl⟩
  rw [Hs.out] at r1
  rw [Ht.out] at r2 HSW hsw
  rw [Hs.out, Ht.out] at HS
  have HS' : Hid (su (xs ++ ys) (xs ++ ys).length = fo (s + if xs.length % 2 = 0 then t else swp t)) := HS
  have HSW' : Hid (bits .or .u16 (IntKind.u16.wrap (t * 256)) (t / 256) = swp t) := HSW
  clear HS HSW
  go_enter Try.func6, Try.ntmps6
  go_wp2_with fail
  refine (awake_any _).mono ?_
  rintro e w1 ⟨rfl, b1⟩
  go_wp2_with fail
  refine (sum_any _ _ _ _ (h0.below b1)).mono ?_
  rintro e w2 ⟨rfl, d2⟩
  rw [Hs.out]
  go_wp2_with fail
  refine (sum_any _ _ _ _ (d2.bs (h1.below b1))).mono ?_
  rintro e w3 ⟨rfl, d3⟩
  rw [Ht.out]
  have b3 : Below W.heap.size W w3 := (b1.trans (d2.below _)).trans (d3.below _)
  have s0 := h0.below b3
  have s1 := h1.below b3
  clear b1 d2 d3
  rcases hpar with ⟨hp, HP⟩ | ⟨hp, HP⟩
  all_goals
    go_wp2_with fail
    refine (join_any _ _ _ _ xs ys _ s0 s1 H0.out H1.out (by omega)).mono ?_
    rintro e w4 ⟨v, rfl, hown, b4'⟩
    have b4 : Below W.heap.size W w4 := b3.trans (b4'.mono b3.size)
    rw [← List.length_append] at hown
    have hzb := bytes_append h0.bytes h1.bytes
    have hzl : (xs ++ ys).length ≤ 2097152 := by rw [List.length_append]; omega
    obtain ⟨t2, T2, HT2⟩ : ∃ t2, Hid (0 ≤ t2 ∧ t2 ≤ 65535 ∧ Value.int .u16 t2 = (if xs.length % 2 = 0 then Value.int .u16 t else Value.int .u16 (bits .or .u16 (IntKind.u16.wrap (t * 256)) (t / 256)))) ∧ Hid (su (xs ++ ys) (xs ++ ys).length = fo (s + t2)) := by
      by_cases he : xs.length % 2 = 0
      · exact ⟨t, ⟨r2.1, r2.2, by rw [if_pos he]⟩, by have := HS'.out; rw [if_pos he] at this; exact this⟩
      · exact ⟨swp t, ⟨hsw.1, hsw.2, by rw [if_neg he, HSW'.out]⟩, by have := HS'.out; rw [if_neg he] at this; exact this⟩
    obtain ⟨q0, q1, q2⟩ := T2.out
    first | rw [if_neg HP.out] at q2 | rw [if_pos HP.out] at q2
    rw [← q2]
    clear q2 T2 HS' HSW' hsw
    generalize xs ++ ys = zs at hown hzb hzl HT2
    obtain ⟨a4, c4, rfl, s4, n4⟩ := bs_own hown hzb (by omega)
    have N4 : Hid (a4 = none → c4 = 0) := n4
    clear n4 hown b4'
    have hat := s4.lies
    go_wp2_with fail
    go_loop [8, 9] (fun nb i => ∃ (k : Nat) (nz : Bool), k ≤ zs.length ∧ i = .int .i64 k ∧ nb = .bool nz ∧ Hid (nz = true ↔ ∀ j, j < k → zs.getD j 0 = 0)) (fun _ i => zs.length - (intOf i).toNat)
    case atStart => exact ⟨0, true, Nat.zero_le _, rfl, rfl, ⟨fun _ j hj => by omega, fun _ => rfl⟩⟩
    case round =>
      obtain ⟨k, nz, hk, rfl, rfl, HNZ⟩ := hrel
      by_cases hlt : k < zs.length
      · rcases hat with hz | ⟨p, off, rfl, hcell⟩
        · omega
        have hc := hcell k hlt
        obtain ⟨x, HX⟩ : ∃ x, Hid (zs.getD k 0 = x) := ⟨_, rfl⟩
        rw [HX.out] at hc
        clear hcell
        have hsp : (k : Int) < (zs.length : Int) := by omega
        cases nz
        · go_wp2_with fail
          go_round
          case rel => exact ⟨k + 1, false, hlt, by go_num, rfl, ⟨fun e => (Bool.noConfusion e), fun e => HNZ.out.2 (fun j hj => e j (by omega))⟩⟩
          case measure => simp [intOf]; omega
        · by_cases hx0 : x = 0
          · have hx1 : (x == 0) = true := by simpa using hx0
            subst hx0
            go_wp2_with fail
            go_round
            case rel =>
              refine ⟨k + 1, true, hlt, by go_num, rfl, ⟨fun _ j hj => ?_, fun _ => rfl⟩⟩
              by_cases hjk : j < k
              · exact HNZ.out.1 rfl j hjk
              · obtain rfl : j = k := by omega
                exact HX.out
            case measure => simp [intOf]; omega
          · have hx1 : (x == 0) = false := by simpa using hx0
            go_wp2_with fail
            go_round
            case rel => exact ⟨k + 1, false, hlt, by go_num, rfl, ⟨fun e => (Bool.noConfusion e), fun e => absurd (HX.out.symm.trans (e k (by omega))) hx0⟩⟩
            case measure => simp [intOf]; omega
      · obtain rfl : k = zs.length := by omega
        have HN : Hid ((su zs zs.length == 0) = nz) := by
          show (su zs zs.length == 0) = nz
          have e1 : su zs zs.length = 0 ↔ nz = true := (fo_eq_zero _).trans ((tot_zero hzb _).trans HNZ.out.symm)
          cases nz
          · simpa using e1
          · simpa using e1
        clear HNZ hat
        obtain ⟨f, HF⟩ : ∃ f, Hid (su zs zs.length = f) := ⟨_, rfl⟩
        have rf := su_range zs zs.length
        rw [HF.out] at HN HT2 rf
        go_wp2_with fail
        refine (sum_any _ _ _ _ s4).mono ?_
        rintro e w5 ⟨rfl, d5⟩
        rw [HF.out]
        go_wp2_with fail
        refine (add_any _ _ _ r1.1 r1.2 q0 q1).mono ?_
        rintro e w' ⟨rfl, rfl⟩
        rw [← HT2.out]
        go_wp2_with fail
        refine (sum_any _ _ _ _ (d5.bs s4)).mono ?_
        rintro e w6 ⟨rfl, d6⟩
        rw [HF.out]
        have b6 : Below W.heap.size W w6 := (b4.trans (d5.below _)).trans (d6.below _)
        have s6 := d6.bs (d5.bs s4)
        clear d5 d6 s4 b4 s0 s1
        have hff : (f == 0) = nz := HN.out
        cases nz
        all_goals
          by_cases hodd : zs.length % 2 = 0
          · have hpz : ((zs.length : Int) % 2 == 1) = false := by simp; omega
            go_wp2_with fail
            refine (field_any _ _ _ _ s6).mono ?_
            rintro e w7 ⟨rfl, d7⟩
            rw [HF.out]
            have b7 : Below W.heap.size W w7 := b6.trans (d7.below _)
            have s7 := d7.bs s6
            have hbf : Bytes [(65535 - f) / 256, (65535 - f) % 256] := by
              intro z hz; simp at hz; omega
            have s8 : Bs (w7.alloc (.cells #[.int .u8 ((65535 - f) / 256), .int .u8 ((65535 - f) % 256)] 5)) (some ⟨w7.heap.size, 0, none⟩) [(65535 - f) / 256, (65535 - f) % 256] := bs_new w7 _ 5 hbf (by simp)
            have s7' := s7.below ((Below.refl _ _).alloc (Nat.le_refl _) (.cells #[.int .u8 ((65535 - f) / 256), .int .u8 ((65535 - f) % 256)] 5))
            go_wp2_with fail
            refine (join_any _ _ _ _ zs [(65535 - f) / 256, (65535 - f) % 256] _ s7' s8 N4.out (fun e => by cases e) (by simp; omega)).mono ?_
            rintro e w8 ⟨v8, rfl, hown8, b8'⟩
            have b8 : Below W.heap.size W w8 := (b7.alloc b7.size _).trans (b8'.mono (by have := b7.size; simp; omega))
            rw [← List.length_append] at hown8
            obtain ⟨a8, c8, rfl, s9, _⟩ := bs_own hown8 (bytes_append hzb hbf) (by simp; omega)
            clear hown8 b8' s8 s7' s7
            have hsu := su_field hzb hodd
            rw [HF.out] at hsu
            have r9 := su_range (zs ++ [(65535 - f) / 256, (65535 - f) % 256]) (zs ++ [(65535 - f) / 256, (65535 - f) % 256]).length
            generalize zs ++ [(65535 - f) / 256, (65535 - f) % 256] = qs at s9 hsu r9
            go_wp2_with fail
            refine (sum_any _ _ _ _ s9).mono ?_
            rintro e w9 ⟨rfl, d9⟩
            go_wp2_with fail
            refine (same_any _ _ _ r9.1 r9.2 (by omega) (by omega)).mono ?_
            rintro e w' ⟨rfl, rfl⟩
            rw [hsu, show ((0 : Int) == 0 % 65535) = true from by decide +kernel]
            go_wp2_with fail
            go_ret
            exact ⟨rfl, b8.trans (d9.below _)⟩
          · have hpz : ((zs.length : Int) % 2 == 1) = true := by simp; omega
            have hbf : Bytes [0] := by intro z hz; simp at hz; omega
            have hsu := su_nought hodd
            rw [HF.out] at hsu
            have HSU : Hid (su (zs ++ [0]) (zs ++ [0]).length = f) := hsu
            clear hsu
            go_wp2_with fail
            refine (sum_any _ _ _ _ s6).mono ?_
            rintro e w7 ⟨rfl, d7⟩
            rw [HF.out]
            have b7 : Below W.heap.size W w7 := b6.trans (d7.below _)
            have s7 := d7.bs s6
            have s8 : Bs (w7.alloc (.cells #[.int .u8 0] 5)) (some ⟨w7.heap.size, 0, none⟩) [0] := bs_new w7 [0] 5 hbf (by simp)
            have s7' := s7.below ((Below.refl _ _).alloc (Nat.le_refl _) (.cells #[.int .u8 0] 5))
            go_wp2_with fail
            refine (join_any _ _ _ _ zs [0] _ s7' s8 N4.out (fun e => by cases e) (by simp; omega)).mono ?_
            rintro e w8 ⟨v8, rfl, hown8, b8'⟩
            have b8 : Below W.heap.size W w8 := (b7.alloc b7.size _).trans (b8'.mono (by have := b7.size; simp; omega))
            rw [← List.length_append] at hown8
            obtain ⟨a8, c8, rfl, s9, _⟩ := bs_own hown8 (bytes_append hzb hbf) (by simp; omega)
            clear hown8 b8' s8 s7' s7
            generalize zs ++ [0] = qs at s9 HSU
            go_wp2_with fail
            refine (sum_any _ _ _ _ s9).mono ?_
            rintro e w9 ⟨rfl, d9⟩
            rw [HSU.out]
            go_wp2_with fail
            go_ret
            exact ⟨rfl, b8.trans (d9.below _)⟩
end Go.Proofs.Ytogkgchcjjoplaa
