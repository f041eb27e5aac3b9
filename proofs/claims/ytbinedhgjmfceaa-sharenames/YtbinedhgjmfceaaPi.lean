/- The contracts of the document's Store, Head, Tail. -/
import Derived.Test.YtbinedhgjmfceaaPh
namespace Go.Proofs.Ytbinedhgjmfceaa
open Go.ChangeShapes Go.WideShapes Go.ChangeAt Go.RowKit

/-- A byte of the document's packet is written. -/
theorem RfIs.put {w : World} {base q : Nat} {g c : Nat} {B : List Int} {a d m : Nat} (h : RfIs w base q (.slice (some ⟨g, 0, none⟩) B.length c) B a d m) (y : Nat) (z : Int) (z0 : 0 ≤ z) (z1 : z ≤ 255) :
    RfIs (w.setCell ⟨g, y, none⟩ (.int .u8 z)) base q (.slice (some ⟨g, 0, none⟩) B.length c) (B.set y z) a d m := by
  have hne : g ≠ q := h.ne g rfl
  refine ⟨?_, ?_, h.ne, h.le, bytes_set h.bytes y z z0 z1, by rw [List.length_set]; exact h.most, h.mvs⟩
  · rw [Below.heap_setCell _ _ _ _ (fun e => hne e.symm)]; exact h.box
  · have := (h.row.stored y (.int .u8 z)).1
    rw [← List.map_set] at this
    rw [List.length_set]; exact this

theorem RfIs.lies {w : World} {base q : Nat} {bv : Value} {B : List Int} {a d m : Nat} (h : RfIs w base q bv B a d m) (h0 : 0 < B.length) : ∃ g c, bv = .slice (some ⟨g, 0, none⟩) B.length c ∧ B.length ≤ c := by
  rcases h.row.2 with ⟨_, h1⟩ | ⟨g, cap, cur, rfl, _, _, hc, _⟩
  · omega
  · exact ⟨g, cap, rfl, hc⟩

theorem RfIs.byte {w : World} {base q : Nat} {g c : Nat} {B : List Int} {a d m : Nat} (h : RfIs w base q (.slice (some ⟨g, 0, none⟩) B.length c) B a d m) (y : Nat) (hy : y < B.length) :
    w.cell? ⟨g, y, none⟩ = some (.int .u8 (B.getD y 0)) ∧ w.frozen? ⟨g, y, none⟩ = false := by
  refine ⟨?_, h.row.frozenAt y⟩
  rw [h.row.cellAt y (by omega)]
  simp [hy]

set_option maxHeartbeats 1000000 in
theorem rstore_any (base q : Nat) (bv : Value) (B : List Int) (a d m : Nat) (x k v : Int) (w : World) (h : RfIs w base q bv B a d m) (v0 : 0 ≤ v) (v1 : v ≤ 18446744073709551615) :
    Calls Try.prog 51 #[.pointer (some ⟨q, 0, none⟩), .int .i64 x, .int .i64 k, .int .u64 v] w fun e w' => e = .returned (.int .i64 (askE B.length x k)) ∧ RfIs w' base q bv (stE B x k v) a d m ∧ Kept (fun i => bv.ownBlock = some i) w w' := by
  have key := rask_any base q bv B a d m x k w h
  unfold stE
  by_cases he : askE B.length x k = 0
  · rw [if_pos he]
    rw [he] at key ⊢
    obtain ⟨h1, h2, h3, h4⟩ := ask_zero.1 he
    obtain ⟨x', rfl⟩ : ∃ t : Nat, x = t := ⟨x.toNat, by omega⟩
    obtain ⟨k', rfl⟩ : ∃ t : Nat, k = t := ⟨k.toNat, by omega⟩
    rw [Int.toNat_natCast, Int.toNat_natCast]
    clear he
    obtain ⟨g, c, rfl, hcap⟩ := h.lies (by omega)
    have hmost := h.most
    obtain ⟨nb, hnb⟩ : ∃ n, n = B.length := ⟨_, rfl⟩
    rw [← hnb] at h4 hmost hcap h ⊢
    have HNB := Hid.mk' hnb.symm
    clear hnb
    have H1 := Hid.mk' h
    clear h
    go_enter Try.func51, Try.ntmps51
    go_wp2_with fail
    refine key.mono ?_
    rintro e w1 ⟨rfl, rfl⟩
    clear key
    go_wp2_with fail
    go_loopw [3, 10] (fun u i wr => ∃ (j : Nat) (y : Int) (B' : List Int), j ≤ k' ∧ i = .int .i64 ((j : Int) - 1) ∧ u = .int .u64 y ∧ 0 ≤ y ∧ y ≤ 18446744073709551615 ∧ Hid (stV B' x' j y = stV B x' k' v) ∧ Hid (B'.length = nb) ∧ Hid (RfIs wr base q (.slice (some ⟨g, 0, none⟩) nb c) B' a d m) ∧ Hid (Kept (fun i => (Value.slice (some ⟨g, 0, none⟩) nb c).ownBlock = some i) w wr)) (fun _ i _ => ((intOf i) + 1).toNat)
    case atStart => exact ⟨k', v, B, Nat.le_refl _, rfl, rfl, v0, v1, rfl, HNB, H1, Kept.refl _ _⟩
    case round =>
      clear H1 HNB
      obtain ⟨j, y, B', hj, rfl, rfl, y0, y1, hst, hBl, hP, hK⟩ := hrel
      cases j with
      | zero =>
        have hf : RfIs wr base q (.slice (some ⟨g, 0, none⟩) nb c) (stV B x' k' v) a d m := by rw [← hst.out]; exact hP.out
        have HF := Hid.mk' hf
        clear hf hst hP hBl
        go_wp2_with fail
        go_ret
        exact ⟨rfl, HF.out, hK.out⟩
      | succ j =>
        have e0 : (((j + 1 : Nat) : Int) - 1) = (j : Int) := by omega
        rw [e0]
        have hP2 : RfIs wr base q (.slice (some ⟨g, 0, none⟩) B'.length c) B' a d m := by rw [hBl.out]; exact hP.out
        have hy : x' + j < B'.length := by rw [hBl.out]; omega
        obtain ⟨cc, ff⟩ := hP2.byte (x' + j) hy
        have q0 := hP.out.cells.1
        have hp := hP2.put (x' + j) (y % 256) (by omega) (by omega)
        rw [hBl.out] at hp
        have HP' := Hid.mk' hp
        have HK' : Hid (Kept (fun i => (Value.slice (some ⟨g, 0, none⟩) nb c).ownBlock = some i) w (wr.setCell ⟨g, x' + j, none⟩ (.int .u8 (y % 256)))) := hK.out.setCell (p := ⟨g, x' + j, none⟩) (fun _ => rfl) _
        generalize B'.getD (x' + j) 0 = b at cc
        have hsp : (x' : Int) + (j : Int) < (nb : Int) := by omega
        clear hp hy e0 hP2
        go_wp2_with fail
        go_roundw
        case rel =>
          exact ⟨j, y / 256, B'.set (x' + j) (y % 256), by omega, rfl, rfl, by omega, by omega, hst, (by rw [List.length_set]; exact hBl.out : (B'.set (x' + j) (y % 256)).length = nb), HP', HK'⟩
        case measure => simp [intOf]
  · rw [if_neg he]
    have hne : (askE B.length x k != 0) = true := by simpa using he
    have H := Hid.mk' h
    clear he h
    generalize askE B.length x k = E at *
    go_enter Try.func51, Try.ntmps51
    go_wp2_with fail
    refine key.mono ?_
    rintro e w1 ⟨rfl, rfl⟩
    clear key
    go_wp2_with fail
    go_ret
    exact ⟨rfl, H.out, Kept.refl _ _⟩
end Go.Proofs.Ytbinedhgjmfceaa
