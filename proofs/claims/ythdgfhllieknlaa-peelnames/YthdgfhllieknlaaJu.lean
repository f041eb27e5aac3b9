/- A chain's headers say one another; mathematics. -/
import Derived.Test.YthdgfhllieknlaaJt
namespace Go.Proofs.Ythdgfhllieknlaa
open Go.ChangeShapes Go.WideShapes Go.ChangeAt Go.RowKit
set_option maxRecDepth 10000

def hd1 : Hs → Int
  | [] => 0
  | y :: _ => y.1
theorem says_cons {x : Int × List Value} {l : Hs} (h : nx (hk x.1 x.2) = hd1 l) (hs : Says l) : Says (x :: l) := by
  cases l with
  | nil => exact h
  | cons y r => exact ⟨h, hs⟩

theorem nx_link {da sa : List Int} {t : Int} (h : K05.Lk da sa t) : nx (hk 1 (K05.lkC da sa t)) = nT t := by
  have K1 : KHd 1 (K05.lkC da sa t) := ⟨by omega, by omega, fun _ => ⟨da, sa, t, rfl, h⟩, fun h => by omega, fun h => by omega, fun h => by omega, fun h => by omega, fun h => by omega⟩
  have e : (hk 1 (K05.lkC da sa t))[13]? = some (.int .u16 t) := by
    rw [hk, (hC_at (hk_hdp K1)).2.1]
    exact K05.lkC_cell h
  unfold nx
  rw [hk_kind, if_pos rfl, num_of e]
theorem nx_tag (p i t : Int) : nx (hk 2 (K06.tgC p i t)) = nT t := rfl
theorem nx_n4 {c : List Value} (h : K07.Hd c) (v : Int) : nx (hk 3 (c.set 2 (.int .u8 v))) = nP v := by
  obtain ⟨o, l, p, i, s, d, rfl, h⟩ := h
  rfl
theorem nx_n6 {c : List Value} (h : K08.Hd c) (v w : Int) : nx (hk 4 ((c.set 2 (.int .u8 v)).set 1 (.int .u32 w))) = nP v := by
  obtain ⟨cl, fl, nx, hp, s, d, rfl, h⟩ := h
  rfl
theorem nx_sg (L : List Value) : nx (hk 5 L) = 0 := rfl
theorem nx_dg (L : List Value) : nx (hk 6 L) = 0 := rfl

theorem says_tags (p i : Int) (t : Nat) (nv : Int) (tail : Hs) (hs : Says tail) (h1 : hd1 tail = nT nv) : ∀ (m j : Nat), j + m = t → Says ((List.range' j m).map (chT p i t nv) ++ tail) ∧ hd1 ((List.range' j m).map (chT p i t nv) ++ tail) = nT (nxA t nv j)
  | 0, j, h => by
    simp only [List.range'_zero, List.map_nil, List.nil_append]
    refine ⟨hs, ?_⟩
    rw [h1]; unfold nxA; rw [if_neg (by omega)]
  | m + 1, j, h => by
    obtain ⟨e1, e2⟩ := says_tags p i t nv tail hs h1 m (j + 1) (by omega)
    rw [List.range'_succ, List.map_cons, List.cons_append]
    refine ⟨says_cons ?_ e1, ?_⟩
    · rw [e2]; exact nx_tag _ _ _
    · show (2 : Int) = _
      unfold nxA; rw [if_pos (by omega)]; rfl

theorem hTot_tags (p i : Int) (t : Nat) (nv : Int) : ∀ m : Nat, hTot (chTs p i t nv m) = 4 * m
  | 0 => rfl
  | m + 1 => by rw [chTs_push, hTot_app, hTot_tags p i t nv m]; simp [hTot, chT, sz]; omega

/-- What is told of a chain. -/
structure ChQ (l : Hs) : Prop where
  ok : HsOk l
  chk : ∀ x ∈ l, kC x.1 x.2 = 0
  says : Says l
  few : l.length ≤ 8
  tot : hTot l ≤ 100
  first : ∃ L r, l = (1, L) :: r

theorem tail_ok {c d e f : List Value} {r1 r2 : Nat} (h1 : r1 < 3) (h2 : r2 < 3) (hc : K07.Hd c) (hd : K08.Hd d) (he : K09.Hd e) (hf : K10.Hd f) :
    (∀ x ∈ chN r1 (tV r2) c d ++ chX r1 r2 e f, KHd x.1 x.2 ∧ kC x.1 x.2 = 0) ∧ Says (chN r1 (tV r2) c d ++ chX r1 r2 e f) ∧ hd1 (chN r1 (tV r2) c d ++ chX r1 r2 e f) = nT (nV r1) ∧ (chN r1 (tV r2) c d ++ chX r1 r2 e f).length ≤ 2 ∧ hTot (chN r1 (tV r2) c d ++ chX r1 r2 e f) ≤ 60 := by
  have tv0 : 0 ≤ tV r2 ∧ tV r2 ≤ 255 := by unfold tV; split; omega; split <;> omega
  obtain ⟨n4, -⟩ := n4_set hc (tV r2) tv0.1 tv0.2
  obtain ⟨n6, -, -, -, -, n6c⟩ := n6_set hd (tV r2) tv0.1 tv0.2
  obtain ⟨sg, -, -, -, sgc⟩ := sg_set he
  have hN4 := nx_n4 hc (tV r2)
  have hN6 := nx_n6 hd (tV r2) (num d 1 % 1048576)
  have c3 : kC 3 (c.set 2 (.int .u8 (tV r2))) = 0 := rfl
  have c4 : kC 4 ((d.set 2 (.int .u8 (tV r2))).set 1 (.int .u32 (num d 1 % 1048576))) = 0 := n6c
  have c5 : kC 5 (e.set 4 (.int .u8 (num e 4 % 64))) = 0 := sgc
  have c6 : kC 6 f = 0 := rfl
  have a1 : r1 = 0 ∨ r1 = 1 ∨ r1 = 2 := by omega
  have a2 : r2 = 0 ∨ r2 = 1 ∨ r2 = 2 := by omega
  rcases a1 with rfl | rfl | rfl
  · have e1 : chN 0 (tV r2) c d ++ chX 0 r2 e f = [] := rfl
    rw [e1]
    exact ⟨fun x hx => by simp at hx, trivial, rfl, by simp, by simp [hTot]⟩
  · rcases a2 with rfl | rfl | rfl
    · have e1 : chN 1 (tV 0) c d ++ chX 1 0 e f = [(3, c.set 2 (.int .u8 (tV 0)))] := rfl
      rw [e1]
      refine ⟨fun x hx => ?_, hN4, rfl, by simp, by simp [hTot, sz]⟩
      simp at hx; subst hx; exact ⟨khd3 n4, c3⟩
    · have e1 : chN 1 (tV 1) c d ++ chX 1 1 e f = [(3, c.set 2 (.int .u8 (tV 1))), (5, e.set 4 (.int .u8 (num e 4 % 64)))] := rfl
      rw [e1]
      refine ⟨fun x hx => ?_, ⟨hN4, nx_sg _⟩, rfl, by simp, by simp [hTot, sz]⟩
      simp at hx; rcases hx with rfl | rfl
      · exact ⟨khd3 n4, c3⟩
      · exact ⟨khd5 sg, c5⟩
    · have e1 : chN 1 (tV 2) c d ++ chX 1 2 e f = [(3, c.set 2 (.int .u8 (tV 2))), (6, f)] := rfl
      rw [e1]
      refine ⟨fun x hx => ?_, ⟨hN4, nx_dg _⟩, rfl, by simp, by simp [hTot, sz]⟩
      simp at hx; rcases hx with rfl | rfl
      · exact ⟨khd3 n4, c3⟩
      · exact ⟨khd6 hf, c6⟩
  · rcases a2 with rfl | rfl | rfl
    · have e1 : chN 2 (tV 0) c d ++ chX 2 0 e f = [(4, (d.set 2 (.int .u8 (tV 0))).set 1 (.int .u32 (num d 1 % 1048576)))] := rfl
      rw [e1]
      refine ⟨fun x hx => ?_, hN6, rfl, by simp, by simp [hTot, sz]⟩
      simp at hx; subst hx; exact ⟨khd4 n6, c4⟩
    · have e1 : chN 2 (tV 1) c d ++ chX 2 1 e f = [(4, (d.set 2 (.int .u8 (tV 1))).set 1 (.int .u32 (num d 1 % 1048576))), (5, e.set 4 (.int .u8 (num e 4 % 64)))] := rfl
      rw [e1]
      refine ⟨fun x hx => ?_, ⟨hN6, nx_sg _⟩, rfl, by simp, by simp [hTot, sz]⟩
      simp at hx; rcases hx with rfl | rfl
      · exact ⟨khd4 n6, c4⟩
      · exact ⟨khd5 sg, c5⟩
    · have e1 : chN 2 (tV 2) c d ++ chX 2 2 e f = [(4, (d.set 2 (.int .u8 (tV 2))).set 1 (.int .u32 (num d 1 % 1048576))), (6, f)] := rfl
      rw [e1]
      refine ⟨fun x hx => ?_, ⟨hN6, nx_dg _⟩, rfl, by simp, by simp [hTot, sz]⟩
      simp at hx; rcases hx with rfl | rfl
      · exact ⟨khd4 n6, c4⟩
      · exact ⟨khd6 hf, c6⟩

theorem nV_bd (r : Nat) : 0 ≤ nV r ∧ nV r ≤ 65535 := by unfold nV; split; omega; split <;> omega
theorem nxA_bd (t : Nat) {nv : Int} (h : 0 ≤ nv ∧ nv ≤ 65535) (j : Nat) : 0 ≤ nxA t nv j ∧ nxA t nv j ≤ 65535 := by unfold nxA; split <;> omega

theorem chain_ok {da sa : List Int} {ta pb ib tb : Int} {c d e f : List Value} {t r1 r2 : Nat} (hp : ChP da sa ta pb ib tb c d e f) (ht : t < 6) (h1 : r1 < 3) (h2 : r2 < 3) : ChQ (chain da sa pb ib t r1 r2 c d e f) := by
  obtain ⟨ha, hb, hc, hd, he, hf⟩ := hp
  obtain ⟨q1, q2, q3, q4, q5⟩ := tail_ok h1 h2 hc hd he hf
  have nb := nV_bd r1
  obtain ⟨s1, s2⟩ := says_tags (pb % 8) (ib % 4096) t (nV r1) _ q2 q3 t 0 (by omega)
  rw [← List.range_eq_range'] at s1 s2
  have KL : K05.Lk da sa (nxA t (nV r1) 0) := ⟨ha.dl, ha.sl, ha.db, ha.sb, (nxA_bd t nb 0).1, (nxA_bd t nb 0).2⟩
  have K1 : KHd 1 (K05.lkC da sa (nxA t (nV r1) 0)) := ⟨by omega, by omega, fun _ => ⟨_, _, _, rfl, KL⟩, fun h => by omega, fun h => by omega, fun h => by omega, fun h => by omega, fun h => by omega⟩
  have p0 := hb.p0
  have i0 := hb.i0
  have K2 : ∀ j, KHd 2 (chT (pb % 8) (ib % 4096) t (nV r1) j).2 ∧ kC 2 (chT (pb % 8) (ib % 4096) t (nV r1) j).2 = 0 := fun j => by
    have := nxA_bd t nb (j + 1)
    refine ⟨⟨by omega, by omega, fun h => by omega, fun _ => ⟨_, _, _, rfl, by omega, by omega, by omega, by omega, this.1, this.2⟩, fun h => by omega, fun h => by omega, fun h => by omega, fun h => by omega⟩, ?_⟩
    show K06.tgE (pb % 8) (ib % 4096) = 0
    unfold K06.tgE; rw [if_pos (by omega)]
  have ec : chain da sa pb ib t r1 r2 c d e f = (1, K05.lkC da sa (nxA t (nV r1) 0)) :: (chTs (pb % 8) (ib % 4096) t (nV r1) t ++ (chN r1 (tV r2) c d ++ chX r1 r2 e f)) := rfl
  have hmem : ∀ x ∈ chain da sa pb ib t r1 r2 c d e f, KHd x.1 x.2 ∧ kC x.1 x.2 = 0 := by
    intro x hx
    rw [ec] at hx
    rcases List.mem_cons.1 hx with rfl | hx
    · exact ⟨K1, rfl⟩
    · rcases List.mem_append.1 hx with hx | hx
      · obtain ⟨j, -, rfl⟩ := List.mem_map.1 hx
        exact K2 j
      · exact q1 x hx
  refine ⟨fun x hx => (hmem x hx).1, fun x hx => (hmem x hx).2, ?_, ?_, ?_, ⟨_, _, ec⟩⟩
  · rw [ec]
    exact says_cons (by rw [show hd1 (chTs (pb % 8) (ib % 4096) t (nV r1) t ++ (chN r1 (tV r2) c d ++ chX r1 r2 e f)) = nT (nxA t (nV r1) 0) from s2]; exact nx_link KL) s1
  · rw [ec]; simp only [List.length_cons, List.length_append, chTs, List.length_map, List.length_range] at q4 ⊢; omega
  · rw [ec]; simp only [hTot]; rw [hTot_app, hTot_tags]; simp only [sz]; simp; omega
end Go.Proofs.Ythdgfhllieknlaa
