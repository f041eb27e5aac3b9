/- Stage 12: heads in rows: a row of the call's own; append of a whole list of heads to none; Same over two lists that are the same. -/
import Derived.Test.YtednmdkjhiihcaaGreatRy
namespace Go.Proofs.YtednmdkjhiihcaaGreat
open Go.ChangeShapes Go.WideShapes Go.ChangeAt Go.RowKit
set_option maxRecDepth 10000

theorem flat_len {l : List (List Value)} (h : ∀ H ∈ l, Hh H) : l.flatten.length = l.length * 73 := by
  induction l with
  | nil => rfl
  | cons H r ih =>
    rw [List.flatten_cons, List.length_append, ih (fun J hJ => h J (List.mem_cons_of_mem _ hJ)), hh_len (h H List.mem_cons_self), List.length_cons]; omega
theorem flats_one {l : List (List Value)} (h : ∀ H ∈ l, Hh H) : ∀ v ∈ l.flatten, v.oneCell' = true := by
  intro v hv
  obtain ⟨H, hH, hvH⟩ := List.mem_flatten.1 hv
  exact hh_mem (h H hH) v hvH
theorem flat_cells {w : World} {x : Nat} : ∀ (l : List (List Value)) (o : Nat), (∀ H ∈ l, Hh H) → (∀ i H, l[i]? = some H → w.rangeAt x (o + i * 73) H) → ∀ k u, l.flatten[k]? = some u → w.cell? ⟨x, o + k, none⟩ = some u
  | [], _, _, _, k, u, hu => by simp at hu
  | H :: r, o, h, hc, k, u, hu => by
    have hl := hh_len (h H List.mem_cons_self)
    rw [List.flatten_cons] at hu
    by_cases hk : k < 73
    · rw [List.getElem?_append_left (by omega)] at hu
      have := hc 0 H rfl k u hu
      simpa using this
    · rw [List.getElem?_append_right (by omega), hl] at hu
      have := flat_cells r (o + 73) (fun J hJ => h J (List.mem_cons_of_mem _ hJ)) (fun i J hJ j v hv => by
        have := hc (i + 1) J (by simpa using hJ) j v hv
        rw [show o + (i + 1) * 73 + j = o + 73 + i * 73 + j by omega] at this
        exact this) (k - 73) u hu
      rw [show o + 73 + (k - 73) = o + k by omega] at this
      exact this

/-- A row of the call's own that holds heads. -/
theorem hb_own {w : World} {base : Nat} {a : Option Addr} {c n : Nat} {l : List (List Value)} (h : w.ownsRow base 46 73 (.slice a n c) n l.flatten) (hl : l.length = n) (ok : ∀ H ∈ l, Hh H) : Hb w a l := by
  refine ⟨ok, ?_⟩
  rcases Nat.eq_zero_or_pos n with h0 | h0
  · exact .inl (by omega)
  · obtain ⟨g, c', e, -⟩ := own_some h h0
    cases e
    refine .inr ⟨g, 0, rfl, (h.lt g rfl).2, fun i H hi => ?_⟩
    have hlt := (List.getElem?_eq_some_iff.1 hi).1
    have hHe := (List.getElem?_eq_some_iff.1 hi).2
    have hsp : l.flatten = (l.take i).flatten ++ (H ++ (l.drop (i + 1)).flatten) := by
      conv => lhs; rw [← List.take_append_drop i l, List.drop_eq_getElem_cons hlt, hHe, List.flatten_append, List.flatten_cons]
    have := range_own h (F := H) (A := (l.take i).flatten) (B := (l.drop (i + 1)).flatten) hsp (by rw [flat_len (fun J hJ => ok J (List.mem_of_mem_take hJ)), List.length_take, Nat.min_eq_left (Nat.le_of_lt hlt)])
    rw [Nat.zero_add]; exact this

/-- A whole list of heads is appended to none. -/
theorem wpList_app_heads {w : World} {ops : Array Oper} {rest : List Oper} {o : Oper} {a : Act} {Q : Exit → Act → World → Prop} (hgd : o.guard = none) (s x : Operand)
    (ho : o.op = .call { callee := .builtin .append, args := #[s, x], argTypes := #[23, 23] })
    (hs : a.eval s = .slice none 0 0) (xa : Option Addr) (xc m : Nat) (l : List (List Value)) (hx : a.eval x = .slice xa m xc) (hm : l.length = m) (hy : Hb w xa l) (hsz : m * 100 ≤ 140737488351232)
    (h : ∀ v' w', w'.ownsRow w.heap.size 46 73 v' m l.flatten → Below w.heap.size w w' → wpList Tryz.prog ops Q rest (a.put o.dst v') w') : wpList Tryz.prog ops Q (o :: rest) a w := by
  obtain ⟨i0, hif, hz0, hz1, hz2⟩ := info_parts info_head
  refine wpList_plain hgd fun K hK => ?_
  obtain ⟨v', w', hrun, h1, h2⟩ : ∃ v' w', (Builtin.append_ #[23, 23] o.type #[.slice none 0 0, .slice xa m xc]).run Tryz.prog w = .ok v' w' ∧ w'.ownsRow w.heap.size 46 73 v' m l.flatten ∧ Below w.heap.size w w' := by
    rcases Nat.eq_zero_or_pos m with h0 | h0
    · subst h0
      obtain rfl := List.eq_nil_of_length_eq_zero hm
      refine ⟨.slice none 0 0, w, ?_, World.ownsRow_nil _ _ _ _, Below.refl _ _⟩
      cases xa <;> simp [Builtin.append_, run_underlying Tryz.underlying23, Go.sizeOf, typeInfo, hif, Builtin.lenOf, Builtin.firstCells, loadCells, loadCellsFrom]
    · rcases hy.lies with h | ⟨y, off, rfl, hyl, hc⟩
      · omega
      · obtain ⟨v', w', hr, q1, q2, q3⟩ := run_append_own2 (P := Tryz.prog) w w.heap.size 23 o.type 46 i0 (.agg hz.toArray) 73 100 Tryz.underlying23 hif hz0 hz1 hz2 rfl (by decide) (.slice none 0 0) 0 [] (World.ownsRow_nil _ _ _ _) ⟨y, off, none⟩ m xc l.flatten (by rw [flat_len hy.ok, hm]) (fun j u hu => by rw [addr_add]; exact flat_cells l off hy.ok hc j u hu) (flats_one hy.ok) (by unfold maxLen; omega) (by omega) (Nat.le_refl _)
        refine ⟨v', w', hr, by simpa using q1, (Below.refl _ w).grown q2 (Nat.le_refl _) (fun k e => by simp [Value.ownBlock] at e)⟩
  unfold Oper.wp
  simp [execOp, ho, resolve, invoke, builtin, hs, hx, hrun, Result.andThen]
  exact hK _ _ (h v' w' h1 h2)

set_option maxHeartbeats 4000000 in
theorem same_hb (b1 b2 : Option Addr) (N c1 c2 : Nat) (l : List (List Value)) (w : World) (few : N ≤ 140737488351232) (hl : l.length = N) (h1 : Hb w b1 l) (h2 : Hb w b2 l) : Calls Tryz.prog 41 #[.slice b1 N c1, .slice b2 N c2] w fun e w' => e = .returned (.bool true) ∧ Dr w w' := by
  have O1 := Hid.mk' h1
  have O2 := Hid.mk' h2
  have HN := Hid.mk' hl
  clear h1 h2 hl
  go_enter Tryz.func41, Tryz.ntmps41
  go_wp2_with fail
  go_loopg [5] N (fun f s5 wr => ∃ i : Nat, s5 = .int .i64 i ∧ i ≤ N ∧ N - i ≤ f ∧ Hid (Dr w wr))
  case atStart => exact ⟨0, rfl, by omega, by omega, Dr.refl _⟩
  case round =>
    obtain ⟨i, rfl, hi, hf, HD⟩ := hrel
    by_cases hlt : i < N
    · obtain ⟨g1, o1, e1, -, r1⟩ : ∃ x o, b1 = some ⟨x, o, none⟩ ∧ x < w.heap.size ∧ ∀ i H, l[i]? = some H → w.rangeAt x (o + i * 73) H := by
        rcases O1.out.lies with h | h
        · have := HN.out; omega
        · exact h
      obtain ⟨g2, o2, e2, -, r2⟩ : ∃ x o, b2 = some ⟨x, o, none⟩ ∧ x < w.heap.size ∧ ∀ i H, l[i]? = some H → w.rangeAt x (o + i * 73) H := by
        rcases O2.out.lies with h | h
        · have := HN.out; omega
        · exact h
      subst e1 e2
      obtain ⟨H, hx⟩ : ∃ x, l[i]? = some x := ⟨_, List.getElem?_eq_getElem (by rw [HN.out]; exact hlt)⟩
      have hhH := O1.out.ok H (List.mem_of_getElem? hx)
      have R1 := r1 i H hx
      have R2 := r2 i H hx
      have hh73 := Hid.mk' (hh_len hhH)
      have hne := neq_same (t := 46) (L := H) (hh_eq hhH)
      have S1 : wr.drew.rangeAt g1 (o1 + i * 73) H := fun j v hv => ((HD.out.more 1).cell _).trans (R1 j v hv)
      have S2 : wr.drew.rangeAt g2 (o2 + i * 73) H := fun j v hv => ((HD.out.more 1).cell _).trans (R2 j v hv)
      have RR := Hid.mk' (And.intro S1 S2)
      clear hx R1 R2 S1 S2 r1 r2 hhH
      go_wp2_with fail
      refine wp_region_held_drew (S := fun u => u.rangeAt g1 (o1 + i * 73) H ∧ u.rangeAt g2 (o2 + i * 73) H) (by kernel_rfl) RR.out (fun hHeld => ?_)
      change wpAnyH _ _ _ _ _ 9 #[false, false, false, false, false, false, false, false, false] _ _
      refine held_take 0 17 (.slice (some ⟨g1, o1, none⟩) N c1) rfl rfl (by kernel_rfl) (by kernel_rfl) (by kernel_rfl) (fun _ _ _ h => h) (Or.inl ⟨by rfl, fun u hu => ?_⟩) hHeld ?_
      · go_simp
      simp only [Act.put, List.setIfInBounds_toArray, List.set_cons_zero, List.set_cons_succ]
      refine held_take 1 18 (.int .i64 i) rfl rfl (by kernel_rfl) (by kernel_rfl) (by kernel_rfl) (fun _ _ _ h => h) (Or.inl ⟨by rfl, fun u hu => ?_⟩) hHeld ?_
      · go_simp
      simp only [Act.put, List.setIfInBounds_toArray, List.set_cons_zero, List.set_cons_succ]
      refine held_take 2 19 (.pointer (some ⟨g1, o1 + i * 73, none⟩)) rfl rfl (by kernel_rfl) (by kernel_rfl) (by kernel_rfl) (fun _ _ _ h => h) (Or.inl ⟨by rfl, fun u hu => ?_⟩) hHeld ?_
      · go_simp
      simp only [Act.put, List.setIfInBounds_toArray, List.set_cons_zero, List.set_cons_succ]
      refine held_take 3 20 (.agg H.toArray) rfl rfl (by kernel_rfl) (by kernel_rfl) (by kernel_rfl) (fun _ _ _ h => h) (yieldsIf_load_mid (by rfl) 46 _ rfl g1 (o1 + i * 73) rfl H _ (fun u hu => hu.1) Tryz.underlying46 rfl (by rw [hh73.out]; exact info_hh)) hHeld ?_
      simp only [Act.put, List.setIfInBounds_toArray, List.set_cons_zero, List.set_cons_succ]
      refine held_take 4 21 (.slice (some ⟨g2, o2, none⟩) N c2) rfl rfl (by kernel_rfl) (by kernel_rfl) (by kernel_rfl) (fun _ _ _ h => h) (Or.inl ⟨by rfl, fun u hu => ?_⟩) hHeld ?_
      · go_simp
      simp only [Act.put, List.setIfInBounds_toArray, List.set_cons_zero, List.set_cons_succ]
      refine held_take 5 22 (.int .i64 i) rfl rfl (by kernel_rfl) (by kernel_rfl) (by kernel_rfl) (fun _ _ _ h => h) (Or.inl ⟨by rfl, fun u hu => ?_⟩) hHeld ?_
      · go_simp
      simp only [Act.put, List.setIfInBounds_toArray, List.set_cons_zero, List.set_cons_succ]
      refine held_take 6 23 (.pointer (some ⟨g2, o2 + i * 73, none⟩)) rfl rfl (by kernel_rfl) (by kernel_rfl) (by kernel_rfl) (fun _ _ _ h => h) (Or.inl ⟨by rfl, fun u hu => ?_⟩) hHeld ?_
      · go_simp
      simp only [Act.put, List.setIfInBounds_toArray, List.set_cons_zero, List.set_cons_succ]
      refine held_take 7 24 (.agg H.toArray) rfl rfl (by kernel_rfl) (by kernel_rfl) (by kernel_rfl) (fun _ _ _ h => h) (yieldsIf_load_mid (by rfl) 46 _ rfl g2 (o2 + i * 73) rfl H _ (fun u hu => hu.2) Tryz.underlying46 rfl (by rw [hh73.out]; exact info_hh)) hHeld ?_
      simp only [Act.put, List.setIfInBounds_toArray, List.set_cons_zero, List.set_cons_succ]
      refine held_take 8 25 (.bool false) rfl rfl (by kernel_rfl) (by kernel_rfl) (by kernel_rfl) (fun _ _ _ h => h) (Or.inl ⟨by rfl, fun u hu => ?_⟩) hHeld ?_
      · go_simp
      simp only [Act.put, List.setIfInBounds_toArray, List.set_cons_zero, List.set_cons_succ]
      refine wpAnyH_done (by kernel_rfl) ?_ _
      have HD2 : Hid (Dr w wr.drew) := Hid.mk' (HD.out.more 1)
      clear HD RR hHeld
      go_wp2_with fail
      go_roundg (N - (i + 1))
      case measure => omega
      case rel => exact ⟨i + 1, by go_num, by omega, by omega, HD2⟩
    · go_wp2_with fail
      go_ret
      exact ⟨rfl, HD.out⟩
end Go.Proofs.YtednmdkjhiihcaaGreat
