/- The walk of WrapNames. -/
import Derived.Test.YtednmdkjhiihcaaGreatM1
import Derived.Test.YtednmdkjhiihcaaGreatM2
import Derived.Test.YtednmdkjhiihcaaGreatRk
import Derived.Test.YtednmdkjhiihcaaGreatRt
namespace Go.Proofs.YtednmdkjhiihcaaGreat
open Go.ChangeShapes Go.WideShapes Go.ChangeAt Go.RowKit
set_option maxRecDepth 10000

/-- A struct is built, by an operation that is guarded and wanted. -/
theorem wpList_buildG {ops : Array Oper} {rest : List Oper} {o : Oper} {a : Act} {w : World} {Q : Exit → Act → World → Prop} (hw : Region.wanted o (yielded ops a.tmps) = true) (t : TypeId) (parts : Array (Nat × Operand)) (ho : o.op = .build t parts)
    (d : Option Tmp) (hd : o.dst = d) (cells : Array Value) (hf : Tryz.prog.built t (parts.map fun (i, x) => (i, a.eval x)).toList = some cells)
    (h : wpList Tryz.prog ops Q rest (a.put d (.agg cells)) w) : wpList Tryz.prog ops Q (o :: rest) a w :=
  wpList_step fun _ hK => by
    rw [if_pos hw]
    refine wp_build t parts ho (by rw [hf]; rfl) ?_
    rw [hf, hd]
    exact hK _ _ h

/-- A head of a kind alone. -/
def hKd (k : Int) : List Value := hz.set 0 (.int .u8 k)
theorem hKd_hh {k : Int} (h0 : 0 ≤ k) (h1 : k ≤ 255) : Hh (hKd k) := by
  obtain ⟨k0, a, b, c, d, e, f, hk, h⟩ := hz_hh
  obtain ⟨-, -, ha, hb, hc, hd, he, hf⟩ := h
  exact ⟨k, a, b, c, d, e, f, by unfold hKd; rw [hk]; rfl, h0, h1, ha, hb, hc, hd, he, hf⟩
theorem hKd_b (k : Int) : Tryz.prog.built 46 [(0, .int .u8 k)] = some (hKd k).toArray := by
  rw [built_head, fill_cons _ _ 0 0 [.int .u8 k] _ _ rfl rfl (by rw [hz_len]; simp), Instr.fill]
  rfl
theorem hKd_0 : Tryz.prog.built 46 [] = some hz.toArray := by rw [built_head, Instr.fill]

/-- A tag of the priority 8; a link of the type 1 (under the kind of a tag). -/
def nT8 : List Value := K06.tgC 8 0 0
theorem nT8_b : Tryz.prog.built 33 [(0, .int .u8 8)] = some nT8.toArray := by kernel_rfl
def nTag : List Value := hk 2 nT8
theorem nTag_hh : Hh nTag := hk_hh ⟨by omega, by omega, fun h => by omega, fun _ => ⟨8, 0, 0, rfl, by omega, by omega, by omega, by omega, by omega, by omega⟩, fun h => by omega, fun h => by omega, fun h => by omega, fun h => by omega⟩
def nL1 : List Value := K05.lkC [0, 0, 0, 0, 0, 0] [0, 0, 0, 0, 0, 0] 1
theorem nL1_b : Tryz.prog.built 31 [(2, .int .u16 1)] = some nL1.toArray := by kernel_rfl
def nTwo : List Value := put (hz.set 0 (.int .u8 2)) 1 nL1
theorem nTwo_b : Tryz.prog.built 46 [(0, .int .u8 2), (1, .agg nL1.toArray)] = some nTwo.toArray := by
  rw [built_head, fill_cons _ _ 0 0 [.int .u8 2] _ _ rfl rfl (by rw [hz_len]; simp), fill_cons _ _ 1 1 nL1 _ _ rfl rfl (by rw [put_length _ _ _ (by rw [hz_len]; simp), hz_len]; decide), Instr.fill]
  rfl
theorem nTag_c : cE nTag = 60 := by kernel_rfl
theorem nTwo_c : cE nTwo = 120 := by kernel_rfl
theorem nTwo_hh : Hh nTwo := ⟨2, nL1, K06.hd0, K07.hd0, K08.hd0, K09.hd0, K10.hd0, by kernel_rfl, by omega, by omega, ⟨[0, 0, 0, 0, 0, 0], [0, 0, 0, 0, 0, 0], 1, rfl, rfl, rfl, by intro z hz; simp at hz; omega, by intro z hz; simp at hz; omega, by omega, by omega⟩, K06.hd_0, K07.hd_0, K08.hd_0, K09.hd_0, K10.hd_0⟩

/-- Nine heads, the first k of which are tags. -/
def mL (k : Nat) : List (List Value) := List.replicate k (hKd 2) ++ List.replicate (9 - k) hz
theorem mL_ok (k : Nat) : ∀ H ∈ mL k, Hh H := by
  intro H hH
  rcases List.mem_append.1 hH with h | h
  · rw [(List.mem_replicate.1 h).2]; exact hKd_hh (by omega) (by omega)
  · rw [(List.mem_replicate.1 h).2]; exact hz_hh
theorem mL_len {k : Nat} (h : k ≤ 9) : (mL k).length = 9 := by simp [mL]; omega
theorem mL_put {k : Nat} (h : k < 9) : put (mL k).flatten (k * 73) (hKd 2) = (mL (k + 1)).flatten := by
  have e1 : mL k = List.replicate k (hKd 2) ++ ([hz] ++ List.replicate (9 - (k + 1)) hz) := by
    unfold mL; rw [show 9 - k = (9 - (k + 1)) + 1 by omega, List.replicate_succ]; rfl
  have e2 : mL (k + 1) = List.replicate k (hKd 2) ++ ([hKd 2] ++ List.replicate (9 - (k + 1)) hz) := by
    unfold mL; rw [List.replicate_succ', List.append_assoc]
  rw [e1, e2, List.flatten_append, List.flatten_append, List.flatten_append, List.flatten_append]
  have hk : ∀ H ∈ List.replicate k (hKd 2), Hh H := fun H hH => by rw [(List.mem_replicate.1 hH).2]; exact hKd_hh (by omega) (by omega)
  exact put_mid _ _ _ _ _ (by rw [flat_len hk, List.length_replicate]) (by simp [hh_len (hKd_hh (k := 2) (by omega) (by omega)), hz_len])
theorem make_heads : ∀ u : World, (Instr.makeSlice 23 (.int .i64 9) (.int .i64 9)).run Tryz.prog u = .ok (.slice (some ⟨u.heap.size, 0, none⟩) 9 9) (u.alloc (.cells (mL 0).flatten.toArray 46)) := by
  intro u
  obtain ⟨i0, hi, hz0, hz1, hz2⟩ := info_parts info_head
  have h := run_make (P := Tryz.prog) u 23 46 i0 (.agg hz.toArray) Tryz.underlying23 hi hz0 .i64 .i64 9 9 (by omega) (Int.le_refl _) (by rw [hz2]; omega) (by omega)
  have e : madeCells (Value.agg hz.toArray).cells 657 = (mL 0).flatten.toArray := by kernel_rfl
  rw [hz1] at h
  simpa [e] using h

/-- Heads in a block. -/
theorem hb_block {w : World} {g k : Nat} (h : w.heap[g]? = some (.cells (mL k).flatten.toArray 46 (0, 0))) (hk : k ≤ 9) : Hb w (some ⟨g, 0, none⟩) (mL k) :=
  hb_own (n := 9) (c := 9) (base := 0) ⟨by rw [flat_len (mL_ok k), mL_len hk], .inr ⟨g, 9, _, rfl, Nat.zero_le _, h, Nat.le_refl _, by unfold maxLen; omega, by rw [List.size_toArray, flat_len (mL_ok k), mL_len hk], List.take_of_length_le (by show (mL k).flatten.toArray.toList.length ≤ _; rw [List.toList_toArray, flat_len (mL_ok k), mL_len hk]; exact Nat.le_refl _)⟩⟩ (mL_len hk) (mL_ok k)

/-- What stands while a round of WrapNames asks its laws: the head's box, the nine heads. -/
structure ZR (W : World) (p g : Nat) (H M : List Value) (w : World) : Prop where
  b : w.heap[p]? = some (.cells H.toArray 46 (0, 0))
  m : w.heap[g]? = some (.cells M.toArray 46 (0, 0))
  old : Below W.heap.size W w
theorem ZR.below {W : World} {p g : Nat} {H M : List Value} {w w' : World} (h : ZR W p g H M w) (b : Below w.heap.size w w') : ZR W p g H M w' :=
  ⟨(b.block _ (Array.getElem?_eq_some_iff.1 h.b).1).trans h.b, (b.block _ (Array.getElem?_eq_some_iff.1 h.m).1).trans h.m, h.old.trans (b.mono h.old.size)⟩

/-- What stands while the last region asks its laws: the nine heads. -/
structure ZM (W : World) (g : Nat) (w : World) : Prop where
  m : w.heap[g]? = some (.cells (mL 9).flatten.toArray 46 (0, 0))
  old : Below W.heap.size W w
theorem ZM.below {W : World} {g : Nat} {w w' : World} (h : ZM W g w) (b : Below w.heap.size w w') : ZM W g w' :=
  ⟨(b.block _ (Array.getElem?_eq_some_iff.1 h.m).1).trans h.m, h.old.trans (b.mono h.old.size)⟩
theorem hb_take {w : World} {a : Option Addr} {l : List (List Value)} (h : Hb w a l) (k : Nat) : Hb w a (l.take k) := by
  refine ⟨fun H hH => h.ok H (List.mem_of_mem_take hH), ?_⟩
  rcases h.lies with h | ⟨x, o, e, hx, hc⟩
  · left; rw [List.length_take]; omega
  · right
    refine ⟨x, o, e, hx, fun i H hi => hc i H ?_⟩
    rw [List.getElem?_take] at hi
    split at hi
    · exact hi
    · cases hi

/-- The two heads in their boxes. -/
structure ZJ (W : World) (p q : Nat) (w : World) : Prop where
  a : w.heap[p]? = some (.cells nTag.toArray 46 (0, 0))
  b : w.heap[q]? = some (.cells nTwo.toArray 46 (0, 0))
  old : Below W.heap.size W w
theorem ZJ.below {W : World} {p q : Nat} {w w' : World} (h : ZJ W p q w) (b : Below w.heap.size w w') : ZJ W p q w' :=
  ⟨(b.block _ (Array.getElem?_eq_some_iff.1 h.a).1).trans h.a, (b.block _ (Array.getElem?_eq_some_iff.1 h.b).1).trans h.b, h.old.trans (b.mono h.old.size)⟩

set_option maxHeartbeats 4000000 in
theorem walkWrapNames (W : World) : Calls Tryz.prog 4 #[] W fun e w' => e = .returned (.bool true) ∧ Below W.heap.size W w' := by
  have hT8 := Hid.mk' nT8_b
  have hTg := Hid.mk' (built_2 nT8 rfl)
  have hL1 := Hid.mk' nL1_b
  have hTw := Hid.mk' nTwo_b
  have CK1 : Hid (∀ u, Calls Tryz.prog 11 #[.agg nTag.toArray] u fun e w' => e = .returned (.int .i64 60) ∧ Below u.heap.size u w') := Hid.mk' (fun u => by have := check_any nTag u nTag_hh; rwa [nTag_c] at this)
  have CK2 : Hid (∀ u, Calls Tryz.prog 11 #[.agg nTwo.toArray] u fun e w' => e = .returned (.int .i64 120) ∧ Below u.heap.size u w') := Hid.mk' (fun u => by have := check_any nTwo u nTwo_hh; rwa [nTwo_c] at this)
  have ON1 : Hid (∀ (v : Value) (H : List Value) (u : World), NoPk u v → (∀ p, v = .pointer (some ⟨p, 0, none⟩) → p < u.heap.size) → Calls Tryz.prog 12 #[v, .agg H.toArray] u fun e w' => e = .returned (.int .i64 1) ∧ Below u.heap.size u w') := Hid.mk' (fun v H u h hb => on_no v H u h hb)
  have OFF := Hid.mk' (fun (u : World) => off_no (.pointer none) 9 u (.inl rfl) (fun p h => by cases h))
  have l1 := Hid.mk' (hh_len nTag_hh)
  have l2 := Hid.mk' (hh_len nTwo_hh)
  have o1 := Hid.mk' (hh_one nTag_hh)
  have o2 := Hid.mk' (hh_one nTwo_hh)
  have hz0 := Hid.mk' hKd_0
  have hneq := neq_same (t := 46) (L := hz) (hh_eq hz_hh)
  have HZJ := Hid.mk' (fun (p q : Nat) (w : World) (a : w.heap[p]? = some (.cells nTag.toArray 46 (0, 0))) (b : w.heap[q]? = some (.cells nTwo.toArray 46 (0, 0))) (c : Below W.heap.size W w) => (⟨a, b, c⟩ : ZJ W p q w))
  have HA := Hid.mk' (fun (p q : Nat) (w : World) (h : ZJ W p q w) => range_block h.a)
  have HB := Hid.mk' (fun (p q : Nat) (w : World) (h : ZJ W p q w) => range_block h.b)
  rw [show hk 2 nT8 = nTag from rfl] at hTg
  go_enter Tryz.func4, Tryz.ntmps4
  go_upto_region 2 with (first
    | refine wpList_buildTo rfl 33 #[(0, .const (.int .u8 8))] rfl (some 10) rfl nT8.toArray (by simpa [Act.eval, Act.put] using hT8.out) ?_
    | refine wpList_buildTo rfl 46 #[(0, .const (.int .u8 2)), (2, .tmp 10)] rfl (some 11) rfl nTag.toArray (by simpa [Act.eval, Act.put] using hTg.out) ?_
    | refine wpList_store_new rfl 46 _ _ rfl _ hz nTag (by rfl) (by rfl) (by rw [l1.out, hz_len]) (by rw [l1.out]; exact info_hh) o1.out ?_)
  have R1 := Hid.mk' (heap_alloc_new W (.cells nTag.toArray 46))
  have b1 : Below W.heap.size W (W.alloc (.cells nTag.toArray 46)) := (Below.refl _ _).alloc (Nat.le_refl _) _
  have B1 := Hid.mk' b1
  clear b1
  generalize (W.alloc (.cells nTag.toArray 46)) = w1 at R1 B1 ⊢
  go_upto_region 3 with (first
    | refine wpList_buildTo rfl 31 #[(2, .const (.int .u16 1))] rfl (some 12) rfl nL1.toArray (by simpa [Act.eval, Act.put] using hL1.out) ?_
    | refine wpList_buildTo rfl 46 #[(0, .const (.int .u8 2)), (1, .tmp 12)] rfl (some 13) rfl nTwo.toArray (by simpa [Act.eval, Act.put] using hTw.out) ?_
    | refine wpList_store_new rfl 46 _ _ rfl _ hz nTwo (by rfl) (by rfl) (by rw [l2.out, hz_len]) (by rw [l2.out]; exact info_hh) o2.out ?_)
  have b2 : Below w1.heap.size w1 (w1.alloc (.cells nTwo.toArray 46)) := (Below.refl _ _).alloc (Nat.le_refl _) _
  have J2 := Hid.mk' (HZJ.out W.heap.size w1.heap.size (w1.alloc (.cells nTwo.toArray 46)) ((b2.block _ (Array.getElem?_eq_some_iff.1 R1.out).1).trans R1.out) (heap_alloc_new w1 _) (B1.out.trans (b2.mono B1.out.size)))
  clear b2
  generalize (w1.alloc (.cells nTwo.toArray 46)) = w2 at J2 ⊢
  generalize w1.heap.size = q at J2 ⊢
  go_upto_region 5 with (first
    | refine wpList_load_mid rfl 46 _ rfl W.heap.size 0 rfl nTag _ (HA.out W.heap.size q w2 J2.out) Tryz.underlying46 rfl (by rw [l1.out]; exact info_hh) ?_
    | refine wpList_load_midG (by rfl) 46 _ rfl q 0 rfl nTwo _ (HB.out W.heap.size q w3 J3.out) Tryz.underlying46 rfl (by rw [l2.out]; exact info_hh) ?_
    | refine wpList_load_midG (by rfl) 46 _ rfl W.heap.size 0 rfl nTag _ (HA.out W.heap.size q w4 J4.out) Tryz.underlying46 rfl (by rw [l1.out]; exact info_hh) ?_
    | (go_at_call_of 11 (Value.agg nTag.toArray); refine (CK1.out w2).mono ?_; rintro e w3 ⟨rfl, b3⟩; have J3 := Hid.mk' (J2.out.below b3); clear b3)
    | (go_at_call_of 11 (Value.agg nTwo.toArray); refine (CK2.out w3).mono ?_; rintro e w4 ⟨rfl, b4⟩; have J4 := Hid.mk' (J3.out.below b4); clear b4))
  refine (ON1.out (.pointer none) nTag w4 (.inl rfl) (fun p h => by cases h)).mono ?_
  rintro e w5 ⟨rfl, b5⟩
  have J5 := Hid.mk' (J4.out.below b5)
  clear b5
  have b6 : Below w5.heap.size w5 (w5.alloc (.cells #[.slice none 0 0, .int .i64 0, .int .i64 0, .int .i64 0] 59)) := (Below.refl _ _).alloc (Nat.le_refl _) _
  have J6 := Hid.mk' (J5.out.below b6)
  have N6 : Hid (NoPk (w5.alloc (.cells #[.slice none 0 0, .int .i64 0, .int .i64 0, .int .i64 0] 59)) (pp w5.heap.size)) := Hid.mk' (.inr ⟨w5.heap.size, rfl, by simp⟩)
  have P6 : Hid (∀ p, pp w5.heap.size = .pointer (some ⟨p, 0, none⟩) → p < (w5.alloc (.cells #[.slice none 0 0, .int .i64 0, .int .i64 0, .int .i64 0] 59)).heap.size) := Hid.mk' (fun p h => by cases h; simp)
  clear b6
  go_wp2_with (first
    | refine wpList_load_midG (by rfl) 46 _ rfl q 0 rfl nTwo _ (HB.out W.heap.size q _ J6.out) Tryz.underlying46 rfl (by rw [l2.out]; exact info_hh) ?_)
  refine (ON1.out _ nTwo _ N6.out P6.out).mono ?_
  rintro e w7 ⟨rfl, b7⟩
  have J7 := Hid.mk' (J6.out.below b7)
  clear b7 N6 P6
  go_upto_region 6 with (first
    | (go_at_call 13; refine (OFF.out w7).mono ?_; rintro e w8 ⟨rfl, b8⟩)
    | refine wpList_store_new rfl 46 _ _ rfl _ hz hz (by rfl) (by rfl) rfl (by rw [hz_len]; exact info_hh) (hh_one hz_hh) ?_)
  have b9 : Below w8.heap.size w8 (w8.alloc (.cells hz.toArray 46)) := (Below.refl _ _).alloc (Nat.le_refl _) _
  have J9 := Hid.mk' ((J7.out.below b8).below b9)
  have R9 := Hid.mk' (range_block (heap_alloc_new w8 (.cells hz.toArray 46)))
  clear b8 b9
  generalize (w8.alloc (.cells hz.toArray 46)) = w9 at J9 R9 ⊢
  generalize w8.heap.size = r at R9 ⊢
  go_upto_region 8 with (first
    | refine wpList_load_mid rfl 46 _ rfl r 0 rfl hz _ R9.out Tryz.underlying46 rfl (by rw [hz_len]; exact info_hh) ?_
    | refine wpList_buildTo rfl 46 #[] rfl (some 39) rfl hz.toArray (by simpa [Act.eval, Act.put] using hz0.out) ?_)
  have hmk := make_heads
  have M0 := Hid.mk' (heap_alloc_new w9 (.cells (mL 0).flatten.toArray 46))
  have B10 : Hid (Below W.heap.size W (w9.alloc (.cells (mL 0).flatten.toArray 46))) := Hid.mk' (J9.out.old.alloc J9.out.old.size _)
  have hG : W.heap.size ≤ w9.heap.size := J9.out.old.size
  clear J9 R9 hT8 hTg hL1 hTw CK1 CK2 ON1 OFF l1 l2 o1 o2 hneq HZJ HA HB R1 B1 J2 J3 J4 J5 J6 J7
  have BZ : Hid (∀ (n : Nat) (u : World), n ≤ 3000 → Bs (u.alloc (.cells (Array.replicate n (Value.int .u8 0)) 5)) (some ⟨u.heap.size, 0, none⟩) (List.replicate n 0)) := Hid.mk' (fun n u hn => bs_block (A := []) (D := []) (zs := List.replicate n 0) (by simpa using heap_alloc_new u (.cells (Array.replicate n (Value.int .u8 0)) 5)) 0 rfl (fun z hz => by rw [(List.mem_replicate.1 hz).2]; omega) (by simp; omega))
  go_wp2_with fail
  generalize (w9.alloc (.cells (mL 0).flatten.toArray 46)) = w10 at M0 B10 ⊢
  generalize w9.heap.size = g at M0 hG ⊢
  clear hmk
  go_loopg [6] 9 (fun f s6 wr => ∃ k : Nat, s6 = .int .u8 k ∧ k ≤ 9 ∧ 9 - k ≤ f ∧ Hid (wr.heap[g]? = some (.cells (mL k).flatten.toArray 46 (0, 0))) ∧ Hid (Below W.heap.size W wr))
  case atStart => exact ⟨0, rfl, by omega, by omega, M0, B10⟩
  case round =>
    clear M0 B10
    obtain ⟨k, rfl, hk, hf, HM, HB⟩ := hrel
    by_cases hlt : k < 9
    · have hsp : (k : Int) < 9 := by omega
      have k0 : (0 : Int) ≤ k := by omega
      have k1 : (k : Int) ≤ 255 := by omega
      have hbk := Hid.mk' (hKd_b k)
      have hh := hKd_hh k0 k1
      have hh73 := Hid.mk' (hh_len hh)
      have hh1 := Hid.mk' (hh_one hh)
      have hs40 : sz (k : Int) ≤ 40 := by unfold sz; (repeat' split) <;> omega
      have HSZ : Hid (∀ u, Calls Tryz.prog 14 #[.int .u8 k] u fun e w' => e = .returned (.tuple #[.int .i64 (sz (k : Int) : Nat), .int .i64 (szE k)]) ∧ Below u.heap.size u w') := Hid.mk' (fun u => wsize_any k u k0 k1)
      have PUSH : Hid (∀ (n : Nat) (u : World) (x : Option Addr), n ≤ 3000 → Bs u x (List.replicate n 0) → ¬ x = none → Calls Tryz.prog 15 #[.slice x n n, .agg (hKd k).toArray] u fun e w' => e = .returned (.bool true) ∧ Below u.heap.size u w') := Hid.mk' (fun n u x _ hb hx => pushes_any (hKd k) x n n (List.replicate n 0) u hh (List.length_replicate) hb (fun e => absurd e hx))
      have POPS : Hid (∀ (n : Nat) (u : World) (x : Option Addr), n ≤ 3000 → Bs u x (List.replicate n 0) → (x = none → n = 0) → Calls Tryz.prog 16 #[.slice x n n, .int .u8 k] u fun e w' => e = .returned (.bool true) ∧ Below u.heap.size u w') := Hid.mk' (fun n u x _ hb hx => pops_any k x n n (List.replicate n 0) u k0 k1 (List.length_replicate) hb hx (Nat.le_refl _))
      have BACK : Hid (∀ (n : Nat) (u : World) (x : Option Addr), n ≤ 3000 → Bs u x (List.replicate n 0) → (x = none → n = 0) → Calls Tryz.prog 17 #[.slice x n n, .agg (hKd k).toArray, .int .u8 k] u fun e w' => e = .returned (.bool true) ∧ Below u.heap.size u w') := Hid.mk' (fun n u x _ hb hx => wback_any (hKd k) k x n n (List.replicate n 0) u hh k0 k1 (List.length_replicate) hb hx (Nat.le_refl _))
      clear hh
      generalize hKd (k : Int) = H at *
      obtain ⟨n, hn⟩ : ∃ n, sz (k : Int) = n := ⟨_, rfl⟩
      obtain ⟨E, hE⟩ : ∃ E, szE (k : Int) = E := ⟨_, rfl⟩
      rw [hn] at hs40 HSZ
      rw [hE] at HSZ
      clear hn hE
      go_upto_region 13 with (first
        | refine wpList_buildTo rfl 46 #[(0, .tmp 50)] rfl (some 51) rfl H.toArray (by simpa [Act.eval, Act.put] using hbk.out) ?_
        | refine wpList_store_new rfl 46 _ _ rfl _ hz H (by rfl) (by rfl) (by rw [hh73.out, hz_len]) (by rw [hh73.out]; exact info_hh) hh1.out ?_)
      have b3 : Below wr.heap.size wr (wr.alloc (.cells H.toArray 46)) := (Below.refl _ _).alloc (Nat.le_refl _) _
      have Z3 : Hid (ZR W wr.heap.size g H (mL k).flatten (wr.alloc (.cells H.toArray 46))) := Hid.mk' ⟨heap_alloc_new wr _, (b3.block _ (Array.getElem?_eq_some_iff.1 HM.out).1).trans HM.out, HB.out.trans (b3.mono HB.out.size)⟩
      clear b3 HM HB
      generalize (wr.alloc (.cells H.toArray 46)) = w3 at Z3 ⊢
      generalize wr.heap.size = p at Z3 ⊢
      go_upto_region 14 with (go_at_call 14; refine (HSZ.out w3).mono ?_; rintro e w4 ⟨rfl, b4⟩)
      have Z4 := Hid.mk' (Z3.out.below b4)
      clear b4 Z3
      obtain ⟨n8, hn8, e8, b8⟩ : ∃ m : Nat, Hid (m = 2048 - n) ∧ (2048 : Int) - (n : Int) = m ∧ m ≤ 2048 := ⟨2048 - n, rfl, by omega, by omega⟩
      obtain ⟨n9, hn9, e9, b9⟩ : ∃ m : Nat, Hid (m = 2049 - n) ∧ (2049 : Int) - (n : Int) = m ∧ m ≤ 2049 := ⟨2049 - n, rfl, by omega, by omega⟩
      have wr8 : IntKind.i64.wrap (n8 : Int) = n8 := (by rw [IntKind.wrap_i64]; omega)
      have wr9 : IntKind.i64.wrap (n9 : Int) = n9 := (by rw [IntKind.wrap_i64]; omega)
      have hmk8 := make_bytes n8 (by omega)
      have hmk9 := make_bytes n9 (by omega)
      have MK : ∀ m : Nat, m ≤ 3000 → ∃ C : Array Value, (∀ u : World, (Instr.makeSlice 22 (.int .i64 m) (.int .i64 m)).run Tryz.prog u = .ok (.slice (some ⟨u.heap.size, 0, none⟩) m m) (u.alloc (.cells C 5))) ∧ Hid (∀ u : World, Bs (u.alloc (.cells C 5)) (some ⟨u.heap.size, 0, none⟩) (List.replicate m 0)) :=
        fun m hm => ⟨Array.replicate m (Value.int .u8 0), fun u => by simpa using make_bytes m (by omega) u, Hid.mk' (fun u => BZ.out m u hm)⟩
      obtain ⟨C50, hmk50, BZ50⟩ := MK 50 (by omega)
      obtain ⟨C9, hmkn, BZ9⟩ := MK 9 (by omega)
      have hmk50 : ∀ u : World, (Instr.makeSlice 22 (.int .i64 50) (.int .i64 50)).run Tryz.prog u = .ok (.slice (some ⟨u.heap.size, 0, none⟩) 50 50) (u.alloc (.cells C50 5)) := hmk50
      have hmkn : ∀ u : World, (Instr.makeSlice 22 (.int .i64 9) (.int .i64 9)).run Tryz.prog u = .ok (.slice (some ⟨u.heap.size, 0, none⟩) 9 9) (u.alloc (.cells C9 5)) := hmkn
      clear MK
      refine wp_region_held_drew (S := ZR W p g H (mL k).flatten) (by kernel_rfl) (Z4.out.below ((Below.refl _ _).drew)) (fun hHeld => ?_)
      change wpAnyH _ _ _ _ _ 32 #[false, false, false, false, false, false, false, false, false, false, false, false, false, false, false, false, false, false, false, false, false, false, false, false, false, false, false, false, false, false, false, false] _ _
      obtain ⟨x0, hx0⟩ : ∃ x, w4.drew = x := ⟨_, rfl⟩
      rw [hx0] at hHeld ⊢
      clear hx0 Z4
      refine held_take 0 57 (.int .i64 n) rfl rfl (by kernel_rfl) (by kernel_rfl) (by kernel_rfl) (fun _ _ _ h => h) (Or.inl ⟨by rfl, fun u hu => ?_⟩) hHeld ?_
      · go_simp
      simp only [Act.put, List.setIfInBounds_toArray, List.set_cons_zero, List.set_cons_succ]
      refine held_take 1 58 (.int .i64 n8) rfl rfl (by kernel_rfl) (by kernel_rfl) (by kernel_rfl) (fun _ _ _ h => h) (Or.inl ⟨by rfl, fun u hu => ?_⟩) hHeld ?_
      · go_simp
      simp only [Act.put, List.setIfInBounds_toArray, List.set_cons_zero, List.set_cons_succ]
      refine held_take 3 60 (.agg H.toArray) rfl rfl (by kernel_rfl) (by kernel_rfl) (by kernel_rfl) (fun _ _ _ h => h) (yieldsIf_load_mid (by rfl) 46 _ rfl p 0 rfl H _ (fun u hu => range_block hu.b) Tryz.underlying46 rfl (by rw [hh73.out]; exact info_hh)) hHeld ?_
      simp only [Act.put, List.setIfInBounds_toArray, List.set_cons_zero, List.set_cons_succ]
      refine held_one 2 (by kernel_rfl) rfl (fun K hK => ?_)
      go_simp
      go_wp2_with fail
      refine hK.out _ _ (hHeld.below ((Below.refl _ _).alloc (Nat.le_refl _) _)) (fun hHeld => ?_)
      clear hK K
      try simp only [List.setIfInBounds_toArray, List.set_cons_zero, List.set_cons_succ]
      refine held_one 4 (by kernel_rfl) rfl (fun K hK => ?_)
      go_simp
      go_wp2_with (go_at_call 15; refine (PUSH.out n8 _ (some ⟨x0.heap.size, 0, none⟩) (by omega) (BZ.out n8 x0 (by omega)) (by simp)).mono ?_; rintro e x1 ⟨rfl, b_x1⟩)
      refine hK.out _ _ (hHeld.below b_x1) (fun hHeld => ?_)
      clear hK K b_x1
      try simp only [List.setIfInBounds_toArray, List.set_cons_zero, List.set_cons_succ]
      refine held_take 5 62 (.bool false) rfl rfl (by kernel_rfl) (by kernel_rfl) (by kernel_rfl) (fun _ _ _ h => h) (Or.inl ⟨by rfl, fun u hu => ?_⟩) hHeld ?_
      · go_simp
      simp only [Act.put, List.setIfInBounds_toArray, List.set_cons_zero, List.set_cons_succ]
      refine held_take 6 63 (.bool false) rfl rfl (by kernel_rfl) (by kernel_rfl) (by kernel_rfl) (fun _ _ _ h => h) (Or.inl ⟨by rfl, fun u hu => ?_⟩) hHeld ?_
      · go_simp
      simp only [Act.put, List.setIfInBounds_toArray, List.set_cons_zero, List.set_cons_succ]
      refine held_take 7 64 (.int .i64 n) rfl rfl (by kernel_rfl) (by kernel_rfl) (by kernel_rfl) (fun _ _ _ h => h) (Or.inl ⟨by rfl, fun u hu => ?_⟩) hHeld ?_
      · go_simp
      simp only [Act.put, List.setIfInBounds_toArray, List.set_cons_zero, List.set_cons_succ]
      refine held_take 8 65 (.int .i64 n9) rfl rfl (by kernel_rfl) (by kernel_rfl) (by kernel_rfl) (fun _ _ _ h => h) (Or.inl ⟨by rfl, fun u hu => ?_⟩) hHeld ?_
      · go_simp
      simp only [Act.put, List.setIfInBounds_toArray, List.set_cons_zero, List.set_cons_succ]
      refine held_take 10 67 (.agg H.toArray) rfl rfl (by kernel_rfl) (by kernel_rfl) (by kernel_rfl) (fun _ _ _ h => h) (yieldsIf_load_mid (by rfl) 46 _ rfl p 0 rfl H _ (fun u hu => range_block hu.b) Tryz.underlying46 rfl (by rw [hh73.out]; exact info_hh)) hHeld ?_
      simp only [Act.put, List.setIfInBounds_toArray, List.set_cons_zero, List.set_cons_succ]
      refine held_one 9 (by kernel_rfl) rfl (fun K hK => ?_)
      go_simp
      go_wp2_with fail
      refine hK.out _ _ (hHeld.below ((Below.refl _ _).alloc (Nat.le_refl _) _)) (fun hHeld => ?_)
      clear hK K
      try simp only [List.setIfInBounds_toArray, List.set_cons_zero, List.set_cons_succ]
      refine held_one 11 (by kernel_rfl) rfl (fun K hK => ?_)
      go_simp
      go_wp2_with (go_at_call 15; refine (PUSH.out n9 _ (some ⟨x1.heap.size, 0, none⟩) (by omega) (BZ.out n9 x1 (by omega)) (by simp)).mono ?_; rintro e x2 ⟨rfl, b_x2⟩)
      refine hK.out _ _ (hHeld.below b_x2) (fun hHeld => ?_)
      clear hK K b_x2
      try simp only [List.setIfInBounds_toArray, List.set_cons_zero, List.set_cons_succ]
      refine held_take 12 69 (.bool false) rfl rfl (by kernel_rfl) (by kernel_rfl) (by kernel_rfl) (fun _ _ _ h => h) (Or.inl ⟨by rfl, fun u hu => ?_⟩) hHeld ?_
      · go_simp
      simp only [Act.put, List.setIfInBounds_toArray, List.set_cons_zero, List.set_cons_succ]
      refine held_take 13 70 (.bool false) rfl rfl (by kernel_rfl) (by kernel_rfl) (by kernel_rfl) (fun _ _ _ h => h) (Or.inl ⟨by rfl, fun u hu => ?_⟩) hHeld ?_
      · go_simp
      simp only [Act.put, List.setIfInBounds_toArray, List.set_cons_zero, List.set_cons_succ]
      refine held_take 14 71 (.bool false) rfl rfl (by kernel_rfl) (by kernel_rfl) (by kernel_rfl) (fun _ _ _ h => h) (Or.inl ⟨by rfl, fun u hu => ?_⟩) hHeld ?_
      · go_simp
      simp only [Act.put, List.setIfInBounds_toArray, List.set_cons_zero, List.set_cons_succ]
      refine held_take 15 72 (.int .u8 k) rfl rfl (by kernel_rfl) (by kernel_rfl) (by kernel_rfl) (fun _ _ _ h => h) (Or.inl ⟨by rfl, fun u hu => ?_⟩) hHeld ?_
      · go_simp
      simp only [Act.put, List.setIfInBounds_toArray, List.set_cons_zero, List.set_cons_succ]
      refine held_one 16 (by kernel_rfl) rfl (fun K hK => ?_)
      go_simp
      go_wp2_with (go_at_call 16; refine (POPS.out 0 x2 none (by omega) (bs_nil _ _) (fun _ => rfl)).mono ?_; rintro e x3 ⟨rfl, b_x3⟩)
      refine hK.out _ _ (hHeld.below b_x3) (fun hHeld => ?_)
      clear hK K b_x3
      try simp only [List.setIfInBounds_toArray, List.set_cons_zero, List.set_cons_succ]
      refine held_take 17 74 (.bool false) rfl rfl (by kernel_rfl) (by kernel_rfl) (by kernel_rfl) (fun _ _ _ h => h) (Or.inl ⟨by rfl, fun u hu => ?_⟩) hHeld ?_
      · go_simp
      simp only [Act.put, List.setIfInBounds_toArray, List.set_cons_zero, List.set_cons_succ]
      refine held_take 18 75 (.bool false) rfl rfl (by kernel_rfl) (by kernel_rfl) (by kernel_rfl) (fun _ _ _ h => h) (Or.inl ⟨by rfl, fun u hu => ?_⟩) hHeld ?_
      · go_simp
      simp only [Act.put, List.setIfInBounds_toArray, List.set_cons_zero, List.set_cons_succ]
      refine held_take 19 76 (.bool false) rfl rfl (by kernel_rfl) (by kernel_rfl) (by kernel_rfl) (fun _ _ _ h => h) (Or.inl ⟨by rfl, fun u hu => ?_⟩) hHeld ?_
      · go_simp
      simp only [Act.put, List.setIfInBounds_toArray, List.set_cons_zero, List.set_cons_succ]
      refine held_take 21 78 (.int .u8 k) rfl rfl (by kernel_rfl) (by kernel_rfl) (by kernel_rfl) (fun _ _ _ h => h) (Or.inl ⟨by rfl, fun u hu => ?_⟩) hHeld ?_
      · go_simp
      simp only [Act.put, List.setIfInBounds_toArray, List.set_cons_zero, List.set_cons_succ]
      refine held_one 20 (by kernel_rfl) rfl (fun K hK => ?_)
      go_simp
      go_wp2_with fail
      refine hK.out _ _ (hHeld.below ((Below.refl _ _).alloc (Nat.le_refl _) _)) (fun hHeld => ?_)
      clear hK K
      try simp only [List.setIfInBounds_toArray, List.set_cons_zero, List.set_cons_succ]
      refine held_one 22 (by kernel_rfl) rfl (fun K hK => ?_)
      go_simp
      go_wp2_with (go_at_call 16; refine (POPS.out 50 _ (some ⟨x3.heap.size, 0, none⟩) (by omega) (BZ50.out x3) (by simp)).mono ?_; rintro e x4 ⟨rfl, b_x4⟩)
      refine hK.out _ _ (hHeld.below b_x4) (fun hHeld => ?_)
      clear hK K b_x4
      try simp only [List.setIfInBounds_toArray, List.set_cons_zero, List.set_cons_succ]
      refine held_take 23 80 (.bool false) rfl rfl (by kernel_rfl) (by kernel_rfl) (by kernel_rfl) (fun _ _ _ h => h) (Or.inl ⟨by rfl, fun u hu => ?_⟩) hHeld ?_
      · go_simp
      simp only [Act.put, List.setIfInBounds_toArray, List.set_cons_zero, List.set_cons_succ]
      refine held_take 24 81 (.bool false) rfl rfl (by kernel_rfl) (by kernel_rfl) (by kernel_rfl) (fun _ _ _ h => h) (Or.inl ⟨by rfl, fun u hu => ?_⟩) hHeld ?_
      · go_simp
      simp only [Act.put, List.setIfInBounds_toArray, List.set_cons_zero, List.set_cons_succ]
      refine held_take 25 82 (.bool false) rfl rfl (by kernel_rfl) (by kernel_rfl) (by kernel_rfl) (fun _ _ _ h => h) (Or.inl ⟨by rfl, fun u hu => ?_⟩) hHeld ?_
      · go_simp
      simp only [Act.put, List.setIfInBounds_toArray, List.set_cons_zero, List.set_cons_succ]
      refine held_take 27 84 (.agg H.toArray) rfl rfl (by kernel_rfl) (by kernel_rfl) (by kernel_rfl) (fun _ _ _ h => h) (yieldsIf_load_mid (by rfl) 46 _ rfl p 0 rfl H _ (fun u hu => range_block hu.b) Tryz.underlying46 rfl (by rw [hh73.out]; exact info_hh)) hHeld ?_
      simp only [Act.put, List.setIfInBounds_toArray, List.set_cons_zero, List.set_cons_succ]
      refine held_take 28 85 (.int .u8 k) rfl rfl (by kernel_rfl) (by kernel_rfl) (by kernel_rfl) (fun _ _ _ h => h) (Or.inl ⟨by rfl, fun u hu => ?_⟩) hHeld ?_
      · go_simp
      simp only [Act.put, List.setIfInBounds_toArray, List.set_cons_zero, List.set_cons_succ]
      refine held_one 26 (by kernel_rfl) rfl (fun K hK => ?_)
      go_simp
      go_wp2_with fail
      refine hK.out _ _ (hHeld.below ((Below.refl _ _).alloc (Nat.le_refl _) _)) (fun hHeld => ?_)
      clear hK K
      try simp only [List.setIfInBounds_toArray, List.set_cons_zero, List.set_cons_succ]
      refine held_one 29 (by kernel_rfl) rfl (fun K hK => ?_)
      go_simp
      go_wp2_with (go_at_call 17; refine (BACK.out 9 _ (some ⟨x4.heap.size, 0, none⟩) (by omega) (BZ9.out x4) (by simp)).mono ?_; rintro e x5 ⟨rfl, b_x5⟩)
      refine hK.out _ _ (hHeld.below b_x5) (fun hHeld => ?_)
      clear hK K b_x5
      try simp only [List.setIfInBounds_toArray, List.set_cons_zero, List.set_cons_succ]
      refine held_take 30 87 (.bool false) rfl rfl (by kernel_rfl) (by kernel_rfl) (by kernel_rfl) (fun _ _ _ h => h) (Or.inl ⟨by rfl, fun u hu => ?_⟩) hHeld ?_
      · go_simp
      simp only [Act.put, List.setIfInBounds_toArray, List.set_cons_zero, List.set_cons_succ]
      refine held_take 31 88 (.bool false) rfl rfl (by kernel_rfl) (by kernel_rfl) (by kernel_rfl) (fun _ _ _ h => h) (Or.inl ⟨by rfl, fun u hu => ?_⟩) hHeld ?_
      · go_simp
      simp only [Act.put, List.setIfInBounds_toArray, List.set_cons_zero, List.set_cons_succ]
      refine wpAnyH_done (by kernel_rfl) ?_ _
      clear hmk8 hmk9 hmk50 hmkn BZ50 BZ9 PUSH POPS BACK HSZ
      have hH2 := Hid.mk' (hKd_b 2)
      have hh2 := hKd_hh (k := 2) (by omega) (by omega)
      have hl2 := Hid.mk' (hh_len hh2)
      have ho2 := Hid.mk' (hh_one hh2)
      have HTH : Hid (x5.there g (k * 73) 73) := Hid.mk' (fun j hj => by
        have hb := hHeld.m
        have : k * 73 + j < (mL k).flatten.length := by rw [flat_len (mL_ok k), mL_len hk]; omega
        simpa only [Nat.zero_add] using there_block hb (k * 73 + j) this)
      have HMK : Hid (put (mL k).flatten (k * 73) (hKd 2) = (mL (k + 1)).flatten) := Hid.mk' (mL_put hlt)
      have HFL : Hid (k * 73 + (hKd 2).length ≤ (mL k).flatten.length) := Hid.mk' (by rw [flat_len (mL_ok k), mL_len hk, hl2.out]; omega)
      have HHM := Hid.mk' hHeld.m
      have HHO := Hid.mk' hHeld.old
      have HNX : Hid ((x5.setCells g (k * 73) (hKd 2)).heap[g]? = some (.cells (mL (k + 1)).flatten.toArray 46 (0, 0))) := Hid.mk' (by
        have := heap_put HHM.out (k * 73) (hKd 2) HFL.out
        rwa [HMK.out] at this)
      have HNB : Hid (Below W.heap.size W (x5.setCells g (k * 73) (hKd 2))) := Hid.mk' (by
        have hk := (Kept.refl (fun j => j = g) x5).setCells g (k * 73) (hKd 2) (fun _ => rfl)
        exact HHO.out.trans (hk.below HHO.out.size (fun k hk => by omega)))
      clear hHeld hh2 HMK HFL HHM HHO
      generalize hKd 2 = H2 at *
      go_wp2_with (first
        | refine wpList_buildTo rfl 46 #[(0, .const (.int .u8 2))] rfl (some 91) rfl H2.toArray (by simpa [Act.eval, Act.put] using hH2.out) ?_
        | refine wpList_store_mid rfl 46 _ _ rfl g (k * 73) H2.toArray rfl rfl (by simpa [hl2.out] using HTH.out) (by simpa [hl2.out] using info_hh) ho2.out ?_)
      go_roundg (9 - (k + 1))
      case measure => omega
      case rel => exact ⟨k + 1, by go_num, by omega, by omega, HNX, HNB⟩
    · have hk9 : k = 9 := by omega
      subst hk9
      go_upto_region 17 with fail
      have MK : ∀ m : Nat, m ≤ 3000 → ∃ C : Array Value, (∀ u : World, (Instr.makeSlice 22 (.int .i64 m) (.int .i64 m)).run Tryz.prog u = .ok (.slice (some ⟨u.heap.size, 0, none⟩) m m) (u.alloc (.cells C 5))) ∧ Hid (∀ u : World, Bs (u.alloc (.cells C 5)) (some ⟨u.heap.size, 0, none⟩) (List.replicate m 0)) :=
        fun m hm => ⟨Array.replicate m (Value.int .u8 0), fun u => by simpa using make_bytes m (by omega) u, Hid.mk' (fun u => BZ.out m u hm)⟩
      obtain ⟨C40, hmk40, BZ40⟩ := MK 2040 (by omega)
      have hmk40 : ∀ u : World, (Instr.makeSlice 22 (.int .i64 2040) (.int .i64 2040)).run Tryz.prog u = .ok (.slice (some ⟨u.heap.size, 0, none⟩) 2040 2040) (u.alloc (.cells C40 5)) := hmk40
      clear MK
      have Z0 : ZM W g wr := ⟨HM.out, HB.out⟩
      have hh2 := hKd_hh (k := 2) (by omega) (by omega)
      have hl2 := Hid.mk' (hh_len hh2)
      have RNG : Hid (∀ u, ZM W g u → u.rangeAt g 0 (hKd 2)) := Hid.mk' (fun u hu => by
        have hb := hb_block hu.m (Nat.le_refl 9)
        rcases hb.lies with h0 | ⟨x, o, e, hx, hc⟩
        · rw [mL_len (Nat.le_refl 9)] at h0; omega
        · cases e
          exact hc 0 (hKd 2) rfl)
      have STK9 : Hid (∀ u, ZM W g u → Calls Tryz.prog 18 #[.slice none 0 0, .slice (some ⟨g, 0, none⟩) 9 9] u fun e w' => e = .returned (.bool true) ∧ Below u.heap.size u w') := Hid.mk' (fun u hu => stacks_any none 0 0 [] (some ⟨g, 0, none⟩) 9 9 (mL 9) u rfl (bs_nil _ _) (fun _ => rfl) (mL_len (Nat.le_refl 9)) (hb_block hu.m (Nat.le_refl 9)) (by omega))
      have STK8 : Hid (∀ u, ZM W g u → Calls Tryz.prog 18 #[.slice none 0 0, .slice (some ⟨g, 0, none⟩) 8 9] u fun e w' => e = .returned (.bool true) ∧ Below u.heap.size u w') := Hid.mk' (fun u hu => stacks_any none 0 0 [] (some ⟨g, 0, none⟩) 8 9 ((mL 9).take 8) u rfl (bs_nil _ _) (fun _ => rfl) (by rw [List.length_take, mL_len (Nat.le_refl 9)]; rfl) (hb_take (hb_block hu.m (Nat.le_refl 9)) 8) (by omega))
      have hDA := Hid.mk' dA_built
      have hDB := Hid.mk' dB2_built
      have hDC := Hid.mk' dB255_built
      have hDS := Hid.mk' dos_built
      have WPK : ∀ (u : World) (b c : Nat), Bs u (some ⟨b, 0, none⟩) (List.replicate 2040 0) → u.heap[c]? = some (.cells (dos.flatMap sh70.cs).toArray 70 (0, 0)) → Calls Tryz.prog 19 #[.slice (some ⟨b, 0, none⟩) 2040 2040, .agg #[.int .i64 0, .int .i64 0], .slice (some ⟨c, 0, none⟩) 5 5] u fun e w' => e = .returned (.bool true) ∧ Below u.heap.size u w' := fun u b c h1 h2 => by
        have := wpackets_walk (some ⟨b, 0, none⟩) 2040 (List.replicate 2040 0) 0 0 (some ⟨c, 0, none⟩) 5 dos u h1 ⟨(fun e => by cases e), by rw [List.length_replicate]; exact Nat.le_refl _⟩ (slok_block h2 (dos_ok u) (by decide)) (by decide) (by rw [List.length_replicate]; omega) (by omega) (by omega)
        rw [List.length_replicate] at this
        exact this
      have WPA : Hid (∀ u : World, Calls Tryz.prog 19 #[.slice (some ⟨u.heap.size, 0, none⟩) 2040 2040, .agg #[.int .i64 0, .int .i64 0], .slice (some ⟨u.heap.size + 1, 0, none⟩) 5 5] ((u.alloc (.cells C40 5)).alloc (.cells (dos.flatMap sh70.cs).toArray 70)) fun e w' => e = .returned (.bool true) ∧ Below ((u.alloc (.cells C40 5)).alloc (.cells (dos.flatMap sh70.cs).toArray 70)).heap.size ((u.alloc (.cells C40 5)).alloc (.cells (dos.flatMap sh70.cs).toArray 70)) w') := Hid.mk' (fun u => by
        have e : (u.alloc (.cells C40 5)).heap.size = u.heap.size + 1 := by simp
        rw [← e]
        exact WPK _ _ _ ((BZ40.out u).below ((Below.refl _ _).alloc (Nat.le_refl _) _)) (heap_alloc_new _ _))
      have WPB : Hid (∀ u : World, Calls Tryz.prog 19 #[.slice (some ⟨u.heap.size + 1, 0, none⟩) 2040 2040, .agg #[.int .i64 0, .int .i64 0], .slice (some ⟨u.heap.size, 0, none⟩) 5 5] ((u.alloc (.cells (dos.flatMap sh70.cs).toArray 70)).alloc (.cells C40 5)) fun e w' => e = .returned (.bool true) ∧ Below ((u.alloc (.cells (dos.flatMap sh70.cs).toArray 70)).alloc (.cells C40 5)).heap.size ((u.alloc (.cells (dos.flatMap sh70.cs).toArray 70)).alloc (.cells C40 5)) w') := Hid.mk' (fun u => by
        have e : (u.alloc (.cells (dos.flatMap sh70.cs).toArray 70)).heap.size = u.heap.size + 1 := by simp
        rw [← e]
        refine WPK _ _ _ (BZ40.out _) ?_
        have hb : Below (u.alloc (.cells (dos.flatMap sh70.cs).toArray 70)).heap.size (u.alloc (.cells (dos.flatMap sh70.cs).toArray 70)) ((u.alloc (.cells (dos.flatMap sh70.cs).toArray 70)).alloc (.cells C40 5)) := (Below.refl _ _).alloc (Nat.le_refl _) _
        exact (hb.block u.heap.size (by simp)).trans (heap_alloc_new u _))
      clear WPK HM HB hh2 BZ40 BZ
      generalize (dos.flatMap sh70.cs) = DS at *
      generalize sh70.cs dA = DA at *
      generalize sh70.cs (dB 2) = DB at *
      generalize sh70.cs (dB 255) = DC at *
      rw [show hz.set 0 (.int .u8 2) = hKd 2 from rfl] at hDA
      generalize hKd 2 = H2 at *
      refine wp_region_held_drew (S := ZM W g) (by kernel_rfl) (Z0.below ((Below.refl _ _).drew)) (fun hHeld => ?_)
      change wpAnyH _ _ _ _ _ 33 #[false, false, false, false, false, false, false, false, false, false, false, false, false, false, false, false, false, false, false, false, false, false, false, false, false, false, false, false, false, false, false, false, false] _ _
      obtain ⟨x0, hx0⟩ : ∃ x, wr.drew = x := ⟨_, rfl⟩
      rw [hx0] at hHeld ⊢
      clear hx0 Z0
      refine held_take 0 93 (.bool true) rfl rfl (by kernel_rfl) (by kernel_rfl) (by kernel_rfl) (fun _ _ _ h => h) (Or.inl ⟨by rfl, fun u hu => ?_⟩) hHeld ?_
      · go_simp
      simp only [Act.put, List.setIfInBounds_toArray, List.set_cons_zero, List.set_cons_succ]
      refine held_one 1 (by kernel_rfl) rfl (fun K hK => ?_)
      go_simp
      go_wp2_with (go_at_call 5; refine (wawake _).mono ?_; rintro e x1 ⟨rfl, b_x1⟩)
      refine hK.out _ _ (hHeld.below b_x1) (fun hHeld => ?_)
      clear hK K
      try simp only [List.setIfInBounds_toArray, List.set_cons_zero, List.set_cons_succ]
      refine held_take 2 95 (.bool true) rfl rfl (by kernel_rfl) (by kernel_rfl) (by kernel_rfl) (fun _ _ _ h => h) (Or.inl ⟨by rfl, fun u hu => ?_⟩) hHeld ?_
      · go_simp
      simp only [Act.put, List.setIfInBounds_toArray, List.set_cons_zero, List.set_cons_succ]
      refine held_take 3 96 (.bool true) rfl rfl (by kernel_rfl) (by kernel_rfl) (by kernel_rfl) (fun _ _ _ h => h) (Or.inl ⟨by rfl, fun u hu => ?_⟩) hHeld ?_
      · go_simp
      simp only [Act.put, List.setIfInBounds_toArray, List.set_cons_zero, List.set_cons_succ]
      refine held_take 4 97 (.slice (some ⟨g, 0, none⟩) 9 9) rfl rfl (by kernel_rfl) (by kernel_rfl) (by kernel_rfl) (fun _ _ _ h => h) (Or.inl ⟨by rfl, fun u hu => ?_⟩) hHeld ?_
      · go_simp
      simp only [Act.put, List.setIfInBounds_toArray, List.set_cons_zero, List.set_cons_succ]
      refine held_one 5 (by kernel_rfl) rfl (fun K hK => ?_)
      go_simp
      go_wp2_with (go_at_call 18; refine (STK9.out _ hHeld).mono ?_; rintro e x2 ⟨rfl, b_x2⟩)
      refine hK.out _ _ (hHeld.below b_x2) (fun hHeld => ?_)
      clear hK K
      try simp only [List.setIfInBounds_toArray, List.set_cons_zero, List.set_cons_succ]
      refine held_take 6 99 (.bool true) rfl rfl (by kernel_rfl) (by kernel_rfl) (by kernel_rfl) (fun _ _ _ h => h) (Or.inl ⟨by rfl, fun u hu => ?_⟩) hHeld ?_
      · go_simp
      simp only [Act.put, List.setIfInBounds_toArray, List.set_cons_zero, List.set_cons_succ]
      refine held_take 7 100 (.bool true) rfl rfl (by kernel_rfl) (by kernel_rfl) (by kernel_rfl) (fun _ _ _ h => h) (Or.inl ⟨by rfl, fun u hu => ?_⟩) hHeld ?_
      · go_simp
      simp only [Act.put, List.setIfInBounds_toArray, List.set_cons_zero, List.set_cons_succ]
      refine held_take 8 101 (.slice (some ⟨g, 0, none⟩) 9 9) rfl rfl (by kernel_rfl) (by kernel_rfl) (by kernel_rfl) (fun _ _ _ h => h) (Or.inl ⟨by rfl, fun u hu => ?_⟩) hHeld ?_
      · go_simp
      simp only [Act.put, List.setIfInBounds_toArray, List.set_cons_zero, List.set_cons_succ]
      refine held_take 9 102 (.slice (some ⟨g, 0, none⟩) 8 9) rfl rfl (by kernel_rfl) (by kernel_rfl) (by kernel_rfl) (fun _ _ _ h => h) (Or.inl ⟨by rfl, fun u hu => ?_⟩) hHeld ?_
      · go_simp
      simp only [Act.put, List.setIfInBounds_toArray, List.set_cons_zero, List.set_cons_succ]
      refine held_one 10 (by kernel_rfl) rfl (fun K hK => ?_)
      go_simp
      go_wp2_with (go_at_call 18; refine (STK8.out _ hHeld).mono ?_; rintro e x3 ⟨rfl, b_x3⟩)
      refine hK.out _ _ (hHeld.below b_x3) (fun hHeld => ?_)
      clear hK K
      try simp only [List.setIfInBounds_toArray, List.set_cons_zero, List.set_cons_succ]
      refine held_take 11 104 (.bool true) rfl rfl (by kernel_rfl) (by kernel_rfl) (by kernel_rfl) (fun _ _ _ h => h) (Or.inl ⟨by rfl, fun u hu => ?_⟩) hHeld ?_
      · go_simp
      simp only [Act.put, List.setIfInBounds_toArray, List.set_cons_zero, List.set_cons_succ]
      refine held_take 12 105 (.bool true) rfl rfl (by kernel_rfl) (by kernel_rfl) (by kernel_rfl) (fun _ _ _ h => h) (Or.inl ⟨by rfl, fun u hu => ?_⟩) hHeld ?_
      · go_simp
      simp only [Act.put, List.setIfInBounds_toArray, List.set_cons_zero, List.set_cons_succ]
      refine held_take 14 107 (.agg #[.int .i64 0, .int .i64 0]) rfl rfl (by kernel_rfl) (by kernel_rfl) (by kernel_rfl) (fun _ _ _ h => h) (yieldsIf_build (by rfl) 68 #[] rfl _ (by simpa using two_built)) hHeld ?_
      simp only [Act.put, List.setIfInBounds_toArray, List.set_cons_zero, List.set_cons_succ]
      refine held_take 15 108 (.slice (some ⟨g, 0, none⟩) 9 9) rfl rfl (by kernel_rfl) (by kernel_rfl) (by kernel_rfl) (fun _ _ _ h => h) (Or.inl ⟨by rfl, fun u hu => ?_⟩) hHeld ?_
      · go_simp
      simp only [Act.put, List.setIfInBounds_toArray, List.set_cons_zero, List.set_cons_succ]
      refine held_take 16 109 (.pointer (some ⟨g, 0, none⟩)) rfl rfl (by kernel_rfl) (by kernel_rfl) (by kernel_rfl) (fun _ _ _ h => h) (Or.inl ⟨by rfl, fun u hu => ?_⟩) hHeld ?_
      · go_simp
      simp only [Act.put, List.setIfInBounds_toArray, List.set_cons_zero, List.set_cons_succ]
      refine held_take 17 110 (.agg H2.toArray) rfl rfl (by kernel_rfl) (by kernel_rfl) (by kernel_rfl) (fun _ _ _ h => h) (yieldsIf_load_mid (by rfl) 46 _ rfl g 0 rfl H2 _ (fun u hu => RNG.out u hu) Tryz.underlying46 rfl (by rw [hl2.out]; exact info_hh)) hHeld ?_
      simp only [Act.put, List.setIfInBounds_toArray, List.set_cons_zero, List.set_cons_succ]
      refine held_take 18 111 (.agg DA.toArray) rfl rfl (by kernel_rfl) (by kernel_rfl) (by kernel_rfl) (fun _ _ _ h => h) (yieldsIf_build (by rfl) 70 #[(2, .tmp 110)] rfl _ (by simpa [Act.eval, Act.put] using hDA.out)) hHeld ?_
      simp only [Act.put, List.setIfInBounds_toArray, List.set_cons_zero, List.set_cons_succ]
      refine held_take 19 112 (.slice (some ⟨g, 0, none⟩) 9 9) rfl rfl (by kernel_rfl) (by kernel_rfl) (by kernel_rfl) (fun _ _ _ h => h) (Or.inl ⟨by rfl, fun u hu => ?_⟩) hHeld ?_
      · go_simp
      simp only [Act.put, List.setIfInBounds_toArray, List.set_cons_zero, List.set_cons_succ]
      refine held_take 20 113 (.pointer (some ⟨g, 0, none⟩)) rfl rfl (by kernel_rfl) (by kernel_rfl) (by kernel_rfl) (fun _ _ _ h => h) (Or.inl ⟨by rfl, fun u hu => ?_⟩) hHeld ?_
      · go_simp
      simp only [Act.put, List.setIfInBounds_toArray, List.set_cons_zero, List.set_cons_succ]
      refine held_take 21 114 (.agg H2.toArray) rfl rfl (by kernel_rfl) (by kernel_rfl) (by kernel_rfl) (fun _ _ _ h => h) (yieldsIf_load_mid (by rfl) 46 _ rfl g 0 rfl H2 _ (fun u hu => RNG.out u hu) Tryz.underlying46 rfl (by rw [hl2.out]; exact info_hh)) hHeld ?_
      simp only [Act.put, List.setIfInBounds_toArray, List.set_cons_zero, List.set_cons_succ]
      refine held_take 22 115 (.agg DA.toArray) rfl rfl (by kernel_rfl) (by kernel_rfl) (by kernel_rfl) (fun _ _ _ h => h) (yieldsIf_build (by rfl) 70 #[(2, .tmp 114)] rfl _ (by simpa [Act.eval, Act.put] using hDA.out)) hHeld ?_
      simp only [Act.put, List.setIfInBounds_toArray, List.set_cons_zero, List.set_cons_succ]
      refine held_take 23 116 (.slice (some ⟨g, 0, none⟩) 9 9) rfl rfl (by kernel_rfl) (by kernel_rfl) (by kernel_rfl) (fun _ _ _ h => h) (Or.inl ⟨by rfl, fun u hu => ?_⟩) hHeld ?_
      · go_simp
      simp only [Act.put, List.setIfInBounds_toArray, List.set_cons_zero, List.set_cons_succ]
      refine held_take 24 117 (.pointer (some ⟨g, 0, none⟩)) rfl rfl (by kernel_rfl) (by kernel_rfl) (by kernel_rfl) (fun _ _ _ h => h) (Or.inl ⟨by rfl, fun u hu => ?_⟩) hHeld ?_
      · go_simp
      simp only [Act.put, List.setIfInBounds_toArray, List.set_cons_zero, List.set_cons_succ]
      refine held_take 25 118 (.agg H2.toArray) rfl rfl (by kernel_rfl) (by kernel_rfl) (by kernel_rfl) (fun _ _ _ h => h) (yieldsIf_load_mid (by rfl) 46 _ rfl g 0 rfl H2 _ (fun u hu => RNG.out u hu) Tryz.underlying46 rfl (by rw [hl2.out]; exact info_hh)) hHeld ?_
      simp only [Act.put, List.setIfInBounds_toArray, List.set_cons_zero, List.set_cons_succ]
      refine held_take 26 119 (.agg DA.toArray) rfl rfl (by kernel_rfl) (by kernel_rfl) (by kernel_rfl) (fun _ _ _ h => h) (yieldsIf_build (by rfl) 70 #[(2, .tmp 118)] rfl _ (by simpa [Act.eval, Act.put] using hDA.out)) hHeld ?_
      simp only [Act.put, List.setIfInBounds_toArray, List.set_cons_zero, List.set_cons_succ]
      refine held_take 27 120 (.agg DB.toArray) rfl rfl (by kernel_rfl) (by kernel_rfl) (by kernel_rfl) (fun _ _ _ h => h) (yieldsIf_build (by rfl) 70 #[(0, .const (.bool true)), (1, .const (.int .u8 2))] rfl _ (by simpa [Act.eval, Act.put] using hDB.out)) hHeld ?_
      simp only [Act.put, List.setIfInBounds_toArray, List.set_cons_zero, List.set_cons_succ]
      refine held_take 28 121 (.agg DC.toArray) rfl rfl (by kernel_rfl) (by kernel_rfl) (by kernel_rfl) (fun _ _ _ h => h) (yieldsIf_build (by rfl) 70 #[(0, .const (.bool true)), (1, .const (.int .u8 255))] rfl _ (by simpa [Act.eval, Act.put] using hDC.out)) hHeld ?_
      simp only [Act.put, List.setIfInBounds_toArray, List.set_cons_zero, List.set_cons_succ]
      refine wpAnyH_ready (rs := [13, 29]) (by kernel_rfl) (by simp) (AllReadyH.cons rfl (fun K hK => ?_) (AllReadyH.cons rfl (fun K hK => ?_) AllReadyH.nil))
      · go_simp
        go_wp2_with fail
        refine hK.out _ _ (hHeld.below ((Below.refl _ _).alloc (Nat.le_refl _) _)) (fun hHeld => ?_)
        clear hK K
        try simp only [List.setIfInBounds_toArray, List.set_cons_zero, List.set_cons_succ]
        refine held_one 29 (by kernel_rfl) rfl (fun K hK => ?_)
        rw [if_pos (by rfl)]
        refine wp_buildSliceTo1 71 70 5 #[(0, .tmp 111), (1, .tmp 115), (2, .tmp 119), (3, .tmp 120), (4, .tmp 121)] rfl Tryz.underlying71 DS.toArray (by simpa [Act.eval, Act.put] using hDS.out) ?_
        refine hK.out _ _ (hHeld.below ((Below.refl _ _).alloc (Nat.le_refl _) _)) (fun hHeld => ?_)
        clear hK K
        try simp only [List.setIfInBounds_toArray, List.set_cons_zero, List.set_cons_succ]
        refine held_one 30 (by kernel_rfl) rfl (fun K hK => ?_)
        go_simp
        go_wp2_with (go_at_call 19; refine (WPA.out x3).mono ?_; rintro e x4 ⟨rfl, b_x4⟩)
        refine hK.out _ _ (hHeld.below b_x4) (fun hHeld => ?_)
        clear hK K
        try simp only [List.setIfInBounds_toArray, List.set_cons_zero, List.set_cons_succ]
        refine held_take 31 124 (.bool true) rfl rfl (by kernel_rfl) (by kernel_rfl) (by kernel_rfl) (fun _ _ _ h => h) (Or.inl ⟨by rfl, fun u hu => ?_⟩) hHeld ?_
        · go_simp
        simp only [Act.put, List.setIfInBounds_toArray, List.set_cons_zero, List.set_cons_succ]
        refine held_take 32 0 (.bool true) rfl rfl (by kernel_rfl) (by kernel_rfl) (by kernel_rfl) (fun _ _ _ h => h) (Or.inl ⟨by rfl, fun u hu => ?_⟩) hHeld ?_
        · go_simp
        simp only [Act.put, List.setIfInBounds_toArray, List.set_cons_zero, List.set_cons_succ]
        refine wpAnyH_done (by kernel_rfl) ?_ _
        go_wp2_with fail
        go_ret
        exact ⟨rfl, hHeld.old⟩
      · rw [if_pos (by rfl)]
        refine wp_buildSliceTo1 71 70 5 #[(0, .tmp 111), (1, .tmp 115), (2, .tmp 119), (3, .tmp 120), (4, .tmp 121)] rfl Tryz.underlying71 DS.toArray (by simpa [Act.eval, Act.put] using hDS.out) ?_
        refine hK.out _ _ (hHeld.below ((Below.refl _ _).alloc (Nat.le_refl _) _)) (fun hHeld => ?_)
        clear hK K
        try simp only [List.setIfInBounds_toArray, List.set_cons_zero, List.set_cons_succ]
        refine held_one 13 (by kernel_rfl) rfl (fun K hK => ?_)
        go_simp
        go_wp2_with fail
        refine hK.out _ _ (hHeld.below ((Below.refl _ _).alloc (Nat.le_refl _) _)) (fun hHeld => ?_)
        clear hK K
        try simp only [List.setIfInBounds_toArray, List.set_cons_zero, List.set_cons_succ]
        refine held_one 30 (by kernel_rfl) rfl (fun K hK => ?_)
        go_simp
        go_wp2_with (go_at_call 19; refine (WPB.out x3).mono ?_; rintro e x4 ⟨rfl, b_x4⟩)
        refine hK.out _ _ (hHeld.below b_x4) (fun hHeld => ?_)
        clear hK K
        try simp only [List.setIfInBounds_toArray, List.set_cons_zero, List.set_cons_succ]
        refine held_take 31 124 (.bool true) rfl rfl (by kernel_rfl) (by kernel_rfl) (by kernel_rfl) (fun _ _ _ h => h) (Or.inl ⟨by rfl, fun u hu => ?_⟩) hHeld ?_
        · go_simp
        simp only [Act.put, List.setIfInBounds_toArray, List.set_cons_zero, List.set_cons_succ]
        refine held_take 32 0 (.bool true) rfl rfl (by kernel_rfl) (by kernel_rfl) (by kernel_rfl) (fun _ _ _ h => h) (Or.inl ⟨by rfl, fun u hu => ?_⟩) hHeld ?_
        · go_simp
        simp only [Act.put, List.setIfInBounds_toArray, List.set_cons_zero, List.set_cons_succ]
        refine wpAnyH_done (by kernel_rfl) ?_ _
        go_wp2_with fail
        go_ret
        exact ⟨rfl, hHeld.old⟩
end Go.Proofs.YtednmdkjhiihcaaGreat
