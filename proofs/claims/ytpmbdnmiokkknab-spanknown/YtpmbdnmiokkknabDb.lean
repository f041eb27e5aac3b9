/- The contracts of Check, Has, All, One, Join, Under: the program's and the document's. -/
import Derived.Test.YtpmbdnmiokkknabDa
import Derived.Test.YtpmbdnmiokkknabShelf
import Derived.Deep.MidRow
namespace Go.Proofs.Ytpmbdnmiokkknab
open Go.ChangeShapes Go.WideShapes Go.ChangeAt Go.RowKit
set_option maxRecDepth 10000

theorem sp_size : (Try.prog.info? 24).map (·.size) = some 2 := by kernel_rfl
theorem rng2 {w : World} {g : Nat} {x y : Value} (c0 : w.cell? ⟨g, 0, none⟩ = some x) (c1 : w.cell? ⟨g, 1, none⟩ = some y) : w.rangeAt g 0 [x, y] := fun j v hv => by
  match j, hv with
  | 0, hv => simp at hv; subst hv; exact c0
  | 1, hv => simp at hv; subst hv; exact c1
  | j + 2, hv => simp at hv

section
variable {fn : Func} {p p' u v : Tmp} {R : Ending → World → Prop} {a : Act} {w : World} {g g' : Nat} {x y x' y' : Value}
/-- A call ends with a span that lies in a block (and with more). -/
theorem ret_sp (hres : fn.results = #[.cell p 24]) (hp : a.tmps.getD p undef = .pointer (some ⟨g, 0, none⟩)) (c0 : w.cell? ⟨g, 0, none⟩ = some x) (c1 : w.cell? ⟨g, 1, none⟩ = some y)
    (hdf : a.defers = []) (hR : R (.returned (.agg #[x, y])) w) : bodyPost Try.prog fn R .ret a w := by
  refine bodyPost_ret ?_ hdf hR
  have hp' : a.tmps[p]?.getD undef = .pointer (some ⟨g, 0, none⟩) := by simpa using hp
  simp [results, hres, hp', asAddr, run_loadVar_mid w g 0 24 [x, y] _ (rng2 c0 c1) Try.underlying24 rfl sp_size]
theorem ret_sp1 (hres : fn.results = #[.cell p 24, .tmp u]) (hp : a.tmps.getD p undef = .pointer (some ⟨g, 0, none⟩)) (c0 : w.cell? ⟨g, 0, none⟩ = some x) (c1 : w.cell? ⟨g, 1, none⟩ = some y)
    (hdf : a.defers = []) (hR : R (.returned (.tuple #[.agg #[x, y], a.tmps.getD u undef])) w) : bodyPost Try.prog fn R .ret a w := by
  refine bodyPost_ret ?_ hdf hR
  have hp' : a.tmps[p]?.getD undef = .pointer (some ⟨g, 0, none⟩) := by simpa using hp
  simp [results, hres, hp', asAddr, run_loadVar_mid w g 0 24 [x, y] _ (rng2 c0 c1) Try.underlying24 rfl sp_size]
theorem ret_sp3 (hres : fn.results = #[.cell p 24, .cell p' 24, .tmp u]) (hp : a.tmps.getD p undef = .pointer (some ⟨g, 0, none⟩)) (c0 : w.cell? ⟨g, 0, none⟩ = some x) (c1 : w.cell? ⟨g, 1, none⟩ = some y)
    (hq : a.tmps.getD p' undef = .pointer (some ⟨g', 0, none⟩)) (c2 : w.cell? ⟨g', 0, none⟩ = some x') (c3 : w.cell? ⟨g', 1, none⟩ = some y')
    (hdf : a.defers = []) (hR : R (.returned (.tuple #[.agg #[x, y], .agg #[x', y'], a.tmps.getD u undef])) w) : bodyPost Try.prog fn R .ret a w := by
  refine bodyPost_ret ?_ hdf hR
  have hp' : a.tmps[p]?.getD undef = .pointer (some ⟨g, 0, none⟩) := by simpa using hp
  have hq' : a.tmps[p']?.getD undef = .pointer (some ⟨g', 0, none⟩) := by simpa using hq
  simp [results, hres, hp', hq', asAddr, run_loadVar_mid w g 0 24 [x, y] _ (rng2 c0 c1) Try.underlying24 rfl sp_size, run_loadVar_mid w g' 0 24 [x', y'] _ (rng2 c2 c3) Try.underlying24 rfl sp_size]
theorem ret_sp4 (hres : fn.results = #[.cell p 24, .cell p' 24, .tmp u, .tmp v]) (hp : a.tmps.getD p undef = .pointer (some ⟨g, 0, none⟩)) (c0 : w.cell? ⟨g, 0, none⟩ = some x) (c1 : w.cell? ⟨g, 1, none⟩ = some y)
    (hq : a.tmps.getD p' undef = .pointer (some ⟨g', 0, none⟩)) (c2 : w.cell? ⟨g', 0, none⟩ = some x') (c3 : w.cell? ⟨g', 1, none⟩ = some y')
    (hdf : a.defers = []) (hR : R (.returned (.tuple #[.agg #[x, y], .agg #[x', y'], a.tmps.getD u undef, a.tmps.getD v undef])) w) : bodyPost Try.prog fn R .ret a w := by
  refine bodyPost_ret ?_ hdf hR
  have hp' : a.tmps[p]?.getD undef = .pointer (some ⟨g, 0, none⟩) := by simpa using hp
  have hq' : a.tmps[p']?.getD undef = .pointer (some ⟨g', 0, none⟩) := by simpa using hq
  simp [results, hres, hp', hq', asAddr, run_loadVar_mid w g 0 24 [x, y] _ (rng2 c0 c1) Try.underlying24 rfl sp_size, run_loadVar_mid w g' 0 24 [x', y'] _ (rng2 c2 c3) Try.underlying24 rfl sp_size]
end

theorem bl1 (w : World) (o : Obj) : Below w.heap.size w (w.alloc o) := (Below.refl _ _).alloc (Nat.le_refl _) _
theorem bl2 (w : World) (o p : Obj) : Below w.heap.size w ((w.alloc o).alloc p) := (bl1 w o).trans ((bl1 _ p).mono (by simp))
theorem bl3 (w : World) (o p q : Obj) : Below w.heap.size w (((w.alloc o).alloc p).alloc q) := (bl2 w o p).trans ((bl1 _ q).mono (by simp; omega))
theorem bl4 (w : World) (o p q r : Obj) : Below w.heap.size w ((((w.alloc o).alloc p).alloc q).alloc r) := (bl3 w o p q).trans ((bl1 _ r).mono (by simp; omega))

theorem celln {u : World} {cs : Array Value} {t : TypeId} {n k : Nat} {v : Value} (hn : n = u.heap.size) (hv : cs[k]? = some v) : (u.alloc (.cells cs t)).cell? ⟨n, k, none⟩ = some v := by
  subst hn
  rw [World.cell?_alloc_new]; exact hv

def ckS (l h : Int) : Int := if l > h then 150 else 0
theorem ckS_ok {l h : Int} : ckS l h = 0 ↔ l ≤ h := by unfold ckS; split <;> omega
theorem ckS_0 {l h : Int} (hh : l ≤ h) : ckS l h = 0 := ckS_ok.2 hh
theorem ckS_1 {l h : Int} (hh : ¬ l ≤ h) : ckS l h = 150 := by unfold ckS; rw [if_pos (by omega)]
def hasB (l h n : Int) : Bool := decide (l ≤ n) && decide (n ≤ h)
def unB (al ah bl bh : Int) : Bool := decide (bl ≤ al) && decide (ah ≤ bh)
def joS (al ah bl bh : Int) : Int × Int := (mn al bl, mx ah bh)

theorem check_any (l h : Int) (w : World) : Calls Try.prog 6 #[spV (l, h)] w fun e w' => e = .returned (.int .i64 (ckS l h)) ∧ Below w.heap.size w w' := by
  have HK : Hid (∀ ob, Below w.heap.size w (w.alloc ob)) := fun ob => (Below.refl _ _).alloc (Nat.le_refl _) _
  go_enter Try.func6, Try.ntmps6
  by_cases hh : l ≤ h
  · rw [ckS_0 hh]
    go_wp2_with fail
    go_ret
    exact ⟨rfl, HK.out _⟩
  · rw [ckS_1 hh]
    go_wp2_with fail
    go_ret
    exact ⟨rfl, HK.out _⟩

theorem one_any (n : Int) (w : World) : Calls Try.prog 14 #[.int .u64 n] w fun e w' => e = .returned (spV (n, n)) ∧ Below w.heap.size w w' := by
  have HK : Hid (∀ ob, Below w.heap.size w (w.alloc ob)) := fun ob => (Below.refl _ _).alloc (Nat.le_refl _) _
  go_enter Try.func14, Try.ntmps14
  go_wp2_with fail
  refine ret_sp rfl rfl (celln rfl rfl) (celln rfl rfl) rfl ?_
  exact ⟨rfl, HK.out _⟩
theorem all_any (w : World) : Calls Try.prog 33 #[] w fun e w' => e = .returned (spV allS) ∧ Below w.heap.size w w' := by
  have HK : Hid (∀ ob, Below w.heap.size w (w.alloc ob)) := fun ob => (Below.refl _ _).alloc (Nat.le_refl _) _
  go_enter Try.func33, Try.ntmps33
  go_wp2_with fail
  refine ret_sp rfl rfl (celln rfl rfl) (celln rfl rfl) rfl ?_
  exact ⟨rfl, HK.out _⟩

theorem has_any (l h n : Int) (w : World) : Calls Try.prog 13 #[spV (l, h), .int .u64 n] w fun e w' => e = .returned (.bool (hasB l h n)) ∧ Below w.heap.size w w' := by
  have HK : Hid (∀ ob, Below w.heap.size w (w.alloc ob)) := fun ob => (Below.refl _ _).alloc (Nat.le_refl _) _
  go_enter Try.func13, Try.ntmps13
  by_cases h1 : l ≤ n
  · have HV := Hid.mk' (show hasB l h n = decide (n ≤ h) by unfold hasB; simp [h1])
    go_wp2_with fail
    go_ret
    exact ⟨ret_bool HV.out.symm, HK.out _⟩
  · have HV := Hid.mk' (show hasB l h n = false by unfold hasB; simp [h1])
    go_wp2_with fail
    go_ret
    exact ⟨ret_bool HV.out.symm, HK.out _⟩

theorem under_any (al ah bl bh : Int) (w : World) : Calls Try.prog 8 #[spV (al, ah), spV (bl, bh)] w fun e w' => e = .returned (.bool (unB al ah bl bh)) ∧ Below w.heap.size w w' := by
  go_enter Try.func8, Try.ntmps8
  by_cases h1 : bl ≤ al
  · have HV := Hid.mk' (show unB al ah bl bh = decide (ah ≤ bh) by unfold unB; simp [h1])
    go_wp2_with fail
    go_ret
    exact ⟨ret_bool HV.out.symm, bl2 _ _ _⟩
  · have HV := Hid.mk' (show unB al ah bl bh = false by unfold unB; simp [h1])
    go_wp2_with fail
    go_ret
    exact ⟨ret_bool HV.out.symm, bl2 _ _ _⟩

theorem join_any (al ah bl bh : Int) (w : World) : Calls Try.prog 11 #[spV (al, ah), spV (bl, bh)] w fun e w' => e = .returned (spV (joS al ah bl bh)) ∧ Below w.heap.size w w' := by
  have hx1 : ∀ (u : World) ts t, (Builtin.min_ ts t #[.int .u64 al, .int .u64 bl]).run Try.prog u = .ok (.int .u64 (mn al bl)) u := fun u ts t => by rw [run_min_int2]; rfl
  have hx2 : ∀ (u : World) ts t, (Builtin.max_ ts t #[.int .u64 ah, .int .u64 bh]).run Try.prog u = .ok (.int .u64 (mx ah bh)) u := fun u ts t => by rw [run_max_int2]; rfl
  go_enter Try.func11, Try.ntmps11
  go_wp2_with fail
  refine ret_sp rfl rfl (celln (by simp) rfl) (celln (by simp) rfl) rfl ?_
  exact ⟨rfl, bl3 _ _ _ _⟩
end Go.Proofs.Ytpmbdnmiokkknab
