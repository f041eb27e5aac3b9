/- Plain mathematics of ones' complement sums: the fold of a number, the weighted total of a list of bytes. No program is named here. -/
import Derived.WalkKit
import Derived.OpenShut
namespace Go.Proofs.Ytogkgchcjjoplab

/-- What is left of a number when all that goes beyond sixteen bits has been added again. -/
def fo (n : Int) : Int := if n = 0 then 0 else (n - 1) % 65535 + 1

theorem fo_zero : fo 0 = 0 := rfl
theorem fo_nonneg (n : Int) : 0 ≤ fo n := by unfold fo; split <;> omega
theorem fo_le (n : Int) : fo n ≤ 65535 := by unfold fo; split <;> omega
theorem fo_small (n : Int) (h0 : 0 ≤ n) (h1 : n ≤ 65535) : fo n = n := by unfold fo; split <;> omega
theorem fo_step (n : Int) (h0 : 0 ≤ n) : fo (n % 65536 + n / 65536) = fo n := by
  unfold fo; split <;> split <;> omega
theorem fo_mod (n : Int) (_h0 : 0 ≤ n) : fo n % 65535 = n % 65535 := by unfold fo; split <;> omega
theorem fo_pos (n : Int) (h0 : 0 < n) : 0 < fo n := by unfold fo; split <;> omega
theorem fo_eq_zero (n : Int) : fo n = 0 ↔ n = 0 := by unfold fo; split <;> omega
theorem fo_add (a b : Int) (ha : 0 ≤ a) (hb : 0 ≤ b) : fo (fo a + b) = fo (a + b) := by
  unfold fo; split <;> split <;> split <;> omega
theorem fo_add' (a b : Int) (ha : 0 ≤ a) (hb : 0 ≤ b) : fo (a + fo b) = fo (a + b) := by
  rw [Int.add_comm a (fo b), fo_add b a hb ha, Int.add_comm]
theorem fo_congr (a b : Int) (ha : 0 < a) (hb : 0 < b) (h : a % 65535 = b % 65535) : fo a = fo b := by
  unfold fo; split <;> split <;> omega
theorem fo_sub (n : Int) (h0 : 0 ≤ n) (h1 : n ≤ 131070) : fo n = if n > 65535 then n - 65535 else n := by
  unfold fo; split <;> split <;> omega

/-- The weight of the byte at a place. -/
def wt (k : Nat) : Int := if k % 2 = 0 then 256 else 1
theorem wt_even (k : Nat) (h : k % 2 = 0) : wt k = 256 := by simp [wt, h]
theorem wt_odd (k : Nat) (h : ¬ k % 2 = 0) : wt k = 1 := by simp [wt, h]

/-- The weighted total of the first k numbers. -/
def tot (zs : List Int) : Nat → Int
  | 0 => 0
  | k + 1 => tot zs k + zs.getD k 0 * wt k

/-- All numbers of a list are bytes. -/
def Bytes (zs : List Int) : Prop := ∀ z ∈ zs, 0 ≤ z ∧ z ≤ 255

theorem Bytes.getD {zs : List Int} (h : Bytes zs) (k : Nat) : 0 ≤ zs.getD k 0 ∧ zs.getD k 0 ≤ 255 := by
  rw [List.getD_eq_getElem?_getD]
  cases e : zs[k]? with
  | none => simp
  | some z => exact h z (List.mem_of_getElem? e)

theorem tot_bd {zs : List Int} (h : Bytes zs) : ∀ k : Nat, 0 ≤ tot zs k ∧ tot zs k ≤ 65280 * (k : Int)
  | 0 => by simp [tot]
  | k + 1 => by
    have ih := tot_bd h k
    have hb := h.getD k
    have hw : wt k = 256 ∨ wt k = 1 := by unfold wt; split <;> simp
    simp only [tot]
    rcases hw with hw | hw <;> rw [hw] <;> constructor <;> omega

theorem tot_congr (xs ys : List Int) : ∀ k : Nat, (∀ i, i < k → xs.getD i 0 = ys.getD i 0) → tot xs k = tot ys k
  | 0, _ => rfl
  | k + 1, h => by
    simp only [tot]
    rw [tot_congr xs ys k (fun i hi => h i (by omega)), h k (by omega)]

/-- The sum of the first k numbers. -/
def su (zs : List Int) (k : Nat) : Int := fo (tot zs k)

theorem su_range (zs : List Int) (k : Nat) : 0 ≤ su zs k ∧ su zs k ≤ 65535 := ⟨fo_nonneg _, fo_le _⟩

theorem su_succ {zs : List Int} (h : Bytes zs) (k : Nat) : su zs (k + 1) = fo (su zs k + zs.getD k 0 * wt k) := by
  have hb := h.getD k
  have hw : wt k = 256 ∨ wt k = 1 := by unfold wt; split <;> simp
  unfold su
  rw [fo_add _ _ (tot_bd h k).1 (by rcases hw with hw | hw <;> rw [hw] <;> omega)]
  rfl

theorem bytes_of_wf {zs : List Int} (h : ∀ n ∈ zs, (Lit.int .u8 n).wf = true) : Bytes zs :=
  fun z hz => bounds_u8 (h z hz)
end Go.Proofs.Ytogkgchcjjoplab
