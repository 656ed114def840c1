/-
  The example of layer 10 and Fold: what each call returns. Helper of the claims on layers 10 and 11.
-/
import Derived.Test.YthjkjohmaemmiaaSip5
namespace Go.Proofs.Ythjkjohmaemmiaa
open Go.ChangeShapes Go.WideShapes Go.ChangeAt Go.RowKit
set_option linter.unusedSimpArgs false
set_option linter.unusedVariables false
def kst (i : Nat) : List Int := (List.range 16).map fun j => if j < i then (j : Int) else 0
theorem kst_len (i : Nat) : (kst i).length = 16 := by simp [kst]
theorem kst_step {i : Nat} (h : i < 16) : (kst i).set i (i : Int) = kst (i + 1) := by
  apply List.ext_getElem?
  intro j
  rw [List.getElem?_set]
  by_cases hij : i = j
  · subst hij; rw [if_pos rfl, if_pos (by rw [kst_len]; exact h)]; simp [kst, h]
  · rw [if_neg hij]
    by_cases hj : j < 16
    · simp only [kst, List.getElem?_map, List.getElem?_range hj, Option.map_some]
      congr 1
      by_cases h1 : j < i
      · rw [if_pos h1, if_pos (by omega)]
      · rw [if_neg h1, if_neg (by omega)]
    · rw [List.getElem?_eq_none (by rw [kst_len]; omega), List.getElem?_eq_none (by rw [kst_len]; omega)]
theorem is_raw {w : World} {g : Nat} {t : TypeId} {cs : Array Value} (h : Is w g t cs) : w.heap[g]? = some (.cells cs t (0, 0)) := by unfold Is at h; exact h
theorem kst_put {w : World} {g : Nat} {t : TypeId} {i : Nat} (h : Is w g t (u8s (kst i)).toArray) (hi : i < 16) : Is (w.setCell ⟨g, i, none⟩ (.int .u8 (i : Int))) g t (u8s (kst (i + 1))).toArray := by
  have := h.put i (.int .u8 (i : Int))
  rw [← kst_step hi, ← u8s_set]
  rw [List.setIfInBounds_toArray] at this
  exact this
def bst (i : Nat) : List Int := (List.range i).map fun (j : Nat) => (j : Int)
theorem bst_len (i : Nat) : (bst i).length = i := by simp [bst]
theorem bst_step (i : Nat) : bst i ++ [(i : Int)] = bst (i + 1) := by simp [bst, List.range_succ]
def WakeRel (w : World) (v i : Value) (wr : World) : Prop :=
  ∃ k : Nat, k ≤ 16 ∧ i = .int .i64 k ∧ Is wr w.heap.size 43 (u8s (kst k)).toArray ∧ OwnB wr (w.heap.size + 1) v (bst (min k 15)) ∧ Below w.heap.size w wr
def foldN (n : Nat) (s : Int) : Nat := if 1 ≤ s ∧ s ≤ 63 then n % 2 ^ s.toNat else n
set_option maxRecDepth 100000 in
set_option maxHeartbeats 4000000 in
theorem fold_mid (n k : Nat) (w : World) (k0 : 1 ≤ k) (k1 : k ≤ 63) (hn : n < 18446744073709551616) : Calls Try.prog 107 #[.int .u64 (n : Int), .int .i64 (k : Int)] w fun e w' => e = .returned (.int .u64 ((n % 2 ^ k : Nat) : Int)) ∧ w = w' := by
  have hp : 2 ^ k < 18446744073709551616 := Nat.lt_of_le_of_lt (Nat.pow_le_pow_right (by omega) k1) (by decide)
  have h1 : 1 ≤ 2 ^ k := Nat.one_le_two_pow
  have hw1 : IntKind.u64.wrap ((2 : Int) ^ k) = ((2 ^ k : Nat) : Int) := by rw [IntKind.wrap_u64]; rw [show ((2 : Int) ^ k) = ((2 ^ k : Nat) : Int) by simp]; omega
  have hw2 : IntKind.u64.wrap (((2 ^ k : Nat) : Int) - 1) = ((2 ^ k - 1 : Nat) : Int) := by rw [IntKind.wrap_u64]; omega
  have ha : bits .and .u64 (n : Int) ((2 ^ k - 1 : Nat) : Int) = ((n % 2 ^ k : Nat) : Int) := by rw [u64_and_nat _ _ hn (by omega), Nat.and_two_pow_sub_one_eq_mod]
  generalize n % 2 ^ k = r at *
  generalize 2 ^ k - 1 = q at *
  generalize 2 ^ k = p at *
  go_enter Try.func107, Try.ntmps107
  go_wp2_with fail
  go_ret
  exact ⟨rfl, rfl⟩
set_option maxRecDepth 100000 in
set_option maxHeartbeats 4000000 in
theorem fold_out (n : Nat) (s : Int) (w : World) (h : s < 1 ∨ (1 ≤ s ∧ 63 < s)) : Calls Try.prog 107 #[.int .u64 (n : Int), .int .i64 s] w fun e w' => e = .returned (.int .u64 (n : Int)) ∧ w = w' := by
  rcases h with h | ⟨h1, h⟩
  all_goals
    go_enter Try.func107, Try.ntmps107
    go_wp2_with fail
    go_ret
    exact ⟨rfl, rfl⟩
end Go.Proofs.Ythjkjohmaemmiaa
