/-
  New of package spread where it refuses; powers of two; what is left of the one that has gone. Helper of the claim SpreadPlaces. No condition.
-/
import Derived.Test.YtkebgkjopfdafaaSp4
namespace Go.Proofs.Ytkebgkjopfdafaa
open Go.ChangeShapes Go.WideShapes Go.ChangeAt Go.RowKit
set_option linter.unusedVariables false
set_option maxRecDepth 100000
theorem fil_not (l : List Int) (g : Int) : ∀ k, ∀ x ∈ fil l g k, x ≠ g
  | 0, x, h => by simp [fil] at h
  | k + 1, x, h => by
    unfold fil at h
    split at h
    · exact fil_not l g k x h
    · rename_i hne
      rcases List.mem_append.1 h with h | h
      · exact fil_not l g k x h
      · rw [List.mem_singleton.1 h]; exact hne
theorem wof_not {left l : List Int} {g : Int} (hl : 0 < left.length) (hx : ∀ x ∈ left, x ≠ g) (i : Nat) : wof left g l i ≠ g := by
  unfold wof
  split
  · have hm : cnt l g i % left.length < left.length := Nat.mod_lt _ hl
    have e : at0 left (cnt l g i % left.length) = left[cnt l g i % left.length] := by simp [at0, List.getD, hm]
    rw [e]; exact hx _ (List.getElem_mem hm)
  · assumption
theorem cnt_none {l : List Int} {g : Int} : ∀ k, (∀ i, i < k → at0 l i ≠ g) → cnt l g k = 0
  | 0, _ => rfl
  | k + 1, h => by
    unfold cnt
    rw [if_neg (h k (by omega)), cnt_none k fun i hi => h i (by omega)]
theorem cnt_gone {left l : List Int} {g : Int} (hl : 0 < left.length) (hx : ∀ x ∈ left, x ≠ g) : cnt (wst left g l l.length) g l.length = 0 :=
  cnt_none _ fun i hi => by rw [wst_at hi, if_pos hi]; exact wof_not hl hx i
theorem p2_range {n : Int} (h : P2 n) : 1 ≤ n ∧ n ≤ 4096 ∧ bits .and .i64 n (n - 1) = 0 := by
  obtain ⟨k, hk, rfl⟩ := h
  have hk' : k = 0 ∨ k = 1 ∨ k = 2 ∨ k = 3 ∨ k = 4 ∨ k = 5 ∨ k = 6 ∨ k = 7 ∨ k = 8 ∨ k = 9 ∨ k = 10 ∨ k = 11 ∨ k = 12 := by omega
  rcases hk' with rfl | rfl | rfl | rfl | rfl | rfl | rfl | rfl | rfl | rfl | rfl | rfl | rfl <;> decide
theorem p2_scan : (List.range 513).all (fun n => n == 0 || (List.range 13).any (fun k => (n : Int) == 2 ^ k) || (bits .and .i64 (n : Int) ((n : Int) - 1) != 0)) = true := by kernel_rfl
theorem p2_not {n : Int} (h : ¬ P2 n) (h1 : 1 ≤ n) (h2 : n ≤ 512) : bits .and .i64 n (n - 1) ≠ 0 := by
  obtain ⟨m, rfl⟩ : ∃ m : Nat, n = m := ⟨n.toNat, by omega⟩
  have hs := List.all_eq_true.1 p2_scan m (List.mem_range.2 (by omega))
  rw [Bool.or_eq_true, Bool.or_eq_true] at hs
  rcases hs with (hs | hs) | hs
  · have := eq_of_beq hs; omega
  · obtain ⟨k, hk, he⟩ := List.any_eq_true.1 hs
    exact absurd ⟨k, by have := List.mem_range.1 hk; omega, eq_of_beq he⟩ h
  · intro e; rw [e] at hs; exact absurd hs (by decide)
set_option maxHeartbeats 400000 in
theorem new_b0 (n : Int) (A : Option Addr) (c : Nat) (m : Nat) (w : World) (hm : m = 0) :
    Calls Try.prog 64 #[.int .i64 n, .slice A m c] w fun e w' => e = .returned (.tuple #[.agg #[.slice none 0 0], .int .i64 1]) ∧ Below w.heap.size w w' := by
  subst hm
  have hb0 : Below w.heap.size w (w.alloc (.cells #[.slice none 0 0] 111)) := (Below.refl _ _).alloc (Nat.le_refl _) _
  have h6 := Is.new w 111 #[.slice none 0 0]
  go_enter Try.func64, Try.ntmps64
  go_wp2_with fail
  have z0 := h6.cell 0
  have zf := h6.free 0
  have zl := h6.lt
  refine bodyPost_ret (v := .tuple #[.agg #[.slice none 0 0], .int .i64 1]) (by simp [results, Try.results64, go_sem]) rfl ⟨rfl, ?_⟩
  repeat' first | with_reducible exact hb0 | with_reducible apply Below.setCell
  all_goals simp
set_option maxHeartbeats 400000 in
theorem new_b1 (n : Int) (A : Option Addr) (c : Nat) (m : Nat) (w : World) (hm : 0 < m) (h1 : ¬ 1 ≤ n) :
    Calls Try.prog 64 #[.int .i64 n, .slice A m c] w fun e w' => e = .returned (.tuple #[.agg #[.slice none 0 0], .int .i64 1]) ∧ Below w.heap.size w w' := by
  have hn0 : ((m : Int) == 0) = false := by rw [beq_eq_false_iff_ne]; omega
  have h2 : n < 1 := by omega
  have hb0 : Below w.heap.size w (w.alloc (.cells #[.slice none 0 0] 111)) := (Below.refl _ _).alloc (Nat.le_refl _) _
  have h6 := Is.new w 111 #[.slice none 0 0]
  go_enter Try.func64, Try.ntmps64
  go_wp2_with fail
  have z0 := h6.cell 0
  have zf := h6.free 0
  have zl := h6.lt
  refine bodyPost_ret (v := .tuple #[.agg #[.slice none 0 0], .int .i64 1]) (by simp [results, Try.results64, go_sem]) rfl ⟨rfl, ?_⟩
  repeat' first | with_reducible exact hb0 | with_reducible apply Below.setCell
  all_goals simp
set_option maxHeartbeats 400000 in
theorem new_b2 (n : Int) (A : Option Addr) (c : Nat) (m : Nat) (w : World) (hm : 0 < m) (h1 : 4096 < n) :
    Calls Try.prog 64 #[.int .i64 n, .slice A m c] w fun e w' => e = .returned (.tuple #[.agg #[.slice none 0 0], .int .i64 1]) ∧ Below w.heap.size w w' := by
  have hn0 : ((m : Int) == 0) = false := by rw [beq_eq_false_iff_ne]; omega
  have h2 : ¬ n < 1 := by omega
  have hb0 : Below w.heap.size w (w.alloc (.cells #[.slice none 0 0] 111)) := (Below.refl _ _).alloc (Nat.le_refl _) _
  have h6 := Is.new w 111 #[.slice none 0 0]
  go_enter Try.func64, Try.ntmps64
  go_wp2_with fail
  have z0 := h6.cell 0
  have zf := h6.free 0
  have zl := h6.lt
  refine bodyPost_ret (v := .tuple #[.agg #[.slice none 0 0], .int .i64 1]) (by simp [results, Try.results64, go_sem]) rfl ⟨rfl, ?_⟩
  repeat' first | with_reducible exact hb0 | with_reducible apply Below.setCell
  all_goals simp
set_option maxHeartbeats 400000 in
theorem new_b3 (n : Int) (A : Option Addr) (c : Nat) (m : Nat) (w : World) (hm : 0 < m) (h1 : 1 ≤ n) (h4 : n ≤ 4096) (hx : bits .and .i64 n (n - 1) ≠ 0) :
    Calls Try.prog 64 #[.int .i64 n, .slice A m c] w fun e w' => e = .returned (.tuple #[.agg #[.slice none 0 0], .int .i64 1]) ∧ Below w.heap.size w w' := by
  have hn0 : ((m : Int) == 0) = false := by rw [beq_eq_false_iff_ne]; omega
  have h2 : ¬ n < 1 := by omega
  have h3 : ¬ 4096 < n := by omega
  have hz : (bits .and .i64 n (n - 1) == 0) = false := by simp [hx]
  have hb0 : Below w.heap.size w (w.alloc (.cells #[.slice none 0 0] 111)) := (Below.refl _ _).alloc (Nat.le_refl _) _
  have h6 := Is.new w 111 #[.slice none 0 0]
  go_enter Try.func64, Try.ntmps64
  go_wp2_with fail
  have z0 := h6.cell 0
  have zf := h6.free 0
  have zl := h6.lt
  refine bodyPost_ret (v := .tuple #[.agg #[.slice none 0 0], .int .i64 1]) (by simp [results, Try.results64, go_sem]) rfl ⟨rfl, ?_⟩
  repeat' first | with_reducible exact hb0 | with_reducible apply Below.setCell
  all_goals simp
theorem new_bad (n : Int) (A : Option Addr) (c : Nat) (m : Nat) (w : World) (h : m = 0 ∨ ¬ P2 n) (hn : n ≤ 512 ∨ 4096 < n) :
    Calls Try.prog 64 #[.int .i64 n, .slice A m c] w fun e w' => e = .returned (.tuple #[.agg #[.slice none 0 0], .int .i64 1]) ∧ Below w.heap.size w w' := by
  by_cases hm : m = 0
  · exact new_b0 n A c m w hm
  · have hp : ¬ P2 n := h.resolve_left hm
    by_cases h1 : 1 ≤ n
    · by_cases h4 : 4096 < n
      · exact new_b2 n A c m w (by omega) h4
      · exact new_b3 n A c m w (by omega) h1 (by omega) (p2_not hp h1 (by omega))
    · exact new_b1 n A c m w (by omega) h1
end Go.Proofs.Ytkebgkjopfdafaa
