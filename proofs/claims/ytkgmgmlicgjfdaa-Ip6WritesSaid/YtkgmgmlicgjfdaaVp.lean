/-
  Package varint: bound, power, Size; the document's power of two. Helper of the claims VarintPuts and VarintTakes. No condition.
-/
import Derived.Test.YtkgmgmlicgjfdaaByte
namespace Go.Proofs.Ytkgmgmlicgjfdaa
open Go.ChangeShapes Go.WideShapes Go.ChangeAt Go.RowKit
set_option linter.unusedVariables false
set_option maxRecDepth 100000
/-- All numbers below it fit into 2^k bytes. -/
def vbd (k : Nat) : Int := if k = 0 then 64 else if k = 1 then 16384 else if k = 2 then 1073741824 else 4611686018427387904
theorem vbound (k : Nat) (hk : k ≤ 3) (w : World) : Calls Try.prog 111 #[.int .i64 (k : Int)] w fun e w' => e = .returned (.int .u64 (vbd k)) ∧ w = w' := by
  have h : k = 0 ∨ k = 1 ∨ k = 2 ∨ k = 3 := by omega
  rcases h with rfl | rfl | rfl | rfl
  all_goals
    go_enter Try.func111, Try.ntmps111
    go_wp2_with fail
    go_ret
    exact ⟨by simp [vbd], rfl⟩
/-- Where the search for the power stands. -/
def VRel (n : Nat) (i : Value) : Prop := ∃ k : Nat, k ≤ 4 ∧ i = .int .i64 (k : Int) ∧ ∀ j, j < k → vbd j ≤ (n : Int)
/-- The power of n, if it has one. -/
def VPow (n : Nat) (w : World) (e : Ending) (w' : World) : Prop := w = w' ∧ ((∃ k : Nat, k ≤ 3 ∧ e = .returned (.tuple #[.int .i64 (k : Int), .bool true]) ∧ (n : Int) < vbd k ∧ ∀ j, j < k → vbd j ≤ (n : Int)) ∨ (e = .returned (.tuple #[.int .i64 0, .bool false]) ∧ 4611686018427387904 ≤ (n : Int)))
set_option maxHeartbeats 2000000 in
theorem vpower (n : Nat) (hn : n < 18446744073709551616) (w : World) : Calls Try.prog 110 #[.int .u64 (n : Int)] w (VPow n w) := by
  go_enter Try.func110, Try.ntmps110
  go_wp2_with fail
  go_loop [5] (fun i => VRel n i) (fun i => (4 - intOf i).toNat)
  case atStart => exact ⟨0, by omega, rfl, fun j h => by omega⟩
  case round =>
    obtain ⟨k, hk, rfl, hj⟩ := hrel
    have HJ := Lib.hid hj
    clear hj
    by_cases h4 : k = 4
    · subst h4
      go_wp2_with fail
      go_ret2
      exact ⟨rfl, .inr ⟨rfl, by have := HJ.out 3 (by omega); simp [vbd] at this; exact this⟩⟩
    · have h3 : k ≤ 3 := by omega
      have hlt : (k : Int) < 4 := by omega
      obtain ⟨b, hb⟩ : ∃ b, vbd k = b := ⟨_, rfl⟩
      have HB := Lib.hid hb
      have hc := fun W => vbound k h3 W
      rw [hb] at hc
      clear hb h4
      go_wp2_with fail
      refine (hc _).mono ?_
      rintro e w1 ⟨rfl, rfl⟩
      clear hc
      by_cases q : (n : Int) < b
      · go_wp2_with fail
        go_ret2
        exact ⟨rfl, .inl ⟨k, h3, rfl, by rw [HB.out]; exact q, HJ.out⟩⟩
      · go_wp2_with fail
        go_round
        case rel => exact ⟨k + 1, by omega, by go_num, fun j h => by
          by_cases e : j = k
          · subst e; rw [HB.out]; omega
          · exact HJ.out j (by omega)⟩
        case measure => simp [intOf]; omega
end Go.Proofs.Ytkgmgmlicgjfdaa
