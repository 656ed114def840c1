/-
  The law VarintPuts for bytes too long and for numbers too great. Helper of the claim VarintPuts. No condition.
-/
import Derived.Test.YtkgmgmlicgjfdaaVpt
import Derived.Test.YtkgmgmlicgjfdaaVrb
import Derived.Test.YtkgmgmlicgjfdaaVtk
import Derived.Test.YtkgmgmlicgjfdaaGrow3
namespace Go.Proofs.Ytkgmgmlicgjfdaa
open Go.ChangeShapes Go.WideShapes Go.ChangeAt Go.RowKit
set_option linter.unusedVariables false
set_option maxRecDepth 100000
set_option maxHeartbeats 1000000 in
theorem walk_long (A : Option Addr) (c : Nat) (b : List Int) (n : Nat) (w : World) (hv : IsB b b.length (.slice A b.length c) w) (ho : Octets b) (hn : n < 18446744073709551616) (h5 : 500 < b.length) : Calls Try.prog 7 #[.slice A b.length c, .int .u64 (n : Int)] w fun e w' => e = .returned (.bool true) ∧ Below w.heap.size w w' := by
  clear hv ho
  have h : (500 : Int) < (b.length : Int) := by omega
  go_enter Try.func7, Try.ntmps7
  go_wp2_with fail
  refine (awake39 _).mono ?_
  rintro e w1 ⟨rfl, rfl⟩
  go_wp2_with fail
  go_ret
  exact ⟨rfl, Below.refl _ _⟩
set_option maxHeartbeats 1000000 in
theorem walk_no (A : Option Addr) (c : Nat) (b : List Int) (n : Nat) (w : World) (hv : IsB b b.length (.slice A b.length c) w) (ho : Octets b) (hn : n < 18446744073709551616) (h5 : ¬ 500 < b.length) (hlo : 4611686018427387904 ≤ n) : Calls Try.prog 7 #[.slice A b.length c, .int .u64 (n : Int)] w fun e w' => e = .returned (.bool true) ∧ Below w.heap.size w w' := by
  clear hv ho
  have h : ¬ (500 : Int) < (b.length : Int) := by omega
  go_enter Try.func7, Try.ntmps7
  go_wp2_with fail
  refine (vput_no A b.length c n _ hn hlo).mono ?_
  rintro e w1 ⟨rfl, rfl⟩
  go_wp2_with fail
  refine (vsize n hn _).mono ?_
  rintro e w1 ⟨rfl, ⟨k, hk, rfl, h1, h2⟩ | ⟨rfl, h1⟩⟩
  · exfalso
    have h : k = 0 ∨ k = 1 ∨ k = 2 ∨ k = 3 := by omega
    rcases h with rfl | rfl | rfl | rfl <;> simp [vbd] at h1 <;> omega
  clear h1
  go_wp2_with fail
  refine (rsize n hn _).mono ?_
  rintro e w1 ⟨rfl, ⟨k, hk, rfl, h1, h2⟩ | ⟨rfl, h1⟩⟩
  · exfalso
    have h : k = 0 ∨ k = 1 ∨ k = 2 ∨ k = 3 := by omega
    rcases h with rfl | rfl | rfl | rfl <;> simp [vbd] at h1 <;> omega
  clear h1
  go_wp2_with fail
  refine (rsize n hn _).mono ?_
  rintro e w1 ⟨rfl, ⟨k, hk, rfl, h1, h2⟩ | ⟨rfl, h1⟩⟩
  · exfalso
    have h : k = 0 ∨ k = 1 ∨ k = 2 ∨ k = 3 := by omega
    rcases h with rfl | rfl | rfl | rfl <;> simp [vbd] at h1 <;> omega
  clear h1 hlo
  go_wp2_with fail
  refine (awake39 _).mono ?_
  rintro e w1 ⟨rfl, rfl⟩
  go_wp2_with fail
  go_ret
  exact ⟨rfl, Below.refl _ _⟩


end Go.Proofs.Ytkgmgmlicgjfdaa
