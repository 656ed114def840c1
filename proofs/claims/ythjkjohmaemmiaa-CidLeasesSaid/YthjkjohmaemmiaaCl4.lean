/-
  The law CidLeases at every lease; a lease that comes from outside. Helper of the claim CidLeases. No condition.
-/
import Derived.Test.YthjkjohmaemmiaaCl3
import Derived.ProofKit
import Derived.OpenShut
import Derived.Lib.SmallJoins
namespace Go.Proofs.Ythjkjohmaemmiaa
open Go.ChangeShapes Go.WideShapes Go.ChangeAt Go.RowKit
set_option linter.unusedSimpArgs false
set_option linter.unusedVariables false
set_option maxRecDepth 100000

theorem leases_all (key : List Int) (hk : key.length = 16) (ho : Octets key) (n : Nat) (hn : n < 18446744073709551616) (a b cut : Nat) (ha64 : a < 18446744073709551616) (hb64 : b < 18446744073709551616) (hcut : cut < 18446744073709551616) (v s : Int) (w : World) :
    Calls Try.prog 7 #[.agg (rcs key n), .agg #[.int .u64 (a : Int), .int .u64 (b : Int)], .agg #[.int .i64 v, .int .i64 s], .int .u64 (cut : Int)] w fun e w' => e = .returned (.bool true) ∧ Below w.heap.size w w' := by
  by_cases h : cut ≤ lleft a b
  · exact leases_yes key hk ho n hn a b cut ha64 hb64 hcut v s h w
  · exact leases_no key hk ho n hn a b cut ha64 hb64 hcut v s (by omega) w
section
open Go.Deep Go.Joins
variable {H : Type} {enc : TypeId × Value → H} {w : World} {held : Bool} {spare : Nat → Bool}
theorem open_lease {r : Reach} {b0 : Nat} {v : Value} {d : DataW H} {p : List MemPlace} (hv : Value.okWide Try.prog w r b0 66 v) (h : DataW.Trod enc Try.prog w 0 spare held 66 v d p) : ∃ x y : Nat, v = .agg #[.int .u64 (x : Int), .int .u64 (y : Int)] ∧ x < 18446744073709551616 ∧ y < 18446744073709551616 := by
  obtain ⟨c0, c1, y0, y1, m, rfl, rfl, rfl, hy0, hy1⟩ := open_agg2 Try.underlying66 (by kernel_rfl) (by kernel_rfl) hv h
  obtain ⟨a, e0, _, w0⟩ := DataW.trod_int Try.underlying23 hy0
  obtain ⟨b, e1, _, w1⟩ := DataW.trod_int Try.underlying23 hy1
  cases e0; cases e1
  have b0 := bounds_u64 w0
  have b1 := bounds_u64 w1
  obtain ⟨m, rfl⟩ : ∃ m : Nat, a = (m : Int) := ⟨a.toNat, by omega⟩
  obtain ⟨k, rfl⟩ : ∃ k : Nat, b = (k : Int) := ⟨b.toNat, by omega⟩
  exact ⟨m, k, rfl, by omega, by omega⟩
end
end Go.Proofs.Ythjkjohmaemmiaa
