/-
  Set, Equal and the example of layer 1: what each call returns. Helper of the claims.
-/
import Derived.Test.YthjkjohmaemmiaaRd
import Derived.Test.YthjkjohmaemmiaaRef01
import Derived.Deep.RegionHeld3
import Derived.Deep.RegionLaw
namespace Go.Proofs.Ythjkjohmaemmiaa
open Go.ChangeShapes Go.WideShapes Go.ChangeAt Go.RowKit
set_option linter.unusedSimpArgs false
set_option linter.unusedVariables false

set_option maxRecDepth 100000 in
set_option maxHeartbeats 1000000 in
theorem equal_any (A X : Option Addr) (c d : Nat) (l x : List Int) (w : World) (B B' : Nat) (h : Bytes w B A l) (hx : Bytes w B' X x) :
    Calls Try.prog 110 #[.slice A l.length c, .slice X x.length d] w fun e w' => e = .returned (.bool ((strOfNums l).toList == (strOfNums x).toList)) ∧ w = w' := by
  have h1 := convert_bytes (P := Try.prog) h c 22 5 9 Try.underlying22 Try.underlying5 Try.underlying9
  have h2 := convert_bytes (P := Try.prog) hx d 22 5 9 Try.underlying22 Try.underlying5 Try.underlying9
  clear h hx
  go_enter Try.func110, Try.ntmps110
  go_wp2_with fail
  go_ret
  exact ⟨ret_bool rfl, rfl⟩
set_option maxRecDepth 100000 in
set_option maxHeartbeats 1000000 in
theorem oequal_any (A X : Option Addr) (c d : Nat) (l x : List Int) (w : World) (B B' : Nat) (h : Bytes w B A l) (hx : Bytes w B' X x) :
    Calls Try.prog 77 #[.slice A l.length c, .slice X x.length d] w fun e w' => e = .returned (.bool ((strOfNums l).toList == (strOfNums x).toList)) ∧ w = w' := by
  have HA := Lib.hid h; have HX := Lib.hid hx
  clear h hx
  go_enter Try.func77, Try.ntmps77
  go_wp2_with fail
  refine (equal_any A X c d l x w B B' HA.out HX.out).mono ?_
  rintro e w' ⟨rfl, rfl⟩
  go_wp2_with fail
  go_ret
  exact ⟨rfl, rfl⟩
theorem str_self (l : List Int) : ((strOfNums l).toList == (strOfNums l).toList) = true := by simp
theorem equal_p {l x : List Int} {n m : Nat} {v u : Value} {w : World} (h : IsB l n v w) (hx : IsB x m u w) : Calls Try.prog 77 #[v, u] w fun e w'' => ∃ r, e = .returned r ∧ Below w.heap.size w w'' ∧ r = .bool ((strOfNums l).toList == (strOfNums x).toList) := by
  obtain ⟨A, c, rfl, rfl, h2, _⟩ := h
  obtain ⟨X, d, rfl, rfl, h4, _⟩ := hx
  exact (oequal_any A X c d l x w _ _ h2 h4).mono fun e w' ⟨h, h'⟩ => ⟨_, h, by subst h'; exact Below.refl _ _, rfl⟩
end Go.Proofs.Ythjkjohmaemmiaa
