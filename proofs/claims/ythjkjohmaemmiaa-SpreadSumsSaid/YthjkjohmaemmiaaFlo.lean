/-
  A flow as a parameter. Helper of the claims that take one. No condition.
-/
import Derived.Test.YthjkjohmaemmiaaAk
import Derived.ProofKit
import Derived.OpenShut
import Derived.Lib.SmallJoins
namespace Go.Proofs.Ythjkjohmaemmiaa
open Go.ChangeShapes Go.WideShapes Go.ChangeAt Go.RowKit
set_option linter.unusedSimpArgs false
set_option linter.unusedVariables false
set_option maxRecDepth 100000
section
open Go.Deep Go.Joins
variable {H : Type} {enc : TypeId × Value → H} {w : World} {held : Bool} {spare : Nat → Bool}
theorem natq_of {x b : Int} (h : 0 ≤ x ∧ x ≤ b) : ∃ n : Nat, x = (n : Int) ∧ (n : Int) ≤ b := ⟨x.toNat, by omega, by omega⟩
theorem list9 : ∀ {l : List Value}, l.length = 9 → ∃ c0 c1 c2 c3 c4 c5 c6 c7 c8, l = [c0, c1, c2, c3, c4, c5, c6, c7, c8]
  | [c0, c1, c2, c3, c4, c5, c6, c7, c8], _ => ⟨c0, c1, c2, c3, c4, c5, c6, c7, c8, rfl⟩
theorem array9 {cs : Array Value} (h : cs.size = 9) : ∃ c0 c1 c2 c3 c4 c5 c6 c7 c8, cs = #[c0, c1, c2, c3, c4, c5, c6, c7, c8] := by
  obtain ⟨l⟩ := cs
  obtain ⟨c0, c1, c2, c3, c4, c5, c6, c7, c8, rfl⟩ := list9 (l := l) h
  exact ⟨c0, c1, c2, c3, c4, c5, c6, c7, c8, rfl⟩
theorem open_addr {n : Nat} {c0 c1 c2 : Value} {y : DataW H × List MemPlace} (h : DataW.trod enc Try.prog w 0 spare held n 25 [c0, c1, c2] = some y) : ∃ (b : Bool) (hi lo : Nat), c0 = .bool b ∧ c1 = .int .u64 (hi : Int) ∧ c2 = .int .u64 (lo : Int) ∧ (hi : Int) ≤ 18446744073709551615 ∧ (lo : Int) ≤ 18446744073709551615 := by
  obtain ⟨xs, m, _, _, hl, hlen, hf⟩ := DataW.trod_struct Try.underlying25 h
  match xs, hlen with
  | [y0, y1, y2], _ =>
    have g0 : DataW.trod enc Try.prog w 0 spare held m 4 [c0] = some y0 := hf 0 _ rfl
    have g1 : DataW.trod enc Try.prog w 0 spare held m 23 [c1] = some y1 := hf 1 _ rfl
    have g2 : DataW.trod enc Try.prog w 0 spare held m 23 [c2] = some y2 := hf 2 _ rfl
    obtain ⟨z0, e0, _⟩ := DataW.trod_bool Try.underlying4 g0
    obtain ⟨z1, e1, _, w1⟩ := DataW.trod_int Try.underlying23 g1
    obtain ⟨k1, rfl, b1⟩ := natq_of (bounds_u64 w1)
    obtain ⟨z2, e2, _, w2⟩ := DataW.trod_int Try.underlying23 g2
    obtain ⟨k2, rfl, b2⟩ := natq_of (bounds_u64 w2)
    cases e0; cases e1; cases e2
    exact ⟨z0, k1, k2, rfl, rfl, rfl, b1, b2⟩
theorem open_flow {r : Reach} {b0 : Nat} {v : Value} {d : DataW H} {p : List MemPlace} (hv : Value.okWide Try.prog w r b0 28 v) (h : DataW.Trod enc Try.prog w 0 spare held 28 v d p) :
    ∃ (s6 : Bool) (sh sl : Nat) (d6 : Bool) (dh dl sp dp po : Nat), v = .agg #[.bool s6, .int .u64 (sh : Int), .int .u64 (sl : Int), .bool d6, .int .u64 (dh : Int), .int .u64 (dl : Int), .int .u16 (sp : Int), .int .u16 (dp : Int), .int .u8 (po : Int)] ∧ sh < 18446744073709551616 ∧ sl < 18446744073709551616 ∧ dh < 18446744073709551616 ∧ dl < 18446744073709551616 ∧ sp ≤ 65535 ∧ dp ≤ 65535 ∧ po ≤ 255 := by
  have hu := Try.underlying28
  obtain ⟨cs, rfl, hsz⟩ := okWide_struct hu hv
  obtain ⟨c0, c1, c2, c3, c4, c5, c6, c7, c8, rfl⟩ := array9 (hsz.trans (by kernel_rfl))
  obtain ⟨fuel, hf⟩ := h
  obtain ⟨xs, n, _, _, hl, hlen, hf⟩ := DataW.trod_struct hu hf
  match xs, hlen with
  | [y0, y1, y2, y3, y4], _ =>
    have g0 : DataW.trod enc Try.prog w 0 spare held n 25 [c0, c1, c2] = some y0 := hf 0 _ rfl
    have g1 : DataW.trod enc Try.prog w 0 spare held n 25 [c3, c4, c5] = some y1 := hf 1 _ rfl
    have g2 : DataW.trod enc Try.prog w 0 spare held n 26 [c6] = some y2 := hf 2 _ rfl
    have g3 : DataW.trod enc Try.prog w 0 spare held n 26 [c7] = some y3 := hf 3 _ rfl
    have g4 : DataW.trod enc Try.prog w 0 spare held n 5 [c8] = some y4 := hf 4 _ rfl
    obtain ⟨s6, sh, sl, rfl, rfl, rfl, b5, b6⟩ := open_addr g0
    obtain ⟨d6, dh, dl, rfl, rfl, rfl, b7, b8⟩ := open_addr g1
    obtain ⟨z2, e2, _, w2⟩ := DataW.trod_int Try.underlying26 g2
    obtain ⟨k2, rfl, b2⟩ := natq_of (bounds_u16 w2)
    obtain ⟨z3, e3, _, w3⟩ := DataW.trod_int Try.underlying26 g3
    obtain ⟨k3, rfl, b3⟩ := natq_of (bounds_u16 w3)
    obtain ⟨z4, e4, _, w4⟩ := DataW.trod_int Try.underlying5 g4
    obtain ⟨k4, rfl, b4⟩ := natq_of (bounds_u8 w4)
    cases e2; cases e3; cases e4
    exact ⟨s6, sh, sl, d6, dh, dl, k2, k3, k4, rfl, by omega, by omega, by omega, by omega, by omega, by omega, by omega⟩
end
end Go.Proofs.Ythjkjohmaemmiaa
