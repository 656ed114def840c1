/-
  What Parse of package udp and of the document's answer for layer 7 return. Helper of the claim UdpReads. No condition.
-/
import Derived.Test.YtkgmgmlicgjfdaaRq
namespace Go.Proofs.Ytkgmgmlicgjfdaa
open Go.ChangeShapes Go.WideShapes Go.ChangeAt Go.RowKit
set_option linter.unusedVariables false
set_option maxRecDepth 100000

/-- A datagram as a value. -/
def dg7 (s d m : Int) (v : Value) : Value := .agg #[.int .u16 s, .int .u16 d, .int .u16 m, v]
def Dg (w : World) (s d m : Int) (l : List Int) (n : Nat) (x : Int) (e : Ending) (w' : World) : Prop := ∃ v, e = .returned (.tuple #[dg7 s d m v, .int .i64 x]) ∧ Below w.heap.size w w' ∧ IsB l n v w'
theorem IsB.nil0 (w : World) : IsB [] 0 (.slice none 0 0) w := ⟨none, 0, rfl, rfl, Bytes.nil _ _ _, Nat.le_refl _, by unfold maxLen; omega, fun _ => rfl⟩
theorem IsB.caps {l : List Int} {n c : Nat} {A : Option Addr} {w : World} (h : IsB l n (.slice A n c) w) : n ≤ c ∧ c ≤ maxLen := by
  obtain ⟨A', c', e, _, _, h3, h4, _⟩ := h; injection e with _ _ e; subst e; exact ⟨h3, h4⟩
theorem IsB.part {l : List Int} {n c i k : Nat} {A : Option Addr} {w : World} (h : IsB l n (.slice A n c) w) (hi : i + k ≤ n) : IsB ((l.drop i).take k) k (.slice (if c = i then A else A.map (·.add i)) k (c - i)) w := by
  obtain ⟨A', c', e, h1, h2, h3, h4, h5⟩ := h
  injection e with e1 e2 e3; subst e1; subst e3
  refine ⟨_, _, rfl, by rw [List.length_take, List.length_drop]; omega, bytes_take (bytes_drop h2 i c (by omega)) k, by omega, by omega, fun h0 => ?_⟩
  by_cases hc : c = i
  · omega
  · rw [if_neg hc] at h0
    have := h5 (by simpa using h0); omega

end Go.Proofs.Ytkgmgmlicgjfdaa
