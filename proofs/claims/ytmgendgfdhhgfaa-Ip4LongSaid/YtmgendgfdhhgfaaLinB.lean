/-
  What is known of a slice of bytes that an operation yields, and how it reads as a string. Nothing here speaks of a Go function. No condition.
-/
import Derived.Test.YtmgendgfdhhgfaaLin
import Derived.Test.YtmgendgfdhhgfaaByte
namespace Go.Proofs.Ytmgendgfdhhgfaa
open Go.ChangeShapes Go.WideShapes Go.ChangeAt Go.RowKit
set_option linter.unusedSimpArgs false
set_option linter.unusedVariables false

theorem conv_at {w : World} {B : Nat} {A : Option Addr} {l : List Int} (h : Bytes w B A l) (c : Nat) : (convert 22 9 (.slice A l.length c)).run Try.prog w = .ok (.string (strOfNums l)) w :=
  convert_bytes (P := Try.prog) h c 22 5 9 Try.underlying22 Try.underlying5 Try.underlying9
theorem conv_n {w : World} {B : Nat} {A : Option Addr} {l : List Int} {n : Nat} (h : Bytes w B A l) (hn : l.length = n) (c : Nat) : (convert 22 9 (.slice A n c)).run Try.prog w = .ok (.string (strOfNums l)) w := by
  subst hn; exact conv_at h c
/-- v is a slice of n bytes that reads as l. -/
def IsB (l : List Int) (n : Nat) (v : Value) (w : World) : Prop := ∃ A c, v = .slice A n c ∧ l.length = n ∧ Bytes w w.heap.size A l ∧ n ≤ c ∧ c ≤ maxLen ∧ (A = none → c = 0)
theorem IsB.st {l : List Int} {n : Nat} {v : Value} {w w' : World} (h : IsB l n v w) (hb : Below w.heap.size w w') : IsB l n v w' := by
  obtain ⟨A, c, e, h1, h2, h3⟩ := h
  exact ⟨A, c, e, h1, (h2.below hb).more hb.size, h3⟩
theorem IsB.conv {l : List Int} {n : Nat} {v : Value} {w : World} (h : IsB l n v w) : (convert 22 9 v).run Try.prog w = .ok (.string (strOfNums l)) w := by
  obtain ⟨A, c, rfl, h1, h2, _⟩ := h
  exact conv_n h2 h1 c
theorem IsB.own {w : World} {base n c : Nat} {A : Option Addr} {l : List Int} (h : OwnB w base (.slice A n c) l) : IsB l n (.slice A n c) w := by
  obtain ⟨A', c', e⟩ := h.shape
  injection e with e1 e2 e3
  obtain ⟨k1, k2, k3⟩ := h.cap
  exact ⟨A, c, rfl, e2.symm, h.bytes, by omega, k2, k3⟩
theorem IsB.eqlen {l : List Int} {n m : Nat} {v : Value} {w : World} (h : IsB l n v w) (e : n = m) : IsB l m v w := by subst e; exact h
def Lin.Spec.sl (l : List Int) (n : Nat) : Lin.Spec Lin.Keeps := ⟨IsB l n, IsB.st⟩
/-- The same, and it does not lie in block g. -/
def IsBg (g : Nat) (l : List Int) (n : Nat) (v : Value) (w : World) : Prop := IsB l n v w ∧ ∀ b off m c, v = .slice (some ⟨b, off, none⟩) m c → b ≠ g
theorem IsBg.st {g : Nat} {l : List Int} {n : Nat} {v : Value} {w w' : World} (h : IsBg g l n v w) (hb : w.grownBy w' (some g)) : IsBg g l n v w' := by
  obtain ⟨⟨A, c, e, h1, h2, h3⟩, h4⟩ := h
  refine ⟨⟨A, c, e, h1, ?_, h3⟩, h4⟩
  exact (Arr.only h2 hb (Nat.le_refl _) (fun b off hA => h4 b off n c (by rw [e, hA]))).more hb.size
def Lin.Spec.slg (g : Nat) (l : List Int) (n : Nat) : Lin.Spec (Lin.But g) := ⟨IsBg g l n, IsBg.st⟩
theorem IsBg.own {w : World} {base n c g : Nat} {A : Option Addr} {l : List Int} (h : OwnB w base (.slice A n c) l) (hg : g < base) : IsBg g l n (.slice A n c) w := by
  refine ⟨IsB.own h, fun b off m c' e => ?_⟩
  injection e with e1 e2 e3
  subst e1
  have := World.ownsRow.lt h b (by simp [Value.ownBlock])
  omega
theorem IsB.maxlen {l : List Int} {n : Nat} {v : Value} {w : World} (h : IsB l n v w) : n ≤ maxLen := by
  obtain ⟨A, c, rfl, h1, h2, h3, h4, _⟩ := h; omega
section
open Go.ChangeShapes Go.WideShapes Go.Deep
variable {H : Type} {enc : TypeId × Value → H} {P : Program} {w : World} {held : Bool} {spare : Nat → Bool}
/-- A slice of bytes that came in. -/
theorem open_isb {t e : TypeId} {n c : Nat} {A : Option Addr} {d : DataW H} {p : List MemPlace} (ht : P.underlying t = some (.slice e)) (he : P.underlying e = some (.int .u8)) (hs : P.cellsOf e = 1)
    (h : DataW.Trod enc P w 0 spare held t (.slice A n c) d p) :
    ∃ l : List Int, l.length = n ∧ Octets l ∧ IsB l l.length (.slice A l.length c) w ∧ Bytes w w.heap.size A l := by
  obtain ⟨hnc, hcm, _⟩ := open_els ht hs (by omega) h
  obtain ⟨l, rfl, h1, h2, h3, h4⟩ := open_bytes_of ht he hs h
  refine ⟨l, rfl, h4, ⟨A, c, rfl, rfl, h3, h1, hcm, fun hA => ?_⟩, h3⟩
  obtain ⟨fuel, hf⟩ := h
  rcases open_slice ht hf with ⟨h0, _⟩ | ⟨a, len, cap, m, fu, D, Pl, hcs, _⟩
  · simp [Value.cells] at h0; exact h0.2.2
  · simp [Value.cells] at hcs; rw [hA] at hcs; cases hcs.1
end
end Go.Proofs.Ytmgendgfdhhgfaa
