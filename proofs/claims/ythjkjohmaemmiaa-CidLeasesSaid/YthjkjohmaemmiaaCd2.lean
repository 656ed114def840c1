/-
  Parts of a slice of bytes in a drawn region. Helper of the claims of layer 13. No condition.
-/
import Derived.Test.YthjkjohmaemmiaaCd1
namespace Go.Proofs.Ythjkjohmaemmiaa
open Go.ChangeShapes Go.WideShapes Go.ChangeAt Go.RowKit
set_option linter.unusedSimpArgs false
set_option linter.unusedVariables false
set_option maxRecDepth 100000
theorem run_slfrom (o : Oper) (ρ : Operand → Value) (w : World) (x lo : Operand) (ho : o.op = .slice 22 x (some lo) none none) {A : Option Addr} {n c i : Nat}
    (hx : ρ x = .slice A n c) (hlo : ρ lo = .int .i64 (i : Int)) (hb : i ≤ n) (hn : n ≤ c) (hc : c ≤ maxLen) :
    (execOp ρ o).run Try.prog w = .ok (.value (.slice (if c = i then A else A.map (·.add i)) (n - i) (c - i))) w := by
  unfold maxLen at hc
  have s2 : (n : Int) ≤ (c : Int) := by omega
  have s3 : (i : Int) ≤ (n : Int) := by omega
  have s5 : (0 : Int) ≤ (i : Int) := by omega
  simp [execOp, ho, go_sem, hx, hlo, s2, s3, s5, hb, hn]
theorem run_slto (o : Oper) (ρ : Operand → Value) (w : World) (x hi : Operand) (ho : o.op = .slice 22 x none (some hi) none) {A : Option Addr} {n c k : Nat}
    (hx : ρ x = .slice A n c) (hhi : ρ hi = .int .i64 (k : Int)) (hb : k ≤ n) (hn : n ≤ c) (hc : c ≤ maxLen) :
    (execOp ρ o).run Try.prog w = .ok (.value (.slice A k c)) w := by
  unfold maxLen at hc
  have s2 : (k : Int) ≤ (c : Int) := by omega
  have s5 : (0 : Int) ≤ (k : Int) := by omega
  simp [execOp, ho, go_sem, hx, hhi, s2, s5]
theorem IsB.partk {l : List Int} {n c i k : Nat} {A : Option Addr} {w : World} (h : IsB l n (.slice A n c) w) (hi : i + k ≤ n) : IsB ((l.drop i).take k) k (.slice (if c = i then A else A.map (·.add i)) k (c - i)) w := by
  obtain ⟨A', c', e, h1, h2, h3, h4, h5⟩ := h
  injection e with e1 e2 e3; subst e1; subst e3
  refine ⟨_, _, rfl, by rw [List.length_take, List.length_drop]; omega, bytes_take (bytes_drop h2 i c (by omega)) k, by omega, by omega, fun h0 => ?_⟩
  by_cases hc : c = i
  · omega
  · rw [if_neg hc] at h0
    have := h5 (by simpa using h0); omega
theorem IsB.restk {l : List Int} {n c i : Nat} {A : Option Addr} {w : World} (h : IsB l n (.slice A n c) w) (hi : i ≤ n) : IsB (l.drop i) (n - i) (.slice (if c = i then A else A.map (·.add i)) (n - i) (c - i)) w := by
  have hp := h.partk (i := i) (k := n - i) (by omega)
  obtain ⟨A', c', e, h1, _⟩ := id h
  rw [List.take_of_length_le (by rw [List.length_drop]; omega)] at hp
  exact hp
theorem isbk_caps {l : List Int} {n c : Nat} {A : Option Addr} {w : World} (h : IsB l n (.slice A n c) w) : n ≤ c ∧ c ≤ maxLen := by
  obtain ⟨A', c', e, h1, h2, h3, h4, _⟩ := h
  injection e with e1 e2 e3; subst e3; exact ⟨h3, h4⟩
theorem isbk_len {l : List Int} {n : Nat} {v : Value} {w : World} (h : IsB l n v w) : l.length = n := by
  obtain ⟨A', c', e, h1, _⟩ := h; exact h1
theorem Lin.sl_from {o : Oper} {ρ : Operand → Value} {w : World} (x lo : Operand) (ho : o.op = .slice 22 x (some lo) none none) {A : Option Addr} {n c i : Nat} {l : List Int}
    (hx : ρ x = .slice A n c) (hlo : ρ lo = .int .i64 (i : Int)) (hl : IsB l n (.slice A n c) w) (hi : i ≤ n) : Lin.Runs Try.prog o (Lin.Spec.sl (l.drop i) (n - i)) ρ w := by
  obtain ⟨q1, q2⟩ := isbk_caps hl
  exact Lin.Runs.value (s := Lin.Spec.sl (l.drop i) (n - i)) Lin.keeps (run_slfrom o ρ w x lo ho hx hlo hi q1 q2) (hl.restk hi)
theorem Lin.sl_to {o : Oper} {ρ : Operand → Value} {w : World} {s : Lin.Spec Lin.Keeps} (x hi : Operand) (ho : o.op = .slice 22 x none (some hi) none) {A : Option Addr} {n c k : Nat} {l : List Int}
    (hx : ρ x = .slice A n c) (hhi : ρ hi = .int .i64 (k : Int)) (hl : IsB l n (.slice A n c) w) (hk : k ≤ n) (hs : s.p (.slice A k c) w) : Lin.Runs Try.prog o s ρ w := by
  obtain ⟨q1, q2⟩ := isbk_caps hl
  exact Lin.Runs.value Lin.keeps (run_slto o ρ w x hi ho hx hhi hk q1 q2) hs
theorem eqb_of {a b : List Int} (ha : Octets a) (hb : Octets b) : ((strOfNums a).toList == (strOfNums b).toList) = decide (a = b) := by
  by_cases h : a = b
  · subst h; simp
  · rw [decide_eq_false h, beq_eq_false_iff_ne]
    intro e
    exact h ((str_eq_iff ha hb).1 (by
      have e2 : (strOfNums a).data.toList = (strOfNums b).data.toList := by simpa [ByteArray.toList_eq] using e
      cases h1 : strOfNums a; cases h2 : strOfNums b; rw [h1, h2] at e2; simp at e2; rw [e2]))
end Go.Proofs.Ythjkjohmaemmiaa
