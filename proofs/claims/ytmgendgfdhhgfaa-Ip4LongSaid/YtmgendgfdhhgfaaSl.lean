/-
  A part of a slice of bytes, as one step of a walk: the new slice's address is a name, so that the walk does not part. Nothing here speaks of a Go function. No condition.
-/
import Derived.Test.YtmgendgfdhhgfaaUdp
namespace Go.Proofs.Ytmgendgfdhhgfaa
open Go.ChangeShapes Go.WideShapes Go.ChangeAt Go.RowKit
set_option linter.unusedSimpArgs false
set_option linter.unusedVariables false
set_option maxRecDepth 100000
theorem run_sl2 (o : Oper) (ρ : Operand → Value) (w : World) (x lo hi : Operand) (ho : o.op = .slice 22 x (some lo) (some hi) none) {A : Option Addr} {n c i k : Nat}
    (hx : ρ x = .slice A n c) (hlo : ρ lo = .int .i64 (i : Int)) (hhi : ρ hi = .int .i64 ((i : Int) + (k : Int))) (hb : i + k ≤ n) (hn : n ≤ c) (hc : c ≤ maxLen) :
    (execOp ρ o).run Try.prog w = .ok (.value (.slice (if c = i then A else A.map (·.add i)) k (c - i))) w := by
  unfold maxLen at hc
  have s1 : (0 : Int) ≤ (i : Int) + (k : Int) := by omega
  have s2 : (i : Int) + (k : Int) ≤ (c : Int) := by omega
  have s3 : (i : Int) ≤ max ((i : Int) + (k : Int)) 0 := by omega
  have s4 : ((i : Int) + (k : Int)).toNat - i = k := by omega
  have s5 : (0 : Int) ≤ (i : Int) := by omega
  have s6 : ¬ ((i : Int) + (k : Int) < (i : Int)) := by omega
  simp [execOp, ho, go_sem, hx, hlo, hhi, s1, s2, s3, s4, s5, s6]
theorem run_sl1 (o : Oper) (ρ : Operand → Value) (w : World) (x lo : Operand) (ho : o.op = .slice 22 x (some lo) none none) {A : Option Addr} {n c i : Nat}
    (hx : ρ x = .slice A n c) (hlo : ρ lo = .int .i64 (i : Int)) (hb : i ≤ n) (hn : n ≤ c) (hc : c ≤ maxLen) :
    (execOp ρ o).run Try.prog w = .ok (.value (.slice (if c = i then A else A.map (·.add i)) (n - i) (c - i))) w := by
  unfold maxLen at hc
  have s2 : (n : Int) ≤ (c : Int) := by omega
  have s3 : (i : Int) ≤ (n : Int) := by omega
  have s5 : (0 : Int) ≤ (i : Int) := by omega
  simp [execOp, ho, go_sem, hx, hlo, s2, s3, s5, hb, hn]
theorem sl_q2 {w : World} {ops : Array Oper} {rest : List Oper} {o : Oper} {a : Act} {Q : Exit → Act → World → Prop} (x lo hi : Operand) (ho : o.op = .slice 22 x (some lo) (some hi) none) (hgd : o.guard = none)
    {A : Option Addr} {n c i k : Nat} {l : List Int} (hx : a.eval x = .slice A n c) (hlo : a.eval lo = .int .i64 (i : Int)) (hhi : a.eval hi = .int .i64 ((i : Int) + (k : Int))) (hl : IsB l n (.slice A n c) w) (hb : i + k ≤ n)
    (h : ∀ X c', IsB ((l.drop i).take k) k (.slice X k c') w → wpList Try.prog ops Q rest (a.put o.dst (.slice X k c')) w) : wpList Try.prog ops Q (o :: rest) a w := by
  obtain ⟨q1, q2⟩ := hl.caps
  refine wpList_plain hgd fun K hK => ?_
  unfold Oper.wp
  rw [run_sl2 o a.eval w x lo hi ho hx hlo hhi hb q1 q2]
  exact hK _ _ (h _ _ (hl.part hb))
theorem sl_q1 {w : World} {ops : Array Oper} {rest : List Oper} {o : Oper} {a : Act} {Q : Exit → Act → World → Prop} (x lo : Operand) (ho : o.op = .slice 22 x (some lo) none none) (hgd : o.guard = none)
    {A : Option Addr} {n c i k : Nat} {l : List Int} (hx : a.eval x = .slice A n c) (hlo : a.eval lo = .int .i64 (i : Int)) (hl : IsB l n (.slice A n c) w) (hb : i + k = n)
    (h : ∀ X c', IsB (l.drop i) k (.slice X k c') w → wpList Try.prog ops Q rest (a.put o.dst (.slice X k c')) w) : wpList Try.prog ops Q (o :: rest) a w := by
  obtain ⟨q1, q2⟩ := hl.caps
  refine wpList_plain hgd fun K hK => ?_
  unfold Oper.wp
  rw [run_sl1 o a.eval w x lo ho hx hlo (by omega) q1 q2]
  rw [show n - i = k from by omega]
  have hp := hl.part (i := i) (k := k) (by omega)
  obtain ⟨A', c', e, h1, _⟩ := id hl
  have e6 : ((l.drop i).take k) = l.drop i := List.take_of_length_le (by rw [List.length_drop]; omega)
  rw [e6] at hp
  exact hK _ _ (h _ _ hp)
end Go.Proofs.Ytmgendgfdhhgfaa
