/-
  Two equal arrays of 16 bytes compare as equal. Helper of the claim on SiphashKeys.
-/
import Derived.Test.YthjkjohmaemmiaaKy4
import Derived.WideKeyArr2
import Derived.DeepKeys
namespace Go.Proofs.Ythjkjohmaemmiaa
open Go.ChangeShapes Go.WideShapes Go.ChangeAt Go.RowKit
set_option linter.unusedSimpArgs false
set_option linter.unusedVariables false
section
variable {P : Program} {k e : TypeId} {n : Nat}
theorem lits_u8 (he : P.underlying e = some (.int .u8)) {D : Nat} {p : List Int} (ho : Octets p) : ∀ (L : List Nat), (∀ i ∈ L, i < p.length) →
    ∃ ys, L.mapM (fun i => P.keyLits (D + 1) e (((u8s p).drop (i * 1)).take 1)) = some ys
  | [], _ => ⟨[], rfl⟩
  | i :: L, h => by
    obtain ⟨ys, hy⟩ := lits_u8 he ho L (fun j hj => h j (List.mem_cons_of_mem _ hj))
    have hi := h i List.mem_cons_self
    have e1 : ((u8s p).drop (i * 1)).take 1 = [.int .u8 (at0 p i)] := by
      rw [Nat.mul_one, List.take_one, List.head?_drop, u8s_get hi]; rfl
    have hw : (Lit.int .u8 (at0 p i)).wf = true := by
      have := ho i
      have m0 : IntKind.u8.min = 0 := by decide
      have m1 : IntKind.u8.max = 255 := by decide
      simp [Lit.wf, m0, m1]
      omega
    rw [List.mapM_cons, hy, e1]
    exact ⟨_, by simp [Program.keyLits, he, hw]; rfl⟩
theorem equal_key (A : WideMaps.ArrKey P k e n) (he : P.underlying e = some (.int .u8)) (hsz : ∃ m, P.types.size = m + 1) (hk : P.keyTypeAt 2 k = true) {p : List Int} (hn : p.length = n) (ho : Octets p) (w : World) :
    (Op.equal k (.agg (u8s p).toArray) (.agg (u8s p).toArray)).run P w = .ok true w := by
  have hkt := A.keyType hsz
  obtain ⟨m0, hm0⟩ := hsz
  have hnn : (u8s p).toArray.size = n := by simp [u8s, hn]
  obtain ⟨ys, hy⟩ := lits_u8 (P := P) (D := m0) he ho (List.range n) (fun i hi => by have := List.mem_range.1 hi; omega)
  have hkey : ∃ l, keyOf P k (.agg (u8s p).toArray) = some l := by
    unfold keyOf
    simp only [A.hu]
    rw [if_pos (by simp [hkt, Value.formed, A.hu, A.size, u8s, hn]), hm0]
    unfold Program.keyLits
    simp only [A.hu, Value.cells]
    rw [if_pos (by rw [A.size]; simp [u8s, hn]), A.one]
    rw [hy]
    exact ⟨_, rfl⟩
  obtain ⟨l, hl⟩ := hkey
  obtain ⟨r, hr, hiff⟩ := run_equal_deep w (by omega) hk (by rw [A.hu]) hl hl
  rw [hr, hiff.2 rfl]
end
theorem key_eql (p : List Int) (hn : p.length = 16) (ho : Octets p) (w : World) : (binOp .eql 43 (.agg (u8s p).toArray) (.agg (u8s p).toArray)).run Try.prog w = .ok (.bool true) w := by
  have h := equal_key (P := Try.prog) (k := 43) (e := 5) (n := 16) ⟨Try.underlying43, by kernel_rfl, by kernel_rfl, by kernel_rfl⟩ Try.underlying5 ⟨Try.prog.types.size - 1, by kernel_rfl⟩ (by kernel_rfl) hn ho w
  simp [binOp, Sem.run_bind, h]
theorem key_guard (x y : Operand) (a b : Array Value) (w : World) : (eqGuard .eql 43 x y (.agg a) (.agg b)).run Try.prog w = .ok () w :=
  run_eqGuard_agg (w := w) .eql 43 x y a b (by kernel_rfl)
theorem Lin.exec_keyeq {o : Oper} {x y : Operand} {ρ : Operand → Value} {a : Array Value} {w : World} (ho : o.op = .binOp .eql 43 x y 43) (hx : ρ x = .agg a) (hy : ρ y = .agg a)
    (he : (binOp .eql 43 (.agg a) (.agg a)).run Try.prog w = .ok (.bool true) w) : (execOp ρ o).run Try.prog w = .ok (.value (.bool true)) w := by
  unfold execOp
  simp only [ho, hx, hy, Sem.run_bind, key_guard, he, Result.andThen_ok, Sem.run_pure]
end Go.Proofs.Ythjkjohmaemmiaa
