/-
  Bytes appended to a row of the region's own, in a region that draws its order. Nothing here speaks of a Go function. No condition.
-/
import Derived.Test.YtmgendgfdhhgfaaGrow
namespace Go.Proofs.Ytmgendgfdhhgfaa
open Go.ChangeShapes Go.WideShapes Go.ChangeAt Go.RowKit
set_option linter.unusedSimpArgs false
set_option linter.unusedVariables false
/-- append(s, x...) onto a row of the region's own: the rows from before are as they were. -/
theorem exec_grow {P : Program} {ρ : Operand → Value} {o : Oper} {w : World} {s x : Operand} {t : TypeId} {B m k : Nat} {xs l : List Int}
    (ho : o.op = .call { callee := .builtin .append, args := #[s, x], argTypes := #[t, t] })
    (ht : P.underlying t = some (.slice 5)) (hi : (P.info? 5).map (fun i => (i.zero, i.size, i.bytes)) = some (some (.int .u8 0), 1, 1))
    (hs : OwnP B xs m (ρ s) w) (hx : IsB l k (ρ x) w) (hm : xs.length = m) (hn : m + k ≤ 100000000) (hB : B ≤ w.heap.size) :
    ∃ v w', (execOp ρ o).run P w = .ok (.value v) w' ∧ Below B w w' ∧ OwnP B (xs ++ l) (m + k) v w' := by
  obtain ⟨i, hi0, hz, hsz, hby⟩ := info_parts hi
  obtain ⟨A0, c0, e0, hown⟩ := hs
  obtain ⟨A, c, e1, hlk, hl, hkc, hcm, hAn⟩ := hx
  subst hlk; subst hm
  have key : ∀ v' w', (Builtin.append_ #[t, t] o.type #[.slice A0 xs.length c0, .slice A l.length c]).run P w = .ok v' w' → w'.ownsRow B 5 1 v' (xs.length + l.length) (u8s xs ++ u8s l) → w.grownBy w' (Value.slice A0 xs.length c0).ownBlock →
      ∃ v w', (execOp ρ o).run P w = .ok (.value v) w' ∧ Below B w w' ∧ OwnP B (xs ++ l) (xs.length + l.length) v w' := by
    intro v' w' hr h2 h3
    obtain ⟨A', c', rfl⟩ := own_shape h2
    refine ⟨_, w', ?_, ?_, A', c', rfl, ?_⟩
    · unfold execOp
      simp only [ho, resolve, invoke, builtin, Sem.run_bind, Sem.run_pure, Result.andThen_ok, List.map_toArray, List.map_cons, List.map_nil, e0, e1, hr]
    · exact (Below.refl B w).grown h3 hB (fun q hq => (World.ownsRow.lt hown q hq).1)
    · unfold OwnB
      rw [List.length_append, ← u8s_app]; exact h2
  cases A with
  | some ad =>
    have hcell : ∀ j, j < l.length → w.cell? (ad.add j) = some (.int .u8 (at0 l j)) := fun j hj => by
      obtain ⟨b, off, e, _, hc⟩ := hl.cells (by omega)
      injection e with e; subst e
      rw [addr_add]; exact hc j hj
    obtain ⟨v', w', hr, h2, h3, _, h5⟩ := run_append_own_at (P := P) w B t o.type 5 i (.int .u8 0) 1 1 ht hi0 hz hsz hby rfl (by omega) (.slice A0 xs.length c0) xs.length (u8s xs) hown ad l.length c (u8s l) (by simp [u8s])
      (fun j u hj => by
        have hjl : j < l.length := by
          apply Decidable.byContradiction; intro hn'
          rw [List.getElem?_eq_none (by simp [u8s]; omega)] at hj; cases hj
        rw [u8s_get hjl] at hj; injection hj with hj; subst hj
        exact hcell j hjl) (u8s_one l) (by unfold maxLen; omega) (by omega) hB
    exact key v' w' hr h2 h3
  | none =>
    obtain rfl : l = [] := by
      apply List.eq_nil_of_length_eq_zero
      apply Decidable.byContradiction; intro hne
      obtain ⟨b, off, e, _, _⟩ := hl.cells (by omega)
      cases e
    refine key (.slice A0 xs.length c0) w ?_ (by rw [u8s_app, List.append_nil]; exact hown) (only_refl _ _)
    rcases World.ownsRow.kept hown (only_refl w none) (by cases (Value.slice A0 xs.length c0).ownBlock <;> simp) with ⟨_, ⟨hx1, hx0⟩ | ⟨g, cap, cur, hx1, _, _, hnc, _⟩⟩
    · rw [hx1]; simp [Builtin.append_, run_underlying ht, sizeOf, typeInfo, hi0, Builtin.lenOf, Builtin.firstCells]
    · rw [hx1]; simp [Builtin.append_, run_underlying ht, sizeOf, typeInfo, hi0, Builtin.lenOf, Builtin.firstCells, hnc, storeCells]
end Go.Proofs.Ytmgendgfdhhgfaa
