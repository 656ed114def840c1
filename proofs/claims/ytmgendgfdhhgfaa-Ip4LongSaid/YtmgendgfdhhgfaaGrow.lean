/-
  Bytes appended to a literal of no bytes, in a region that draws its order: what was there is as it was. Nothing here speaks of a Go function. No condition.
-/
import Derived.Test.YtmgendgfdhhgfaaLinB
import Derived.Test.YtmgendgfdhhgfaaOct
import Derived.ArgAppend
import Derived.Deep.Upon
namespace Go.Proofs.Ytmgendgfdhhgfaa
open Go.ChangeShapes Go.WideShapes Go.ChangeAt Go.RowKit
set_option linter.unusedSimpArgs false
set_option linter.unusedVariables false
theorem bsrc {w : World} {B : Nat} {b : Addr} {l : List Int} (h : Bytes w B (some b) l) : ∀ j u, (u8s l)[j]? = some u → w.cell? (b.add j) = some u := fun j u hj => by
  have hjl : j < l.length := by
    apply Decidable.byContradiction; intro hn'
    rw [List.getElem?_eq_none (by simp [u8s]; omega)] at hj; cases hj
  rw [u8s_get hjl] at hj; injection hj with hj; subst hj
  obtain ⟨b', off, e, _, hc⟩ := h.cells (by omega)
  injection e with e; subst e
  rw [addr_add]; exact hc j hjl
theorem own_empty_at {w : World} {H : Nat} (h : w.heap.size = H) : OwnB (w.alloc (.cells #[] 5)) H (.slice (some ⟨H, 0, none⟩) 0 0) [] := by subst h; exact own_empty w
theorem OwnB.set {w : World} {base : Nat} {v : Value} {l : List Int} (h : OwnB w base v l) {p : Addr} (hp : p.block < base) (u : Value) : OwnB (w.setCell p u) base v l := own_set h (own_far h hp) u
/-- A literal of no bytes, in a block of its own from B on. -/
def NoneP (B : Nat) (v : Value) (w : World) : Prop := ∃ g, v = .slice (some ⟨g, 0, none⟩) 0 0 ∧ OwnB w B (.slice (some ⟨g, 0, none⟩) 0 0) [] ∧ B ≤ w.heap.size
theorem NoneP.st {B : Nat} {v : Value} {w w' : World} (h : NoneP B v w) (hb : Below w.heap.size w w') : NoneP B v w' := by
  obtain ⟨g, e, h1, h2⟩ := h; exact ⟨g, e, h1.below hb, Nat.le_trans h2 hb.size⟩
theorem NoneP.new {w : World} {B : Nat} (h : B ≤ w.heap.size) : NoneP B (.slice (some ⟨w.heap.size, 0, none⟩) 0 0) (w.alloc (.cells #[] 5)) :=
  ⟨_, rfl, (own_empty_at rfl).lower h, by simp; omega⟩
def Lin.Spec.noneb (B : Nat) : Lin.Spec Lin.Keeps := ⟨NoneP B, NoneP.st⟩
/-- A slice of n bytes that reads as l, in a block of its own from B on. -/
def OwnP (B : Nat) (l : List Int) (n : Nat) (v : Value) (w : World) : Prop := ∃ A c, v = .slice A n c ∧ OwnB w B (.slice A n c) l
theorem OwnP.st {B : Nat} {l : List Int} {n : Nat} {v : Value} {w w' : World} (h : OwnP B l n v w) (hb : Below w.heap.size w w') : OwnP B l n v w' := by
  obtain ⟨A, c, e, h1⟩ := h; exact ⟨A, c, e, h1.below hb⟩
def Lin.Spec.own (B : Nat) (l : List Int) (n : Nat) : Lin.Spec Lin.Keeps := ⟨OwnP B l n, OwnP.st⟩
theorem OwnP.isb {B : Nat} {l : List Int} {n : Nat} {v : Value} {w : World} (h : OwnP B l n v w) : IsB l n v w := by obtain ⟨A, c, rfl, h1⟩ := h; exact IsB.own h1
theorem OwnP.shape {B : Nat} {l : List Int} {n : Nat} {v : Value} {w : World} (h : OwnP B l n v w) : ∃ A c, v = .slice A n c := by obtain ⟨A, c, e, _⟩ := h; exact ⟨A, c, e⟩
theorem OwnP.set1 {B : Nat} {l : List Int} {n : Nat} {v : Value} {w : World} (h : OwnP B l n v w) {g i : Nat} (hg : g < B) (u : Value) : OwnP B l n v (w.setCell ⟨g, i, none⟩ u) := by
  obtain ⟨A, c, e, h1⟩ := h; exact ⟨A, c, e, h1.set hg u⟩
theorem GivesK.ownp {w w' : World} {l : List Int} {k : Nat} {e : Ending} (h : GivesK w l k e w') : ∃ v, e = .returned v ∧ OwnP w.heap.size l k v w' ∧ Below w.heap.size w w' := by
  obtain ⟨A, c, h1, h2, h3⟩ := h; exact ⟨_, h1, ⟨A, c, rfl, h2⟩, h3⟩
theorem grow_nil {P : Program} {t T : TypeId} {w : World} {u : Value} {B B' m : Nat} {A : Option Addr} {l : List Int} (hu : NoneP B u w) (ht : P.underlying t = some (.slice 5)) (hi : (P.info? 5).map (fun i => (i.zero, i.size, i.bytes)) = some (some (.int .u8 0), 1, 1))
    (h2 : Bytes w B' A l) (c : Nat) (hm : l.length = m) (hmm : m ≤ 100000000) :
    ∃ v' w', (Builtin.append_ #[t, t] T #[u, .slice A m c]).run P w = .ok v' w' ∧ Below w.heap.size w w' ∧ OwnP B l m v' w' := by
  obtain ⟨g, rfl, hown0, hB⟩ := hu
  obtain ⟨i, hi0, hz, hsz, hby⟩ := info_parts hi
  by_cases h0 : 0 < m
  · obtain ⟨b2, o2, rfl, _, _⟩ := h2.cells (by omega)
    obtain ⟨v', w', hr, hown, hg⟩ := run_append_arg_grows (P := P) (w := w) t T 5 i (.int .u8 0) 1 1 ht hi0 hz hsz hby rfl (by omega) ⟨g, 0, none⟩ 0 0 [] (by simp) (fun j u h => by simp at h) _ m c (u8s l) (by simp [u8s, hm]) (bsrc h2) (by omega) (by unfold maxLen; omega) (by omega)
    rw [Nat.zero_add] at hown
    obtain ⟨A', c', rfl⟩ := own_shape hown
    have ho : OwnB w' w.heap.size (.slice A' m c') l := by
      unfold OwnB
      rw [hm]; exact hown
    exact ⟨_, w', hr, (Below.refl w.heap.size w).grown hg (Nat.le_refl _) (fun q hq => by cases hq), A', c', rfl, ho.lower hB⟩
  · obtain rfl : m = 0 := by omega
    obtain rfl : l = [] := List.eq_nil_of_length_eq_zero hm
    refine ⟨_, w, ?_, Below.refl _ _, some ⟨g, 0, none⟩, 0, rfl, hown0⟩
    cases A <;> simp [Builtin.append_, run_underlying ht, sizeOf, typeInfo, hi0, Builtin.lenOf, Builtin.firstCells, storeCells, loadCells, loadCellsFrom, Sem.run_pure]
end Go.Proofs.Ytmgendgfdhhgfaa
