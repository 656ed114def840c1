/-
  The law for a region that draws its order, where some operations (calls, appends, stores) may write into blocks from B on: each tells which slots are dead behind it. A store's slot is 1000 more than its place. Nothing here speaks of a Go function. No condition.
-/
import Derived.Test.YtmgendgfdhhgfaaLin
namespace Go.Proofs.Ytmgendgfdhhgfaa.Lin
open Go Go.RowKit
set_option linter.unusedSimpArgs false
set_option linter.unusedVariables false
section
variable {P : Program}
/-- The writers, each with the slots that it kills. -/
abbrev Wr := List (Nat × List Nat)
def slotOf (o : Oper) (i : Nat) : Nat := o.dst.getD (1000 + i)
def waitsW (ops : Array Oper) (o : Oper) (j : Nat) : Bool := o.after.toList.any fun e => Region.binds .any e && e.on == j && (match ops[j]? with | some oj => oj.dst.isNone | none => false)
def edgeB (ops : Array Oper) (j i : Nat) : Bool := match ops[j]? with | some o => o.after.toList.any (fun e => Region.binds .any e && e.on == i) | none => false
/-- What always comes ahead of k. -/
def ancs (ops : Array Oper) (k : Nat) : List Nat := (List.range k).foldr (fun i acc => if ((k :: acc).any fun j => edgeB ops j i) = true then i :: acc else acc) []
/-- Slot t is still as it was when operation i comes up. -/
def outB (ops : Array Oper) (i t : Nat) : Bool := (List.range ops.size).all fun j => ((ops[j]?).bind (·.dst) != some t) || (ancs ops j).contains i
def preB (ops : Array Oper) (k : Nat) (pre : List Nat) : Bool := pre.all fun i => (k :: pre).any fun j => decide (i < j) && decide (j ≤ k) && edgeB ops j i
def isW (wr : Wr) (i : Nat) : Bool := wr.any fun p => p.1 == i
/-- Slot d may be dead when operation i comes up. -/
def killsB (wr : Wr) (ops : Array Oper) (i d : Nat) : Bool := wr.any fun p => p.2.contains d && p.1 != i && !(ancs ops p.1).contains i
/-- No writer has come up ahead of operation i. -/
def freshB (wr : Wr) (ops : Array Oper) (i : Nat) : Bool := wr.all fun p => p.1 == i || (ancs ops p.1).contains i
def deadB (wr : Wr) (d : Nat) : Bool := wr.any fun p => p.2.contains d
def okW (ops : Array Oper) (wr : Wr) : Bool := (List.range ops.size).all (fun j => preB ops j (ancs ops j)) && wr.all (fun p => match ops[p.1]? with | some o => o.guard.isNone | none => false)
/-- Every operation writes a slot of its own or is a writer, waits for earlier ones alone, and its guard is one of those for which it waits. -/
def okB4 (ops : Array Oper) (wr : Wr) (size : Nat) : Bool :=
  (List.range ops.size).all fun i => match ops[i]? with
    | none => false
    | some o => (match o.dst with | some d => decide (d < size) && (List.range ops.size).all (fun j => j == i || ((ops[j]?).bind (·.dst) != some d)) | none => isW wr i) &&
      o.after.toList.all (fun e => !Region.binds .any e || decide (e.on < i)) &&
      (match o.guard with | none => true | some (g, _) => decide (g < i) && ((ops[g]?).bind (·.dst)).isSome && o.after.toList.any (fun e => Region.binds .any e && e.on == g))
theorem okB4_at {ops : Array Oper} {wr : Wr} {size i : Nat} {o : Oper} (h : okB4 ops wr size = true) (hi : ops[i]? = some o) :
    (∀ d, o.dst = some d → d < size ∧ (∀ (j : Nat) oj, ops[j]? = some oj → oj.dst = some d → j = i)) ∧ (o.dst = none → isW wr i = true) ∧ (∀ e ∈ o.after, Region.binds .any e = true → e.on < i) ∧
      (∀ g b, o.guard = some (g, b) → g < i ∧ (∃ d, (ops[g]?).bind (·.dst) = some d) ∧ ∃ e ∈ o.after, Region.binds .any e = true ∧ e.on = g) := by
  have hlt : i < ops.size := by
    apply Decidable.byContradiction; intro hn
    rw [Array.getElem?_eq_none (by omega)] at hi; cases hi
  unfold okB4 at h
  have h1 := List.all_eq_true.1 h i (List.mem_range.2 hlt)
  rw [hi] at h1
  simp only [Bool.and_eq_true] at h1
  obtain ⟨⟨h1, h2⟩, h3⟩ := h1
  refine ⟨fun d hd => ?_, fun hd => ?_, fun e he hb => ?_, fun g b hg => ?_⟩
  · rw [hd] at h1
    simp only [Bool.and_eq_true, decide_eq_true_eq] at h1
    refine ⟨h1.1, fun j oj hj hjd => ?_⟩
    have hjl : j < ops.size := by
      apply Decidable.byContradiction; intro hn
      rw [Array.getElem?_eq_none (by omega)] at hj; cases hj
    have h4 := List.all_eq_true.1 h1.2 j (List.mem_range.2 hjl)
    simp [hj, hjd] at h4
    exact h4
  · rw [hd] at h1
    exact h1
  · have h4 := List.all_eq_true.1 h2 e (by simpa using he)
    simpa [hb] using h4
  · rw [hg] at h3
    simp only [Bool.and_eq_true, decide_eq_true_eq] at h3
    obtain ⟨⟨h3, h5⟩, h6⟩ := h3
    obtain ⟨e, he, h7⟩ := List.any_eq_true.1 h6
    simp at h7
    exact ⟨h3, Option.isSome_iff_exists.1 h5, e, by simpa using he, h7.1, h7.2⟩
/-- A writer, run. -/
def RunsB (P : Program) (B : Nat) (o : Oper) (s : Spec Keeps) (ρ : Operand → Value) (w : World) : Prop :=
  match (execOp ρ o).run P w with
  | .ok (.value v) w' => o.dst ≠ none ∧ Below B w w' ∧ s.p v w'
  | .ok .skip w' => Below B w w' ∧ s.p undef w'
  | .ok (.enter f args) w' => o.dst ≠ none ∧ Below B w w' ∧ Calls P f args w' fun e w'' => ∃ v, e = .returned v ∧ Below B w' w'' ∧ s.p v w''
  | _ => False
theorem RunsB.made {B : Nat} {o : Oper} {s : Spec Keeps} {ρ : Operand → Value} {w w' : World} {v : Value} (h : (execOp ρ o).run P w = .ok (.value v) w') (hb : Below B w w') (hs : s.p v w') (hd : o.dst ≠ none := by simp) : RunsB P B o s ρ w := by
  unfold RunsB; rw [h]; exact ⟨hd, hb, hs⟩
theorem RunsB.store {B : Nat} {o : Oper} {s : Spec Keeps} {ρ : Operand → Value} {w w' : World} (h : (execOp ρ o).run P w = .ok .skip w') (hb : Below B w w') (hs : s.p undef w') : RunsB P B o s ρ w := by
  unfold RunsB; rw [h]; exact ⟨hb, hs⟩
theorem RunsB.call {B : Nat} {o : Oper} {s : Spec Keeps} {ρ : Operand → Value} {w : World} {f : FuncId} {args : Array Value} (h : (execOp ρ o).run P w = .ok (.enter f args) w)
    (hc : Calls P f args w fun e w'' => ∃ v, e = .returned v ∧ Below B w w'' ∧ s.p v w'') (hd : o.dst ≠ none := by simp) : RunsB P B o s ρ w := by
  unfold RunsB; rw [h]; exact ⟨hd, Below.refl _ _, hc⟩
def Step4 (P : Program) (ops : Array Oper) (a0 : Act) (w0 : World) (B : Nat) (S : Nat → Spec Keeps) (wr : Wr) (i : Nat) (o : Oper) : Prop :=
  ∀ (ρ : Operand → Value) (w : World), Below B w0 w → (freshB wr ops i = true → Keeps w0 w) → (∀ t, outB ops i t = true → ρ (.tmp t) = a0.eval (.tmp t)) → (∀ x, (∀ t, x ≠ .tmp t) → ρ x = a0.eval x) →
    (∀ d, (waits ops o d && !killsB wr ops i d) = true → (S d).p (ρ (.tmp d)) w) →
    (∀ j, (waitsW ops o j && !killsB wr ops i (1000 + j)) = true → (S (1000 + j)).p undef w) →
    if isW wr i = true then RunsB P B o (S (slotOf o i)) ρ w else
    (match o.guard with
      | none => Runs P o (S (o.dst.getD 0)) ρ w
      | some (g, b) => ∀ t, (ops[g]?).bind (·.dst) = some t → (ρ (.tmp t) = .bool b → Runs P o (S (o.dst.getD 0)) ρ w) ∧ (ρ (.tmp t) ≠ .bool b → (S (o.dst.getD 0)).p undef w))
theorem stepW {ops : Array Oper} {a0 : Act} {w0 : World} {B : Nat} {S : Nat → Spec Keeps} {wr : Wr} {i : Nat} {o : Oper} (hw : isW wr i = true)
    (h : ∀ (ρ : Operand → Value) (w : World), Below B w0 w → (freshB wr ops i = true → Keeps w0 w) → (∀ t, outB ops i t = true → ρ (.tmp t) = a0.eval (.tmp t)) → (∀ x, (∀ t, x ≠ .tmp t) → ρ x = a0.eval x) →
      (∀ d, (waits ops o d && !killsB wr ops i d) = true → (S d).p (ρ (.tmp d)) w) → (∀ j, (waitsW ops o j && !killsB wr ops i (1000 + j)) = true → (S (1000 + j)).p undef w) → RunsB P B o (S (slotOf o i)) ρ w) : Step4 P ops a0 w0 B S wr i o := fun ρ w h1 h2 h3 h4 h5 h6 => by
  rw [if_pos hw]; exact h ρ w h1 h2 h3 h4 h5 h6
theorem stepR {ops : Array Oper} {a0 : Act} {w0 : World} {B : Nat} {S : Nat → Spec Keeps} {wr : Wr} {i : Nat} {o : Oper} (hw : isW wr i = false)
    (h : ∀ (ρ : Operand → Value) (w : World), Below B w0 w → (freshB wr ops i = true → Keeps w0 w) → (∀ t, outB ops i t = true → ρ (.tmp t) = a0.eval (.tmp t)) → (∀ x, (∀ t, x ≠ .tmp t) → ρ x = a0.eval x) →
      (∀ d, (waits ops o d && !killsB wr ops i d) = true → (S d).p (ρ (.tmp d)) w) → (∀ j, (waitsW ops o j && !killsB wr ops i (1000 + j)) = true → (S (1000 + j)).p undef w) → (match o.guard with
      | none => Runs P o (S (o.dst.getD 0)) ρ w
      | some (g, b) => ∀ t, (ops[g]?).bind (·.dst) = some t → (ρ (.tmp t) = .bool b → Runs P o (S (o.dst.getD 0)) ρ w) ∧ (ρ (.tmp t) ≠ .bool b → (S (o.dst.getD 0)).p undef w))) : Step4 P ops a0 w0 B S wr i o := fun ρ w h1 h2 h3 h4 h5 h6 => by
  rw [if_neg (by rw [hw]; simp)]; exact h ρ w h1 h2 h3 h4 h5 h6
def Steps4 (P : Program) (ops : Array Oper) (a0 : Act) (w0 : World) (B : Nat) (S : Nat → Spec Keeps) (wr : Wr) : Nat → List Oper → Prop
  | _, [] => True
  | i, o :: os => Step4 P ops a0 w0 B S wr i o ∧ Steps4 P ops a0 w0 B S wr (i + 1) os
theorem Steps4.at {ops : Array Oper} {a0 : Act} {w0 : World} {B : Nat} {S : Nat → Spec Keeps} {wr : Wr} : ∀ {l : List Oper} {k : Nat}, Steps4 P ops a0 w0 B S wr k l → ∀ j o, l[j]? = some o → Step4 P ops a0 w0 B S wr (k + j) o
  | [], _, _, j, o, h => by simp at h
  | x :: l, k, h, 0, o, ho => by simp at ho; subst ho; exact h.1
  | x :: l, k, h, j + 1, o, ho => by
    have := Steps4.at h.2 j o (by simpa using ho)
    rwa [show k + 1 + j = k + (j + 1) by omega] at this
/-- What is said of a slot outlives any writer. -/
def Firm (B : Nat) (s : Spec Keeps) : Prop := ∀ v w w', Below B w w' → s.p v w → s.p v w'
theorem firm_val (B : Nat) (u : Value) : Firm B (Spec.val u) := fun _ _ _ _ h => h
theorem firm_any (B : Nat) : Firm B Spec.any := fun _ _ _ _ h => h
def stayB (ops : Array Oper) (p : Nat × List Nat) (j d : Nat) : Bool := p.2.contains d || j == p.1 || (ancs ops j).contains p.1
/-- Which slots outlive which writer. -/
def Stays4 (ops : Array Oper) (B : Nat) (S : Nat → Spec Keeps) (wr : Wr) : Nat → List Oper → Prop
  | _, [] => True
  | j, o :: os => ((wr.all fun p => stayB ops p j (slotOf o j)) = true ∨ Firm B (S (slotOf o j))) ∧ Stays4 ops B S wr (j + 1) os
theorem Stays4.at {ops : Array Oper} {B : Nat} {S : Nat → Spec Keeps} {wr : Wr} : ∀ {l : List Oper} {k : Nat}, Stays4 ops B S wr k l → ∀ j o, l[j]? = some o → (wr.all fun p => stayB ops p (k + j) (slotOf o (k + j))) = true ∨ Firm B (S (slotOf o (k + j)))
  | [], _, _, j, o, h => by simp at h
  | x :: l, k, h, 0, o, ho => by simp at ho; subst ho; exact h.1
  | x :: l, k, h, j + 1, o, ho => by
    have := Stays4.at h.2 j o (by simpa using ho)
    rwa [show k + 1 + j = k + (j + 1) by omega] at this
structure Inv4 (ops : Array Oper) (a0 : Act) (w0 : World) (B : Nat) (S : Nat → Spec Keeps) (wr : Wr) (listed : Array Bool) (a : Act) (w : World) : Prop where
  size : a.tmps.size = a0.tmps.size
  defers : a.defers = a0.defers
  out : ∀ t, isDst ops t = false → a.tmps.getD t undef = a0.tmps.getD t undef
  old : ∀ (j : Nat) o t, listed.getD j true = false → ops[j]? = some o → o.dst = some t → a.tmps.getD t undef = a0.tmps.getD t undef
  ins : ∀ (i : Nat) o d, listed.getD i true = true → ops[i]? = some o → o.dst = some d → (∀ p ∈ wr, listed.getD p.1 true = true → p.2.contains d = false) → (S d).p (a.tmps.getD d undef) w
  wins : ∀ (i : Nat) o, listed.getD i true = true → ops[i]? = some o → o.dst = none → (∀ p ∈ wr, listed.getD p.1 true = true → p.2.contains (1000 + i) = false) → (S (1000 + i)).p undef w
  closed : ∀ (i : Nat) o, listed.getD i true = true → ops[i]? = some o → ∀ e ∈ o.after, Region.binds .any e = true → listed.getD e.on true = true
  bel : Below B w0 w
  keep : (∀ p ∈ wr, listed.getD p.1 true = false) → Keeps w0 w
  len : listed.size = ops.size
theorem listed_of4 {listed : Array Bool} {i j : Nat} (hne : i ≠ j) (hj : (listed.setIfInBounds i true).getD j true = true) : listed.getD j true = true := by
  rw [Array.getD_eq_getD_getElem?] at hj ⊢
  rw [Array.getElem?_setIfInBounds_ne hne] at hj; exact hj
theorem listed_mono4 {listed : Array Bool} {i j : Nat} (hj : listed.getD j true = true) : (listed.setIfInBounds i true).getD j true = true := by
  rw [Array.getD_eq_getD_getElem?] at hj ⊢
  by_cases hne : i = j
  · subst hne
    by_cases hlt : i < listed.size
    · rw [Array.getElem?_setIfInBounds_self_of_lt hlt]; rfl
    · rw [Array.getElem?_eq_none (by rw [Array.size_setIfInBounds]; omega)]; rfl
  · rw [Array.getElem?_setIfInBounds_ne hne]; exact hj
theorem listed_self4 {listed : Array Bool} {i : Nat} (h : i < listed.size) : (listed.setIfInBounds i true).getD i true = true := by
  rw [Array.getD_eq_getD_getElem?, Array.getElem?_setIfInBounds_self_of_lt h]; rfl
/-- What comes ahead of k has come up when k has. -/
theorem Inv4.pre {ops : Array Oper} {a0 : Act} {w0 : World} {B : Nat} {S : Nat → Spec Keeps} {wr : Wr} {listed : Array Bool} {a : Act} {w : World} {k : Nat} {pre : List Nat}
    (h : Inv4 ops a0 w0 B S wr listed a w) (hp : preB ops k pre = true) (hk : listed.getD k true = true) : ∀ (n i : Nat), k - i ≤ n → i ∈ pre → listed.getD i true = true := by
  intro n
  unfold preB at hp
  induction n with
  | zero =>
    intro i hn hi
    have h1 := List.all_eq_true.1 hp i hi
    obtain ⟨j, hj, h2⟩ := List.any_eq_true.1 h1
    simp only [Bool.and_eq_true, decide_eq_true_eq] at h2
    omega
  | succ n ih =>
    intro i hn hi
    have h1 := List.all_eq_true.1 hp i hi
    obtain ⟨j, hj, h2⟩ := List.any_eq_true.1 h1
    simp only [Bool.and_eq_true, decide_eq_true_eq] at h2
    obtain ⟨⟨h2, h3⟩, h4⟩ := h2
    have hjl : listed.getD j true = true := by
      rcases List.mem_cons.1 hj with rfl | hj
      · exact hk
      · exact ih j (by omega) hj
    unfold edgeB at h4
    cases hoj : ops[j]? with
    | none => rw [hoj] at h4; cases h4
    | some o =>
      rw [hoj] at h4
      obtain ⟨e, he, h5⟩ := List.any_eq_true.1 h4
      simp only [Bool.and_eq_true, beq_iff_eq] at h5
      have := h.closed j o hjl hoj e (by simpa using he) h5.1
      rw [h5.2] at this; exact this
theorem Inv4.anc {ops : Array Oper} {a0 : Act} {w0 : World} {B : Nat} {S : Nat → Spec Keeps} {wr : Wr} {listed : Array Bool} {a : Act} {w : World} {i k : Nat}
    (h : Inv4 ops a0 w0 B S wr listed a w) (hw : okW ops wr = true) (hkl : k < ops.size) (hk : listed.getD k true = true) (hi : (ancs ops k).contains i = true) : listed.getD i true = true := by
  unfold okW at hw
  simp only [Bool.and_eq_true] at hw
  have h1 := List.all_eq_true.1 hw.1 k (List.mem_range.2 hkl)
  exact h.pre h1 hk (k - i) i (Nat.le_refl _) (by simpa using hi)
theorem Inv4.put {ops : Array Oper} {a0 : Act} {w0 : World} {B : Nat} {S : Nat → Spec Keeps} {wr : Wr} {listed : Array Bool} {a : Act} {w w' : World} {i : Nat} {o : Oper} {v : Value}
    (h : Inv4 ops a0 w0 B S wr listed a w) (hok : okB4 ops wr a0.tmps.size = true) (haft : ∀ e ∈ o.after, Region.binds .any e = true → listed.getD e.on true = true) (hi : ops[i]? = some o) (hv : (S (slotOf o i)).p v w') (hvu : o.dst = none → v = undef)
    (hb : Below B w w') (hkeep : (∀ p ∈ wr, (listed.setIfInBounds i true).getD p.1 true = false) → Keeps w0 w')
    (hst : ∀ (j : Nat) oj, i ≠ j → listed.getD j true = true → ops[j]? = some oj → (∀ p ∈ wr, (listed.setIfInBounds i true).getD p.1 true = true → p.2.contains (slotOf oj j) = false) → ∀ u, (S (slotOf oj j)).p u w → (S (slotOf oj j)).p u w') :
    Inv4 ops a0 w0 B S wr (listed.setIfInBounds i true) (a.put o.dst v) w' := by
  have hcl : ∀ (j : Nat) oj, (listed.setIfInBounds i true).getD j true = true → ops[j]? = some oj → ∀ e ∈ oj.after, Region.binds .any e = true → (listed.setIfInBounds i true).getD e.on true = true := fun j oj hj hoj e he hbe => by
    by_cases hne : i = j
    · subst hne
      rw [hi] at hoj; injection hoj with hoj; subst hoj
      exact listed_mono4 (haft e he hbe)
    · exact listed_mono4 (h.closed j oj (listed_of4 hne hj) hoj e he hbe)
  cases hd : o.dst with
  | none =>
    have ea : a.put none v = a := rfl
    rw [ea]
    refine ⟨h.size, h.defers, h.out, fun j oj t hj hoj hdj => h.old j oj t (by
      cases hl : listed.getD j true with
      | false => rfl
      | true => rw [listed_mono4 hl] at hj; cases hj) hoj hdj, fun j oj dj hj hoj hdj hkl => ?_, fun j oj hj hoj hdj hkl => ?_, hcl, Below.trans h.bel hb, hkeep, by rw [Array.size_setIfInBounds]; exact h.len⟩
    · have hne : i ≠ j := by
        rintro rfl
        rw [hi] at hoj; injection hoj with hoj; subst hoj
        rw [hd] at hdj; cases hdj
      have hl := listed_of4 hne hj
      have es : slotOf oj j = dj := by unfold slotOf; rw [hdj]; rfl
      have h1 := h.ins j oj dj hl hoj hdj (fun p hp hpl => hkl p hp (listed_mono4 hpl))
      have h2 := hst j oj hne hl hoj (by rw [es]; exact hkl) (a.tmps.getD dj undef)
      rw [es] at h2
      exact h2 h1
    · by_cases hne : i = j
      · subst hne
        have es : slotOf o i = 1000 + i := by unfold slotOf; rw [hd]; rfl
        rw [es, hvu hd] at hv
        exact hv
      · have hl := listed_of4 hne hj
        have es : slotOf oj j = 1000 + j := by unfold slotOf; rw [hdj]; rfl
        have h1 := h.wins j oj hl hoj hdj (fun p hp hpl => hkl p hp (listed_mono4 hpl))
        have h2 := hst j oj hne hl hoj (by rw [es]; exact hkl) undef
        rw [es] at h2
        exact h2 h1
  | some d =>
    obtain ⟨hlt, huniq⟩ := (okB4_at hok hi).1 d hd
    have es : slotOf o i = d := by unfold slotOf; rw [hd]; rfl
    rw [es] at hv
    have hput : (a.put (some d) v).tmps = a.tmps.setIfInBounds d v := rfl
    refine ⟨?_, h.defers, fun t ht => ?_, fun j oj t hj hoj hdj => ?_, fun j oj dj hj hoj hdj hkl => ?_, fun j oj hj hoj hdj hkl => ?_, hcl, Below.trans h.bel hb, hkeep, by rw [Array.size_setIfInBounds]; exact h.len⟩
    · rw [hput, Array.size_setIfInBounds]; exact h.size
    · rw [← h.out t ht, hput]
      have hne : d ≠ t := by
        rintro rfl
        have : isDst ops d = true := by
          unfold isDst
          rw [List.any_eq_true]
          exact ⟨o, by rw [Array.mem_toList_iff]; exact Array.mem_of_getElem? hi, by simp [hd]⟩
        rw [this] at ht; cases ht
      simp [Array.getD_eq_getD_getElem?, Array.getElem?_setIfInBounds_ne hne]
    · have hl : listed.getD j true = false := by
        cases hl : listed.getD j true with
        | false => rfl
        | true => rw [listed_mono4 hl] at hj; cases hj
      rw [← h.old j oj t hl hoj hdj, hput]
      have hne : d ≠ t := by
        rintro rfl
        have := huniq j oj hoj hdj
        subst this
        have hin : j < listed.size := by
          apply Decidable.byContradiction; intro hn
          rw [Array.getD_eq_getD_getElem?, Array.getElem?_eq_none (by omega)] at hl; cases hl
        rw [listed_self4 hin] at hj; cases hj
      simp [Array.getD_eq_getD_getElem?, Array.getElem?_setIfInBounds_ne hne]
    · by_cases hji : dj = d
      · subst hji
        have : (a.put (some dj) v).tmps.getD dj undef = v := by
          rw [hput, Array.getD_eq_getD_getElem?, Array.getElem?_setIfInBounds_self_of_lt (by rw [h.size]; exact hlt)]; rfl
        rw [this]; exact hv
      · have hne : i ≠ j := by
          rintro rfl
          rw [hi] at hoj; injection hoj with hoj; subst hoj
          rw [hd] at hdj; injection hdj with hdj; exact hji hdj.symm
        have hl := listed_of4 hne hj
        have h1 := h.ins j oj dj hl hoj hdj (fun p hp hpl => hkl p hp (listed_mono4 hpl))
        have e : (a.put (some d) v).tmps.getD dj undef = a.tmps.getD dj undef := by
          rw [hput, Array.getD_eq_getD_getElem?, Array.getD_eq_getD_getElem?, Array.getElem?_setIfInBounds_ne (Ne.symm hji)]
        have ej : slotOf oj j = dj := by unfold slotOf; rw [hdj]; rfl
        have h2 := hst j oj hne hl hoj (by rw [ej]; exact hkl) (a.tmps.getD dj undef)
        rw [ej] at h2
        rw [e]; exact h2 h1
    · have hne : i ≠ j := by
        rintro rfl
        rw [hi] at hoj; injection hoj with hoj; subst hoj
        rw [hd] at hdj; cases hdj
      have hl := listed_of4 hne hj
      have ej : slotOf oj j = 1000 + j := by unfold slotOf; rw [hdj]; rfl
      have h1 := h.wins j oj hl hoj hdj (fun p hp hpl => hkl p hp (listed_mono4 hpl))
      have h2 := hst j oj hne hl hoj (by rw [ej]; exact hkl) undef
      rw [ej] at h2
      exact h2 h1

/-- THE LAW, from the world behind the draw. -/
theorem any_lin4 {ops : Array Oper} {a0 : Act} {w0 : World} {B : Nat} {S : Nat → Spec Keeps} {wr : Wr} {Q : Exit → Act → World → Prop} (hok : okB4 ops wr a0.tmps.size = true) (hW : okW ops wr = true) (hB : B ≤ w0.heap.size)
    (hstay : Stays4 ops B S wr 0 ops.toList) (hsteps : Steps4 P ops a0 w0 B S wr 0 ops.toList)
    (hfin : ∀ (vals : Nat → Value) (w : World), Below B w0 w → (∀ d, isDst ops d = true → deadB wr d = false → (S d).p (vals d) w) → (∀ i o, ops[i]? = some o → o.dst = none → deadB wr (1000 + i) = false → (S (1000 + i)).p undef w) → Q .normal (putAll vals ops.toList a0) w) :
    ∀ (fuel : Nat) (listed : Array Bool) (a : Act) (w : World), (listed.toList.filter (! ·)).length ≤ fuel → Inv4 ops a0 w0 B S wr listed a w → wpAny P .any ops Q fuel listed a w := by
  have done : ∀ (listed : Array Bool) (a : Act) (w : World), Inv4 ops a0 w0 B S wr listed a w → Region.ready .any ops listed = [] → Q .normal a w := by
    intro listed a w hI hr
    have hall : ∀ i, i < ops.size → listed.getD i true = true := by
      intro i
      induction i using Nat.strongRecOn with
      | ind i ih =>
        intro hi
        apply Decidable.byContradiction
        intro hn
        have ho : ops[i]? = some ops[i] := Array.getElem?_eq_getElem hi
        obtain ⟨_, _, haft, _⟩ := okB4_at hok ho
        have : i ∈ Region.ready .any ops listed := by
          unfold Region.ready
          rw [List.mem_filter]
          refine ⟨List.mem_range.2 hi, ?_⟩
          have h1 : listed.getD i true = false := by simpa using hn
          simp only [h1, ho, Option.map_some, Option.getD_some, Bool.not_false, Bool.true_and, Array.all_eq_true]
          intro k hk
          by_cases hb : Region.binds .any ops[i].after[k] = true
          · have hlt := haft _ (Array.getElem_mem hk) hb
            have h2 := ih _ hlt (by omega)
            rw [Array.getD_eq_getD_getElem?] at h2 ⊢
            rw [Array.getElem?_eq_getElem (by rw [hI.len]; omega)] at h2 ⊢
            simp at h2 ⊢
            exact .inr h2
          · simp [hb]
        rw [hr] at this; cases this
    rw [act_eq hI.size hI.defers hI.out]
    refine hfin _ w hI.bel (fun d hd hkd => ?_) fun i o ho hd hkd => hI.wins i o (hall i (by
      apply Decidable.byContradiction; intro hn
      rw [Array.getElem?_eq_none (by omega)] at ho; cases ho)) ho hd fun p hp _ => by
        unfold deadB at hkd
        cases hc : p.2.contains (1000 + i) with
        | false => rfl
        | true => rw [List.any_eq_true.2 ⟨p, hp, hc⟩] at hkd; cases hkd
    unfold isDst at hd
    obtain ⟨o, ho, hod⟩ := List.any_eq_true.1 hd
    obtain ⟨i, hi, he⟩ := List.getElem_of_mem ho
    have hi' : i < ops.size := by simpa using hi
    have hio : ops[i]? = some o := by rw [Array.getElem?_eq_getElem hi']; simpa using he
    exact hI.ins i o d (hall i hi') hio (by simpa using hod) fun p hp _ => by
      unfold deadB at hkd
      cases hc : p.2.contains d with
      | false => rfl
      | true => rw [List.any_eq_true.2 ⟨p, hp, hc⟩] at hkd; cases hkd
  intro fuel
  induction fuel with
  | zero =>
    intro listed a w hf hI
    have hr : Region.ready .any ops listed = [] := by
      unfold Region.ready
      rw [List.filter_eq_nil_iff]
      intro i hi
      have hi' : i < listed.size := by rw [hI.len]; exact List.mem_range.1 hi
      have h0 : listed.toList.filter (! ·) = [] := List.eq_nil_of_length_eq_zero (by omega)
      have h1 := List.filter_eq_nil_iff.1 h0 listed[i] (by rw [Array.mem_toList_iff]; exact Array.getElem_mem hi')
      have h2 : listed.getD i true = true := by simp [Array.getD, hi']; simpa using h1
      simp [h2]
    exact ⟨hr, done listed a w hI hr⟩
  | succ fuel ih =>
    intro listed a w hf hI
    refine ⟨fun hr => done listed a w hI hr, fun i hi => ?_⟩
    obtain ⟨hun, o, ho, haft⟩ := mem_ready.1 hi
    obtain ⟨hds, hnone, hbef, hgd⟩ := okB4_at hok ho
    have hilt : i < listed.size := by
      apply Decidable.byContradiction; intro hn
      rw [Array.getD_eq_getD_getElem?, Array.getElem?_eq_none (by omega)] at hun; cases hun
    have hfuel : ((listed.setIfInBounds i true).toList.filter (! ·)).length ≤ fuel := by
      have key : ∀ (l : List Bool) (i : Nat), l[i]? = some false → ((l.set i true).filter (! ·)).length + 1 = (l.filter (! ·)).length := by
        intro l
        induction l with
        | nil => intro i h; simp at h
        | cons b l ih =>
          intro i h
          cases i with
          | zero => simp at h; subst h; simp
          | succ i =>
            simp at h
            have := ih i h
            cases b <;> simp at this ⊢ <;> omega
      have h1 : listed.toList[i]? = some false := by
        rw [Array.getD_eq_getD_getElem?, Array.getElem?_eq_getElem hilt] at hun
        simp at hun
        simp [hilt, hun]
      have := key _ _ h1
      rw [Array.toList_setIfInBounds]
      omega
    have hdep : ∀ d', waits ops o d' = true → (∀ p ∈ wr, listed.getD p.1 true = true → p.2.contains d' = false) → (S d').p (a.eval (.tmp d')) w := by
      intro d' hw hlv
      unfold waits at hw
      obtain ⟨e, he, h1⟩ := List.any_eq_true.1 hw
      simp only [Bool.and_eq_true] at h1
      have h2 := haft e (by simpa using he) h1.1
      cases hoe : ops[e.on]? with
      | none => rw [hoe] at h1; simp at h1
      | some oe =>
        rw [hoe] at h1
        have h3 : oe.dst = some d' := by simpa using h1.2
        have h4 : listed.getD e.on true = true := by
          have hlt2 := hbef e (by simpa using he) h1.1
          rw [Array.getD_eq_getD_getElem?] at h2 ⊢
          rw [Array.getElem?_eq_getElem (by omega)] at h2 ⊢
          simpa using h2
        exact hI.ins e.on oe d' h4 hoe h3 hlv
    have hev : ∀ x, (∀ t, x ≠ .tmp t) → a.eval x = a0.eval x := fun x hx => by
      cases x with
      | tmp t => exact absurd rfl (hx t)
      | const v => rfl
      | global g => rfl
      | func f => rfl
    have haft' : ∀ e ∈ o.after, Region.binds .any e = true → listed.getD e.on true = true := fun e he hb => by
      have h2 := haft e he hb
      have hlt2 := hbef e he hb
      rw [Array.getD_eq_getD_getElem?] at h2 ⊢
      rw [Array.getElem?_eq_getElem (by omega)] at h2 ⊢
      simpa using h2
    have hwin : ∀ p ∈ wr, p.1 < ops.size := fun p hp => by
      have hW' := hW
      unfold okW at hW'
      simp only [Bool.and_eq_true] at hW'
      have h1 := List.all_eq_true.1 hW'.2 p hp
      apply Decidable.byContradiction; intro hn
      rw [Array.getElem?_eq_none (by omega)] at h1; cases h1
    have hun' : ∀ p ∈ wr, (p.1 = i ∨ (ancs ops p.1).contains i = true) → listed.getD p.1 true = true → False := fun p hp h hl => by
      rcases h with h | h
      · rw [h, hun] at hl; cases hl
      · rw [hI.anc hW (hwin p hp) hl h] at hun; cases hun
    have hfresh : freshB wr ops i = true → Keeps w0 w := fun hf => hI.keep fun p hp => by
      have h1 := List.all_eq_true.1 hf p hp
      simp only [Bool.or_eq_true, beq_iff_eq] at h1
      cases hl : listed.getD p.1 true with
      | false => rfl
      | true => exact (hun' p hp h1 hl).elim
    have hkl : ∀ d', (!killsB wr ops i d') = true → ∀ p ∈ wr, listed.getD p.1 true = true → p.2.contains d' = false := fun d' h2 p hp hl => by
      cases hc : p.2.contains d' with
      | false => rfl
      | true =>
        exfalso
        have h1 : ¬ (p.2.contains d' && p.1 != i && !(ancs ops p.1).contains i) = true := fun h9 => by
          simp only [Bool.not_eq_true'] at h2
          unfold killsB at h2
          rw [List.any_eq_true.2 ⟨p, hp, h9⟩] at h2; cases h2
        rw [hc, Bool.true_and] at h1
        refine hun' p hp ?_ hl
        by_cases hpi : p.1 = i
        · exact .inl hpi
        · right
          cases ha : (ancs ops p.1).contains i with
          | true => rfl
          | false => exact absurd (by rw [ha]; simp [hpi]) h1
    have hS := (by simpa using hsteps.at i o (by simpa using ho) : Step4 P ops a0 w0 B S wr i o) a.eval w hI.bel hfresh (fun t ht => by
      show a.tmps.getD t undef = a0.tmps.getD t undef
      cases hdst : isDst ops t with
      | false => exact hI.out t hdst
      | true =>
        unfold isDst at hdst
        obtain ⟨oj, hoj, hot⟩ := List.any_eq_true.1 hdst
        obtain ⟨j, hj, he⟩ := List.getElem_of_mem hoj
        have hj' : j < ops.size := by simpa using hj
        have hjo : ops[j]? = some oj := by rw [Array.getElem?_eq_getElem hj']; simpa using he
        have hot : oj.dst = some t := by simpa using hot
        have h1 := List.all_eq_true.1 ht j (List.mem_range.2 hj')
        rw [hjo] at h1
        simp only [Option.bind_some, hot, bne_self_eq_false, Bool.false_or] at h1
        refine hI.old j oj t ?_ hjo hot
        cases hl : listed.getD j true with
        | false => rfl
        | true => rw [hI.anc hW hj' hl h1] at hun; cases hun) hev (fun d' h => by
      simp only [Bool.and_eq_true] at h
      exact hdep d' h.1 (hkl d' h.2)) (fun j h => by
      simp only [Bool.and_eq_true] at h
      obtain ⟨h1, h2⟩ := h
      unfold waitsW at h1
      obtain ⟨e, he, h3⟩ := List.any_eq_true.1 h1
      simp only [Bool.and_eq_true, beq_iff_eq] at h3
      obtain ⟨⟨h3, h4⟩, h5⟩ := h3
      have hl := haft' e (by simpa using he) h3
      rw [h4] at hl
      cases hoj : ops[j]? with
      | none => rw [hoj] at h5; cases h5
      | some oj =>
        rw [hoj] at h5
        exact hI.wins j oj hl hoj (by simpa using h5) (hkl (1000 + j) h2))
    by_cases hiw : isW wr i = true
    · rw [if_pos hiw] at hS
      have hgn : o.guard = none := by
        have hW' := hW
        unfold okW at hW'
        simp only [Bool.and_eq_true] at hW'
        unfold isW at hiw
        obtain ⟨p, hp, hpi⟩ := List.any_eq_true.1 hiw
        have hpi : p.1 = i := by simpa using hpi
        have h1 := List.all_eq_true.1 hW'.2 p hp
        rw [hpi, ho] at h1
        simpa using h1
      have hputW : ∀ {v : Value} {w' : World}, (o.dst = none → v = undef) → Below B w w' → (S (slotOf o i)).p v w' → Inv4 ops a0 w0 B S wr (listed.setIfInBounds i true) (a.put o.dst v) w' := fun {v w'} hvu hb hv =>
        hI.put hok haft' ho hv hvu hb (fun hno => by
          unfold isW at hiw
          obtain ⟨p, hp, hpi⟩ := List.any_eq_true.1 hiw
          have hpi : p.1 = i := by simpa using hpi
          have := hno p hp
          rw [hpi, listed_self4 hilt] at this; cases this) fun j oj hne hl hoj hkl u hu => by
          unfold isW at hiw
          obtain ⟨p, hp, hpi⟩ := List.any_eq_true.1 hiw
          have hpi : p.1 = i := by simpa using hpi
          have hnc := hkl p hp (by rw [hpi]; exact listed_self4 hilt)
          have hjl : j < ops.size := by
            apply Decidable.byContradiction; intro hn
            rw [Array.getElem?_eq_none (by omega)] at hoj; cases hoj
          have hsj := hstay.at j oj (by simpa using hoj)
          rw [Nat.zero_add] at hsj
          rcases hsj with h | h
          · have h2 := List.all_eq_true.1 h p hp
            unfold stayB at h2
            rw [hnc, hpi] at h2
            simp only [Bool.false_or, Bool.or_eq_true, beq_iff_eq] at h2
            rcases h2 with h2 | h2
            · exact absurd h2.symm hne
            · rw [hI.anc hW hjl hl h2] at hun; cases hun
          · exact h u w w' hb hu
      unfold wpOp
      rw [ho]
      have hwt : Region.wanted o (yielded ops a.tmps) = true := by simp [Region.wanted, hgn]
      simp only [hwt, if_true]
      refine .inl ?_
      unfold RunsB at hS
      unfold Oper.wp
      generalize (execOp a.eval o).run P w = r at *
      cases r with
      | halt x w' => cases hS
      | ok n w' =>
        cases n with
        | value v => exact ih _ _ _ hfuel (hputW (fun h => absurd h hS.1) hS.2.1 hS.2.2)
        | skip => exact ih _ _ _ hfuel (hputW (fun _ => rfl) hS.1 hS.2)
        | enter f args =>
          refine Calls.mono hS.2.2 fun e w'' he => ?_
          obtain ⟨v, rfl, hb, hv⟩ := he
          exact ih _ _ _ hfuel (hputW (fun h => absurd h hS.1) (Below.trans hS.2.1 hb) hv)
        | _ => cases hS
    rw [if_neg hiw] at hS
    obtain ⟨d, hd⟩ : ∃ d, o.dst = some d := by
      cases hd : o.dst with
      | none => exact absurd (hnone hd) hiw
      | some d => exact ⟨d, rfl⟩
    have es : slotOf o i = d := by unfold slotOf; rw [hd]; rfl
    have hput : ∀ {v : Value} {w' : World}, Keeps w w' → (S d).p v w' → Inv4 ops a0 w0 B S wr (listed.setIfInBounds i true) (a.put o.dst v) w' := fun {v w'} hb hv =>
      hI.put hok haft' ho (by rw [es]; exact hv) (fun h => by rw [hd] at h; cases h) (hb.mono (Nat.le_trans hB hI.bel.size)) (fun hno => keeps.trans (hI.keep fun p hp => by
        cases hl : listed.getD p.1 true with
        | false => rfl
        | true => have := hno p hp; rw [listed_mono4 hl] at this; cases this) hb) fun j oj _ _ _ _ u hu => (S (slotOf oj j)).st hu hb
    have run : Runs P o (S d) a.eval w → o.wp P a w (wpAny P .any ops Q fuel (listed.setIfInBounds i true)) Q := by
      intro hR
      unfold Runs at hR
      unfold Oper.wp
      generalize (execOp a.eval o).run P w = r at *
      cases r with
      | halt x w' => cases hR
      | ok n w' =>
        cases n with
        | value v => exact ih _ _ _ hfuel (hput hR.1 hR.2)
        | skip => exact ih _ _ _ hfuel (hput hR.1 hR.2)
        | enter f args =>
          refine Calls.mono hR.2 fun e w'' he => ?_
          obtain ⟨v, rfl, hb, hv⟩ := he
          exact ih _ _ _ hfuel (hput (keeps.trans hR.1 hb) hv)
        | _ => cases hR
    unfold wpOp
    rw [ho]
    cases hg : o.guard with
    | none =>
      have hwt : Region.wanted o (yielded ops a.tmps) = true := by simp [Region.wanted, hg]
      simp only [hwt, if_true]
      rw [hg, hd] at hS
      exact .inl (run hS)
    | some gb =>
      obtain ⟨g, b⟩ := gb
      obtain ⟨hgi, ⟨dg, hdg0⟩, e, he, hbe, hge⟩ := hgd g b hg
      obtain ⟨og, hog⟩ : ∃ og, ops[g]? = some og := by
        have : g < ops.size := by rw [← hI.len]; omega
        exact ⟨_, Array.getElem?_eq_getElem this⟩
      have hdg : og.dst = some dg := by rw [hog] at hdg0; exact hdg0
      have hdlt := ((okB4_at hok hog).1 dg hdg).1
      rw [hg, hd] at hS
      have hS' := hS dg (by rw [hog]; exact hdg)
      have hyl : yielded ops a.tmps g = match a.tmps.getD dg undef with | .bool b => some b | _ => none := by
        unfold yielded
        rw [hog]
        simp only [Option.bind_some, hdg]
        rw [Array.getD_eq_getD_getElem?, Array.getElem?_eq_getElem (by rw [hI.size]; exact hdlt)]
        simp only [Option.getD_some]
        cases a.tmps[dg]'(by rw [hI.size]; exact hdlt) <;> rfl
      by_cases hb : a.eval (.tmp dg) = .bool b
      · have hwt : Region.wanted o (yielded ops a.tmps) = true := by
          have hb' : a.tmps.getD dg undef = .bool b := hb
          simp [Region.wanted, hg, hyl, hb']
        simp only [hwt, if_true]
        exact .inl (run (hS'.1 hb))
      · have hwt : Region.wanted o (yielded ops a.tmps) = false := by
          have hb' : a.tmps.getD dg undef ≠ .bool b := hb
          simp only [Region.wanted, hg, hyl]
          generalize a.tmps.getD dg undef = x at *
          cases x <;> simp
          intro h; exact hb' (by rw [h])
        simp only [hwt]
        exact ih _ _ _ hfuel (hput (keeps.refl _) (hS'.2 hb))
/-- THE LAW: a region that draws its order, with writers. -/
theorem wp_region_lin4 {id n : Nat} {ops : Array Oper} {a0 : Act} {w0 : World} {Q : Exit → Act → World → Prop} (S : Nat → Spec Keeps) (B : Nat) (wr : Wr) (hm : P.follows .mixedOrders = true) (hn : a0.tmps.size = n) (hok : okB4 ops wr n = true)
    (hW : okW ops wr = true) (hB : B ≤ w0.heap.size) (hstay : Stays4 ops B S wr 0 ops.toList)
    (hsteps : Steps4 P ops a0 w0 B S wr 0 ops.toList)
    (hfin : ∀ (vals : Nat → Value) (w : World), Below B w0 w → (∀ d, isDst ops d = true → deadB wr d = false → (S d).p (vals d) w) → (∀ i o, ops[i]? = some o → o.dst = none → deadB wr (1000 + i) = false → (S (1000 + i)).p undef w) → Q .normal (putAll vals ops.toList a0) w) :
    (Code.region id ops true).wp P Q a0 w0 := by
  have hfresh : ∀ (i : Nat) o, (Array.replicate ops.size false).getD i true = true → ops[i]? = some o → False := fun i o hl ho => by
    have hlt : i < ops.size := by
      apply Decidable.byContradiction; intro hn
      rw [Array.getElem?_eq_none (by omega)] at ho; cases ho
    simp [Array.getD, hlt] at hl
  exact wp_region_any hm (any_lin4 (w0 := w0) (by rw [hn]; exact hok) hW hB hstay hsteps hfin ops.size _ a0 _ (by simp)
    ⟨rfl, rfl, fun _ _ => rfl, fun _ _ _ _ _ _ => rfl, fun i o d hl ho hd _ => (hfresh i o hl ho).elim, fun i o hl ho _ _ => (hfresh i o hl ho).elim, fun i o hl ho => (hfresh i o hl ho).elim, (Below.refl B w0).drew, fun _ => keeps.drew _, by simp⟩)
end
end Go.Proofs.Ytmgendgfdhhgfaa.Lin
