/-
  The law for a region that draws its order, where stores may lie among the operations: what a store leaves is said of the world, and no later operation of the region undoes it. Nothing here speaks of a Go function. No condition.
-/
import Derived.Test.YtmgendgfdhhgfaaLin
namespace Go.Proofs.Ytmgendgfdhhgfaa.Lin
open Go Go.RowKit
set_option linter.unusedSimpArgs false
set_option linter.unusedVariables false

section
variable {P : Program} {R : World → World → Prop}
/-- A store: what is known behind it, of the value v of the slot that it goes by. -/
def RunsW (P : Program) (o : Oper) (s : Spec R) (v : Value) (ρ : Operand → Value) (w : World) : Prop :=
  match (execOp ρ o).run P w with
  | .ok .skip w' => R w w' ∧ s.p v w'
  | _ => False
theorem RunsW.mk {o : Oper} {s : Spec R} {v : Value} {ρ : Operand → Value} {w w' : World} (h : (execOp ρ o).run P w = .ok .skip w') (hb : R w w') (hs : s.p v w') : RunsW P o s v ρ w := by
  unfold RunsW; rw [h]; exact ⟨hb, hs⟩
def Step2 (P : Program) (ops : Array Oper) (a0 : Act) (w0 : World) (S : Nat → Spec R) (D : Nat → Nat) (T : Nat → Spec R) (i : Nat) (o : Oper) : Prop :=
  ∀ (ρ : Operand → Value) (w : World), R w0 w → (∀ t, isDst ops t = false → ρ (.tmp t) = a0.eval (.tmp t)) → (∀ x, (∀ t, x ≠ .tmp t) → ρ x = a0.eval x) →
    (∀ d, waits ops o d = true → (S d).p (ρ (.tmp d)) w) →
    (match o.dst with
      | none => RunsW P o (T i) (ρ (.tmp (D i))) ρ w
      | some d => match o.guard with
        | none => Runs P o (S d) ρ w
        | some (g, b) => ∀ t, (ops[g]?).bind (·.dst) = some t → (ρ (.tmp t) = .bool b → Runs P o (S d) ρ w) ∧ (ρ (.tmp t) ≠ .bool b → (S d).p undef w))
def Steps2 (P : Program) (ops : Array Oper) (a0 : Act) (w0 : World) (S : Nat → Spec R) (D : Nat → Nat) (T : Nat → Spec R) : Nat → List Oper → Prop
  | _, [] => True
  | i, o :: os => Step2 P ops a0 w0 S D T i o ∧ Steps2 P ops a0 w0 S D T (i + 1) os
theorem Steps2.at {ops : Array Oper} {a0 : Act} {w0 : World} {S : Nat → Spec R} {D : Nat → Nat} {T : Nat → Spec R} : ∀ {l : List Oper} {k : Nat}, Steps2 P ops a0 w0 S D T k l → ∀ j o, l[j]? = some o → Step2 P ops a0 w0 S D T (k + j) o
  | [], _, _, j, o, h => by simp at h
  | x :: l, k, h, 0, o, ho => by simp at ho; subst ho; exact h.1
  | x :: l, k, h, j + 1, o, ho => by
    have := Steps2.at h.2 j o (by simpa using ho)
    rwa [show k + 1 + j = k + (j + 1) by omega] at this
def okS (ops : Array Oper) (size : Nat) : Bool :=
  (List.range ops.size).all fun i => match ops[i]? with
    | none => false
    | some o => (match o.dst with | some d => decide (d < size) && (List.range ops.size).all (fun j => j == i || ((ops[j]?).bind (·.dst) != some d)) | none => o.guard.isNone) &&
      o.after.toList.all (fun e => !Region.binds .any e || decide (e.on < i)) &&
      (match o.guard with | none => true | some (g, _) => decide (g < i) && ((ops[g]?).bind (·.dst)).isSome && o.after.toList.any (fun e => Region.binds .any e && e.on == g))
theorem okS_at {ops : Array Oper} {size i : Nat} {o : Oper} (h : okS ops size = true) (hi : ops[i]? = some o) :
    (∀ d, o.dst = some d → d < size ∧ (∀ (j : Nat) oj, ops[j]? = some oj → oj.dst = some d → j = i)) ∧ (o.dst = none → o.guard = none) ∧ (∀ e ∈ o.after, Region.binds .any e = true → e.on < i) ∧
      (∀ g b, o.guard = some (g, b) → g < i ∧ (∃ d, (ops[g]?).bind (·.dst) = some d) ∧ ∃ e ∈ o.after, Region.binds .any e = true ∧ e.on = g) := by
  have hlt : i < ops.size := by
    apply Decidable.byContradiction; intro hn
    rw [Array.getElem?_eq_none (by omega)] at hi; cases hi
  unfold okS at h
  have h1 := List.all_eq_true.1 h i (List.mem_range.2 hlt)
  rw [hi] at h1
  simp only [Bool.and_eq_true] at h1
  obtain ⟨⟨h1, h2⟩, h3⟩ := h1
  refine ⟨fun d hd => ?_, fun hd => ?_, fun e he hb => ?_, fun g b hg => ?_⟩
  · rw [hd] at h1
    simp only [Bool.and_eq_true, decide_eq_true_eq] at h1
    refine ⟨h1.1, fun j oj hj hjd => ?_⟩
    have hjl : j < ops.size := by
      apply Decidable.byContradiction; intro hn
      rw [Array.getElem?_eq_none (by omega)] at hj; cases hj
    have h4 := List.all_eq_true.1 h1.2 j (List.mem_range.2 hjl)
    simp [hj, hjd] at h4
    exact h4
  · rw [hd] at h1
    simpa using h1
  · have h4 := List.all_eq_true.1 h2 e (by simpa using he)
    simpa [hb] using h4
  · rw [hg] at h3
    simp only [Bool.and_eq_true, decide_eq_true_eq] at h3
    obtain ⟨⟨h3, h5⟩, h6⟩ := h3
    obtain ⟨e, he, h7⟩ := List.any_eq_true.1 h6
    simp at h7
    exact ⟨h3, Option.isSome_iff_exists.1 h5, e, by simpa using he, h7.1, h7.2⟩
structure Inv2 (ops : Array Oper) (a0 : Act) (w0 : World) (S : Nat → Spec R) (D : Nat → Nat) (T : Nat → Spec R) (listed : Array Bool) (a : Act) (w : World) : Prop where
  size : a.tmps.size = a0.tmps.size
  defers : a.defers = a0.defers
  out : ∀ t, isDst ops t = false → a.tmps.getD t undef = a0.tmps.getD t undef
  ins : ∀ (i : Nat) o d, listed.getD i true = true → ops[i]? = some o → o.dst = some d → (S d).p (a.tmps.getD d undef) w
  wins : ∀ (i : Nat) o, listed.getD i true = true → ops[i]? = some o → o.dst = none → (T i).p (a.tmps.getD (D i) undef) w
  closed : ∀ (i : Nat) o, listed.getD i true = true → ops[i]? = some o → ∀ e ∈ o.after, Region.binds .any e = true → listed.getD e.on true = true
  bel : R w0 w
  len : listed.size = ops.size
theorem listed_of {listed : Array Bool} {i j : Nat} (hne : i ≠ j) (hj : (listed.setIfInBounds i true).getD j true = true) : listed.getD j true = true := by
  rw [Array.getD_eq_getD_getElem?] at hj ⊢
  rw [Array.getElem?_setIfInBounds_ne hne] at hj; exact hj
/-- Each store waits for the slot that is said of it. -/
def depsB (ops : Array Oper) (D : Nat → Nat) : Bool := (List.range ops.size).all fun i => match ops[i]? with | some o => o.dst.isSome || waits ops o (D i) | none => false
theorem waits_at {ops : Array Oper} {D : Nat → Nat} {j : Nat} {oj : Oper} (h : depsB ops D = true) (hj : ops[j]? = some oj) (hd : oj.dst = none) : waits ops oj (D j) = true := by
  have hlt : j < ops.size := by
    apply Decidable.byContradiction; intro hn
    rw [Array.getElem?_eq_none (by omega)] at hj; cases hj
  have h1 := List.all_eq_true.1 h j (List.mem_range.2 hlt)
  rw [hj] at h1
  simpa [hd] using h1
theorem listed_mono {listed : Array Bool} {i j : Nat} (hj : listed.getD j true = true) : (listed.setIfInBounds i true).getD j true = true := by
  rw [Array.getD_eq_getD_getElem?] at hj ⊢
  by_cases hne : i = j
  · subst hne
    by_cases hlt : i < listed.size
    · rw [Array.getElem?_setIfInBounds_self_of_lt hlt]; rfl
    · rw [Array.getElem?_eq_none (by rw [Array.size_setIfInBounds]; omega)]; rfl
  · rw [Array.getElem?_setIfInBounds_ne hne]; exact hj
theorem Inv2.closed_set {ops : Array Oper} {a0 : Act} {w0 : World} {S : Nat → Spec R} {D : Nat → Nat} {T : Nat → Spec R} {listed : Array Bool} {a : Act} {w : World} {i : Nat} {o : Oper}
    (h : Inv2 ops a0 w0 S D T listed a w) (hi : ops[i]? = some o) (haft : ∀ e ∈ o.after, Region.binds .any e = true → listed.getD e.on true = true) :
    ∀ (j : Nat) oj, (listed.setIfInBounds i true).getD j true = true → ops[j]? = some oj → ∀ e ∈ oj.after, Region.binds .any e = true → (listed.setIfInBounds i true).getD e.on true = true := by
  intro j oj hj hoj e he hb
  by_cases hne : i = j
  · subst hne
    rw [hi] at hoj; injection hoj with hoj; subst hoj
    exact listed_mono (haft e he hb)
  · exact listed_mono (h.closed j oj (listed_of hne hj) hoj e he hb)
theorem Inv2.put {ops : Array Oper} {a0 : Act} {w0 : World} {S : Nat → Spec R} {D : Nat → Nat} {T : Nat → Spec R} {listed : Array Bool} {a : Act} {w w' : World} {i d : Nat} {o : Oper} {v : Value}
    (rel : Rel R) (h : Inv2 ops a0 w0 S D T listed a w) (hok : okS ops a0.tmps.size = true) (hdep : depsB ops D = true) (hun : listed.getD i true = false) (haft : ∀ e ∈ o.after, Region.binds .any e = true → listed.getD e.on true = true) (hi : ops[i]? = some o) (hd : o.dst = some d) (hb : R w w') (hv : (S d).p v w') :
    Inv2 ops a0 w0 S D T (listed.setIfInBounds i true) (a.put o.dst v) w' := by
  obtain ⟨hlt, huniq⟩ := (okS_at hok hi).1 d hd
  rw [hd]
  have hput : (a.put (some d) v).tmps = a.tmps.setIfInBounds d v := rfl
  refine ⟨?_, h.defers, fun t ht => ?_, fun j oj dj hj hoj hdj => ?_, fun j oj hj hoj hdj => ?_, h.closed_set hi haft, rel.trans h.bel hb, by rw [Array.size_setIfInBounds]; exact h.len⟩
  · rw [hput, Array.size_setIfInBounds]; exact h.size
  · rw [← h.out t ht, hput]
    have hne : d ≠ t := by
      rintro rfl
      have : isDst ops d = true := by
        unfold isDst
        rw [List.any_eq_true]
        exact ⟨o, by rw [Array.mem_toList_iff]; exact Array.mem_of_getElem? hi, by simp [hd]⟩
      rw [this] at ht; cases ht
    simp [Array.getD_eq_getD_getElem?, Array.getElem?_setIfInBounds_ne hne]
  · by_cases hji : dj = d
    · subst hji
      have : (a.put (some dj) v).tmps.getD dj undef = v := by
        rw [hput, Array.getD_eq_getD_getElem?, Array.getElem?_setIfInBounds_self_of_lt (by rw [h.size]; exact hlt)]; rfl
      rw [this]; exact hv
    · have hne : i ≠ j := by
        rintro rfl
        rw [hi] at hoj; injection hoj with hoj; subst hoj
        rw [hd] at hdj; injection hdj with hdj; exact hji hdj.symm
      have := h.ins j oj dj (listed_of hne hj) hoj hdj
      have e : (a.put (some d) v).tmps.getD dj undef = a.tmps.getD dj undef := by
        rw [hput, Array.getD_eq_getD_getElem?, Array.getD_eq_getD_getElem?, Array.getElem?_setIfInBounds_ne (Ne.symm hji)]
      rw [e]; exact (S dj).st this hb
  · have hne : i ≠ j := by
      rintro rfl
      rw [hi] at hoj; injection hoj with hoj; subst hoj
      rw [hd] at hdj; cases hdj
    have hw := waits_at hdep hoj hdj
    have hnd : d ≠ D j := by
      intro e
      obtain ⟨e1, he1, h1⟩ := List.any_eq_true.1 hw
      simp only [Bool.and_eq_true] at h1
      cases hoe : ops[e1.on]? with
      | none => rw [hoe] at h1; simp at h1
      | some oe =>
        rw [hoe] at h1
        have h3 : oe.dst = some (D j) := by simpa using h1.2
        have h4 := huniq e1.on oe hoe (by rw [h3, e])
        have h5 := h.closed j oj (listed_of hne hj) hoj e1 (by simpa using he1) h1.1
        rw [h4, hun] at h5; cases h5
    have e : (a.put (some d) v).tmps.getD (D j) undef = a.tmps.getD (D j) undef := by
      rw [hput, Array.getD_eq_getD_getElem?, Array.getD_eq_getD_getElem?, Array.getElem?_setIfInBounds_ne hnd]
    rw [e]
    exact (T j).st (h.wins j oj (listed_of hne hj) hoj hdj) hb
theorem Inv2.wput {ops : Array Oper} {a0 : Act} {w0 : World} {S : Nat → Spec R} {D : Nat → Nat} {T : Nat → Spec R} {listed : Array Bool} {a : Act} {w w' : World} {i : Nat} {o : Oper}
    (rel : Rel R) (h : Inv2 ops a0 w0 S D T listed a w) (haft : ∀ e ∈ o.after, Region.binds .any e = true → listed.getD e.on true = true) (hi : ops[i]? = some o) (hd : o.dst = none) (hb : R w w') (hv : (T i).p (a.tmps.getD (D i) undef) w') :
    Inv2 ops a0 w0 S D T (listed.setIfInBounds i true) a w' := by
  refine ⟨h.size, h.defers, h.out, fun j oj dj hj hoj hdj => ?_, fun j oj hj hoj hdj => ?_, h.closed_set hi haft, rel.trans h.bel hb, by rw [Array.size_setIfInBounds]; exact h.len⟩
  · have hne : i ≠ j := by
      rintro rfl
      rw [hi] at hoj; injection hoj with hoj; subst hoj
      rw [hd] at hdj; cases hdj
    exact (S dj).st (h.ins j oj dj (listed_of hne hj) hoj hdj) hb
  · by_cases hne : i = j
    · subst hne; exact hv
    · exact (T j).st (h.wins j oj (listed_of hne hj) hoj hdj) hb

/-- THE LAW, from the world behind the draw. -/
theorem any_lin2 (rel : Rel R) {ops : Array Oper} {a0 : Act} {w0 : World} {S : Nat → Spec R} {D : Nat → Nat} {T : Nat → Spec R} {Q : Exit → Act → World → Prop} (hok : okS ops a0.tmps.size = true)
    (hDD : depsB ops D = true) (hsteps : Steps2 P ops a0 w0 S D T 0 ops.toList)
    (hfin : ∀ (vals : Nat → Value) (w : World), R w0 w → (∀ d, isDst ops d = true → (S d).p (vals d) w) → (∀ i o, ops[i]? = some o → o.dst = none → (T i).p (vals (D i)) w) → Q .normal (putAll vals ops.toList a0) w) :
    ∀ (fuel : Nat) (listed : Array Bool) (a : Act) (w : World), (listed.toList.filter (! ·)).length ≤ fuel → Inv2 ops a0 w0 S D T listed a w → wpAny P .any ops Q fuel listed a w := by
  have done : ∀ (listed : Array Bool) (a : Act) (w : World), Inv2 ops a0 w0 S D T listed a w → Region.ready .any ops listed = [] → Q .normal a w := by
    intro listed a w hI hr
    have hall : ∀ i, i < ops.size → listed.getD i true = true := by
      intro i
      induction i using Nat.strongRecOn with
      | ind i ih =>
        intro hi
        apply Decidable.byContradiction
        intro hn
        have ho : ops[i]? = some ops[i] := Array.getElem?_eq_getElem hi
        obtain ⟨_, _, haft, _⟩ := okS_at hok ho
        have : i ∈ Region.ready .any ops listed := by
          unfold Region.ready
          rw [List.mem_filter]
          refine ⟨List.mem_range.2 hi, ?_⟩
          have h1 : listed.getD i true = false := by simpa using hn
          simp only [h1, ho, Option.map_some, Option.getD_some, Bool.not_false, Bool.true_and, Array.all_eq_true]
          intro k hk
          by_cases hb : Region.binds .any ops[i].after[k] = true
          · have hlt := haft _ (Array.getElem_mem hk) hb
            have h2 := ih _ hlt (by omega)
            rw [Array.getD_eq_getD_getElem?] at h2 ⊢
            rw [Array.getElem?_eq_getElem (by rw [hI.len]; omega)] at h2 ⊢
            simp at h2 ⊢
            exact .inr h2
          · simp [hb]
        rw [hr] at this; cases this
    rw [act_eq hI.size hI.defers hI.out]
    refine hfin _ w hI.bel (fun d hd => ?_) (fun i o hio hod => ?_)
    rotate_left
    · have hi2 : i < ops.size := by
        apply Decidable.byContradiction; intro hn
        rw [Array.getElem?_eq_none (by omega)] at hio; cases hio
      exact hI.wins i o (hall i hi2) hio hod
    unfold isDst at hd
    obtain ⟨o, ho, hod⟩ := List.any_eq_true.1 hd
    obtain ⟨i, hi, he⟩ := List.getElem_of_mem ho
    have hi' : i < ops.size := by simpa using hi
    have hio : ops[i]? = some o := by rw [Array.getElem?_eq_getElem hi']; simpa using he
    exact hI.ins i o d (hall i hi') hio (by simpa using hod)
  intro fuel
  induction fuel with
  | zero =>
    intro listed a w hf hI
    have hr : Region.ready .any ops listed = [] := by
      unfold Region.ready
      rw [List.filter_eq_nil_iff]
      intro i hi
      have hi' : i < listed.size := by rw [hI.len]; exact List.mem_range.1 hi
      have h0 : listed.toList.filter (! ·) = [] := List.eq_nil_of_length_eq_zero (by omega)
      have h1 := List.filter_eq_nil_iff.1 h0 listed[i] (by rw [Array.mem_toList_iff]; exact Array.getElem_mem hi')
      have h2 : listed.getD i true = true := by simp [Array.getD, hi']; simpa using h1
      simp [h2]
    exact ⟨hr, done listed a w hI hr⟩
  | succ fuel ih =>
    intro listed a w hf hI
    refine ⟨fun hr => done listed a w hI hr, fun i hi => ?_⟩
    obtain ⟨hun, o, ho, haft⟩ := mem_ready.1 hi
    obtain ⟨hdst, hnog, hbef, hgd⟩ := okS_at hok ho
    have hst := hsteps.at i o (by rw [Array.getElem?_toList]; exact ho)
    rw [Nat.zero_add] at hst
    have hilt : i < listed.size := by
      apply Decidable.byContradiction; intro hn
      rw [Array.getD_eq_getD_getElem?, Array.getElem?_eq_none (by omega)] at hun; cases hun
    have hfuel : ((listed.setIfInBounds i true).toList.filter (! ·)).length ≤ fuel := by
      have key : ∀ (l : List Bool) (i : Nat), l[i]? = some false → ((l.set i true).filter (! ·)).length + 1 = (l.filter (! ·)).length := by
        intro l
        induction l with
        | nil => intro i h; simp at h
        | cons b l ih =>
          intro i h
          cases i with
          | zero => simp at h; subst h; simp
          | succ i =>
            simp at h
            have := ih i h
            cases b <;> simp at this ⊢ <;> omega
      have h1 : listed.toList[i]? = some false := by
        rw [Array.getD_eq_getD_getElem?, Array.getElem?_eq_getElem hilt] at hun
        simp at hun
        simp [hilt, hun]
      have := key _ _ h1
      rw [Array.toList_setIfInBounds]
      omega
    have hdep : ∀ d', waits ops o d' = true → (S d').p (a.eval (.tmp d')) w := by
      intro d' hw
      unfold waits at hw
      obtain ⟨e, he, h1⟩ := List.any_eq_true.1 hw
      simp only [Bool.and_eq_true] at h1
      have h2 := haft e (by simpa using he) h1.1
      cases hoe : ops[e.on]? with
      | none => rw [hoe] at h1; simp at h1
      | some oe =>
        rw [hoe] at h1
        have h3 : oe.dst = some d' := by simpa using h1.2
        have h4 : listed.getD e.on true = true := by
          have hlt2 := hbef e (by simpa using he) h1.1
          rw [Array.getD_eq_getD_getElem?] at h2 ⊢
          rw [Array.getElem?_eq_getElem (by omega)] at h2 ⊢
          simpa using h2
        exact hI.ins e.on oe d' h4 hoe h3
    have hS := hst a.eval w hI.bel (fun t ht => hI.out t ht) (fun x hx => by
      cases x with
      | tmp t => exact absurd rfl (hx t)
      | const v => rfl
      | global g => rfl
      | func f => rfl) hdep
    have haft2 : ∀ e ∈ o.after, Region.binds .any e = true → listed.getD e.on true = true := by
      intro e he hb
      have h2 := haft e he hb
      have hlt2 := hbef e he hb
      rw [Array.getD_eq_getD_getElem?] at h2 ⊢
      rw [Array.getElem?_eq_getElem (by omega)] at h2 ⊢
      simpa using h2
    have hun2 : listed.getD i true = false := hun
    cases hd : o.dst with
    | none =>
      rw [hd] at hS
      have hg := hnog hd
      have hwt : Region.wanted o (yielded ops a.tmps) = true := by simp [Region.wanted, hg]
      unfold wpOp
      rw [ho]
      simp only [hwt, if_true]
      refine .inl ?_
      have hR : RunsW P o (T i) (a.tmps.getD (D i) undef) a.eval w := hS
      unfold RunsW at hR
      unfold Oper.wp
      generalize (execOp a.eval o).run P w = r at *
      cases r with
      | halt x w' => cases hR
      | ok n w' =>
        cases n with
        | skip =>
          have := ih _ a w' hfuel (hI.wput rel haft2 ho hd hR.1 hR.2)
          have h9 : a.put o.dst undef = a := by rw [hd]; rfl
          show wpAny P .any ops Q fuel (listed.setIfInBounds i true) (a.put o.dst undef) w'
          rw [h9]; exact this
        | _ => cases hR
    | some d =>
      rw [hd] at hS
      have run : Runs P o (S d) a.eval w → o.wp P a w (wpAny P .any ops Q fuel (listed.setIfInBounds i true)) Q := by
        intro hR
        unfold Runs at hR
        unfold Oper.wp
        generalize (execOp a.eval o).run P w = r at *
        cases r with
        | halt x w' => cases hR
        | ok n w' =>
          cases n with
          | value v => exact ih _ _ _ hfuel (hI.put rel hok hDD hun2 haft2 ho hd hR.1 hR.2)
          | skip => exact ih _ _ _ hfuel (hI.put rel hok hDD hun2 haft2 ho hd hR.1 hR.2)
          | enter f args =>
            refine Calls.mono hR.2 fun e w'' he => ?_
            obtain ⟨v, rfl, hb, hv⟩ := he
            exact ih _ _ _ hfuel (hI.put rel hok hDD hun2 haft2 ho hd (rel.trans hR.1 hb) hv)
          | _ => cases hR
      unfold wpOp
      rw [ho]
      cases hg : o.guard with
      | none =>
        have hwt : Region.wanted o (yielded ops a.tmps) = true := by simp [Region.wanted, hg]
        simp only [hwt, if_true]
        rw [hg] at hS
        exact .inl (run hS)
      | some gb =>
        obtain ⟨g, b⟩ := gb
        obtain ⟨hgi, ⟨dg, hdg0⟩, e, he, hbe, hge⟩ := hgd g b hg
        obtain ⟨og, hog⟩ : ∃ og, ops[g]? = some og := by
          cases hq : ops[g]? with
          | none => rw [hq] at hdg0; cases hdg0
          | some og => exact ⟨og, rfl⟩
        have hdg : og.dst = some dg := by rw [hog] at hdg0; exact hdg0
        have hdlt := ((okS_at hok hog).1 dg hdg).1
        rw [hg] at hS
        have hS' := hS dg (by rw [hog]; exact hdg)
        have hyl : yielded ops a.tmps g = match a.tmps.getD dg undef with | .bool b => some b | _ => none := by
          unfold yielded
          rw [hog]
          simp only [Option.bind_some, hdg]
          rw [Array.getD_eq_getD_getElem?, Array.getElem?_eq_getElem (by rw [hI.size]; exact hdlt)]
          simp only [Option.getD_some]
          cases a.tmps[dg]'(by rw [hI.size]; exact hdlt) <;> rfl
        by_cases hb : a.eval (.tmp dg) = .bool b
        · have hwt : Region.wanted o (yielded ops a.tmps) = true := by
            have hb' : a.tmps.getD dg undef = .bool b := hb
            simp [Region.wanted, hg, hyl, hb']
          simp only [hwt, if_true]
          exact .inl (run (hS'.1 hb))
        · have hwt : Region.wanted o (yielded ops a.tmps) = false := by
            have hb' : a.tmps.getD dg undef ≠ .bool b := hb
            simp only [Region.wanted, hg, hyl]
            generalize a.tmps.getD dg undef = x at *
            cases x <;> simp
            intro h; exact hb' (by rw [h])
          simp only [hwt]
          exact ih _ _ _ hfuel (hI.put rel hok hDD hun2 haft2 ho hd (rel.refl _) (hS'.2 hb))
/-- THE LAW: a region that draws its order, with stores. -/
theorem wp_region_lin2 (rel : Rel R) {id n : Nat} {ops : Array Oper} {a0 : Act} {w0 : World} {Q : Exit → Act → World → Prop} (S : Nat → Spec R) (D : Nat → Nat) (T : Nat → Spec R) (hm : P.follows .mixedOrders = true) (hn : a0.tmps.size = n) (hok : (okS ops n && depsB ops D) = true)
    (hsteps : Steps2 P ops a0 w0 S D T 0 ops.toList)
    (hfin : ∀ (vals : Nat → Value) (w : World), R w0 w → (∀ d, isDst ops d = true → (S d).p (vals d) w) → (∀ i o, ops[i]? = some o → o.dst = none → (T i).p (vals (D i)) w) → Q .normal (putAll vals ops.toList a0) w) :
    (Code.region id ops true).wp P Q a0 w0 := by
  simp only [Bool.and_eq_true] at hok
  obtain ⟨hok, hdep⟩ := hok
  exact wp_region_any hm (any_lin2 rel (w0 := w0) (by rw [hn]; exact hok) hdep hsteps hfin ops.size _ a0 _ (by simp)
    ⟨rfl, rfl, fun _ _ => rfl, fun i o d hl ho hd => by
      have hlt : i < ops.size := by
        apply Decidable.byContradiction; intro hn
        rw [Array.getElem?_eq_none (by omega)] at ho; cases ho
      simp [Array.getD, hlt] at hl, fun i o hl ho hd => by
      have hlt : i < ops.size := by
        apply Decidable.byContradiction; intro hn
        rw [Array.getElem?_eq_none (by omega)] at ho; cases ho
      simp [Array.getD, hlt] at hl, fun i o hl ho => by
      have hlt : i < ops.size := by
        apply Decidable.byContradiction; intro hn
        rw [Array.getElem?_eq_none (by omega)] at ho; cases ho
      simp [Array.getD, hlt] at hl, rel.drew _, by simp⟩)
/-- Blocks from B on may change, once, as 'may' says; all others are as they were. -/
def Turns (B : Nat) (may : Option Obj → Option Obj → Prop) (w w' : World) : Prop :=
  w'.os = w.os ∧ w'.tape = w.tape ∧ w'.output = w.output ∧ w.heap.size ≤ w'.heap.size ∧ ∀ i, i < w.heap.size → w'.heap[i]? = w.heap[i]? ∨ (B ≤ i ∧ may w.heap[i]? w'.heap[i]?)
theorem turns {B : Nat} {may : Option Obj → Option Obj → Prop} (ht : ∀ {a b c}, may a b → may b c → may a c) : Rel (Turns B may) :=
  ⟨fun w => ⟨rfl, rfl, rfl, Nat.le_refl _, fun i _ => .inl rfl⟩,
   fun {a b c} h k => ⟨k.1.trans h.1, k.2.1.trans h.2.1, k.2.2.1.trans h.2.2.1, Nat.le_trans h.2.2.2.1 k.2.2.2.1, fun i hi => by
     rcases h.2.2.2.2 i hi with e1 | ⟨b1, m1⟩ <;> rcases k.2.2.2.2 i (Nat.lt_of_lt_of_le hi h.2.2.2.1) with e2 | ⟨b2, m2⟩
     · exact .inl (e2.trans e1)
     · exact .inr ⟨b2, by rw [← e1]; exact m2⟩
     · exact .inr ⟨b1, by rw [e2]; exact m1⟩
     · exact .inr ⟨b1, ht m1 m2⟩⟩,
   fun w => ⟨rfl, rfl, rfl, Nat.le_refl _, fun i _ => .inl rfl⟩⟩
theorem Turns.keeps {B : Nat} {may : Option Obj → Option Obj → Prop} {w w' : World} (h : Below w.heap.size w w') : Turns B may w w' := ⟨h.os, h.tape, h.output, h.size, fun i hi => .inl (h.block i hi)⟩
theorem Turns.below {B : Nat} {may : Option Obj → Option Obj → Prop} {w w' : World} (h : Turns B may w w') (hB : B ≤ w.heap.size) : Below B w w' :=
  ⟨h.1, h.2.1, h.2.2.1, h.2.2.2.1, fun i hi => by
    rcases h.2.2.2.2 i (by omega) with e | ⟨b, _⟩
    · exact e
    · omega⟩
end
end Go.Proofs.Ytmgendgfdhhgfaa.Lin
