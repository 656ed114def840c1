/-
  A law for a region that draws its order: each operation is met once, whatever order is drawn, where every operation leaves what there was as it is. Nothing here speaks of a Go function. No condition.
-/
import Derived.Orders
import Derived.Below
import Derived.WalkKit
import Derived.StillTail
namespace Go.Proofs.Ytmgendgfdhhgfaa.Lin
open Go Go.RowKit
set_option linter.unusedSimpArgs false
set_option linter.unusedVariables false

/-- What is known of an operation's value; new memory does not undo it. -/
structure Spec (R : World → World → Prop) where
  p : Value → World → Prop
  st : ∀ {v : Value} {w w' : World}, p v w → R w w' → p v w'
def Spec.val {R : World → World → Prop} (u : Value) : Spec R := ⟨fun v _ => v = u, fun h _ => h⟩
def Spec.any {R : World → World → Prop} : Spec R := ⟨fun _ _ => True, fun _ _ => trivial⟩
def Spec.of {R : World → World → Prop} (p : Value → Prop) : Spec R := ⟨fun v _ => p v, fun h _ => h⟩
/-- How worlds may follow each other. -/
structure Rel (R : World → World → Prop) : Prop where
  refl : ∀ w, R w w
  trans : ∀ {a b c : World}, R a b → R b c → R a c
  drew : ∀ w, R w { w with drawn := w.drawn + 1 }
/-- What there was is as it was. -/
abbrev Keeps (w w' : World) : Prop := Below w.heap.size w w'
theorem keeps : Rel Keeps := ⟨fun w => Below.refl _ w, fun h k => Below.trans h (k.mono h.size), fun w => (Below.refl _ w).drew⟩
/-- What there was is as it was, block g apart. -/
abbrev But (g : Nat) (w w' : World) : Prop := w.grownBy w' (some g)
theorem but (g : Nat) : Rel (But g) := ⟨fun w => ⟨rfl, rfl, rfl, Nat.le_refl _, fun _ _ _ => rfl⟩,
  fun {a b c} h k => ⟨k.os.trans h.os, k.tape.trans h.tape, k.output.trans h.output, Nat.le_trans h.size k.size, fun i hi hn => (k.block i (Nat.lt_of_lt_of_le hi h.size) hn).trans (h.block i hi hn)⟩,
  fun w => ⟨rfl, rfl, rfl, Nat.le_refl _, fun _ _ _ => rfl⟩⟩

section
variable {P : Program} {R : World → World → Prop}

def isDst (ops : Array Oper) (d : Nat) : Bool := ops.toList.any fun o => o.dst == some d
/-- Operation o waits for the operation that writes d. -/
def waits (ops : Array Oper) (o : Oper) (d : Nat) : Bool := o.after.toList.any fun e => Region.binds .any e && ((ops[e.on]?).bind (·.dst) == some d)
def guarded (ops : Array Oper) (o : Oper) (d : Nat) : Bool := match o.guard with | some (g, _) => (ops[g]?).bind (·.dst) == some d | none => false

/-- One operation, run in a world that keeps what there was: its value is as said of it, and what there was is kept. -/
def Runs (P : Program) (o : Oper) (s : Spec R) (ρ : Operand → Value) (w : World) : Prop :=
  match (execOp ρ o).run P w with
  | .ok (.value v) w' => R w w' ∧ s.p v w'
  | .ok .skip w' => R w w' ∧ s.p undef w'
  | .ok (.enter f args) w' => R w w' ∧ Calls P f args w' fun e w'' => ∃ v, e = .returned v ∧ R w' w'' ∧ s.p v w''
  | _ => False
theorem Runs.value (rel : Rel R) {o : Oper} {s : Spec R} {ρ : Operand → Value} {w : World} {v : Value} (h : (execOp ρ o).run P w = .ok (.value v) w) (hs : s.p v w) : Runs P o s ρ w := by
  unfold Runs; rw [h]; exact ⟨rel.refl _, hs⟩
theorem Runs.made {o : Oper} {s : Spec R} {ρ : Operand → Value} {w w' : World} {v : Value} (h : (execOp ρ o).run P w = .ok (.value v) w') (hb : R w w') (hs : s.p v w') : Runs P o s ρ w := by
  unfold Runs; rw [h]; exact ⟨hb, hs⟩
theorem Runs.call (rel : Rel R) {o : Oper} {s : Spec R} {ρ : Operand → Value} {w : World} {f : FuncId} {args : Array Value} (h : (execOp ρ o).run P w = .ok (.enter f args) w)
    (hc : Calls P f args w fun e w'' => ∃ v, e = .returned v ∧ R w w'' ∧ s.p v w'') : Runs P o s ρ w := by
  unfold Runs; rw [h]; exact ⟨rel.refl _, hc⟩

theorem exec_move {o : Oper} {ρ : Operand → Value} {w : World} {x : Operand} (h : o.op = .move x) : (execOp ρ o).run P w = .ok (.value (ρ x)) w := by simp [execOp, h, Sem.run_pure]
theorem exec_assign {o : Oper} {ρ : Operand → Value} {w : World} {x : Operand} (h : o.op = .assign x) : (execOp ρ o).run P w = .ok (.value (ρ x)) w := by simp [execOp, h, Sem.run_pure]
theorem exec_convert {o : Oper} {ρ : Operand → Value} {w : World} {s d : TypeId} {x : Operand} {v : Value} (h : o.op = .convert s d x) (hr : (convert s d (ρ x)).run P w = .ok v w) : (execOp ρ o).run P w = .ok (.value v) w := by
  simp only [execOp, h, Sem.run_bind, hr, Result.andThen_ok, Sem.run_pure]
/-- What is owed of operation o of the region. -/
def Step (P : Program) (ops : Array Oper) (a0 : Act) (w0 : World) (S : Nat → Spec R) (o : Oper) : Prop :=
  ∀ (ρ : Operand → Value) (w : World), R w0 w → (∀ t, isDst ops t = false → ρ (.tmp t) = a0.eval (.tmp t)) → (∀ x, (∀ t, x ≠ .tmp t) → ρ x = a0.eval x) →
    (∀ d, waits ops o d = true → (S d).p (ρ (.tmp d)) w) →
    (match o.guard with
      | none => Runs P o (S (o.dst.getD 0)) ρ w
      | some (g, b) => ∀ t, (ops[g]?).bind (·.dst) = some t → (ρ (.tmp t) = .bool b → Runs P o (S (o.dst.getD 0)) ρ w) ∧ (ρ (.tmp t) ≠ .bool b → (S (o.dst.getD 0)).p undef w))
def Steps (P : Program) (ops : Array Oper) (a0 : Act) (w0 : World) (S : Nat → Spec R) : List Oper → Prop
  | [] => True
  | o :: os => Step P ops a0 w0 S o ∧ Steps P ops a0 w0 S os
theorem Steps.at {ops : Array Oper} {a0 : Act} {w0 : World} {S : Nat → Spec R} : ∀ {l : List Oper}, Steps P ops a0 w0 S l → ∀ o ∈ l, Step P ops a0 w0 S o
  | [], _, _, h => by cases h
  | _ :: _, h, o, ho => by
    rcases List.mem_cons.1 ho with rfl | ho
    · exact h.1
    · exact Steps.at h.2 o ho
theorem getD_lt {xs : Array Value} {i : Nat} (h : i < xs.size) : xs.getD i undef = xs[i] := by
  rw [Array.getD_eq_getD_getElem?, Array.getElem?_eq_getElem h]; rfl
/-- The frame behind the region. -/
def putAll (vals : Nat → Value) : List Oper → Act → Act
  | [], a => a
  | o :: os, a => putAll vals os (a.put o.dst (vals (o.dst.getD 0)))

/-- Every operation writes a slot of its own, waits for earlier ones alone, and its guard is one of those for which it waits. -/
def okB (ops : Array Oper) (size : Nat) : Bool :=
  (List.range ops.size).all fun i => match ops[i]? with
    | none => false
    | some o => (match o.dst with | some d => decide (d < size) && (List.range ops.size).all (fun j => j == i || ((ops[j]?).bind (·.dst) != some d)) | none => false) &&
      o.after.toList.all (fun e => !Region.binds .any e || decide (e.on < i)) &&
      (match o.guard with | none => true | some (g, _) => decide (g < i) && o.after.toList.any (fun e => Region.binds .any e && e.on == g))
theorem okB_at {ops : Array Oper} {size i : Nat} {o : Oper} (h : okB ops size = true) (hi : ops[i]? = some o) :
    ∃ d, o.dst = some d ∧ d < size ∧ (∀ (j : Nat) oj, ops[j]? = some oj → oj.dst = some d → j = i) ∧ (∀ e ∈ o.after, Region.binds .any e = true → e.on < i) ∧
      (∀ g b, o.guard = some (g, b) → g < i ∧ ∃ e ∈ o.after, Region.binds .any e = true ∧ e.on = g) := by
  have hlt : i < ops.size := by
    apply Decidable.byContradiction; intro hn
    rw [Array.getElem?_eq_none (by omega)] at hi; cases hi
  unfold okB at h
  have h1 := List.all_eq_true.1 h i (List.mem_range.2 hlt)
  rw [hi] at h1
  simp only [Bool.and_eq_true] at h1
  obtain ⟨⟨h1, h2⟩, h3⟩ := h1
  cases hd : o.dst with
  | none => rw [hd] at h1; cases h1
  | some d =>
    rw [hd] at h1
    simp only [Bool.and_eq_true, decide_eq_true_eq] at h1
    refine ⟨d, rfl, h1.1, fun j oj hj hjd => ?_, fun e he hb => ?_, fun g b hg => ?_⟩
    · have hjl : j < ops.size := by
        apply Decidable.byContradiction; intro hn
        rw [Array.getElem?_eq_none (by omega)] at hj; cases hj
      have h4 := List.all_eq_true.1 h1.2 j (List.mem_range.2 hjl)
      simp [hj, hjd] at h4
      exact h4
    · have h4 := List.all_eq_true.1 h2 e (by simpa using he)
      simpa [hb] using h4
    · rw [hg] at h3
      simp only [Bool.and_eq_true, decide_eq_true_eq] at h3
      obtain ⟨e, he, h5⟩ := List.any_eq_true.1 h3.2
      simp at h5
      exact ⟨h3.1, e, by simpa using he, h5.1, h5.2⟩

structure Inv (ops : Array Oper) (a0 : Act) (w0 : World) (S : Nat → Spec R) (listed : Array Bool) (a : Act) (w : World) : Prop where
  size : a.tmps.size = a0.tmps.size
  defers : a.defers = a0.defers
  out : ∀ t, isDst ops t = false → a.tmps.getD t undef = a0.tmps.getD t undef
  ins : ∀ (i : Nat) o d, listed.getD i true = true → ops[i]? = some o → o.dst = some d → (S d).p (a.tmps.getD d undef) w
  bel : R w0 w
  len : listed.size = ops.size

theorem Inv.put {ops : Array Oper} {a0 : Act} {w0 : World} {S : Nat → Spec R} {listed : Array Bool} {a : Act} {w w' : World} {i d : Nat} {o : Oper} {v : Value}
    (rel : Rel R) (h : Inv ops a0 w0 S listed a w) (hok : okB ops a0.tmps.size = true) (hi : ops[i]? = some o) (hd : o.dst = some d) (hb : R w w') (hv : (S d).p v w') :
    Inv ops a0 w0 S (listed.setIfInBounds i true) (a.put o.dst v) w' := by
  obtain ⟨d', hd', hlt, huniq, _⟩ := okB_at hok hi
  rw [hd] at hd'; injection hd' with hd'; subst hd'
  rw [hd]
  have hput : (a.put (some d) v).tmps = a.tmps.setIfInBounds d v := rfl
  refine ⟨?_, h.defers, fun t ht => ?_, fun j oj dj hj hoj hdj => ?_, rel.trans h.bel hb, by rw [Array.size_setIfInBounds]; exact h.len⟩
  · rw [hput, Array.size_setIfInBounds]; exact h.size
  · rw [← h.out t ht, hput]
    have hne : d ≠ t := by
      rintro rfl
      have : isDst ops d = true := by
        unfold isDst
        rw [List.any_eq_true]
        exact ⟨o, by rw [Array.mem_toList_iff]; exact Array.mem_of_getElem? hi, by simp [hd]⟩
      rw [this] at ht; cases ht
    simp [Array.getD_eq_getD_getElem?, Array.getElem?_setIfInBounds_ne hne]
  · by_cases hji : dj = d
    · subst hji
      have : (a.put (some dj) v).tmps.getD dj undef = v := by
        rw [hput, Array.getD_eq_getD_getElem?, Array.getElem?_setIfInBounds_self_of_lt (by rw [h.size]; exact hlt)]; rfl
      rw [this]; exact hv
    · have hne : i ≠ j := by
        rintro rfl
        rw [hi] at hoj; injection hoj with hoj; subst hoj
        rw [hd] at hdj; injection hdj with hdj; exact hji hdj.symm
      have hl : listed.getD j true = true := by
        rw [Array.getD_eq_getD_getElem?] at hj ⊢
        rw [Array.getElem?_setIfInBounds_ne hne] at hj; exact hj
      have := h.ins j oj dj hl hoj hdj
      have e : (a.put (some d) v).tmps.getD dj undef = a.tmps.getD dj undef := by
        rw [hput, Array.getD_eq_getD_getElem?, Array.getD_eq_getD_getElem?, Array.getElem?_setIfInBounds_ne (Ne.symm hji)]
      rw [e]; exact (S dj).st this hb

theorem putAll_size (vals : Nat → Value) : ∀ (l : List Oper) (a : Act), (putAll vals l a).tmps.size = a.tmps.size
  | [], _ => rfl
  | o :: os, a => by
    rw [putAll, putAll_size vals os]
    cases o.dst <;> simp [Act.put]
theorem putAll_defers (vals : Nat → Value) : ∀ (l : List Oper) (a : Act), (putAll vals l a).defers = a.defers
  | [], _ => rfl
  | o :: os, a => by
    rw [putAll, putAll_defers vals os]
    cases o.dst <;> simp [Act.put]
theorem putAll_at (vals : Nat → Value) (t : Nat) : ∀ (l : List Oper) (a : Act), t < a.tmps.size → (putAll vals l a).tmps.getD t undef = if (l.any fun o => o.dst == some t) = true then vals t else a.tmps.getD t undef
  | [], _, _ => rfl
  | o :: os, a, ht => by
    have hs : (a.put o.dst (vals (o.dst.getD 0))).tmps.size = a.tmps.size := by cases o.dst <;> simp [Act.put]
    rw [putAll, putAll_at vals t os _ (by rw [hs]; exact ht), List.any_cons]
    by_cases h1 : (os.any fun o => o.dst == some t) = true
    · rw [if_pos h1, if_pos (by rw [h1]; simp)]
    · rw [if_neg h1]
      by_cases h2 : (o.dst == some t) = true
      · rw [if_pos (by rw [h2]; simp)]
        have h3 : o.dst = some t := by simpa using h2
        rw [h3]
        simp [Act.put, Array.getD_eq_getD_getElem?, Array.getElem?_setIfInBounds_self_of_lt ht]
      · rw [if_neg (by simp only [Bool.or_eq_true]; exact fun h => h.elim h2 h1)]
        cases hd : o.dst with
        | none => rfl
        | some d =>
          have hne : d ≠ t := fun e => h2 (by simp [hd, e])
          simp [Act.put, Array.getD_eq_getD_getElem?, Array.getElem?_setIfInBounds_ne hne]

theorem act_eq {ops : Array Oper} {a0 a : Act} (hs : a.tmps.size = a0.tmps.size) (hd : a.defers = a0.defers) (ho : ∀ t, isDst ops t = false → a.tmps.getD t undef = a0.tmps.getD t undef) :
    a = putAll (fun d => a.tmps.getD d undef) ops.toList a0 := by
  have e1 : a.tmps = (putAll (fun d => a.tmps.getD d undef) ops.toList a0).tmps := by
    apply Array.ext
    · rw [putAll_size, hs]
    · intro i h1 h2
      have h3 := putAll_at (fun d => a.tmps.getD d undef) i ops.toList a0 (by rw [← hs]; exact h1)
      rw [← getD_lt h1, ← getD_lt h2, h3]
      by_cases hi : (ops.toList.any fun o => o.dst == some i) = true
      · rw [if_pos hi]
      · rw [if_neg hi]; exact ho i (Bool.eq_false_iff.2 hi)
  have e2 := putAll_defers (fun d => a.tmps.getD d undef) ops.toList a0
  cases a with
  | mk tm df =>
    generalize hq : putAll (fun d => (Act.mk tm df).tmps.getD d undef) ops.toList a0 = q at *
    cases q with
    | mk tm' df' => simp at e1 e2 hd; subst e1; subst hd; rw [e2]

/-- THE LAW, from the world behind the draw. -/
theorem any_lin (rel : Rel R) {ops : Array Oper} {a0 : Act} {w0 : World} {S : Nat → Spec R} {Q : Exit → Act → World → Prop} (hok : okB ops a0.tmps.size = true)
    (hsteps : Steps P ops a0 w0 S ops.toList)
    (hfin : ∀ (vals : Nat → Value) (w : World), R w0 w → (∀ d, isDst ops d = true → (S d).p (vals d) w) → Q .normal (putAll vals ops.toList a0) w) :
    ∀ (fuel : Nat) (listed : Array Bool) (a : Act) (w : World), (listed.toList.filter (! ·)).length ≤ fuel → Inv ops a0 w0 S listed a w → wpAny P .any ops Q fuel listed a w := by
  have done : ∀ (listed : Array Bool) (a : Act) (w : World), Inv ops a0 w0 S listed a w → Region.ready .any ops listed = [] → Q .normal a w := by
    intro listed a w hI hr
    have hall : ∀ i, i < ops.size → listed.getD i true = true := by
      intro i
      induction i using Nat.strongRecOn with
      | ind i ih =>
        intro hi
        apply Decidable.byContradiction
        intro hn
        have ho : ops[i]? = some ops[i] := Array.getElem?_eq_getElem hi
        obtain ⟨d, _, _, _, haft, _⟩ := okB_at hok ho
        have : i ∈ Region.ready .any ops listed := by
          unfold Region.ready
          rw [List.mem_filter]
          refine ⟨List.mem_range.2 hi, ?_⟩
          have h1 : listed.getD i true = false := by simpa using hn
          simp only [h1, ho, Option.map_some, Option.getD_some, Bool.not_false, Bool.true_and, Array.all_eq_true]
          intro k hk
          by_cases hb : Region.binds .any ops[i].after[k] = true
          · have hlt := haft _ (Array.getElem_mem hk) hb
            have h2 := ih _ hlt (by omega)
            rw [Array.getD_eq_getD_getElem?] at h2 ⊢
            rw [Array.getElem?_eq_getElem (by rw [hI.len]; omega)] at h2 ⊢
            simp at h2 ⊢
            exact .inr h2
          · simp [hb]
        rw [hr] at this; cases this
    rw [act_eq hI.size hI.defers hI.out]
    refine hfin _ w hI.bel fun d hd => ?_
    unfold isDst at hd
    obtain ⟨o, ho, hod⟩ := List.any_eq_true.1 hd
    obtain ⟨i, hi, he⟩ := List.getElem_of_mem ho
    have hi' : i < ops.size := by simpa using hi
    have hio : ops[i]? = some o := by rw [Array.getElem?_eq_getElem hi']; simpa using he
    exact hI.ins i o d (hall i hi') hio (by simpa using hod)
  intro fuel
  induction fuel with
  | zero =>
    intro listed a w hf hI
    have hr : Region.ready .any ops listed = [] := by
      unfold Region.ready
      rw [List.filter_eq_nil_iff]
      intro i hi
      have hi' : i < listed.size := by rw [hI.len]; exact List.mem_range.1 hi
      have h0 : listed.toList.filter (! ·) = [] := List.eq_nil_of_length_eq_zero (by omega)
      have h1 := List.filter_eq_nil_iff.1 h0 listed[i] (by rw [Array.mem_toList_iff]; exact Array.getElem_mem hi')
      have h2 : listed.getD i true = true := by simp [Array.getD, hi']; simpa using h1
      simp [h2]
    exact ⟨hr, done listed a w hI hr⟩
  | succ fuel ih =>
    intro listed a w hf hI
    refine ⟨fun hr => done listed a w hI hr, fun i hi => ?_⟩
    obtain ⟨hun, o, ho, haft⟩ := mem_ready.1 hi
    obtain ⟨d, hd, hlt, huniq, hbef, hgd⟩ := okB_at hok ho
    have hst := hsteps.at o (by rw [Array.mem_toList_iff]; exact Array.mem_of_getElem? ho)
    have hilt : i < listed.size := by
      apply Decidable.byContradiction; intro hn
      rw [Array.getD_eq_getD_getElem?, Array.getElem?_eq_none (by omega)] at hun; cases hun
    have hfuel : ((listed.setIfInBounds i true).toList.filter (! ·)).length ≤ fuel := by
      have key : ∀ (l : List Bool) (i : Nat), l[i]? = some false → ((l.set i true).filter (! ·)).length + 1 = (l.filter (! ·)).length := by
        intro l
        induction l with
        | nil => intro i h; simp at h
        | cons b l ih =>
          intro i h
          cases i with
          | zero => simp at h; subst h; simp
          | succ i =>
            simp at h
            have := ih i h
            cases b <;> simp at this ⊢ <;> omega
      have h1 : listed.toList[i]? = some false := by
        rw [Array.getD_eq_getD_getElem?, Array.getElem?_eq_getElem hilt] at hun
        simp at hun
        simp [hilt, hun]
      have := key _ _ h1
      rw [Array.toList_setIfInBounds]
      omega
    have hdep : ∀ d', waits ops o d' = true → (S d').p (a.eval (.tmp d')) w := by
      intro d' hw
      unfold waits at hw
      obtain ⟨e, he, h1⟩ := List.any_eq_true.1 hw
      simp only [Bool.and_eq_true] at h1
      have h2 := haft e (by simpa using he) h1.1
      cases hoe : ops[e.on]? with
      | none => rw [hoe] at h1; simp at h1
      | some oe =>
        rw [hoe] at h1
        have h3 : oe.dst = some d' := by simpa using h1.2
        have h4 : listed.getD e.on true = true := by
          have hlt2 := hbef e (by simpa using he) h1.1
          rw [Array.getD_eq_getD_getElem?] at h2 ⊢
          rw [Array.getElem?_eq_getElem (by omega)] at h2 ⊢
          simpa using h2
        exact hI.ins e.on oe d' h4 hoe h3
    have hS := hst a.eval w hI.bel (fun t ht => hI.out t ht) (fun x hx => by
      cases x with
      | tmp t => exact absurd rfl (hx t)
      | const v => rfl
      | global g => rfl
      | func f => rfl) hdep
    have run : Runs P o (S d) a.eval w → o.wp P a w (wpAny P .any ops Q fuel (listed.setIfInBounds i true)) Q := by
      intro hR
      unfold Runs at hR
      unfold Oper.wp
      generalize (execOp a.eval o).run P w = r at *
      cases r with
      | halt x w' => cases hR
      | ok n w' =>
        cases n with
        | value v => exact ih _ _ _ hfuel (hI.put rel hok ho hd hR.1 hR.2)
        | skip => exact ih _ _ _ hfuel (hI.put rel hok ho hd hR.1 hR.2)
        | enter f args =>
          refine Calls.mono hR.2 fun e w'' he => ?_
          obtain ⟨v, rfl, hb, hv⟩ := he
          exact ih _ _ _ hfuel (hI.put rel hok ho hd (rel.trans hR.1 hb) hv)
        | _ => cases hR
    unfold wpOp
    rw [ho]
    cases hg : o.guard with
    | none =>
      have hwt : Region.wanted o (yielded ops a.tmps) = true := by simp [Region.wanted, hg]
      simp only [hwt, if_true]
      rw [hg, hd] at hS
      exact .inl (run hS)
    | some gb =>
      obtain ⟨g, b⟩ := gb
      obtain ⟨hgi, e, he, hbe, hge⟩ := hgd g b hg
      obtain ⟨og, hog⟩ : ∃ og, ops[g]? = some og := by
        have : g < ops.size := by rw [← hI.len]; omega
        exact ⟨_, Array.getElem?_eq_getElem this⟩
      obtain ⟨dg, hdg, hdlt, _⟩ := okB_at hok hog
      rw [hg, hd] at hS
      have hS' := hS dg (by rw [hog]; exact hdg)
      have hyl : yielded ops a.tmps g = match a.tmps.getD dg undef with | .bool b => some b | _ => none := by
        unfold yielded
        rw [hog]
        simp only [Option.bind_some, hdg]
        rw [Array.getD_eq_getD_getElem?, Array.getElem?_eq_getElem (by rw [hI.size]; exact hdlt)]
        simp only [Option.getD_some]
        cases a.tmps[dg]'(by rw [hI.size]; exact hdlt) <;> rfl
      by_cases hb : a.eval (.tmp dg) = .bool b
      · have hwt : Region.wanted o (yielded ops a.tmps) = true := by
          have hb' : a.tmps.getD dg undef = .bool b := hb
          simp [Region.wanted, hg, hyl, hb']
        simp only [hwt, if_true]
        exact .inl (run (hS'.1 hb))
      · have hwt : Region.wanted o (yielded ops a.tmps) = false := by
          have hb' : a.tmps.getD dg undef ≠ .bool b := hb
          simp only [Region.wanted, hg, hyl]
          generalize a.tmps.getD dg undef = x at *
          cases x <;> simp
          intro h; exact hb' (by rw [h])
        simp only [hwt]
        exact ih _ _ _ hfuel (hI.put rel hok ho hd (rel.refl _) (hS'.2 hb))
/-- THE LAW: a region that draws its order. -/
theorem wp_region_lin (rel : Rel R) {id n : Nat} {ops : Array Oper} {a0 : Act} {w0 : World} {Q : Exit → Act → World → Prop} (S : Nat → Spec R) (hm : P.follows .mixedOrders = true) (hn : a0.tmps.size = n) (hok : okB ops n = true)
    (hsteps : Steps P ops a0 w0 S ops.toList)
    (hfin : ∀ (vals : Nat → Value) (w : World), R w0 w → (∀ d, isDst ops d = true → (S d).p (vals d) w) → Q .normal (putAll vals ops.toList a0) w) :
    (Code.region id ops true).wp P Q a0 w0 :=
  wp_region_any hm (any_lin rel (w0 := w0) (by rw [hn]; exact hok) hsteps hfin ops.size _ a0 _ (by simp)
    ⟨rfl, rfl, fun _ _ => rfl, fun i o d hl ho hd => by
      have hlt : i < ops.size := by
        apply Decidable.byContradiction; intro hn
        rw [Array.getElem?_eq_none (by omega)] at ho; cases ho
      simp [Array.getD, hlt] at hl, rel.drew _, by simp⟩)

/-- The same of the first m operations. -/
def okH (ops : Array Oper) (m size : Nat) : Bool :=
  (List.range m).all fun i => match ops[i]? with
    | none => false
    | some o => (match o.dst with | some d => decide (d < size) && (List.range m).all (fun j => j == i || ((ops[j]?).bind (·.dst) != some d)) | none => false) &&
      o.after.toList.all (fun e => !Region.binds .any e || decide (e.on < i)) &&
      (match o.guard with | none => true | some (g, _) => decide (g < i) && o.after.toList.any (fun e => Region.binds .any e && e.on == g))
theorem okH_at {ops : Array Oper} {m size i : Nat} {o : Oper} (h : okH ops m size = true) (hi : ops[i]? = some o) (him : i < m) :
    ∃ d, o.dst = some d ∧ d < size ∧ (∀ (j : Nat) oj, j < m → ops[j]? = some oj → oj.dst = some d → j = i) ∧ (∀ e ∈ o.after, Region.binds .any e = true → e.on < i) ∧
      (∀ g b, o.guard = some (g, b) → g < i ∧ ∃ e ∈ o.after, Region.binds .any e = true ∧ e.on = g) := by
  unfold okH at h
  have h1 := List.all_eq_true.1 h i (List.mem_range.2 him)
  rw [hi] at h1
  simp only [Bool.and_eq_true] at h1
  obtain ⟨⟨h1, h2⟩, h3⟩ := h1
  cases hd : o.dst with
  | none => rw [hd] at h1; cases h1
  | some d =>
    rw [hd] at h1
    simp only [Bool.and_eq_true, decide_eq_true_eq] at h1
    refine ⟨d, rfl, h1.1, fun j oj hjm hj hjd => ?_, fun e he hb => ?_, fun g b hg => ?_⟩
    · have h4 := List.all_eq_true.1 h1.2 j (List.mem_range.2 hjm)
      simp [hj, hjd] at h4
      exact h4
    · have h4 := List.all_eq_true.1 h2 e (by simpa using he)
      simpa [hb] using h4
    · rw [hg] at h3
      simp only [Bool.and_eq_true, decide_eq_true_eq] at h3
      obtain ⟨e, he, h5⟩ := List.any_eq_true.1 h3.2
      simp at h5
      exact ⟨h3.1, e, by simpa using he, h5.1, h5.2⟩
structure InvH (ops : Array Oper) (m : Nat) (a0 : Act) (w0 : World) (S : Nat → Spec R) (listed : Array Bool) (a : Act) (w : World) : Prop where
  size : a.tmps.size = a0.tmps.size
  defers : a.defers = a0.defers
  out : ∀ t, isDst (ops.extract 0 m) t = false → a.tmps.getD t undef = a0.tmps.getD t undef
  ins : ∀ (i : Nat) o d, i < m → listed.getD i true = true → ops[i]? = some o → o.dst = some d → (S d).p (a.tmps.getD d undef) w
  bel : R w0 w
  head : HeadInv .any ops m listed
theorem isDst_of {ops : Array Oper} {m i d : Nat} {o : Oper} (hi : ops[i]? = some o) (him : i < m) (hd : o.dst = some d) : isDst (ops.extract 0 m) d = true := by
  unfold isDst
  rw [List.any_eq_true]
  refine ⟨o, ?_, by simp [hd]⟩
  rw [Array.mem_toList_iff]
  refine Array.mem_of_getElem? (i := i) ?_
  have hlt : i < ops.size := by
    apply Decidable.byContradiction; intro hn
    rw [Array.getElem?_eq_none (by omega)] at hi; cases hi
  rw [Array.getElem?_extract, if_pos (by omega), Nat.zero_add]; exact hi
theorem InvH.put {ops : Array Oper} {m : Nat} {a0 : Act} {w0 : World} {S : Nat → Spec R} {listed : Array Bool} {a : Act} {w w' : World} {i d : Nat} {o : Oper} {v : Value}
    (rel : Rel R) (h : InvH ops m a0 w0 S listed a w) (hok : okH ops m a0.tmps.size = true) (hi : ops[i]? = some o) (him : i < m) (hr : i ∈ Region.ready .any ops listed) (hd : o.dst = some d) (hb : R w w') (hv : (S d).p v w') :
    InvH ops m a0 w0 S (listed.setIfInBounds i true) (a.put o.dst v) w' := by
  obtain ⟨d', hd', hlt, huniq, _⟩ := okH_at hok hi him
  rw [hd] at hd'; injection hd' with hd'; subst hd'
  rw [hd]
  have hput : (a.put (some d) v).tmps = a.tmps.setIfInBounds d v := rfl
  refine ⟨?_, h.defers, fun t ht => ?_, fun j oj dj hjm hj hoj hdj => ?_, rel.trans h.bel hb, h.head.set hr him⟩
  · rw [hput, Array.size_setIfInBounds]; exact h.size
  · rw [← h.out t ht, hput]
    have hne : d ≠ t := by
      rintro rfl
      rw [isDst_of hi him hd] at ht; cases ht
    simp [Array.getD_eq_getD_getElem?, Array.getElem?_setIfInBounds_ne hne]
  · by_cases hji : dj = d
    · subst hji
      have : (a.put (some dj) v).tmps.getD dj undef = v := by
        rw [hput, Array.getD_eq_getD_getElem?, Array.getElem?_setIfInBounds_self_of_lt (by rw [h.size]; exact hlt)]; rfl
      rw [this]; exact hv
    · have hne : i ≠ j := by
        rintro rfl
        rw [hi] at hoj; injection hoj with hoj; subst hoj
        rw [hd] at hdj; injection hdj with hdj; exact hji hdj.symm
      have hl : listed.getD j true = true := by
        rw [Array.getD_eq_getD_getElem?] at hj ⊢
        rw [Array.getElem?_setIfInBounds_ne hne] at hj; exact hj
      have := h.ins j oj dj hjm hl hoj hdj
      have e : (a.put (some d) v).tmps.getD dj undef = a.tmps.getD dj undef := by
        rw [hput, Array.getD_eq_getD_getElem?, Array.getD_eq_getD_getElem?, Array.getElem?_setIfInBounds_ne (Ne.symm hji)]
      rw [e]; exact (S dj).st this hb

theorem any_lin_tail (rel : Rel R) {ops : Array Oper} {m : Nat} {a0 : Act} {w0 : World} {S : Nat → Spec R} {Q : Exit → Act → World → Prop} (hok : okH ops m a0.tmps.size = true) (hm : m < ops.size)
    (hs : Region.sinkB .any ops m = true) (hc : Region.chainB .any ops m = true) (hq : Region.seqB .any ops (ops.size - m) m (Array.replicate m true ++ Array.replicate (ops.size - m) false) = true)
    (hsteps : Steps P (ops.extract 0 m) a0 w0 S (ops.toList.take m))
    (hfin : ∀ (vals : Nat → Value) (w : World), R w0 w → (∀ d, isDst (ops.extract 0 m) d = true → (S d).p (vals d) w) → wpList P ops Q (ops.toList.drop m) (putAll vals (ops.toList.take m) a0) w) :
    ∀ (h : Nat) (listed : Array Bool) (a : Act) (w : World), ((listed.toList.take m).filter (! ·)).length = h → InvH ops m a0 w0 S listed a w → wpAny P .any ops Q (h + (ops.size - m)) listed a w := by
  intro h
  induction h with
  | zero =>
    intro listed a w hf hI
    have hall : ∀ i, i < m → listed.getD i true = true := by
      intro i hi
      have hi' : i < listed.size := by rw [hI.head.size]; omega
      have h0 : (listed.toList.take m).filter (! ·) = [] := List.eq_nil_of_length_eq_zero (by omega)
      have h1 := List.filter_eq_nil_iff.1 h0 listed[i] (by
        rw [List.mem_take_iff_getElem]
        exact ⟨i, by simp; omega, by simp⟩)
      simp [Array.getD, hi']; simpa using h1
    have hlit : listed = Array.replicate m true ++ Array.replicate (ops.size - m) false := by
      apply Array.ext
      · rw [hI.head.size]; simp; omega
      · intro i h1 h2
        by_cases him : i < m
        · have := hall i him
          simp [Array.getD, h1] at this
          rw [this, Array.getElem_append_left (by simpa using him)]; simp
        · have := hI.head.tail i (by omega) (by rw [← hI.head.size]; exact h1)
          simp [Array.getD, h1] at this
          rw [this, Array.getElem_append_right (by simpa using him)]; simp
    have e1 : a = putAll (fun d => a.tmps.getD d undef) (ops.toList.take m) a0 := by
      have e0 : (ops.extract 0 m).toList = ops.toList.take m := by simp
      rw [← e0]
      exact act_eq hI.size hI.defers hI.out
    have hw := hfin (fun d => a.tmps.getD d undef) w hI.bel (fun d hd => by
      unfold isDst at hd
      obtain ⟨o, ho, hod⟩ := List.any_eq_true.1 hd
      have e0 : (ops.extract 0 m).toList = ops.toList.take m := by simp
      rw [e0] at ho
      obtain ⟨i, hi, he⟩ := List.mem_take_iff_getElem.1 ho
      have hi' : i < ops.size := by simp at hi; omega
      have him : i < m := by simp at hi; omega
      have hio : ops[i]? = some o := by rw [Array.getElem?_eq_getElem hi']; simpa using he
      exact hI.ins i o d him (hall i him) hio (by simpa using hod))
    rw [← e1] at hw
    rw [Nat.zero_add]
    have hdl : (ops.toList.drop m).length = ops.size - m := by simp
    have := wpAny_of_seq (md := .any) (Q' := Q) (ops.toList.drop m) m listed a w (fun j => by simp [List.getElem?_drop]) (by rw [hdl, hlit]; exact hq) hw
    rwa [hdl] at this
  | succ h ih =>
    intro listed a w hf hI
    have hsz := hI.head.size
    -- some operation of the head has not come up
    obtain ⟨i0, hi0, hu0⟩ : ∃ i, i < m ∧ listed.getD i true = false := by
      apply Decidable.byContradiction
      intro hn
      have : (listed.toList.take m).filter (! ·) = [] := by
        rw [List.filter_eq_nil_iff]
        intro b hb
        obtain ⟨i, hi, he⟩ := List.mem_take_iff_getElem.1 hb
        have hi' : i < listed.size := by simp at hi; omega
        have him : i < m := by simp at hi; omega
        cases b with
        | true => simp
        | false => exact absurd ⟨i, him, by simp [Array.getD, hi']; simpa using he⟩ hn
      rw [this] at hf; simp at hf
    have hne : Region.ready .any ops listed ≠ [] := by
      intro hr
      have hall : ∀ i, i < m → listed.getD i true = true := by
        intro i
        induction i using Nat.strongRecOn with
        | ind i ihi =>
          intro hi
          apply Decidable.byContradiction
          intro hn
          have hio : i < ops.size := by omega
          have ho : ops[i]? = some ops[i] := Array.getElem?_eq_getElem hio
          obtain ⟨d, _, _, _, haft, _⟩ := okH_at hok ho hi
          have : i ∈ Region.ready .any ops listed := by
            unfold Region.ready
            rw [List.mem_filter]
            refine ⟨List.mem_range.2 hio, ?_⟩
            have h1 : listed.getD i true = false := by simpa using hn
            simp only [h1, ho, Option.map_some, Option.getD_some, Bool.not_false, Bool.true_and, Array.all_eq_true]
            intro k hk
            by_cases hb : Region.binds .any ops[i].after[k] = true
            · have hlt := haft _ (Array.getElem_mem hk) hb
              have h2 := ihi _ hlt (by omega)
              rw [Array.getD_eq_getD_getElem?] at h2 ⊢
              rw [Array.getElem?_eq_getElem (by rw [hsz]; omega)] at h2 ⊢
              simp at h2 ⊢
              exact .inr h2
            · simp [hb]
          rw [hr] at this; cases this
      rw [hall i0 hi0] at hu0; cases hu0
    rw [show h + 1 + (ops.size - m) = (h + (ops.size - m)) + 1 by omega]
    refine ⟨fun hr => absurd hr hne, fun i hi => ?_⟩
    have him : i < m := by
      rcases Nat.lt_or_ge i m with hlt | hge
      · exact hlt
      · exact absurd hi (tail_waits hs hc hm hI.head _ i0 rfl hi0 hu0 i hge)
    obtain ⟨hun, o, ho, haft⟩ := mem_ready.1 hi
    obtain ⟨d, hd, hlt, huniq, hbef, hgd⟩ := okH_at hok ho him
    have hst := hsteps.at o (List.mem_take_iff_getElem.2 ⟨i, by simp; omega, by
      have hi' : i < ops.size := by omega
      rw [Array.getElem?_eq_getElem hi'] at ho; simpa using ho⟩)
    have hilt : i < listed.size := by omega
    have hfuel : (((listed.setIfInBounds i true).toList.take m).filter (! ·)).length = h := by
      have key : ∀ (l : List Bool) (i : Nat), l[i]? = some false → ((l.set i true).filter (! ·)).length + 1 = (l.filter (! ·)).length := by
        intro l
        induction l with
        | nil => intro i h; simp at h
        | cons b l ih =>
          intro i h
          cases i with
          | zero => simp at h; subst h; simp
          | succ i =>
            simp at h
            have := ih i h
            cases b <;> simp at this ⊢ <;> omega
      have h1 : (listed.toList.take m)[i]? = some false := by
        rw [Array.getD_eq_getD_getElem?, Array.getElem?_eq_getElem hilt] at hun
        simp at hun
        rw [List.getElem?_take, if_pos him]
        simp [hilt, hun]
      have := key _ _ h1
      rw [Array.toList_setIfInBounds, List.take_set]
      omega
    have hex : ∀ (j : Nat) oj, (ops.extract 0 m)[j]? = some oj → ops[j]? = some oj ∧ j < m := by
      intro j oj hj
      rw [Array.getElem?_extract] at hj
      split at hj
      · rename_i hlt
        rw [Nat.zero_add] at hj
        exact ⟨hj, by omega⟩
      · cases hj
    have hdep : ∀ d', waits (ops.extract 0 m) o d' = true → (S d').p (a.eval (.tmp d')) w := by
      intro d' hw
      unfold waits at hw
      obtain ⟨e, he, h1⟩ := List.any_eq_true.1 hw
      simp only [Bool.and_eq_true] at h1
      have h2 := haft e (by simpa using he) h1.1
      cases hoe' : (ops.extract 0 m)[e.on]? with
      | none => rw [hoe'] at h1; simp at h1
      | some oe =>
        rw [hoe'] at h1
        have hoe := (hex _ _ hoe').1
        have h3 : oe.dst = some d' := by simpa using h1.2
        have hlt2 := hbef e (by simpa using he) h1.1
        have h4 : listed.getD e.on true = true := by
          rw [Array.getD_eq_getD_getElem?] at h2 ⊢
          rw [Array.getElem?_eq_getElem (by omega)] at h2 ⊢
          simpa using h2
        exact hI.ins e.on oe d' (by omega) h4 hoe h3
    have hS := hst a.eval w hI.bel (fun t ht => hI.out t ht) (fun x hx => by
      cases x with
      | tmp t => exact absurd rfl (hx t)
      | const v => rfl
      | global g => rfl
      | func f => rfl) hdep
    have run : Runs P o (S d) a.eval w → o.wp P a w (wpAny P .any ops Q (h + (ops.size - m)) (listed.setIfInBounds i true)) Q := by
      intro hR
      unfold Runs at hR
      unfold Oper.wp
      generalize (execOp a.eval o).run P w = r at *
      cases r with
      | halt x w' => cases hR
      | ok n w' =>
        cases n with
        | value v => exact ih _ _ _ hfuel (hI.put rel hok ho him hi hd hR.1 hR.2)
        | skip => exact ih _ _ _ hfuel (hI.put rel hok ho him hi hd hR.1 hR.2)
        | enter f args =>
          refine Calls.mono hR.2 fun e w'' he => ?_
          obtain ⟨v, rfl, hb, hv⟩ := he
          exact ih _ _ _ hfuel (hI.put rel hok ho him hi hd (rel.trans hR.1 hb) hv)
        | _ => cases hR
    unfold wpOp
    rw [ho]
    cases hg : o.guard with
    | none =>
      have hwt : Region.wanted o (yielded ops a.tmps) = true := by simp [Region.wanted, hg]
      simp only [hwt, if_true]
      rw [hg, hd] at hS
      exact .inl (run hS)
    | some gb =>
      obtain ⟨g, b⟩ := gb
      obtain ⟨hgi, e, he, hbe, hge⟩ := hgd g b hg
      obtain ⟨og, hog⟩ : ∃ og, ops[g]? = some og := by
        have : g < ops.size := by omega
        exact ⟨_, Array.getElem?_eq_getElem this⟩
      obtain ⟨dg, hdg, hdlt, _⟩ := okH_at hok hog (by omega)
      rw [hg, hd] at hS
      have hS' := hS dg (by
        have : (ops.extract 0 m)[g]? = some og := by
          rw [Array.getElem?_extract, if_pos (by have := Nat.lt_trans hgi him; omega), Nat.zero_add]; exact hog
        rw [this]; exact hdg)
      have hyl : yielded ops a.tmps g = match a.tmps.getD dg undef with | .bool b => some b | _ => none := by
        unfold yielded
        rw [hog]
        simp only [Option.bind_some, hdg]
        rw [Array.getD_eq_getD_getElem?, Array.getElem?_eq_getElem (by rw [hI.size]; exact hdlt)]
        simp only [Option.getD_some]
        cases a.tmps[dg]'(by rw [hI.size]; exact hdlt) <;> rfl
      by_cases hb : a.eval (.tmp dg) = .bool b
      · have hwt : Region.wanted o (yielded ops a.tmps) = true := by
          have hb' : a.tmps.getD dg undef = .bool b := hb
          simp [Region.wanted, hg, hyl, hb']
        simp only [hwt, if_true]
        exact .inl (run (hS'.1 hb))
      · have hwt : Region.wanted o (yielded ops a.tmps) = false := by
          have hb' : a.tmps.getD dg undef ≠ .bool b := hb
          simp only [Region.wanted, hg, hyl]
          generalize a.tmps.getD dg undef = x at *
          cases x <;> simp
          intro h; exact hb' (by rw [h])
        simp only [hwt]
        exact ih _ _ _ hfuel (hI.put rel hok ho him hi hd (rel.refl _) (hS'.2 hb))
/-- THE LAW with a tail: the first m operations in any order, the others behind them one after the other. -/
theorem wp_region_lin_tail (rel : Rel R) {id n : Nat} {ops : Array Oper} {a0 : Act} {w0 : World} {Q : Exit → Act → World → Prop} (m : Nat) (S : Nat → Spec R) (hm : P.follows .mixedOrders = true) (hn : a0.tmps.size = n)
    (hB : (okH ops m n && decide (m < ops.size) && Region.sinkB .any ops m && Region.chainB .any ops m && Region.seqB .any ops (ops.size - m) m (Array.replicate m true ++ Array.replicate (ops.size - m) false)) = true)
    (hsteps : Steps P (ops.extract 0 m) a0 w0 S (ops.toList.take m))
    (hfin : ∀ (vals : Nat → Value) (w : World), R w0 w → (∀ d, isDst (ops.extract 0 m) d = true → (S d).p (vals d) w) → wpList P ops Q (ops.toList.drop m) (putAll vals (ops.toList.take m) a0) w) :
    (Code.region id ops true).wp P Q a0 w0 := by
  simp only [Bool.and_eq_true, decide_eq_true_eq] at hB
  obtain ⟨⟨⟨⟨h1, h2⟩, h3⟩, h4⟩, h5⟩ := hB
  refine wp_region_any hm ?_
  have := any_lin_tail rel (w0 := w0) (Q := Q) (by rw [hn]; exact h1) h2 h3 h4 h5 hsteps hfin m (Array.replicate ops.size false) a0 { w0 with drawn := w0.drawn + 1 } (by simp; omega)
    ⟨rfl, rfl, fun _ _ => rfl, fun i o d him hl ho hd => by
      have hlt : i < ops.size := by omega
      simp [Array.getD, hlt] at hl, rel.drew _,
      ⟨by simp, fun j oj _ hl => (by rw [getD_replicate_false] at hl; cases hl), fun t _ ht => getD_in (by simpa using ht) (getD_replicate_false _ _)⟩⟩
  rwa [show m + (ops.size - m) = ops.size by omega] at this
end
end Go.Proofs.Ytmgendgfdhhgfaa.Lin
