/-
  The law for a region that draws its order, where one operation may write into blocks that others of the region made: the slots that speak of these are dead behind it. Nothing here speaks of a Go function. No condition.
-/
import Derived.Test.YtkgmgmlicgjfdaaLin
namespace Go.Proofs.Ytkgmgmlicgjfdaa.Lin
open Go Go.RowKit
section
variable {P : Program}
/-- What was there when the region began is as it was. -/
abbrev Base (w0 w w' : World) : Prop := Below w0.heap.size w w'
def Step3 (P : Program) (ops : Array Oper) (a0 : Act) (w0 : World) (S : Nat → Spec Keeps) (k0 : Nat) (kill : Nat → Bool) (pre : List Nat) (i : Nat) (o : Oper) : Prop := i ≠ k0 →
  ∀ (ρ : Operand → Value) (w : World), Keeps w0 w → (∀ t, isDst ops t = false → ρ (.tmp t) = a0.eval (.tmp t)) → (∀ x, (∀ t, x ≠ .tmp t) → ρ x = a0.eval x) →
    (∀ d, (waits ops o d && (pre.contains i || !kill d)) = true → (S d).p (ρ (.tmp d)) w) →
    (match o.guard with
      | none => Runs P o (S (o.dst.getD 0)) ρ w
      | some (g, b) => ∀ t, (ops[g]?).bind (·.dst) = some t → (ρ (.tmp t) = .bool b → Runs P o (S (o.dst.getD 0)) ρ w) ∧ (ρ (.tmp t) ≠ .bool b → (S (o.dst.getD 0)).p undef w))
def Steps3 (P : Program) (ops : Array Oper) (a0 : Act) (w0 : World) (S : Nat → Spec Keeps) (k0 : Nat) (kill : Nat → Bool) (pre : List Nat) : Nat → List Oper → Prop
  | _, [] => True
  | i, o :: os => Step3 P ops a0 w0 S k0 kill pre i o ∧ Steps3 P ops a0 w0 S k0 kill pre (i + 1) os
theorem Steps3.at {ops : Array Oper} {a0 : Act} {w0 : World} {S : Nat → Spec Keeps} {k0 : Nat} {kill : Nat → Bool} {pre : List Nat} : ∀ {l : List Oper} {k : Nat}, Steps3 P ops a0 w0 S k0 kill pre k l → ∀ j o, l[j]? = some o → Step3 P ops a0 w0 S k0 kill pre (k + j) o
  | [], _, _, j, o, h => by simp at h
  | x :: l, k, h, 0, o, ho => by simp at ho; subst ho; exact h.1
  | x :: l, k, h, j + 1, o, ho => by
    have := Steps3.at h.2 j o (by simpa using ho)
    rwa [show k + 1 + j = k + (j + 1) by omega] at this
/-- What is owed of the operation that writes. -/
def StepW (P : Program) (ops : Array Oper) (a0 : Act) (w0 : World) (S : Nat → Spec Keeps) (o : Oper) : Prop :=
  ∀ (ρ : Operand → Value) (w : World), Base w0 w0 w → (∀ t, isDst ops t = false → ρ (.tmp t) = a0.eval (.tmp t)) → (∀ x, (∀ t, x ≠ .tmp t) → ρ x = a0.eval x) →
    (∀ d, waits ops o d = true → (S d).p (ρ (.tmp d)) w) →
    ∃ v w', (execOp ρ o).run P w = .ok (.value v) w' ∧ Base w0 w w' ∧ (S (o.dst.getD 0)).p v w'
/-- Which slots outlive it. -/
def Stays (S : Nat → Spec Keeps) (kill : Nat → Bool) (d0 : Nat) : List Oper → Prop
  | [] => True
  | o :: os => (∀ d, o.dst = some d → kill d = true ∨ d = d0 ∨ ∃ u, S d = Spec.val u) ∧ Stays S kill d0 os
theorem Stays.at {S : Nat → Spec Keeps} {kill : Nat → Bool} {d0 : Nat} : ∀ {l : List Oper}, Stays S kill d0 l → ∀ o ∈ l, ∀ d, o.dst = some d → kill d = true ∨ d = d0 ∨ ∃ u, S d = Spec.val u
  | [], _, _, h => by cases h
  | _ :: _, h, o, ho => by
    rcases List.mem_cons.1 ho with rfl | ho
    · exact h.1
    · exact Stays.at h.2 o ho
/-- Each of pre comes ahead of k0, by way of others of pre. -/
def preB (ops : Array Oper) (k0 : Nat) (pre : List Nat) : Bool :=
  pre.all (fun i => (k0 :: pre).any fun j => decide (i < j) && decide (j ≤ k0) && match ops[j]? with | some o => o.after.toList.any (fun e => Region.binds .any e && e.on == i) | none => false)
structure Inv3 (ops : Array Oper) (a0 : Act) (w0 : World) (S : Nat → Spec Keeps) (k0 : Nat) (kill : Nat → Bool) (listed : Array Bool) (a : Act) (w : World) : Prop where
  size : a.tmps.size = a0.tmps.size
  defers : a.defers = a0.defers
  out : ∀ t, isDst ops t = false → a.tmps.getD t undef = a0.tmps.getD t undef
  ins : ∀ (i : Nat) o d, listed.getD i true = true → ops[i]? = some o → o.dst = some d → (listed.getD k0 true = true → kill d = false) → (S d).p (a.tmps.getD d undef) w
  closed : ∀ (i : Nat) o, listed.getD i true = true → ops[i]? = some o → ∀ e ∈ o.after, Region.binds .any e = true → listed.getD e.on true = true
  bel : Base w0 w0 w
  len : listed.size = ops.size
theorem listed_of3 {listed : Array Bool} {i j : Nat} (hne : i ≠ j) (hj : (listed.setIfInBounds i true).getD j true = true) : listed.getD j true = true := by
  rw [Array.getD_eq_getD_getElem?] at hj ⊢
  rw [Array.getElem?_setIfInBounds_ne hne] at hj; exact hj
theorem listed_mono3 {listed : Array Bool} {i j : Nat} (hj : listed.getD j true = true) : (listed.setIfInBounds i true).getD j true = true := by
  rw [Array.getD_eq_getD_getElem?] at hj ⊢
  by_cases hne : i = j
  · subst hne
    by_cases hlt : i < listed.size
    · rw [Array.getElem?_setIfInBounds_self_of_lt hlt]; rfl
    · rw [Array.getElem?_eq_none (by rw [Array.size_setIfInBounds]; omega)]; rfl
  · rw [Array.getElem?_setIfInBounds_ne hne]; exact hj
theorem listed_self3 {listed : Array Bool} {i : Nat} (h : i < listed.size) : (listed.setIfInBounds i true).getD i true = true := by
  rw [Array.getD_eq_getD_getElem?, Array.getElem?_setIfInBounds_self_of_lt h]; rfl
/-- Ahead of k0: what is of pre has come up when k0 has. -/
theorem Inv3.pre {ops : Array Oper} {a0 : Act} {w0 : World} {S : Nat → Spec Keeps} {k0 : Nat} {kill : Nat → Bool} {pre : List Nat} {listed : Array Bool} {a : Act} {w : World}
    (h : Inv3 ops a0 w0 S k0 kill listed a w) (hp : preB ops k0 pre = true) (hk : listed.getD k0 true = true) : ∀ (n i : Nat), k0 - i ≤ n → i ∈ pre → listed.getD i true = true := by
  intro n
  unfold preB at hp
  induction n with
  | zero =>
    intro i hn hi
    have h1 := List.all_eq_true.1 hp i hi
    obtain ⟨j, hj, h2⟩ := List.any_eq_true.1 h1
    simp only [Bool.and_eq_true, decide_eq_true_eq] at h2
    omega
  | succ n ih =>
    intro i hn hi
    have h1 := List.all_eq_true.1 hp i hi
    obtain ⟨j, hj, h2⟩ := List.any_eq_true.1 h1
    simp only [Bool.and_eq_true, decide_eq_true_eq] at h2
    obtain ⟨⟨h2, h3⟩, h4⟩ := h2
    have hjl : listed.getD j true = true := by
      rcases List.mem_cons.1 hj with rfl | hj
      · exact hk
      · exact ih j (by omega) hj
    cases hoj : ops[j]? with
    | none => rw [hoj] at h4; cases h4
    | some o =>
      rw [hoj] at h4
      obtain ⟨e, he, h5⟩ := List.any_eq_true.1 h4
      simp only [Bool.and_eq_true, beq_iff_eq] at h5
      have := h.closed j o hjl hoj e (by simpa using he) h5.1
      rw [h5.2] at this; exact this
theorem Inv3.put {ops : Array Oper} {a0 : Act} {w0 : World} {S : Nat → Spec Keeps} {k0 : Nat} {kill : Nat → Bool} {listed : Array Bool} {a : Act} {w w' : World} {i d : Nat} {o : Oper} {v : Value}
    (h : Inv3 ops a0 w0 S k0 kill listed a w) (hok : okB ops a0.tmps.size = true) (haft : ∀ e ∈ o.after, Region.binds .any e = true → listed.getD e.on true = true) (hi : ops[i]? = some o) (hd : o.dst = some d) (hv : (S d).p v w')
    (hb : Base w0 w w') (hst : ∀ (j : Nat) oj dj, i ≠ j → listed.getD j true = true → ops[j]? = some oj → oj.dst = some dj → ((listed.setIfInBounds i true).getD k0 true = true → kill dj = false) → (listed.getD k0 true = true → kill dj = false) → ∀ u, (S dj).p u w → (S dj).p u w') :
    Inv3 ops a0 w0 S k0 kill (listed.setIfInBounds i true) (a.put o.dst v) w' := by
  obtain ⟨d', hd', hlt, huniq, _⟩ := okB_at hok hi
  rw [hd] at hd'; injection hd' with hd'; subst hd'
  rw [hd]
  have hput : (a.put (some d) v).tmps = a.tmps.setIfInBounds d v := rfl
  refine ⟨?_, h.defers, fun t ht => ?_, fun j oj dj hj hoj hdj hkl => ?_, fun j oj hj hoj e he hbe => ?_, Below.trans h.bel hb, by rw [Array.size_setIfInBounds]; exact h.len⟩
  · rw [hput, Array.size_setIfInBounds]; exact h.size
  · rw [← h.out t ht, hput]
    have hne : d ≠ t := by
      rintro rfl
      have : isDst ops d = true := by
        unfold isDst
        rw [List.any_eq_true]
        exact ⟨o, by rw [Array.mem_toList_iff]; exact Array.mem_of_getElem? hi, by simp [hd]⟩
      rw [this] at ht; cases ht
    simp [Array.getD_eq_getD_getElem?, Array.getElem?_setIfInBounds_ne hne]
  · by_cases hji : dj = d
    · subst hji
      have : (a.put (some dj) v).tmps.getD dj undef = v := by
        rw [hput, Array.getD_eq_getD_getElem?, Array.getElem?_setIfInBounds_self_of_lt (by rw [h.size]; exact hlt)]; rfl
      rw [this]; exact hv
    · have hne : i ≠ j := by
        rintro rfl
        rw [hi] at hoj; injection hoj with hoj; subst hoj
        rw [hd] at hdj; injection hdj with hdj; exact hji hdj.symm
      have hl := listed_of3 hne hj
      have hkl' : listed.getD k0 true = true → kill dj = false := fun hk => hkl (listed_mono3 hk)
      have := h.ins j oj dj hl hoj hdj hkl'
      have e : (a.put (some d) v).tmps.getD dj undef = a.tmps.getD dj undef := by
        rw [hput, Array.getD_eq_getD_getElem?, Array.getD_eq_getD_getElem?, Array.getElem?_setIfInBounds_ne (Ne.symm hji)]
      rw [e]; exact hst j oj dj hne hl hoj hdj hkl hkl' _ this
  · by_cases hne : i = j
    · subst hne
      rw [hi] at hoj; injection hoj with hoj; subst hoj
      exact listed_mono3 (haft e he hbe)
    · exact listed_mono3 (h.closed j oj (listed_of3 hne hj) hoj e he hbe)

/-- THE LAW, from the world behind the draw. -/
theorem any_lin3 {ops : Array Oper} {a0 : Act} {w0 : World} {S : Nat → Spec Keeps} {k0 d0 : Nat} {o0 : Oper} {kill : Nat → Bool} {pre : List Nat} {Q : Exit → Act → World → Prop} (hok : okB ops a0.tmps.size = true) (hpre : preB ops k0 pre = true) (hk0 : ops[k0]? = some o0) (hd0 : o0.dst = some d0) (hg0 : o0.guard = none)
    (hstay : Stays S kill d0 ops.toList) (hw0 : StepW P ops a0 w0 S o0) (hsteps : Steps3 P ops a0 w0 S k0 kill pre 0 ops.toList)
    (hfin : ∀ (vals : Nat → Value) (w : World), Base w0 w0 w → (∀ d, isDst ops d = true → kill d = false → (S d).p (vals d) w) → Q .normal (putAll vals ops.toList a0) w) :
    ∀ (fuel : Nat) (listed : Array Bool) (a : Act) (w : World), (listed.toList.filter (! ·)).length ≤ fuel → Inv3 ops a0 w0 S k0 kill listed a w → wpAny P .any ops Q fuel listed a w := by
  have done : ∀ (listed : Array Bool) (a : Act) (w : World), Inv3 ops a0 w0 S k0 kill listed a w → Region.ready .any ops listed = [] → Q .normal a w := by
    intro listed a w hI hr
    have hall : ∀ i, i < ops.size → listed.getD i true = true := by
      intro i
      induction i using Nat.strongRecOn with
      | ind i ih =>
        intro hi
        apply Decidable.byContradiction
        intro hn
        have ho : ops[i]? = some ops[i] := Array.getElem?_eq_getElem hi
        obtain ⟨d, _, _, _, haft, _⟩ := okB_at hok ho
        have : i ∈ Region.ready .any ops listed := by
          unfold Region.ready
          rw [List.mem_filter]
          refine ⟨List.mem_range.2 hi, ?_⟩
          have h1 : listed.getD i true = false := by simpa using hn
          simp only [h1, ho, Option.map_some, Option.getD_some, Bool.not_false, Bool.true_and, Array.all_eq_true]
          intro k hk
          by_cases hb : Region.binds .any ops[i].after[k] = true
          · have hlt := haft _ (Array.getElem_mem hk) hb
            have h2 := ih _ hlt (by omega)
            rw [Array.getD_eq_getD_getElem?] at h2 ⊢
            rw [Array.getElem?_eq_getElem (by rw [hI.len]; omega)] at h2 ⊢
            simp at h2 ⊢
            exact .inr h2
          · simp [hb]
        rw [hr] at this; cases this
    rw [act_eq hI.size hI.defers hI.out]
    refine hfin _ w hI.bel fun d hd hkd => ?_
    unfold isDst at hd
    obtain ⟨o, ho, hod⟩ := List.any_eq_true.1 hd
    obtain ⟨i, hi, he⟩ := List.getElem_of_mem ho
    have hi' : i < ops.size := by simpa using hi
    have hio : ops[i]? = some o := by rw [Array.getElem?_eq_getElem hi']; simpa using he
    exact hI.ins i o d (hall i hi') hio (by simpa using hod) fun _ => hkd
  intro fuel
  induction fuel with
  | zero =>
    intro listed a w hf hI
    have hr : Region.ready .any ops listed = [] := by
      unfold Region.ready
      rw [List.filter_eq_nil_iff]
      intro i hi
      have hi' : i < listed.size := by rw [hI.len]; exact List.mem_range.1 hi
      have h0 : listed.toList.filter (! ·) = [] := List.eq_nil_of_length_eq_zero (by omega)
      have h1 := List.filter_eq_nil_iff.1 h0 listed[i] (by rw [Array.mem_toList_iff]; exact Array.getElem_mem hi')
      have h2 : listed.getD i true = true := by simp [Array.getD, hi']; simpa using h1
      simp [h2]
    exact ⟨hr, done listed a w hI hr⟩
  | succ fuel ih =>
    intro listed a w hf hI
    refine ⟨fun hr => done listed a w hI hr, fun i hi => ?_⟩
    obtain ⟨hun, o, ho, haft⟩ := mem_ready.1 hi
    obtain ⟨d, hd, hlt, huniq, hbef, hgd⟩ := okB_at hok ho
    have hilt : i < listed.size := by
      apply Decidable.byContradiction; intro hn
      rw [Array.getD_eq_getD_getElem?, Array.getElem?_eq_none (by omega)] at hun; cases hun
    have hfuel : ((listed.setIfInBounds i true).toList.filter (! ·)).length ≤ fuel := by
      have key : ∀ (l : List Bool) (i : Nat), l[i]? = some false → ((l.set i true).filter (! ·)).length + 1 = (l.filter (! ·)).length := by
        intro l
        induction l with
        | nil => intro i h; simp at h
        | cons b l ih =>
          intro i h
          cases i with
          | zero => simp at h; subst h; simp
          | succ i =>
            simp at h
            have := ih i h
            cases b <;> simp at this ⊢ <;> omega
      have h1 : listed.toList[i]? = some false := by
        rw [Array.getD_eq_getD_getElem?, Array.getElem?_eq_getElem hilt] at hun
        simp at hun
        simp [hilt, hun]
      have := key _ _ h1
      rw [Array.toList_setIfInBounds]
      omega
    have hdep : ∀ d', waits ops o d' = true → (listed.getD k0 true = true → kill d' = false) → (S d').p (a.eval (.tmp d')) w := by
      intro d' hw hlv
      unfold waits at hw
      obtain ⟨e, he, h1⟩ := List.any_eq_true.1 hw
      simp only [Bool.and_eq_true] at h1
      have h2 := haft e (by simpa using he) h1.1
      cases hoe : ops[e.on]? with
      | none => rw [hoe] at h1; simp at h1
      | some oe =>
        rw [hoe] at h1
        have h3 : oe.dst = some d' := by simpa using h1.2
        have h4 : listed.getD e.on true = true := by
          have hlt2 := hbef e (by simpa using he) h1.1
          rw [Array.getD_eq_getD_getElem?] at h2 ⊢
          rw [Array.getElem?_eq_getElem (by omega)] at h2 ⊢
          simpa using h2
        exact hI.ins e.on oe d' h4 hoe h3 hlv
    have hev : ∀ x, (∀ t, x ≠ .tmp t) → a.eval x = a0.eval x := fun x hx => by
      cases x with
      | tmp t => exact absurd rfl (hx t)
      | const v => rfl
      | global g => rfl
      | func f => rfl
    have haft' : ∀ e ∈ o.after, Region.binds .any e = true → listed.getD e.on true = true := fun e he hb => by
      have h2 := haft e he hb
      have hlt2 := hbef e he hb
      rw [Array.getD_eq_getD_getElem?] at h2 ⊢
      rw [Array.getElem?_eq_getElem (by omega)] at h2 ⊢
      simpa using h2
    by_cases hik : i = k0
    · subst hik
      rw [hk0] at ho; injection ho with ho; subst ho
      rw [hd0] at hd; injection hd with hd; subst hd
      obtain ⟨v, w', hr, hb, hv⟩ := hw0 a.eval w hI.bel (fun t ht => hI.out t ht) hev (fun d' h => hdep d' h fun hk => by rw [hk] at hun; cases hun)
      have hv' : (S d0).p v w' := by rw [hd0] at hv; exact hv
      unfold wpOp
      rw [hk0]
      have hwt : Region.wanted o0 (yielded ops a.tmps) = true := by simp [Region.wanted, hg0]
      simp only [hwt, if_true]
      refine .inl ?_
      unfold Oper.wp
      rw [hr]
      refine ih _ _ _ hfuel (hI.put hok haft' hk0 hd0 hv' hb fun j oj dj hne hl hoj hdj hkl _ u hu => ?_)
      have hkd := hkl (listed_self3 hilt)
      rcases hstay.at oj (by rw [Array.mem_toList_iff]; exact Array.mem_of_getElem? hoj) dj hdj with h | h | ⟨u', h⟩
      · rw [hkd] at h; cases h
      · subst h; exact absurd (huniq j oj hoj hdj).symm hne
      · rw [h] at hu ⊢; exact hu
    have hst := (hsteps.at i o (by simpa using ho)) (by omega)
    have hput : ∀ {v : Value} {w' : World}, Keeps w w' → (S d).p v w' → Inv3 ops a0 w0 S k0 kill (listed.setIfInBounds i true) (a.put o.dst v) w' := fun {v w'} hb hv =>
      hI.put hok haft' ho hd hv (hb.mono hI.bel.size) fun j oj dj _ _ _ _ _ _ u hu => (S dj).st hu hb
    have hS := hst a.eval w hI.bel (fun t ht => hI.out t ht) hev (fun d' h => by
      simp only [Bool.and_eq_true, Bool.or_eq_true, List.contains_iff_mem] at h
      refine hdep d' h.1 fun hk => ?_
      rcases h.2 with hp | hp
      · rw [hI.pre hpre hk (k0 - i) i (Nat.le_refl _) (by simpa using hp)] at hun; cases hun
      · simpa using hp)
    have run : Runs P o (S d) a.eval w → o.wp P a w (wpAny P .any ops Q fuel (listed.setIfInBounds i true)) Q := by
      intro hR
      unfold Runs at hR
      unfold Oper.wp
      generalize (execOp a.eval o).run P w = r at *
      cases r with
      | halt x w' => cases hR
      | ok n w' =>
        cases n with
        | value v => exact ih _ _ _ hfuel (hput hR.1 hR.2)
        | skip => exact ih _ _ _ hfuel (hput hR.1 hR.2)
        | enter f args =>
          refine Calls.mono hR.2 fun e w'' he => ?_
          obtain ⟨v, rfl, hb, hv⟩ := he
          exact ih _ _ _ hfuel (hput (keeps.trans hR.1 hb) hv)
        | _ => cases hR
    unfold wpOp
    rw [ho]
    cases hg : o.guard with
    | none =>
      have hwt : Region.wanted o (yielded ops a.tmps) = true := by simp [Region.wanted, hg]
      simp only [hwt, if_true]
      rw [hg, hd] at hS
      exact .inl (run hS)
    | some gb =>
      obtain ⟨g, b⟩ := gb
      obtain ⟨hgi, e, he, hbe, hge⟩ := hgd g b hg
      obtain ⟨og, hog⟩ : ∃ og, ops[g]? = some og := by
        have : g < ops.size := by rw [← hI.len]; omega
        exact ⟨_, Array.getElem?_eq_getElem this⟩
      obtain ⟨dg, hdg, hdlt, _⟩ := okB_at hok hog
      rw [hg, hd] at hS
      have hS' := hS dg (by rw [hog]; exact hdg)
      have hyl : yielded ops a.tmps g = match a.tmps.getD dg undef with | .bool b => some b | _ => none := by
        unfold yielded
        rw [hog]
        simp only [Option.bind_some, hdg]
        rw [Array.getD_eq_getD_getElem?, Array.getElem?_eq_getElem (by rw [hI.size]; exact hdlt)]
        simp only [Option.getD_some]
        cases a.tmps[dg]'(by rw [hI.size]; exact hdlt) <;> rfl
      by_cases hb : a.eval (.tmp dg) = .bool b
      · have hwt : Region.wanted o (yielded ops a.tmps) = true := by
          have hb' : a.tmps.getD dg undef = .bool b := hb
          simp [Region.wanted, hg, hyl, hb']
        simp only [hwt, if_true]
        exact .inl (run (hS'.1 hb))
      · have hwt : Region.wanted o (yielded ops a.tmps) = false := by
          have hb' : a.tmps.getD dg undef ≠ .bool b := hb
          simp only [Region.wanted, hg, hyl]
          generalize a.tmps.getD dg undef = x at *
          cases x <;> simp
          intro h; exact hb' (by rw [h])
        simp only [hwt]
        exact ih _ _ _ hfuel (hput (keeps.refl _) (hS'.2 hb))
/-- THE LAW: a region that draws its order, and in which operation k0 writes. -/
theorem wp_region_lin3 {id n : Nat} {ops : Array Oper} {a0 : Act} {w0 : World} {Q : Exit → Act → World → Prop} (S : Nat → Spec Keeps) (k0 : Nat) {o0 : Oper} {d0 : Nat} (kill : Nat → Bool) (pre : List Nat) (hm : P.follows .mixedOrders = true) (hn : a0.tmps.size = n) (hok : okB ops n = true)
    (hpre : preB ops k0 pre = true) (hk0 : ops[k0]? = some o0) (hd0 : o0.dst = some d0) (hg0 : o0.guard = none) (hstay : Stays S kill d0 ops.toList) (hw0 : StepW P ops a0 w0 S o0)
    (hsteps : Steps3 P ops a0 w0 S k0 kill pre 0 ops.toList)
    (hfin : ∀ (vals : Nat → Value) (w : World), Base w0 w0 w → (∀ d, isDst ops d = true → kill d = false → (S d).p (vals d) w) → Q .normal (putAll vals ops.toList a0) w) :
    (Code.region id ops true).wp P Q a0 w0 := by
  have hfresh : ∀ (i : Nat) o, (Array.replicate ops.size false).getD i true = true → ops[i]? = some o → False := fun i o hl ho => by
    have hlt : i < ops.size := by
      apply Decidable.byContradiction; intro hn
      rw [Array.getElem?_eq_none (by omega)] at ho; cases ho
    simp [Array.getD, hlt] at hl
  exact wp_region_any hm (any_lin3 (w0 := w0) (by rw [hn]; exact hok) hpre hk0 hd0 hg0 hstay hw0 hsteps hfin ops.size _ a0 _ (by simp)
    ⟨rfl, rfl, fun _ _ => rfl, fun i o d hl ho hd _ => (hfresh i o hl ho).elim, fun i o hl ho => (hfresh i o hl ho).elim, keeps.drew _, by simp⟩)
end
end Go.Proofs.Ytkgmgmlicgjfdaa.Lin
