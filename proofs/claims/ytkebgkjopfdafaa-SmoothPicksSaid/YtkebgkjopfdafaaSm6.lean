/-
  Candidates that weigh something, and how often each is told. Helper of the claim SmoothShares. No condition.
-/
import Derived.Test.YtkebgkjopfdafaaSm5
namespace Go.Proofs.Ytkebgkjopfdafaa
open Go.ChangeShapes Go.WideShapes Go.ChangeAt Go.RowKit
set_option linter.unusedSimpArgs false
set_option linter.unusedVariables false
set_option maxRecDepth 100000
theorem right_pair : ∀ (l : List Cand) (last : Int), rightFrom last l = true → (∀ c ∈ l, last < c.slot ∧ c.slot ≤ 4095 ∧ 0 ≤ c.weight ∧ c.weight ≤ 100) ∧ l.Pairwise fun a b => a.slot < b.slot
  | [], _, _ => ⟨by simp, List.Pairwise.nil⟩
  | c :: l, last, h => by
    by_cases hc : c.slot ≤ last ∨ 4095 < c.slot ∨ c.weight < 0 ∨ 100 < c.weight
    · rw [right_no hc] at h; cases h
    · rw [right_go hc] at h
      obtain ⟨h1, h2⟩ := right_pair l c.slot h
      refine ⟨fun d hd => ?_, List.Pairwise.cons (fun d hd => (h1 d hd).1) h2⟩
      rcases List.mem_cons.1 hd with rfl | hd
      · omega
      · have := h1 d hd; omega
theorem nth_mem {l : List Cand} {k : Nat} (h : k < l.length) : nth l k ∈ l := by
  have : nth l k = l[k] := by simp [nth, List.getD, h]
  rw [this]; exact List.getElem_mem h
theorem mem_nth {l : List Cand} {c : Cand} (h : c ∈ l) : ∃ k, k < l.length ∧ nth l k = c := by
  obtain ⟨k, hk, e⟩ := List.getElem_of_mem h
  exact ⟨k, hk, by simp [nth, List.getD, hk, e]⟩
theorem kp_all (l : List Cand) : kp l l.length = l.filter fun x => decide (0 < x.weight) := by unfold kp; rw [List.take_length]
theorem nth_left {a b : List Cand} {i : Nat} (h : i < a.length) : nth (a ++ b) i = nth a i := by simp [nth, List.getD, List.getElem?_append_left h]
theorem nth_last {a : List Cand} {x : Cand} : nth (a ++ [x]) a.length = x := by simp [nth, List.getD]
def wof (l : List Cand) (i : Nat) : Int := (nth l i).weight
theorem sum_kp (l : List Cand) (h : ∀ c ∈ l, 0 ≤ c.weight) : ∀ k, k ≤ l.length → Sm.S (wof l) k = Sm.S (wof (kp l k)) (kp l k).length
  | 0, _ => rfl
  | k + 1, hk => by
    have ih := sum_kp l h k (by omega)
    by_cases hp : 0 < (nth l k).weight
    · rw [kp_yes (by omega) hp]
      simp only [Sm.S, List.length_append, List.length_singleton]
      rw [ih, Sm.S_congr (f := wof (kp l k ++ [nth l k])) (g := wof (kp l k)) _ (fun i hi => by unfold wof; rw [nth_left hi])]
      unfold wof; rw [nth_last]
    · rw [kp_no (by omega) hp]
      have h1 := h _ (nth_mem (l := l) (k := k) (by omega))
      simp only [Sm.S]; rw [ih]
      have : wof l k = 0 := by unfold wof; omega
      omega
/-- How often slot s was told in k picks behind a. -/
def tl (kl : List Cand) (wt : Nat → Int) (m a : Nat) : Nat → Int → Int
  | 0, _ => 0
  | k + 1, s => tl kl wt m a k s + (if (nth kl (Sm.bk wt m (Sm.S wt m) (a + k))).slot = s then 1 else 0)
theorem tl_range (kl : List Cand) (wt : Nat → Int) (m a : Nat) (s : Int) : ∀ k, 0 ≤ tl kl wt m a k s ∧ tl kl wt m a k s ≤ k
  | 0 => by simp [tl]
  | k + 1 => by
    have := tl_range kl wt m a s k
    simp only [tl]; split <;> omega
theorem tl_cnt {kl : List Cand} {wt : Nat → Int} {m : Nat} (hm : kl.length = m) (h0 : 0 < m) (hp : kl.Pairwise fun a b => a.slot < b.slot) (a j : Nat) (hj : j < m) : ∀ k, tl kl wt m a k (nth kl j).slot = (Sm.cnt wt m (Sm.S wt m) j (a + k) : Int) - Sm.cnt wt m (Sm.S wt m) j a
  | 0 => by simp [tl]
  | k + 1 => by
    have ih := tl_cnt (wt := wt) hm h0 hp a j hj k
    have hb := Sm.bk_lt (w := wt) (W := Sm.S wt m) h0 (a + k)
    simp only [tl]
    rw [ih, show a + (k + 1) = (a + k) + 1 from rfl, Sm.cnt]
    generalize Sm.bk wt m (Sm.S wt m) (a + k) = b at *
    have e : (nth kl b).slot = (nth kl j).slot ↔ j = b := by
      constructor
      · intro e
        rw [List.pairwise_iff_getElem] at hp
        have g : ∀ q (hq : q < kl.length), nth kl q = kl[q] := fun q hq => by simp [nth, List.getD, hq]
        rcases Nat.lt_trichotomy j b with h | h | h
        · have := hp j b (by omega) (by omega) h
          rw [← g j (by omega), ← g b (by omega)] at this; omega
        · exact h
        · have := hp b j (by omega) (by omega) h
          rw [← g j (by omega), ← g b (by omega)] at this; omega
      · rintro rfl; rfl
    by_cases h : j = b
    · rw [if_pos (e.2 h), if_pos h]; omega
    · rw [if_neg (fun h' => h (e.1 h')), if_neg h]; omega
theorem tl_zero {kl : List Cand} {wt : Nat → Int} {m : Nat} (hm : kl.length = m) (h0 : 0 < m) {s : Int} (hs : ∀ c ∈ kl, c.slot ≠ s) (a : Nat) : ∀ k, tl kl wt m a k s = 0
  | 0 => rfl
  | k + 1 => by
    have hb := Sm.bk_lt (w := wt) (W := Sm.S wt m) h0 (a + k)
    simp only [tl]
    rw [tl_zero (wt := wt) hm h0 hs a k, if_neg (hs _ (nth_mem (by omega)))]; rfl
/-- P19.3, for the slots. -/
theorem told_all {l kl : List Cand} {m n : Nat} (hr : rightB l = true) (hkl : kp l l.length = kl) (hm : kl.length = m) (hn : Sm.S (wof kl) m = (n : Int)) (a i : Nat) (hi : i < l.length) : tl kl (wof kl) m a n (nth l i).slot = (nth l i).weight := by
  obtain ⟨h1, h2⟩ := right_pair l (-1) hr
  have hf : kl = l.filter fun x => decide (0 < x.weight) := by rw [← hkl, kp_all]
  have hp : kl.Pairwise fun a b => a.slot < b.slot := by rw [hf]; exact h2.filter _
  have hw : ∀ j, j < m → 0 < wof kl j := fun j hj => by
    have := nth_mem (l := kl) (k := j) (by omega)
    rw [hf] at this
    have := (List.mem_filter.1 this).2
    simp at this
    unfold wof; rw [hf]; exact this
  have hwi := h1 _ (nth_mem (l := l) (k := i) hi)
  by_cases hpos : 0 < (nth l i).weight
  · have hmem : nth l i ∈ kl := by rw [hf]; exact List.mem_filter.2 ⟨nth_mem hi, by simp [hpos]⟩
    obtain ⟨j, hj, e⟩ := mem_nth hmem
    rw [← e, tl_cnt hm (by omega) hp a j (by omega), Sm.told (w := wof kl) (m := m) (W := Sm.S (wof kl) m) (by omega) rfl hw hn a j (by omega)]
    unfold wof; omega
  · have hz : (nth l i).weight = 0 := by omega
    rw [hz]
    by_cases hm0 : m = 0
    · subst hm0
      have : n = 0 := by have : Sm.S (wof kl) 0 = 0 := rfl; omega
      subst this; rfl
    · refine tl_zero hm (by omega) (fun c hc e => ?_) a n
      rw [hf] at hc
      obtain ⟨hc1, hc2⟩ := List.mem_filter.1 hc
      simp at hc2
      obtain ⟨q, hq, e2⟩ := mem_nth hc1
      rw [List.pairwise_iff_getElem] at h2
      have g : ∀ q (hq : q < l.length), nth l q = l[q] := fun q hq => by simp [nth, List.getD, hq]
      have hqi : q = i := by
        rcases Nat.lt_trichotomy q i with h | h | h
        · have := h2 q i hq hi h
          rw [← g q hq, ← g i hi, e2] at this; omega
        · exact h
        · have := h2 i q hi hq h
          rw [← g q hq, ← g i hi, e2] at this; omega
      rw [hqi] at e2; rw [e2] at hpos; exact hpos hc2
/-- The balancer, also where nobody weighs anything. -/
def SmT (kl : List Cand) (m : Nat) (wt : Nat → Int) (gs B k : Nat) (w : World) : Prop := (m = 0 ∧ Is w gs 62 #[.slice none 0 0]) ∨ (0 < m ∧ SmS kl m wt gs B k w)
theorem pick_ahead (gs c m k B : Nat) (A : Option Addr) (l kl : List Cand) (wt : Nat → Int) (w : World) (h : Cands w w.heap.size A l) (hl : l.length ≤ 30) (hkl : kp l l.length = kl) (hm : kl.length = m) (h30 : m ≤ 30)
    (hw : ∀ i, i < m → (nth kl i).weight = wt i ∧ 0 < wt i ∧ wt i ≤ 100) (hB : B ≤ w.heap.size) (hS : SmT kl m wt gs B k w) :
    Calls Try.prog 33 #[.pointer (some ⟨gs, 0, none⟩), .slice A l.length c] w fun e w' => ∃ v, e = .returned v ∧ SmT kl m wt gs B (k + 1) w' ∧ PkW gs B w w' := by
  rcases hS with ⟨h0, hs⟩ | ⟨h0, hs⟩
  · refine (pick_zero gs c A l w h (by omega) (by rw [hkl, hm, h0])).mono ?_
    rintro e w' ⟨rfl, hb⟩
    exact ⟨_, rfl, .inl ⟨h0, hs.below hb hs.lt⟩, ⟨hb.os, hb.tape, hb.output, hb.size, fun i hi _ _ => hb.block i hi⟩⟩
  · refine (pick_step gs c m k B A l kl wt w h hl hkl hm h0 h30 hw hB hs).mono ?_
    rintro e w' ⟨rfl, h1, h2⟩
    exact ⟨_, rfl, .inr ⟨h0, h1⟩, h2⟩
end Go.Proofs.Ytkebgkjopfdafaa
