/-
  The law SmoothPicks, walked. Helper of the claim SmoothPicks. No condition.
-/
import Derived.Test.YtkebgkjopfdafaaSmp
namespace Go.Proofs.Ytkebgkjopfdafaa
open Go.ChangeShapes Go.WideShapes Go.ChangeAt Go.RowKit
set_option linter.unusedSimpArgs false
set_option linter.unusedVariables false
set_option maxRecDepth 100000
def nths (ls : List (List Cand)) (i : Nat) : List Cand := ls.getD i []
def CandsS (w : World) (B : Nat) (A : Option Addr) (ls : List (List Cand)) : Prop :=
  0 < ls.length → ∃ b off, A = some ⟨b, off, none⟩ ∧ b < B ∧ ∀ i, i < ls.length → ∃ Ai ci, w.cell? ⟨b, off + i, none⟩ = some (.slice Ai (nths ls i).length ci) ∧ Cands w B Ai (nths ls i) ∧ (nths ls i).length ≤ maxLen
theorem SmG.below {pl : List Cand} {n k gs B : Nat} {w w' : World} (h : SmG pl n k gs B w) (hb : Below w.heap.size w w') : SmG pl n k gs B w' := by
  rcases h with ⟨h1, h2⟩ | ⟨h1, g, cap, h2, h3⟩
  · exact .inl ⟨h1, h2.below hb h2.lt⟩
  · exact .inr ⟨h1, g, cap, h2.below hb h2.lt, own_below h3 hb⟩
theorem owed_g (gs n k B : Nat) (pl : List Cand) (x : Int) (w : World) (h : SmG pl n k gs B w) (hn : n ≤ 30) :
    Calls Try.prog 35 #[.pointer (some ⟨gs, 0, none⟩), .int .i64 x] w fun e w' => e = .returned (.int .i64 (owedF pl (Sm.st (wof pl) n (Sm.S (wof pl) n) k) x n 0)) ∧ Below w.heap.size w w' := by
  rcases h with ⟨h1, h2⟩ | ⟨h1, g, cap, h2, h3⟩
  · subst h1
    refine (owed_none gs x w h2).mono ?_
    rintro e w' ⟨rfl, rfl⟩
    exact ⟨rfl, Below.refl _ _⟩
  · exact owed_any gs n g cap B pl _ x w h1 (by omega) h2 h3
theorem owed_no {pl : List Cand} {cr : Nat → Int} {x : Int} : ∀ d i, (∀ j, i ≤ j → j < i + d → (nth pl j).backend ≠ x) → owedF pl cr x d i = 0
  | 0, _, _ => rfl
  | d + 1, i, h => by
    rw [owedF, if_neg (h i (Nat.le_refl _) (by omega))]
    exact owed_no d (i + 1) fun j h1 h2 => h j (by omega) (by omega)
theorem owed_yes {pl : List Cand} {cr : Nat → Int} {x : Int} {j : Nat} (hj : (nth pl j).backend = x) : ∀ d i, i ≤ j → j < i + d → (∀ a, i ≤ a → a < j → (nth pl a).backend ≠ x) → owedF pl cr x d i = cr j
  | 0, i, h1, h2, _ => by omega
  | d + 1, i, h1, h2, h => by
    rw [owedF]
    by_cases e : i = j
    · subst e; rw [if_pos hj]
    · rw [if_neg (h i (Nat.le_refl _) (by omega))]
      exact owed_yes hj d (i + 1) (by omega) (by omega) fun a h3 h4 => h a (by omega) h4
theorem owed_at {pl : List Cand} {cr : Nat → Int} (hd : Df pl) {n : Nat} (hn : pl.length = n) (j : Nat) (hj : j < n) : owedF pl cr (nth pl j).backend n 0 = cr j :=
  owed_yes rfl n 0 (by omega) (by omega) fun a _ h => fun e => hd j (by omega) a h e.symm
/-- What the law wants of a backend: the last share of it among the first q. -/
def wantF (pl : List Cand) (cr : Nat → Int) (x : Int) : Nat → Int
  | 0 => 0
  | q + 1 => if (nth pl q).backend = x then cr q else wantF pl cr x q
theorem want_no {pl : List Cand} {cr : Nat → Int} {x : Int} : ∀ q, (∀ j, j < q → (nth pl j).backend ≠ x) → wantF pl cr x q = 0
  | 0, _ => rfl
  | q + 1, h => by rw [wantF, if_neg (h q (by omega))]; exact want_no q fun j hj => h j (by omega)
theorem want_yes {pl : List Cand} {cr : Nat → Int} {x : Int} {j : Nat} (hj : (nth pl j).backend = x) : ∀ q, j < q → (∀ a, j < a → a < q → (nth pl a).backend ≠ x) → wantF pl cr x q = cr j
  | 0, h, _ => by omega
  | q + 1, h, ha => by
    rw [wantF]
    by_cases e : q = j
    · subst e; rw [if_pos hj]
    · rw [if_neg (ha q (by omega) (by omega))]
      exact want_yes hj q (by omega) fun a h1 h2 => ha a h1 (by omega)
theorem want_eq {pl : List Cand} {cr : Nat → Int} {x : Int} {n : Nat} (hd : Df pl) (hn : pl.length = n) : wantF pl cr x n = owedF pl cr x n 0 := by
  by_cases h : ∃ j, j < n ∧ (nth pl j).backend = x
  · obtain ⟨j, hj, e⟩ := h
    rw [want_yes e n hj (fun a h1 h2 e2 => hd a (by omega) j h1 (e2.trans e.symm)), owed_yes e n 0 (by omega) (by omega) (fun a _ h2 e2 => hd j (by omega) a h2 (e.trans e2.symm))]
  · rw [want_no n (fun j hj e => h ⟨j, hj, e⟩), owed_no n 0 (fun j _ hj e => h ⟨j, by omega, e⟩)]
theorem cands_of_any {w : World} {g : Nat} {t : TypeId} {x : Cand} (h : Is w g t #[.int .i64 x.slot, .int .i64 x.backend, .int .i64 x.weight, .int .u32 x.load]) : Cands w w.heap.size (some ⟨g, 0, none⟩) [x] := fun _ => by
  refine ⟨g, 0, rfl, h.lt, fun i j hi hj => ?_⟩
  rw [Nat.zero_add, h.cell]
  obtain rfl : i = 0 := by simp at hi; exact hi
  match j, hj with
  | 0, _ => rfl
  | 1, _ => rfl
  | 2, _ => rfl
  | 3, _ => rfl
def LitC (t : TypeId) (cs : Array Value) : Lin.Spec Lin.Keeps := ⟨fun v w => ∃ g, v = .slice (some ⟨g, 0, none⟩) 1 1 ∧ Is w g t cs, fun h hb => by
  obtain ⟨g, e, hi⟩ := h
  exact ⟨g, e, hi.below hb hi.lt⟩⟩
def OwnC (l : List Cand) : Lin.Spec Lin.Keeps := ⟨fun v w => ∃ B, w.ownsRow B 29 4 v l.length (cellsOf l), fun h hb => by
  obtain ⟨B, h⟩ := h
  exact ⟨B, own_below h hb⟩⟩
def PtrC (l : List Cand) : Lin.Spec Lin.Keeps := ⟨fun v w => ∃ g c B, v = .pointer (some ⟨g, 0, none⟩) ∧ w.ownsRow B 29 4 (.slice (some ⟨g, 0, none⟩) l.length c) l.length (cellsOf l), fun h hb => by
  obtain ⟨g, c, B, e, h⟩ := h
  exact ⟨g, c, B, e, own_below h hb⟩⟩
theorem ownc_shape {x : Cand} {v : Value} {w : World} (h : ∃ B, w.ownsRow B 29 4 v [x].length (cellsOf [x])) : ∃ g c, v = .slice (some ⟨g, 0, none⟩) 1 c ∧ ∃ B, w.ownsRow B 29 4 (.slice (some ⟨g, 0, none⟩) 1 c) 1 (cellsOf [x]) := by
  obtain ⟨B, h⟩ := h
  have h9 := h
  rcases h.2 with ⟨_, h0⟩ | ⟨g, cap, cur, rfl, _⟩
  · simp at h0
  · exact ⟨g, cap, rfl, B, h9⟩
def PI (w : World) (gs n k b5 c5 : Nat) (pl : List Cand) (SLC : Value) (x : Int) (v12 v13 : Value) (wr : World) : Prop :=
  ∃ q : Nat, q ≤ n ∧ v13 = .int .i64 (q : Int) ∧ v12 = .int .i64 (wantF pl (Sm.st (wof pl) n (Sm.S (wof pl) n) k) x q) ∧ SmG pl n k gs w.heap.size wr ∧ wr.ownsRow b5 70 5 SLC n (rsc pl (Sm.st (wof pl) n (Sm.S (wof pl) n) k) n) ∧ Below w.heap.size w wr ∧ gs < wr.heap.size
def PO (w : World) (gs : Nat) (ls : List (List Cand)) (v6 v7 : Value) (wr : World) : Prop :=
  ∃ (i n k : Nat) (pl : List Cand) (b5 : Nat) (An : Option Addr) (cn : Nat), i ≤ ls.length ∧ i ≤ 60 ∧ v7 = .int .i64 (i : Int) ∧ v6 = .slice An n cn ∧ pl.length = n ∧ n ≤ 30 ∧ Df pl ∧ (∀ j, j < n → 0 < wof pl j ∧ wof pl j ≤ 100) ∧ SmG pl n k gs w.heap.size wr ∧ wr.ownsRow b5 70 5 (.slice An n cn) n (rsc pl (Sm.st (wof pl) n (Sm.S (wof pl) n) k) n) ∧ Below w.heap.size w wr ∧ gs < wr.heap.size
theorem kp_df {l : List Cand} (hd : Df l) : Df (kp l l.length) := by
  have hp : l.Pairwise fun a b => a.backend ≠ b.backend := by
    rw [List.pairwise_iff_getElem]
    intro i j hi hj hij e
    refine hd j hj i hij ?_
    simp only [nth, List.getD]
    rw [List.getElem?_eq_getElem hi, List.getElem?_eq_getElem hj]
    exact e.symm
  have hq : (kp l l.length).Pairwise fun a b => a.backend ≠ b.backend := by rw [kp_all]; exact hp.filter _
  intro i hi k hk e
  rw [List.pairwise_iff_getElem] at hq
  refine hq k i (by omega) hi hk ?_
  simp only [nth, List.getD] at e
  rw [List.getElem?_eq_getElem hi, List.getElem?_eq_getElem (show k < (kp l l.length).length by omega)] at e
  exact e.symm
end Go.Proofs.Ytkebgkjopfdafaa
