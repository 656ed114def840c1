/-
  Pick of package smooth, whatever it knows. Helper of the claim SmoothPicks. No condition.
-/
import Derived.Test.YtkebgkjopfdafaaSm9
import Derived.Test.YtkebgkjopfdafaaSm10
import Derived.Test.YtkebgkjopfdafaaSm6
namespace Go.Proofs.Ytkebgkjopfdafaa
open Go.ChangeShapes Go.WideShapes Go.ChangeAt Go.RowKit
set_option linter.unusedSimpArgs false
set_option linter.unusedVariables false
set_option maxRecDepth 100000
theorem shc_same {kl pl : List Cand} {c d : Nat → Int} : ∀ n, (∀ i, i < n → (nth pl i).backend = (nth kl i).backend ∧ (nth pl i).weight = (nth kl i).weight) → (∀ i, i < n → c i = d i) → shc pl c n = shc kl d n
  | 0, _, _ => rfl
  | n + 1, h, h2 => by rw [← shc_snoc, ← shc_snoc, shc_same n (fun i hi => h i (by omega)) (fun i hi => h2 i (by omega)), (h n (by omega)).1, (h n (by omega)).2, h2 n (by omega)]
theorem st_same {w v : Nat → Int} {m : Nat} {W : Int} (hm : 0 < m) (h : ∀ i, i < m → w i = v i) : ∀ k i, i < m → Sm.st w m W k i = Sm.st v m W k i
  | 0, i, _ => rfl
  | k + 1, i, hi => by
    have ih := st_same (W := W) hm h k
    have e := Sm.am_congr (f := Sm.bump (Sm.st w m W k) w) (g := Sm.bump (Sm.st v m W k) v) m hm (fun j hj => by unfold Sm.bump; rw [ih j hj, h j hj])
    show Sm.step w m W (Sm.st w m W k) i = Sm.step v m W (Sm.st v m W k) i
    unfold Sm.step
    rw [e]
    unfold Sm.bump
    rw [ih i hi, h i hi]
/-- The balancer knows the shares of pl, behind k picks among them. -/
def SmG (pl : List Cand) (m k gs B : Nat) (w : World) : Prop :=
  (m = 0 ∧ Is w gs 62 #[.slice none 0 0]) ∨ (0 < m ∧ ∃ g cap, Is w gs 62 #[.slice (some ⟨g, 0, none⟩) m cap] ∧ w.ownsRow B 136 3 (.slice (some ⟨g, 0, none⟩) m cap) m (shc pl (Sm.st (wof pl) m (Sm.S (wof pl) m) k) m))
open Classical in
/-- How many picks count, where the list is kl now. -/
noncomputable def runK (m n k : Nat) (kl pl : List Cand) : Nat := if SameSh m n kl pl then k else 0
theorem pick_gen (gs c m n k B : Nat) (A : Option Addr) (l kl pl : List Cand) (w : World) (h : Cands w w.heap.size A l) (hl : l.length ≤ 30) (hkl : kp l l.length = kl) (hm : kl.length = m) (h0 : 0 < m) (h30 : m ≤ 30) (hn : n ≤ 30)
    (hw : ∀ i, i < m → (nth kl i).weight = wof kl i ∧ 0 < wof kl i ∧ wof kl i ≤ 100) (hB : B ≤ w.heap.size) (hS : SmG pl n k gs B w) :
    Calls Try.prog 33 #[.pointer (some ⟨gs, 0, none⟩), .slice A l.length c] w fun e w' => e = .returned (.tuple #[(nth kl (Sm.bk (wof kl) m (Sm.S (wof kl) m) (runK m n k kl pl))).val, .bool true]) ∧ SmG kl m (runK m n k kl pl + 1) gs B w' ∧ PkW gs B w w' := by
  have hnew : ∀ v0, Is w gs 62 #[v0] → runK m n k kl pl = 0 → (∀ (A6 : Option Addr) (c6 : Nat) (w1 : World), Cands w1 w1.heap.size A6 kl → Is w1 gs 62 #[v0] → Below w.heap.size w w1 → Calls Try.prog 78 #[.pointer (some ⟨gs, 0, none⟩), .slice A6 m c6] w1 fun e w' => e = .returned (.bool false) ∧ Below w1.heap.size w1 w') →
      Calls Try.prog 33 #[.pointer (some ⟨gs, 0, none⟩), .slice A l.length c] w fun e w' => e = .returned (.tuple #[(nth kl (Sm.bk (wof kl) m (Sm.S (wof kl) m) (runK m n k kl pl))).val, .bool true]) ∧ SmG kl m (runK m n k kl pl + 1) gs B w' ∧ PkW gs B w w' := by
    intro v0 hs hr hk
    rw [hr]
    refine (pick_new gs c m v0 A l kl (wof kl) w h hl hkl hm h0 h30 hw hs hk).mono ?_
    rintro e w' ⟨rfl, g, cap, h1, h2, h3⟩
    exact ⟨rfl, .inr ⟨h0, g, cap, h1, own_lower h2 hB⟩, ⟨h3.os, h3.tape, h3.output, h3.size, fun i hi hg _ => h3.block i hi hg⟩⟩
  rcases hS with ⟨h1, hs⟩ | ⟨h1, g, cap, hs, ho⟩
  · refine hnew _ hs (if_neg fun hh => by have := hh.1; omega) fun A6 c6 w1 _ hs1 _ => ?_
    refine (knows_no gs m c6 A6 w1 hs1 h0).mono ?_
    rintro e w' ⟨rfl, rfl⟩
    exact ⟨rfl, Below.refl _ _⟩
  · by_cases hsm : SameSh m n kl pl
    · obtain ⟨rfl, he⟩ := hsm
      have hr : runK m m k kl pl = k := if_pos ⟨rfl, he⟩
      rw [hr]
      have hwe : ∀ i, i < m → wof pl i = wof kl i := fun i hi => (he i hi).2
      have hSe : Sm.S (wof pl) m = Sm.S (wof kl) m := Sm.S_congr m hwe
      rw [hSe, shc_same (kl := kl) (d := Sm.st (wof kl) m (Sm.S (wof kl) m) k) m he (fun i hi => st_same h0 hwe k i hi)] at ho
      refine (pick_known gs c g B cap m A l kl (Sm.st (wof kl) m (Sm.S (wof kl) m) k) (wof kl) w h hl hkl hm h0 h30 hw (fun i hi => st_bound h0 h30 (fun i hi => (hw i hi).2) k i hi) hs ho).mono ?_
      rintro e w' ⟨rfl, h1, h2, h3⟩
      refine ⟨rfl, .inr ⟨h0, g, cap, h1, h2⟩, ⟨h3.os, h3.tape, h3.output, h3.size, fun i hi _ hx => h3.block i hi fun e => ?_⟩⟩
      subst e
      rcases hx with hx | hx
      · have := own_in5 ho (k := i) rfl; omega
      · rcases ho.2 with ⟨h', _⟩ | ⟨g', cap', cur, h', hb, hg, _⟩
        · cases h'
        · injection h' with a1 _ _; injection a1 with a1; injection a1 with a1; subst a1
          exact hx cur hg
    · refine hnew _ hs (if_neg hsm) fun A6 c6 w1 hc1 hs1 hb1 => ?_
      by_cases hmn : m = n
      · subst hmn
        have := knows_same gs c6 cap A6 _ kl pl m B _ w1 hm h0 (by omega) hc1 hs1 (own_below ho hb1)
        rw [sm_no hsm] at this
        exact this
      · have := knows_len gs m n c6 cap A6 _ kl pl w1 hs1 hmn
        rw [sm_no hsm] at this
        refine this.mono ?_
        rintro e w' ⟨rfl, rfl⟩
        exact ⟨rfl, Below.refl _ _⟩
end Go.Proofs.Ytkebgkjopfdafaa
