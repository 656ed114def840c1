/-
  Smooth round robin, as arithmetic: credits, the first of the greatest, and how often each is told. Helper of the claims SmoothShares and SmoothPicks.
-/
import Derived.Test.YtkebgkjopfdafaaBase
namespace Go.Proofs.Ytkebgkjopfdafaa
set_option linter.unusedSimpArgs false
set_option linter.unusedVariables false
namespace Sm
/-- The sum of the first m. -/
def S (f : Nat → Int) : Nat → Int
  | 0 => 0
  | m + 1 => S f m + f m
/-- The first of the greatest among the first m, as the loop finds it. -/
def am (f : Nat → Int) : Nat → Nat
  | 0 => 0
  | m + 1 => if f m > f (am f m) then m else am f m
def bump (c w : Nat → Int) (i : Nat) : Int := c i + w i
def step (w : Nat → Int) (m : Nat) (W : Int) (c : Nat → Int) (i : Nat) : Int := if i = am (bump c w) m then bump c w i - W else bump c w i
def st (w : Nat → Int) (m : Nat) (W : Int) : Nat → Nat → Int
  | 0 => fun _ => 0
  | k + 1 => step w m W (st w m W k)
/-- Who is told at the k-th pick. -/
def bk (w : Nat → Int) (m : Nat) (W : Int) (k : Nat) : Nat := am (bump (st w m W k) w) m
/-- How often i was told in the first k picks. -/
def cnt (w : Nat → Int) (m : Nat) (W : Int) (i : Nat) : Nat → Nat
  | 0 => 0
  | k + 1 => cnt w m W i k + (if i = bk w m W k then 1 else 0)

theorem S_congr {f g : Nat → Int} : ∀ m, (∀ i, i < m → f i = g i) → S f m = S g m
  | 0, _ => rfl
  | m + 1, h => by simp only [S]; rw [S_congr m (fun i hi => h i (by omega)), h m (by omega)]
theorem S_add (f g : Nat → Int) : ∀ m, S (fun i => f i + g i) m = S f m + S g m
  | 0 => rfl
  | m + 1 => by simp only [S]; rw [S_add f g m]; omega
theorem S_sub (f : Nat → Int) (b : Nat) (W : Int) : ∀ m, S (fun i => if i = b then f i - W else f i) m = S f m - (if b < m then W else 0)
  | 0 => by simp [S]
  | m + 1 => by
    simp only [S]; rw [S_sub f b W m]
    by_cases h : m = b
    · subst h; simp; omega
    · by_cases h2 : b < m
      · rw [if_neg h, if_pos h2, if_pos (by omega)]; omega
      · rw [if_neg h, if_neg h2, if_neg (by omega)]; omega
theorem S_le {f : Nat → Int} (u : Int) : ∀ m, (∀ i, i < m → f i ≤ u) → S f m ≤ m * u
  | 0, _ => by simp [S]
  | m + 1, h => by
    have := S_le u m (fun i hi => h i (by omega))
    have := h m (by omega)
    simp only [S]
    rw [show ((m + 1 : Nat) : Int) * u = m * u + u from by rw [Int.natCast_add]; rw [Int.add_mul]; simp]
    omega
theorem S_zero {f : Nat → Int} : ∀ m, (∀ i, i < m → 0 ≤ f i) → S f m ≤ 0 → ∀ i, i < m → f i = 0
  | 0, _, _ => by intro i hi; omega
  | m + 1, h, hs => by
    intro i hi
    have hp : ∀ m', (∀ i, i < m' → 0 ≤ f i) → 0 ≤ S f m' := by
      intro m'
      induction m' with
      | zero => intro _; simp [S]
      | succ q ih => intro h'; have := ih (fun i hi => h' i (by omega)); have := h' q (by omega); simp only [S]; omega
    have h1 := hp m (fun i hi => h i (by omega))
    have h2 := h m (by omega)
    simp only [S] at hs
    rcases Nat.lt_or_ge i m with hm | hm
    · exact S_zero m (fun i hi => h i (by omega)) (by omega) i hm
    · obtain rfl : i = m := by omega
      omega
theorem am_lt {f : Nat → Int} : ∀ m, 0 < m → am f m < m
  | 0, h => by omega
  | 1, _ => by simp [am]
  | m + 2, _ => by
    have := am_lt (f := f) (m + 1) (by omega)
    rw [am]
    split <;> omega
theorem am_max {f : Nat → Int} : ∀ m i, i < m → f i ≤ f (am f m)
  | 0, i, h => by omega
  | m + 1, i, h => by
    rw [am]
    by_cases hc : f m > f (am f m)
    · rw [if_pos hc]
      rcases Nat.lt_or_ge i m with hm | hm
      · have := am_max (f := f) m i hm; omega
      · obtain rfl : i = m := by omega
        omega
    · rw [if_neg hc]
      rcases Nat.lt_or_ge i m with hm | hm
      · exact am_max m i hm
      · obtain rfl : i = m := by omega
        omega
theorem am_congr {f g : Nat → Int} : ∀ m, 0 < m → (∀ i, i < m → f i = g i) → am f m = am g m
  | 0, h, _ => by omega
  | 1, _, h => by simp [am]
  | m + 2, _, h => by
    have e := am_congr (m + 1) (by omega) (fun i hi => h i (by omega))
    have hl := am_lt (f := g) (m + 1) (by omega)
    show (if f (m + 1) > f (am f (m + 1)) then m + 1 else am f (m + 1)) = (if g (m + 1) > g (am g (m + 1)) then m + 1 else am g (m + 1))
    rw [e, h (m + 1) (by omega), h (am g (m + 1)) (by omega)]
theorem step_congr {w c d : Nat → Int} {m : Nat} {W : Int} (hm : 0 < m) (h : ∀ i, i < m → c i = d i) : ∀ i, i < m → step w m W c i = step w m W d i := by
  intro i hi
  have e := am_congr (f := bump c w) (g := bump d w) m hm (fun j hj => by unfold bump; rw [h j hj])
  unfold step
  rw [e]
  unfold bump
  rw [h i hi]
section
variable {w : Nat → Int} {m : Nat} {W : Int}
theorem st_sum (hm : 0 < m) (hW : S w m = W) : ∀ k, S (st w m W k) m = 0
  | 0 => by
    have : ∀ q, S (fun _ => (0 : Int)) q = 0 := by intro q; induction q with | zero => rfl | succ q ih => simp only [S]; omega
    exact this m
  | k + 1 => by
    have h := st_sum hm hW k
    have e : S (step w m W (st w m W k)) m = S (bump (st w m W k) w) m - W := by
      have := S_sub (bump (st w m W k) w) (am (bump (st w m W k) w) m) W m
      rw [if_pos (am_lt m hm)] at this
      exact this
    rw [st, e]
    have := S_add (st w m W k) w m
    rw [show S (bump (st w m W k) w) m = S (st w m W k) m + S w m from this]
    omega
theorem st_low (hm : 0 < m) (hW : S w m = W) (hw : ∀ i, i < m → 0 < w i) : ∀ k i, i < m → -W < st w m W k i
  | 0, i, hi => by
    have hp : ∀ q, 0 < q → q ≤ m → 0 < S w q := by
      intro q
      induction q with
      | zero => intro h _; omega
      | succ q ih =>
        intro _ h2
        have := hw q (by omega)
        simp only [S]
        rcases Nat.eq_zero_or_pos q with h0 | h0
        · subst h0; simp only [S]; omega
        · have := ih h0 (by omega); omega
    have := hp m hm (Nat.le_refl _)
    show -W < 0
    omega
  | k + 1, i, hi => by
    have ih := st_low hm hW hw k
    have hs := st_sum hm hW k
    have ha := S_add (st w m W k) w m
    have hb : S (bump (st w m W k) w) m = W := by
      rw [show S (bump (st w m W k) w) m = S (st w m W k) m + S w m from ha]; omega
    show -W < step w m W (st w m W k) i
    unfold step
    have hwi := hw i hi
    have hi' := ih i hi
    by_cases hc : i = am (bump (st w m W k) w) m
    · rw [if_pos hc]
      have hmax : 0 < bump (st w m W k) w i := by
        apply Decidable.byContradiction; intro hn
        have hle := S_le (f := bump (st w m W k) w) 0 m (fun j hj => by have := am_max (f := bump (st w m W k) w) m j hj; rw [← hc] at this; omega)
        have h0 := st_low hm hW hw 0 i hi
        have h00 : -W < 0 := h0
        simp at hle
        omega
      omega
    · rw [if_neg hc]; unfold bump; omega
theorem st_eq (i : Nat) : ∀ k, st w m W k i = k * w i - W * cnt w m W i k
  | 0 => by simp [st, cnt]
  | k + 1 => by
    have ih := st_eq i k
    have e1 : ((k + 1 : Nat) : Int) * w i = k * w i + w i := by rw [Int.natCast_add, Int.add_mul]; simp
    show step w m W (st w m W k) i = _
    rw [cnt, e1]
    unfold step
    rw [show am (bump (st w m W k) w) m = bk w m W k from rfl]
    by_cases hc : i = bk w m W k
    · rw [if_pos hc, if_pos hc]
      have e2 : W * ((cnt w m W i k + 1 : Nat) : Int) = W * cnt w m W i k + W := by rw [Int.natCast_add, Int.mul_add]; simp
      rw [e2]; unfold bump; omega
    · rw [if_neg hc, if_neg hc]; unfold bump; simp only [Nat.add_zero]; omega
/-- After as many picks as all weigh together, nobody is owed anything. -/
theorem st_round (hm : 0 < m) (hW : S w m = W) (hw : ∀ i, i < m → 0 < w i) {n : Nat} (hn : W = (n : Int)) : ∀ i, i < m → st w m W n i = 0 := by
  have hnn : ∀ i, i < m → 0 ≤ st w m W n i := by
    intro i hi
    have h1 := st_low hm hW hw n i hi
    have h2 := st_eq (w := w) (m := m) (W := W) i n
    have h3 : st w m W n i = W * (w i - cnt w m W i n) := by rw [h2, Int.mul_sub, hn]
    have hWp : 0 < W := by have := st_low hm hW hw 0 i hi; have h0 : -W < 0 := this; omega
    apply Decidable.byContradiction; intro hneg
    have h4 : w i - (cnt w m W i n : Int) ≤ -1 := by
      apply Decidable.byContradiction; intro hc
      have := Int.mul_nonneg (show 0 ≤ W by omega) (show 0 ≤ w i - (cnt w m W i n : Int) by omega)
      omega
    have h5 := Int.mul_le_mul_of_nonneg_left h4 (show 0 ≤ W by omega)
    rw [← h3] at h5
    simp at h5
    omega
  exact S_zero m hnn (by rw [st_sum hm hW n]; omega)
theorem st_period (hm : 0 < m) (hW : S w m = W) (hw : ∀ i, i < m → 0 < w i) {n : Nat} (hn : W = (n : Int)) : ∀ a i, i < m → st w m W (n + a) i = st w m W a i
  | 0, i, hi => st_round hm hW hw hn i hi
  | a + 1, i, hi => step_congr hm (fun j hj => st_period hm hW hw hn a j hj) i hi
/-- P19.3: in as many picks as all weigh together, each is told as often as it weighs, wherever these begin. -/
theorem told (hm : 0 < m) (hW : S w m = W) (hw : ∀ i, i < m → 0 < w i) {n : Nat} (hn : W = (n : Int)) (a i : Nat) (hi : i < m) : (cnt w m W i (a + n) : Int) = cnt w m W i a + w i := by
  have h1 := st_eq (w := w) (m := m) (W := W) i (a + n)
  have h2 := st_eq (w := w) (m := m) (W := W) i a
  have h3 := st_period hm hW hw hn a i hi
  rw [Nat.add_comm n a] at h3
  have hWp : 0 < W := by have := st_low hm hW hw 0 i hi; have h0 : -W < 0 := this; omega
  rw [h1, h2] at h3
  have e : ((a + n : Nat) : Int) * w i = a * w i + W * w i := by rw [Int.natCast_add, Int.add_mul, hn]
  rw [e] at h3
  have h4 : W * (cnt w m W i (a + n) : Int) = W * ((cnt w m W i a : Int) + w i) := by rw [Int.mul_add]; omega
  exact Int.eq_of_mul_eq_mul_left (by omega) h4
theorem cnt_mono (i k : Nat) : cnt w m W i k ≤ cnt w m W i (k + 1) := by rw [cnt]; omega
theorem bk_lt (hm : 0 < m) (k : Nat) : bk w m W k < m := am_lt m hm
end
end Sm
end Go.Proofs.Ytkebgkjopfdafaa
