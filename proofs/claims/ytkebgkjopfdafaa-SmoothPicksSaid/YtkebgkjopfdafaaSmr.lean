/-
  Pick of the reference of layer 19. Helper of the claim SmoothPicks. No condition.
-/
import Derived.Test.YtkebgkjopfdafaaSm11
import Derived.BigRegion
namespace Go.Proofs.Ytkebgkjopfdafaa
open Go.ChangeShapes Go.WideShapes Go.ChangeAt Go.RowKit
set_option linter.unusedSimpArgs false
set_option linter.unusedVariables false
set_option maxRecDepth 100000
/-- The shares of the reference, with what each is owed. -/
def rsc (kl : List Cand) (c : Nat → Int) (n : Nat) : List Value := (List.range n).flatMap fun i => [.int .i64 (nth kl i).slot, .int .i64 (nth kl i).backend, .int .i64 (nth kl i).weight, .int .u32 (nth kl i).load, .int .i64 (c i)]
theorem rsc_get {kl : List Cand} {c : Nat → Int} {n i j : Nat} (hi : i < n) (hj : j < 5) : (rsc kl c n)[i * 5 + j]? = [Value.int .i64 (nth kl i).slot, .int .i64 (nth kl i).backend, .int .i64 (nth kl i).weight, .int .u32 (nth kl i).load, .int .i64 (c i)][j]? :=
  flat_get (fun i => [Value.int .i64 (nth kl i).slot, .int .i64 (nth kl i).backend, .int .i64 (nth kl i).weight, .int .u32 (nth kl i).load, .int .i64 (c i)]) 5 (fun _ => rfl) (List.range n) i j i (by simp [hi]) hj
theorem rsc_snoc (kl : List Cand) (c : Nat → Int) (n : Nat) : rsc kl c n ++ [.int .i64 (nth kl n).slot, .int .i64 (nth kl n).backend, .int .i64 (nth kl n).weight, .int .u32 (nth kl n).load, .int .i64 (c n)] = rsc kl c (n + 1) := by simp [rsc, List.range_succ]
theorem rsc_len (kl : List Cand) (c : Nat → Int) (n : Nat) : (rsc kl c n).length = n * 5 := by
  induction n with
  | zero => rfl
  | succ n ih => rw [← rsc_snoc, List.length_append, ih]; simp; omega
theorem rsc_congr {kl pl : List Cand} {c d : Nat → Int} : ∀ n, (∀ i, i < n → nth kl i = nth pl i ∧ c i = d i) → rsc kl c n = rsc pl d n
  | 0, _ => rfl
  | n + 1, h => by rw [← rsc_snoc, ← rsc_snoc, rsc_congr n (fun i hi => h i (by omega)), (h n (by omega)).1, (h n (by omega)).2]
theorem rsc_app (kk : List Cand) (x : Cand) : rsc kk (fun _ => 0) kk.length ++ [.int .i64 x.slot, .int .i64 x.backend, .int .i64 x.weight, .int .u32 x.load, .int .i64 0] = rsc (kk ++ [x]) (fun _ => 0) (kk.length + 1) := by
  rw [← rsc_snoc, nth_last, rsc_congr (kl := kk) (pl := kk ++ [x]) (c := fun _ => 0) (d := fun _ => 0) kk.length (fun i hi => ⟨(nth_left hi).symm, rfl⟩)]
theorem rsc_set (kl : List Cand) (c : Nat → Int) (x : Int) (k : Nat) : ∀ n, k < n → (rsc kl c n).set (k * 5 + 4) (.int .i64 x) = rsc kl (fun i => if i = k then x else c i) n
  | 0, h => by omega
  | n + 1, h => by
    rw [← rsc_snoc, ← rsc_snoc]
    by_cases hk : k < n
    · rw [List.set_append_left _ _ (by rw [rsc_len]; omega), rsc_set kl c x k n hk, if_neg (by omega)]
    · obtain rfl : k = n := by omega
      rw [List.set_append_right _ _ (by rw [rsc_len]; omega), rsc_len, show k * 5 + 4 - k * 5 = 4 from by omega, if_pos rfl]
      rw [rsc_congr (kl := kl) (pl := kl) (c := c) (d := fun i => if i = k then x else c i) k (fun i hi => ⟨rfl, by rw [if_neg (by omega)]⟩)]
      rfl
/-- The cells of shares of the reference at g. -/
def RsCells (w : World) (g n : Nat) (pl : List Cand) (cr : Nat → Int) : Prop := g < w.heap.size ∧ ∀ k, k < n → w.cell? ⟨g, k * 5, none⟩ = some (.int .i64 (nth pl k).slot) ∧ w.cell? ⟨g, k * 5 + 1, none⟩ = some (.int .i64 (nth pl k).backend) ∧ w.cell? ⟨g, k * 5 + 2, none⟩ = some (.int .i64 (nth pl k).weight) ∧ w.cell? ⟨g, k * 5 + 3, none⟩ = some (.int .u32 (nth pl k).load) ∧ w.cell? ⟨g, k * 5 + 4, none⟩ = some (.int .i64 (cr k))
def RsIn (w : World) (A : Option Addr) (n : Nat) (pl : List Cand) (cr : Nat → Int) : Prop := 0 < n → ∃ g, A = some ⟨g, 0, none⟩ ∧ RsCells w g n pl cr
theorem own_rs {w : World} {base m c : Nat} {A : Option Addr} {kl : List Cand} {cr : Nat → Int} (h : w.ownsRow base 70 5 (.slice A m c) m (rsc kl cr m)) : RsIn w A m kl cr := fun h0 => by
  obtain ⟨hl, h2⟩ := h
  rcases h2 with ⟨_, h00⟩ | ⟨g, cap, cur, hv, hg, hh, hnc, hm, hs, ht⟩
  · omega
  · injection hv with e1 e2 e3
    refine ⟨g, e1, Is.lt hh, fun k hk => ?_⟩
    have key : ∀ j, j < 5 → w.cell? ⟨g, k * 5 + j, none⟩ = (rsc kl cr m)[k * 5 + j]? := fun j hj => by
      rw [Is.cell hh, ← ht, List.getElem?_take, if_pos (by omega)]; simp
    refine ⟨?_, ?_, ?_, ?_, ?_⟩
    · have := key 0 (by omega); rw [rsc_get hk (by omega)] at this; exact this
    · have := key 1 (by omega); rw [rsc_get hk (by omega)] at this; exact this
    · have := key 2 (by omega); rw [rsc_get hk (by omega)] at this; exact this
    · have := key 3 (by omega); rw [rsc_get hk (by omega)] at this; exact this
    · have := key 4 (by omega); rw [rsc_get hk (by omega)] at this; exact this
theorem own_rsg {w : World} {base m c g : Nat} {kl : List Cand} {cr : Nat → Int} (h : w.ownsRow base 70 5 (.slice (some ⟨g, 0, none⟩) m c) m (rsc kl cr m)) (h0 : 0 < m) : RsCells w g m kl cr := by
  obtain ⟨g', e, h1⟩ := own_rs h h0
  injection e with e; injection e with e _ _; subst e
  exact h1
theorem RsIn.below {w w' : World} {A : Option Addr} {n : Nat} {pl : List Cand} {cr : Nat → Int} (h : RsIn w A n pl cr) (hb : Below w.heap.size w w') : RsIn w' A n pl cr := fun h0 => by
  obtain ⟨g, e, hg, hc⟩ := h h0
  refine ⟨g, e, Nat.lt_of_lt_of_le hg hb.size, fun k hk => ?_⟩
  obtain ⟨c0, c1, c2, c3, c4⟩ := hc k hk
  exact ⟨(hb.cell (p := ⟨g, _, none⟩) hg).trans c0, (hb.cell (p := ⟨g, _, none⟩) hg).trans c1, (hb.cell (p := ⟨g, _, none⟩) hg).trans c2, (hb.cell (p := ⟨g, _, none⟩) hg).trans c3, (hb.cell (p := ⟨g, _, none⟩) hg).trans c4⟩
theorem info_rs : (Try.prog.info? 70).map (fun i => (i.zero, i.size, i.bytes)) = some (some (.agg #[.int .i64 0, .int .i64 0, .int .i64 0, .int .u32 0, .int .i64 0]), 5, 40) := by kernel_rfl
def SmQ (n0 n : Nat) (kk pl : List Cand) : Prop := ∀ j, j < n0 → j < n ∧ (nth pl j).backend = (nth kk j).backend ∧ (nth pl j).weight = (nth kk j).weight
theorem SmQ.snoc {kk pl : List Cand} {x : Cand} {n : Nat} : SmQ (kk.length + 1) n (kk ++ [x]) pl ↔ SmQ kk.length n kk pl ∧ kk.length < n ∧ (nth pl kk.length).backend = x.backend ∧ (nth pl kk.length).weight = x.weight := by
  constructor
  · intro h
    refine ⟨fun j hj => ?_, ?_⟩
    · have := h j (by omega); rw [nth_left hj] at this; exact this
    · have := h kk.length (by omega); rw [nth_last] at this; exact this
  · rintro ⟨h1, h2⟩ j hj
    rcases Nat.lt_or_ge j kk.length with h | h
    · rw [nth_left h]; exact h1 j h
    · obtain rfl : j = kk.length := by omega
      rw [nth_last]; exact h2
def RpA (w : World) (l : List Cand) (n : Nat) (pl : List Cand) (v6 v7 v8 i : Value) (wr : World) : Prop :=
  ∃ (k n0 : Nat) (bs : Bool), k ≤ l.length ∧ i = .int .i64 (k : Int) ∧ (kp l k).length = n0 ∧ n0 ≤ k ∧ wr.ownsRow w.heap.size 70 5 v6 n0 (rsc (kp l k) (fun _ => 0) n0) ∧ v7 = .bool bs ∧ (bs = true ↔ SmQ n0 n (kp l k) pl) ∧ v8 = .int .i64 (Sm.S (wof (kp l k)) n0) ∧ (∀ j, j < n0 → 0 < wof (kp l k) j ∧ wof (kp l k) j ≤ 100) ∧ Below w.heap.size w wr
theorem wof_snoc {kk : List Cand} {x : Cand} : Sm.S (wof (kk ++ [x])) (kk.length + 1) = Sm.S (wof kk) kk.length + x.weight := by
  show Sm.S (wof (kk ++ [x])) kk.length + wof (kk ++ [x]) kk.length = _
  rw [show wof (kk ++ [x]) kk.length = x.weight from by unfold wof; rw [nth_last], Sm.S_congr (f := wof (kk ++ [x])) (g := wof kk) kk.length (fun i hi => by unfold wof; rw [nth_left hi])]
def bumpz (c w : Nat → Int) (k i : Nat) : Int := if i < k then Sm.bump c w i else 0
theorem bumpz_set0 {kl : List Cand} {c w : Nat → Int} {k n : Nat} (x : Int) (h : k < n) (hx : Sm.bump c w k = x) : (rsc kl (bumpz c w k) n).set (k * 5 + 4) (.int .i64 x) = rsc kl (bumpz c w (k + 1)) n := by
  rw [rsc_set kl _ _ k n h]
  refine rsc_congr n fun i _ => ⟨rfl, ?_⟩
  unfold bumpz
  by_cases h1 : i = k
  · subst h1; rw [if_pos rfl, if_pos (by omega), hx]
  · rw [if_neg h1]
    by_cases h2 : i < k
    · rw [if_pos h2, if_pos (by omega)]
    · rw [if_neg h2, if_neg (by omega)]
def bumpy (c w : Nat → Int) (k i : Nat) : Int := if i = k then c k else bumpz c w k i
theorem bumpy_set {kl : List Cand} {c w : Nat → Int} {k n : Nat} (h : k < n) : (rsc kl (bumpz c w k) n).set (k * 5 + 4) (.int .i64 (c k)) = rsc kl (bumpy c w k) n := rsc_set kl _ _ k n h
theorem bumpz_set {kl : List Cand} {c w : Nat → Int} {k n : Nat} (h : k < n) : (rsc kl (bumpy c w k) n).set (k * 5 + 4) (.int .i64 (Sm.bump c w k)) = rsc kl (bumpz c w (k + 1)) n := by
  rw [rsc_set kl _ _ k n h]
  refine rsc_congr n fun i _ => ⟨rfl, ?_⟩
  unfold bumpy bumpz
  by_cases h1 : i = k
  · subst h1; rw [if_pos rfl, if_pos (by omega)]
  · rw [if_neg h1, if_neg h1]
    by_cases h2 : i < k
    · rw [if_pos h2, if_pos (by omega)]
    · rw [if_neg h2, if_neg (by omega)]
theorem stepz_set {kl : List Cand} {c w : Nat → Int} {n : Nat} (W : Int) (h : 0 < n) : (rsc kl (bumpz c w n) n).set (Sm.am (Sm.bump c w) n * 5 + 4) (.int .i64 (Sm.bump c w (Sm.am (Sm.bump c w) n) - W)) = rsc kl (Sm.step w n W c) n := by
  rw [rsc_set kl _ _ _ n (Sm.am_lt n h)]
  refine rsc_congr n fun i hi => ⟨rfl, ?_⟩
  unfold bumpz Sm.step
  by_cases h1 : i = Sm.am (Sm.bump c w) n
  · rw [if_pos h1, if_pos h1, ← h1]
  · rw [if_neg h1, if_neg h1, if_pos hi]
def RpB (w : World) (g cap m : Nat) (kl : List Cand) (cr wt : Nat → Int) (v11 v12 : Value) (wr : World) : Prop :=
  ∃ k : Nat, k ≤ m ∧ v12 = .int .i64 (k : Int) ∧ v11 = .int .i64 ((Sm.am (Sm.bump cr wt) k : Nat) : Int) ∧ wr.ownsRow w.heap.size 70 5 (.slice (some ⟨g, 0, none⟩) m cap) m (rsc kl (bumpz cr wt k) m) ∧ Below w.heap.size w wr
end Go.Proofs.Ytkebgkjopfdafaa
