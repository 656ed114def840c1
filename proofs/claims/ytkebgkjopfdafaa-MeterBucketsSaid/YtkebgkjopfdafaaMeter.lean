/-
  The functions of package meter's buckets: what each call returns, and what becomes of memory. Helper of the claims on layer 43.
-/
import Derived.Test.YtkebgkjopfdafaaRows
import Derived.Test.YtkebgkjopfdafaaBase
import Derived.StillTailTactics
import Derived.BigQuiet
import Derived.Deep.QuietTactic
import Derived.Outline
namespace Go.Proofs.Ytkebgkjopfdafaa
open Go.ChangeShapes Go.WideShapes Go.ChangeAt Go.RowKit
set_option maxRecDepth 100000

theorem hide {p : Prop} (h : p) : Hid p := h
theorem unhide {p : Prop} (h : Hid p) : p := h
def buck (r s lv t : Int) : Array Value := #[.int .u64 r, .int .u64 s, .int .u64 lv, .int .u64 t]
/-- Behind a refill: the level and the time. -/
def fillL (r s lv t now : Int) : Int := if now ≤ t then lv else min (lv + r * min (now - t) 2147483648) s
def fillT (t now : Int) : Int := if now ≤ t then t else now
theorem fill_no {r s lv t now : Int} (h : now ≤ t) : fillL r s lv t now = lv ∧ fillT t now = t := by unfold fillL fillT; rw [if_pos h, if_pos h]; exact ⟨rfl, rfl⟩
theorem fill_yes {r s lv t now x : Int} (h : ¬ now ≤ t) (hx : x = min (lv + r * min (now - t) 2147483648) s) : fillL r s lv t now = x ∧ fillT t now = now := by unfold fillL fillT; rw [if_neg h, if_neg h, hx]; exact ⟨rfl, rfl⟩
theorem mul_bd {r m : Int} (h0 : 0 ≤ r) (h1 : r ≤ 2147483648) (h2 : 0 ≤ m) (h3 : m ≤ 2147483648) : 0 ≤ r * m ∧ r * m ≤ 4611686018427387904 :=
  ⟨Int.mul_nonneg h0 h2, by have := Int.mul_le_mul h1 h3 h2 (by omega : (0 : Int) ≤ 2147483648); omega⟩

set_option maxHeartbeats 1000000 in
theorem refill_any (b : Nat) (r s lv t now : Int) (w : World) (h : Is w b 132 (buck r s lv t)) (r0 : 0 ≤ r) (r1 : r ≤ 2147483648) (s0 : 0 ≤ s) (s1 : s ≤ 2147483648) (l0 : 0 ≤ lv) (l1 : lv ≤ s) (t0 : 0 ≤ t) (n0 : 0 ≤ now) (n1 : now ≤ 18446744073709551615) :
    Calls Try.prog 76 #[.pointer (some ⟨b, 0, none⟩), .int .u64 now] w fun e w' => e = .returned (.tuple #[]) ∧ w.grownBy w' (some b) ∧ Is w' b 132 (buck r s (fillL r s lv t now) (fillT t now)) := by
  have c0 := h.cell 0
  have c1 := h.cell 1
  have c2 := h.cell 2
  have c3 := h.cell 3
  have f2 := h.free 2
  have f3 := h.free 3
  simp [buck] at c0 c1 c2 c3
  have hl := h.lt
  have HH := Lib.hid h
  clear h
  by_cases c : now ≤ t
  · obtain ⟨e1, e2⟩ := fill_no (r := r) (s := s) (lv := lv) c
    rw [e1, e2]
    clear e1 e2
    go_enter Try.func76, Try.ntmps76
    go_wp2
    refine bodyPost_ret (results_none rfl _ _ _) rfl ?_
    exact ⟨rfl, only_refl _ _, HH.out⟩
  · by_cases d : now - t ≤ 2147483648
    · obtain ⟨m0, m1⟩ := mul_bd r0 r1 (show 0 ≤ now - t by omega) d
      have hw1 : IntKind.u64.wrap (r * (now - t)) = r * (now - t) := IntWalk.u64_in _ (by omega)
      have hw2 : IntKind.u64.wrap (lv + r * (now - t)) = lv + r * (now - t) := IntWalk.u64_in _ (by omega)
      by_cases e : lv + r * (now - t) ≤ s
      · obtain ⟨e1, e2⟩ := fill_yes (r := r) (s := s) (lv := lv) (x := lv + r * (now - t)) c (by rw [show min (now - t) 2147483648 = now - t from by omega]; omega)
        rw [e1, e2]
        clear e1 e2
        go_enter Try.func76, Try.ntmps76
        go_wp2
        go_still_tail 19, (by kernel_rfl)
        change wpList _ _ _ _ _ w.drew
        go_wp2
        go_end0
        refine ⟨rfl, only_drew (only_set (p := ⟨b, 3, none⟩) (only_set (p := ⟨b, 2, none⟩) (only_refl w (some b)) (.inl rfl) _) (.inl rfl) _), ?_⟩
        exact ((HH.out.put 2 (.int .u64 (lv + r * (now - t)))).put 3 (.int .u64 now)).drew
      · obtain ⟨e1, e2⟩ := fill_yes (r := r) (s := s) (lv := lv) (x := s) c (by rw [show min (now - t) 2147483648 = now - t from by omega]; omega)
        rw [e1, e2]
        clear e1 e2
        go_enter Try.func76, Try.ntmps76
        go_wp2
        go_still_tail 19, (by kernel_rfl)
        change wpList _ _ _ _ _ w.drew
        go_wp2
        go_end0
        refine ⟨rfl, only_drew (only_set (p := ⟨b, 3, none⟩) (only_set (p := ⟨b, 2, none⟩) (only_refl w (some b)) (.inl rfl) _) (.inl rfl) _), ?_⟩
        exact ((HH.out.put 2 (.int .u64 (s))).put 3 (.int .u64 now)).drew
    · obtain ⟨m0, m1⟩ := mul_bd r0 r1 (show (0 : Int) ≤ 2147483648 by omega) (Int.le_refl _)
      have hw1 : IntKind.u64.wrap (r * (2147483648)) = r * (2147483648) := IntWalk.u64_in _ (by omega)
      have hw2 : IntKind.u64.wrap (lv + r * (2147483648)) = lv + r * (2147483648) := IntWalk.u64_in _ (by omega)
      by_cases e : lv + r * (2147483648) ≤ s
      · obtain ⟨e1, e2⟩ := fill_yes (r := r) (s := s) (lv := lv) (x := lv + r * (2147483648)) c (by rw [show min (now - t) 2147483648 = 2147483648 from by omega]; omega)
        rw [e1, e2]
        clear e1 e2
        go_enter Try.func76, Try.ntmps76
        go_wp2
        go_still_tail 19, (by kernel_rfl)
        change wpList _ _ _ _ _ w.drew
        go_wp2
        go_end0
        refine ⟨rfl, only_drew (only_set (p := ⟨b, 3, none⟩) (only_set (p := ⟨b, 2, none⟩) (only_refl w (some b)) (.inl rfl) _) (.inl rfl) _), ?_⟩
        exact ((HH.out.put 2 (.int .u64 (lv + r * (2147483648)))).put 3 (.int .u64 now)).drew
      · obtain ⟨e1, e2⟩ := fill_yes (r := r) (s := s) (lv := lv) (x := s) c (by rw [show min (now - t) 2147483648 = 2147483648 from by omega]; omega)
        rw [e1, e2]
        clear e1 e2
        go_enter Try.func76, Try.ntmps76
        go_wp2
        go_still_tail 19, (by kernel_rfl)
        change wpList _ _ _ _ _ w.drew
        go_wp2
        go_end0
        refine ⟨rfl, only_drew (only_set (p := ⟨b, 3, none⟩) (only_set (p := ⟨b, 2, none⟩) (only_refl w (some b)) (.inl rfl) _) (.inl rfl) _), ?_⟩
        exact ((HH.out.put 2 (.int .u64 (s))).put 3 (.int .u64 now)).drew

theorem new_ok (r s : Int) (w : World) (r0 : 0 ≤ r) (r1 : r ≤ 2147483648) (s0 : 1 ≤ s) (s1 : s ≤ 2147483648) :
    Calls Try.prog 25 #[.int .u64 r, .int .u64 s] w fun e w' => e = .returned (.tuple #[.pointer (some ⟨w.heap.size, 0, none⟩), .int .i64 0]) ∧ w' = w.alloc (.cells (buck r s s 0) 132) := by
  go_enter Try.func25, Try.ntmps25
  go_wp2
  go_ret2
  exact ⟨rfl, rfl⟩
theorem new_no (r s : Int) (w : World) (r0 : 0 ≤ r) (r1 : r ≤ 18446744073709551615) (s0 : 0 ≤ s) (s1 : s ≤ 18446744073709551615) (h : 2147483648 < r ∨ s < 1 ∨ 2147483648 < s) :
    Calls Try.prog 25 #[.int .u64 r, .int .u64 s] w fun e w' => e = .returned (.tuple #[.pointer none, .int .i64 1]) ∧ w = w' := by
  by_cases h1 : 2147483648 < r
  · go_enter Try.func25, Try.ntmps25
    go_wp2
    go_ret2
    exact ⟨rfl, rfl⟩
  · by_cases h2 : s < 1
    · go_enter Try.func25, Try.ntmps25
      go_wp2
      go_ret2
      exact ⟨rfl, rfl⟩
    · have h3 : 2147483648 < s := by omega
      clear h
      go_enter Try.func25, Try.ntmps25
      go_wp2
      go_ret2
      exact ⟨rfl, rfl⟩
theorem fill_bd {r s lv t now : Int} (r0 : 0 ≤ r) (l0 : 0 ≤ lv) (l1 : lv ≤ s) : 0 ≤ fillL r s lv t now ∧ fillL r s lv t now ≤ s := by
  unfold fillL
  split
  · exact ⟨l0, l1⟩
  · have : 0 ≤ r * min (now - t) 2147483648 := Int.mul_nonneg r0 (by omega)
    omega

set_option maxHeartbeats 1000000 in
theorem take_yes (b : Nat) (r s lv t n now : Int) (w : World) (h : Is w b 132 (buck r s lv t)) (r0 : 0 ≤ r) (r1 : r ≤ 2147483648) (s1 : s ≤ 2147483648) (l0 : 0 ≤ lv) (l1 : lv ≤ s) (t0 : 0 ≤ t) (n0 : 0 ≤ now) (n1 : now ≤ 18446744073709551615)
    (m0 : 0 ≤ n) (hn : n ≤ fillL r s lv t now) :
    Calls Try.prog 26 #[.pointer (some ⟨b, 0, none⟩), .int .u64 n, .int .u64 now] w fun e w' => e = .returned (.bool true) ∧ w.grownBy w' (some b) ∧ Is w' b 132 (buck r s (fillL r s lv t now - n) (fillT t now)) := by
  obtain ⟨g0, g1⟩ := fill_bd (t := t) (now := now) r0 l0 l1
  have hc := refill_any b r s lv t now w h r0 r1 (by omega) s1 l0 l1 t0 n0 n1
  generalize fillL r s lv t now = x at *
  generalize fillT t now = y at *
  have HC := hide hc
  clear hc h
  go_enter Try.func26, Try.ntmps26
  go_wp2_with fail
  refine (unhide HC).mono ?_
  rintro e w1 ⟨rfl, hg, hi⟩
  have c2 := hi.cell 2
  have f2 := hi.free 2
  simp [buck] at c2
  have HG := Lib.hid hg
  have HI := Lib.hid hi
  clear hg hi HC
  go_wp2_with fail
  go_ret
  exact ⟨rfl, only_set HG.out (.inl rfl) _, HI.out.put 2 _⟩
set_option maxHeartbeats 1000000 in
theorem take_no (b : Nat) (r s lv t n now : Int) (w : World) (h : Is w b 132 (buck r s lv t)) (r0 : 0 ≤ r) (r1 : r ≤ 2147483648) (s1 : s ≤ 2147483648) (l0 : 0 ≤ lv) (l1 : lv ≤ s) (t0 : 0 ≤ t) (n0 : 0 ≤ now) (n1 : now ≤ 18446744073709551615)
    (_m1 : n ≤ 18446744073709551615) (hn : fillL r s lv t now < n) :
    Calls Try.prog 26 #[.pointer (some ⟨b, 0, none⟩), .int .u64 n, .int .u64 now] w fun e w' => e = .returned (.bool false) ∧ w.grownBy w' (some b) ∧ Is w' b 132 (buck r s (fillL r s lv t now) (fillT t now)) := by
  obtain ⟨g0, g1⟩ := fill_bd (t := t) (now := now) r0 l0 l1
  have hc := refill_any b r s lv t now w h r0 r1 (by omega) s1 l0 l1 t0 n0 n1
  generalize fillL r s lv t now = x at *
  generalize fillT t now = y at *
  have HC := hide hc
  clear hc h
  go_enter Try.func26, Try.ntmps26
  go_wp2_with fail
  refine (unhide HC).mono ?_
  rintro e w1 ⟨rfl, hg, hi⟩
  have c2 := hi.cell 2
  simp [buck] at c2
  have HG := Lib.hid hg
  have HI := Lib.hid hi
  clear hg hi HC
  go_wp2_with fail
  go_ret
  exact ⟨rfl, HG.out, HI.out⟩

set_option maxHeartbeats 1000000 in
theorem awake43 (w : World) : Calls Try.prog 24 #[] w fun e w' => e = .returned (.bool true) ∧ Below w.heap.size w w' := by
  have e1 : fillL 1 2 2 0 0 = 2 ∧ fillT 0 0 = 0 := by decide
  have e2 : fillL 1 2 0 0 0 = 0 ∧ fillT 0 0 = 0 := by decide
  have e3 : fillL 1 2 0 0 1 = 1 ∧ fillT 0 1 = 1 := by decide
  have E1 := Lib.hid e1; have E2 := Lib.hid e2; have E3 := Lib.hid e3
  clear e1 e2 e3
  go_enter Try.func24, Try.ntmps24
  go_wp2_with fail
  refine (new_ok 1 2 _ (by omega) (by omega) (by omega) (by omega)).mono ?_
  rintro e w1 ⟨rfl, rfl⟩
  go_wp2_with fail
  refine (take_yes w.heap.size 1 2 2 0 2 0 _ (Is.new _ _ _) (by omega) (by omega) (by omega) (by omega) (by omega) (by omega) (by omega) (by omega) (by omega) (by rw [E1.out.1]; omega)).mono ?_
  rintro e w2 ⟨rfl, hg, hi⟩
  rw [E1.out.1, E1.out.2] at hi
  have HB := Lib.hid (below_only ((Below.refl _ _).alloc (Nat.le_refl _) _) hg (Nat.le_refl _))
  have HI := Lib.hid hi
  clear hg hi
  go_wp2_with fail
  refine (take_no w.heap.size 1 2 (2 - 2) 0 1 0 _ HI.out (by omega) (by omega) (by omega) (by omega) (by omega) (by omega) (by omega) (by omega) (by omega) (by show fillL 1 2 0 0 0 < 1; rw [E2.out.1]; omega)).mono ?_
  rintro e w3 ⟨rfl, hg, hi⟩
  rw [show (2 - 2 : Int) = 0 from rfl, E2.out.1, E2.out.2] at hi
  have HB3 := Lib.hid (below_only HB.out hg (Nat.le_refl _))
  have HI3 := Lib.hid hi
  clear hg hi
  go_wp2_with fail
  refine (take_yes w.heap.size 1 2 0 0 1 1 _ HI3.out (by omega) (by omega) (by omega) (by omega) (by omega) (by omega) (by omega) (by omega) (by omega) (by rw [E3.out.1]; omega)).mono ?_
  rintro e w4 ⟨rfl, hg, hi⟩
  have HB4 := Lib.hid (below_only HB3.out hg (Nat.le_refl _))
  clear hg hi
  go_wp2_with fail
  go_ret
  exact ⟨rfl, HB4.out⟩

structure MAct where
  kind : Int
  n : Int
  now : Int
instance : Inhabited MAct := ⟨⟨0, 0, 0⟩⟩
def MAct.cell (c : MAct) : Nat → Value
  | 0 => .int .i64 c.kind
  | 1 => .int .u64 c.n
  | _ => .int .u64 c.now
def mat (l : List MAct) (k : Nat) : MAct := l.getD k default
def MActs (w : World) (A : Option Addr) (l : List MAct) : Prop := Arr w w.heap.size 3 A l.length fun i j => (mat l i).cell j
section
variable {H : Type} {enc : TypeId × Value → H} {held : Bool} {spare : Nat → Bool}
theorem open_acts {w : World} {A : Option Addr} {n c : Nat} {d : DataW H} {p : List MemPlace} (h : DataW.Trod enc Try.prog w 0 spare held 44 (.slice A n c) d p) :
    ∃ l : List MAct, l.length = n ∧ n ≤ maxLen ∧ MActs w A l ∧ ∀ k, 0 ≤ (mat l k).n ∧ (mat l k).n ≤ 18446744073709551615 ∧ 0 ≤ (mat l k).now ∧ (mat l k).now ≤ 18446744073709551615 := by
  obtain ⟨hnc, hcm, hr⟩ := open_els (e := 54) (sz := 3) Try.underlying44 (by kernel_rfl) (by omega) h
  by_cases hn : n = 0
  · subst hn; exact ⟨[], rfl, by omega, fun h => absurd h (by simp), fun k => by simp [mat, default]⟩
  obtain ⟨b, off, rfl, hb, hi⟩ := hr (by omega)
  have key : ∀ i, i < n → ∃ x : MAct, (∀ j, j < 3 → w.cell? ⟨b, off + i * 3 + j, none⟩ = some (x.cell j)) ∧ 0 ≤ x.n ∧ x.n ≤ 18446744073709551615 ∧ 0 ≤ x.now ∧ x.now ≤ 18446744073709551615 := by
    intro i hin
    obtain ⟨cs, m, y, hl, hc, ht⟩ := hi i hin
    obtain ⟨xs, k, _, _, _, hxl, hf⟩ := DataW.trod_struct Try.underlying54 ht
    have f0 := hf 0 _ rfl
    have f1 := hf 1 _ rfl
    have f2 := hf 2 _ rfl
    match cs, hl with
    | [a0, a1, a2], _ =>
      match xs, hxl with
      | [x0, x1, x2], _ =>
        obtain ⟨n0, e0, _, _⟩ := DataW.trod_int Try.underlying3 f0
        obtain ⟨n1, e1, _, w1⟩ := DataW.trod_int Try.underlying43 f1
        obtain ⟨n2, e2, _, w2⟩ := DataW.trod_int Try.underlying43 f2
        have g0 : [a0] = [Value.int .i64 n0] := e0
        have g1 : [a1] = [Value.int .u64 n1] := e1
        have g2 : [a2] = [Value.int .u64 n2] := e2
        injection g0 with g0; injection g1 with g1; injection g2 with g2
        subst g0 g1 g2
        refine ⟨⟨n0, n1, n2⟩, fun j hj => ?_, (bounds_u64 w1).1, (bounds_u64 w1).2, (bounds_u64 w2).1, (bounds_u64 w2).2⟩
        rw [hc j hj]
        match j, hj with
        | 0, _ => rfl
        | 1, _ => rfl
        | 2, _ => rfl
  obtain ⟨l, hl, hp⟩ := list_of n key
  refine ⟨l, hl, by omega, fun _ => ⟨b, off, rfl, hb, fun i j hi hj => (hp i (mat l i) (by simp [mat, List.getD, hi])).1 j hj⟩, fun k => ?_⟩
  by_cases hk : k < l.length
  · exact (hp k (mat l k) (by simp [mat, List.getD, hk])).2
  · have : mat l k = default := by simp [mat, List.getD, List.getElem?_eq_none (Nat.le_of_not_lt hk)]
    rw [this]; decide
end
end Go.Proofs.Ytkebgkjopfdafaa
