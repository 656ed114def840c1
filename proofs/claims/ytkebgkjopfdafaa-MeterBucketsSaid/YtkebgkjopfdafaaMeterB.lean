/-
  The reference of the buckets and the rest of package meter's bucket functions: what each call returns, and what becomes of memory. Helper of the claims on layer 43.
-/
import Derived.Test.YtkebgkjopfdafaaMeter
namespace Go.Proofs.Ytkebgkjopfdafaa
open Go.ChangeShapes Go.WideShapes Go.ChangeAt Go.RowKit
set_option maxRecDepth 100000

def bval (r s lv t : Int) : Value := .agg #[.int .u64 r, .int .u64 s, .int .u64 lv, .int .u64 t]
theorem ret_bval {r s a b t u : Int} (h : a = b) (h' : t = u) : bval r s a t = bval r s b u := by rw [h, h']

set_option maxHeartbeats 1000000 in
theorem level_any (b : Nat) (r s lv t now : Int) (w : World) (h : Is w b 132 (buck r s lv t)) (r0 : 0 ≤ r) (r1 : r ≤ 2147483648) (s1 : s ≤ 2147483648) (l0 : 0 ≤ lv) (l1 : lv ≤ s) (t0 : 0 ≤ t) (n0 : 0 ≤ now) (n1 : now ≤ 18446744073709551615) :
    Calls Try.prog 27 #[.pointer (some ⟨b, 0, none⟩), .int .u64 now] w fun e w' => e = .returned (.int .u64 (fillL r s lv t now)) ∧ w.grownBy w' (some b) ∧ Is w' b 132 (buck r s (fillL r s lv t now) (fillT t now)) := by
  have hc := refill_any b r s lv t now w h r0 r1 (by omega) s1 l0 l1 t0 n0 n1
  generalize fillL r s lv t now = x at *
  generalize fillT t now = y at *
  have HC := hide hc
  clear hc h
  go_enter Try.func27, Try.ntmps27
  go_wp2_with fail
  refine (unhide HC).mono ?_
  rintro e w1 ⟨rfl, hg, hi⟩
  have c2 := hi.cell 2
  simp [buck] at c2
  have HG := Lib.hid hg
  have HI := Lib.hid hi
  clear hg hi HC
  go_wp2_with fail
  go_ret
  exact ⟨rfl, HG.out, HI.out⟩
theorem take_nil (n now : Int) (w : World) :
    Calls Try.prog 26 #[.pointer none, .int .u64 n, .int .u64 now] w fun e w' => e = .returned (.bool false) ∧ w = w' := by
  go_enter Try.func26, Try.ntmps26
  go_wp2
  go_ret
  exact ⟨rfl, rfl⟩
theorem level_nil (now : Int) (w : World) :
    Calls Try.prog 27 #[.pointer none, .int .u64 now] w fun e w' => e = .returned (.int .u64 0) ∧ w = w' := by
  go_enter Try.func27, Try.ntmps27
  go_wp2
  go_ret
  exact ⟨rfl, rfl⟩

set_option maxHeartbeats 1000000 in
theorem rfill_any (r s lv t now : Int) (w : World) (r0 : 0 ≤ r) (r1 : r ≤ 2147483648) (s0 : 0 ≤ s) (s1 : s ≤ 2147483648) (l0 : 0 ≤ lv) (l1 : lv ≤ s) (t0 : 0 ≤ t) (n0 : 0 ≤ now) (n1 : now ≤ 18446744073709551615) :
    Calls Try.prog 28 #[bval r s lv t, .int .u64 now] w fun e w' => e = .returned (bval r s (fillL r s lv t now) (fillT t now)) ∧ Below w.heap.size w w' := by
  unfold bval
  by_cases c : now ≤ t
  · obtain ⟨e1, e2⟩ := fill_no (r := r) (s := s) (lv := lv) c
    rw [e1, e2]
    clear e1 e2
    go_enter Try.func28, Try.ntmps28
    go_wp2
    exact bodyPost_ret (v := bval r s lv t) (by simp [results, Try.results28, go_sem, bval]) rfl ⟨rfl, ((Below.refl _ _).alloc (Nat.le_refl _) _).alloc (by simp) _⟩
  · by_cases d : now - t ≤ 2147483648
    · obtain ⟨m0, m1⟩ := mul_bd r0 r1 (show 0 ≤ now - t by omega) d
      rw [Int.mul_comm] at m0 m1
      by_cases e : lv + (now - t) * r ≤ s
      · obtain ⟨e1, e2⟩ := fill_yes (r := r) (s := s) (lv := lv) (x := lv + (now - t) * r) c (by rw [show min (now - t) 2147483648 = now - t from by omega, Int.mul_comm r]; omega)
        rw [e1, e2]
        clear e1 e2
        go_enter Try.func28, Try.ntmps28
        go_wp2
        exact bodyPost_ret (v := bval r s (lv + (now - t) * r) now) (by simp [results, Try.results28, go_sem, bval]) rfl ⟨rfl, ((Below.refl _ _).alloc (Nat.le_refl _) _).alloc (by simp) _⟩
      · obtain ⟨e1, e2⟩ := fill_yes (r := r) (s := s) (lv := lv) (x := s) c (by rw [show min (now - t) 2147483648 = now - t from by omega, Int.mul_comm r]; omega)
        rw [e1, e2]
        clear e1 e2
        go_enter Try.func28, Try.ntmps28
        go_wp2
        exact bodyPost_ret (v := bval r s (s) now) (by simp [results, Try.results28, go_sem, bval]) rfl ⟨rfl, ((Below.refl _ _).alloc (Nat.le_refl _) _).alloc (by simp) _⟩
    · obtain ⟨m0, m1⟩ := mul_bd r0 r1 (show (0 : Int) ≤ 2147483648 by omega) (Int.le_refl _)
      rw [Int.mul_comm] at m0 m1
      by_cases e : lv + 2147483648 * r ≤ s
      · obtain ⟨e1, e2⟩ := fill_yes (r := r) (s := s) (lv := lv) (x := lv + 2147483648 * r) c (by rw [show min (now - t) 2147483648 = 2147483648 from by omega, Int.mul_comm r]; omega)
        rw [e1, e2]
        clear e1 e2
        go_enter Try.func28, Try.ntmps28
        go_wp2
        exact bodyPost_ret (v := bval r s (lv + 2147483648 * r) now) (by simp [results, Try.results28, go_sem, bval]) rfl ⟨rfl, ((Below.refl _ _).alloc (Nat.le_refl _) _).alloc (by simp) _⟩
      · obtain ⟨e1, e2⟩ := fill_yes (r := r) (s := s) (lv := lv) (x := s) c (by rw [show min (now - t) 2147483648 = 2147483648 from by omega, Int.mul_comm r]; omega)
        rw [e1, e2]
        clear e1 e2
        go_enter Try.func28, Try.ntmps28
        go_wp2
        exact bodyPost_ret (v := bval r s (s) now) (by simp [results, Try.results28, go_sem, bval]) rfl ⟨rfl, ((Below.refl _ _).alloc (Nat.le_refl _) _).alloc (by simp) _⟩

set_option maxRecDepth 100000 in
set_option maxHeartbeats 2000000 in
theorem rtake_yes (r s lv t n now : Int) (w : World) (r0 : 0 ≤ r) (r1 : r ≤ 2147483648) (s0 : 0 ≤ s) (s1 : s ≤ 2147483648) (l0 : 0 ≤ lv) (l1 : lv ≤ s) (t0 : 0 ≤ t) (n0 : 0 ≤ now) (n1 : now ≤ 18446744073709551615) (m0 : 0 ≤ n) (hn : n ≤ fillL r s lv t now) :
    Calls Try.prog 29 #[bval r s lv t, .int .u64 n, .int .u64 now] w fun e w' => e = .returned (.tuple #[bval r s (fillL r s lv t now - n) (fillT t now), .bool true]) ∧ Below w.heap.size w w' := by
  unfold bval
  by_cases c : now ≤ t
  · obtain ⟨e1, e2⟩ := fill_no (r := r) (s := s) (lv := lv) c
    rw [e1] at hn
    rw [e1, e2]
    clear e1 e2
    go_enter Try.func29, Try.ntmps29
    go_wp2
    refine bodyPost_ret (v := .agg #[.int .u64 r, .int .u64 s, .int .u64 (lv), .int .u64 t]) (by simp [results, Try.results28, go_sem]) rfl ?_
    go_wp2
    refine bodyPost_ret (v := .tuple #[bval r s ((lv) - n) t, .bool true]) (by simp [results, Try.results29, go_sem, bval]) rfl ⟨rfl, ?_⟩
    have ob := Below.refl w.heap.size w
    repeat' first | with_reducible exact ob | with_reducible apply Below.setCell | with_reducible apply Below.alloc
    all_goals (simp <;> omega)
  · by_cases d : now - t ≤ 2147483648
    · obtain ⟨m0', m1'⟩ := mul_bd r0 r1 (show 0 ≤ now - t by omega) d
      rw [Int.mul_comm] at m0' m1'
      by_cases e : lv + (now - t) * r ≤ s
      · obtain ⟨e1, e2⟩ := fill_yes (r := r) (s := s) (lv := lv) (x := lv + (now - t) * r) c (by rw [show min (now - t) 2147483648 = now - t from by omega, Int.mul_comm r]; omega)
        rw [e1] at hn
        rw [e1, e2]
        clear e1 e2
        go_enter Try.func29, Try.ntmps29
        go_wp2
        refine bodyPost_ret (v := .agg #[.int .u64 r, .int .u64 s, .int .u64 (lv + (now - t) * r), .int .u64 now]) (by simp [results, Try.results28, go_sem]) rfl ?_
        go_wp2
        refine bodyPost_ret (v := .tuple #[bval r s ((lv + (now - t) * r) - n) now, .bool true]) (by simp [results, Try.results29, go_sem, bval]) rfl ⟨rfl, ?_⟩
        have ob := Below.refl w.heap.size w
        repeat' first | with_reducible exact ob | with_reducible apply Below.setCell | with_reducible apply Below.alloc
        all_goals (simp <;> omega)
      · obtain ⟨e1, e2⟩ := fill_yes (r := r) (s := s) (lv := lv) (x := s) c (by rw [show min (now - t) 2147483648 = now - t from by omega, Int.mul_comm r]; omega)
        rw [e1] at hn
        rw [e1, e2]
        clear e1 e2
        go_enter Try.func29, Try.ntmps29
        go_wp2
        refine bodyPost_ret (v := .agg #[.int .u64 r, .int .u64 s, .int .u64 (s), .int .u64 now]) (by simp [results, Try.results28, go_sem]) rfl ?_
        go_wp2
        refine bodyPost_ret (v := .tuple #[bval r s ((s) - n) now, .bool true]) (by simp [results, Try.results29, go_sem, bval]) rfl ⟨rfl, ?_⟩
        have ob := Below.refl w.heap.size w
        repeat' first | with_reducible exact ob | with_reducible apply Below.setCell | with_reducible apply Below.alloc
        all_goals (simp <;> omega)
    · obtain ⟨m0', m1'⟩ := mul_bd r0 r1 (show (0 : Int) ≤ 2147483648 by omega) (Int.le_refl _)
      rw [Int.mul_comm] at m0' m1'
      by_cases e : lv + 2147483648 * r ≤ s
      · obtain ⟨e1, e2⟩ := fill_yes (r := r) (s := s) (lv := lv) (x := lv + 2147483648 * r) c (by rw [show min (now - t) 2147483648 = 2147483648 from by omega, Int.mul_comm r]; omega)
        rw [e1] at hn
        rw [e1, e2]
        clear e1 e2
        go_enter Try.func29, Try.ntmps29
        go_wp2
        refine bodyPost_ret (v := .agg #[.int .u64 r, .int .u64 s, .int .u64 (lv + 2147483648 * r), .int .u64 now]) (by simp [results, Try.results28, go_sem]) rfl ?_
        go_wp2
        refine bodyPost_ret (v := .tuple #[bval r s ((lv + 2147483648 * r) - n) now, .bool true]) (by simp [results, Try.results29, go_sem, bval]) rfl ⟨rfl, ?_⟩
        have ob := Below.refl w.heap.size w
        repeat' first | with_reducible exact ob | with_reducible apply Below.setCell | with_reducible apply Below.alloc
        all_goals (simp <;> omega)
      · obtain ⟨e1, e2⟩ := fill_yes (r := r) (s := s) (lv := lv) (x := s) c (by rw [show min (now - t) 2147483648 = 2147483648 from by omega, Int.mul_comm r]; omega)
        rw [e1] at hn
        rw [e1, e2]
        clear e1 e2
        go_enter Try.func29, Try.ntmps29
        go_wp2
        refine bodyPost_ret (v := .agg #[.int .u64 r, .int .u64 s, .int .u64 (s), .int .u64 now]) (by simp [results, Try.results28, go_sem]) rfl ?_
        go_wp2
        refine bodyPost_ret (v := .tuple #[bval r s ((s) - n) now, .bool true]) (by simp [results, Try.results29, go_sem, bval]) rfl ⟨rfl, ?_⟩
        have ob := Below.refl w.heap.size w
        repeat' first | with_reducible exact ob | with_reducible apply Below.setCell | with_reducible apply Below.alloc
        all_goals (simp <;> omega)

set_option maxRecDepth 100000 in
set_option maxHeartbeats 2000000 in
theorem rtake_no (r s lv t n now : Int) (w : World) (r0 : 0 ≤ r) (r1 : r ≤ 2147483648) (s0 : 0 ≤ s) (s1 : s ≤ 2147483648) (l0 : 0 ≤ lv) (l1 : lv ≤ s) (t0 : 0 ≤ t) (n0 : 0 ≤ now) (n1 : now ≤ 18446744073709551615) (_m1 : n ≤ 18446744073709551615) (hn : fillL r s lv t now < n) :
    Calls Try.prog 29 #[bval r s lv t, .int .u64 n, .int .u64 now] w fun e w' => e = .returned (.tuple #[bval r s (fillL r s lv t now) (fillT t now), .bool false]) ∧ Below w.heap.size w w' := by
  unfold bval
  by_cases c : now ≤ t
  · obtain ⟨e1, e2⟩ := fill_no (r := r) (s := s) (lv := lv) c
    rw [e1] at hn
    rw [e1, e2]
    clear e1 e2
    go_enter Try.func29, Try.ntmps29
    go_wp2
    refine bodyPost_ret (v := .agg #[.int .u64 r, .int .u64 s, .int .u64 (lv), .int .u64 t]) (by simp [results, Try.results28, go_sem]) rfl ?_
    go_wp2
    refine bodyPost_ret (v := .tuple #[bval r s (lv) t, .bool false]) (by simp [results, Try.results29, go_sem, bval]) rfl ⟨rfl, ?_⟩
    have ob := Below.refl w.heap.size w
    repeat' first | with_reducible exact ob | with_reducible apply Below.setCell | with_reducible apply Below.alloc
    all_goals (simp <;> omega)
  · by_cases d : now - t ≤ 2147483648
    · obtain ⟨m0', m1'⟩ := mul_bd r0 r1 (show 0 ≤ now - t by omega) d
      rw [Int.mul_comm] at m0' m1'
      by_cases e : lv + (now - t) * r ≤ s
      · obtain ⟨e1, e2⟩ := fill_yes (r := r) (s := s) (lv := lv) (x := lv + (now - t) * r) c (by rw [show min (now - t) 2147483648 = now - t from by omega, Int.mul_comm r]; omega)
        rw [e1] at hn
        rw [e1, e2]
        clear e1 e2
        go_enter Try.func29, Try.ntmps29
        go_wp2
        refine bodyPost_ret (v := .agg #[.int .u64 r, .int .u64 s, .int .u64 (lv + (now - t) * r), .int .u64 now]) (by simp [results, Try.results28, go_sem]) rfl ?_
        go_wp2
        refine bodyPost_ret (v := .tuple #[bval r s (lv + (now - t) * r) now, .bool false]) (by simp [results, Try.results29, go_sem, bval]) rfl ⟨rfl, ?_⟩
        have ob := Below.refl w.heap.size w
        repeat' first | with_reducible exact ob | with_reducible apply Below.setCell | with_reducible apply Below.alloc
        all_goals (simp <;> omega)
      · obtain ⟨e1, e2⟩ := fill_yes (r := r) (s := s) (lv := lv) (x := s) c (by rw [show min (now - t) 2147483648 = now - t from by omega, Int.mul_comm r]; omega)
        rw [e1] at hn
        rw [e1, e2]
        clear e1 e2
        go_enter Try.func29, Try.ntmps29
        go_wp2
        refine bodyPost_ret (v := .agg #[.int .u64 r, .int .u64 s, .int .u64 (s), .int .u64 now]) (by simp [results, Try.results28, go_sem]) rfl ?_
        go_wp2
        refine bodyPost_ret (v := .tuple #[bval r s (s) now, .bool false]) (by simp [results, Try.results29, go_sem, bval]) rfl ⟨rfl, ?_⟩
        have ob := Below.refl w.heap.size w
        repeat' first | with_reducible exact ob | with_reducible apply Below.setCell | with_reducible apply Below.alloc
        all_goals (simp <;> omega)
    · obtain ⟨m0', m1'⟩ := mul_bd r0 r1 (show (0 : Int) ≤ 2147483648 by omega) (Int.le_refl _)
      rw [Int.mul_comm] at m0' m1'
      by_cases e : lv + 2147483648 * r ≤ s
      · obtain ⟨e1, e2⟩ := fill_yes (r := r) (s := s) (lv := lv) (x := lv + 2147483648 * r) c (by rw [show min (now - t) 2147483648 = 2147483648 from by omega, Int.mul_comm r]; omega)
        rw [e1] at hn
        rw [e1, e2]
        clear e1 e2
        go_enter Try.func29, Try.ntmps29
        go_wp2
        refine bodyPost_ret (v := .agg #[.int .u64 r, .int .u64 s, .int .u64 (lv + 2147483648 * r), .int .u64 now]) (by simp [results, Try.results28, go_sem]) rfl ?_
        go_wp2
        refine bodyPost_ret (v := .tuple #[bval r s (lv + 2147483648 * r) now, .bool false]) (by simp [results, Try.results29, go_sem, bval]) rfl ⟨rfl, ?_⟩
        have ob := Below.refl w.heap.size w
        repeat' first | with_reducible exact ob | with_reducible apply Below.setCell | with_reducible apply Below.alloc
        all_goals (simp <;> omega)
      · obtain ⟨e1, e2⟩ := fill_yes (r := r) (s := s) (lv := lv) (x := s) c (by rw [show min (now - t) 2147483648 = 2147483648 from by omega, Int.mul_comm r]; omega)
        rw [e1] at hn
        rw [e1, e2]
        clear e1 e2
        go_enter Try.func29, Try.ntmps29
        go_wp2
        refine bodyPost_ret (v := .agg #[.int .u64 r, .int .u64 s, .int .u64 (s), .int .u64 now]) (by simp [results, Try.results28, go_sem]) rfl ?_
        go_wp2
        refine bodyPost_ret (v := .tuple #[bval r s (s) now, .bool false]) (by simp [results, Try.results29, go_sem, bval]) rfl ⟨rfl, ?_⟩
        have ob := Below.refl w.heap.size w
        repeat' first | with_reducible exact ob | with_reducible apply Below.setCell | with_reducible apply Below.alloc
        all_goals (simp <;> omega)
end Go.Proofs.Ytkebgkjopfdafaa
