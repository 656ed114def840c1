import Derived.Test.YtppafabmmcdlfaaVarNum
namespace Go.Proofs.Ytppafabmmcdlfaa.varnum
open Go.ChangeShapes Go.WideShapes Go.ChangeAt Go.RowKit

/-- Expand's answer, where it has one. -/
def expOf (x t win : Int) : Int := if x - x % win + t + win / 2 ≤ x ∧ x - x % win + t < 4611686018427387904 - win then x - x % win + t + win else if x + win / 2 < x - x % win + t ∧ win ≤ x - x % win + t then x - x % win + t - win else x - x % win + t
def IsSize (s win : Int) : Prop := (s = 1 ∧ win = 256) ∨ (s = 2 ∧ win = 65536) ∨ (s = 3 ∧ win = 16777216) ∨ (s = 4 ∧ win = 4294967296)
theorem exp_up (x t win : Int) (h : x - x % win + t + win / 2 ≤ x) (h' : x - x % win + t < 4611686018427387904 - win) : x - x % win + t + win = expOf x t win := by
  unfold expOf; rw [if_pos ⟨h, h'⟩]
theorem exp_down (x t win : Int) (g : ¬ (x - x % win + t + win / 2 ≤ x ∧ x - x % win + t < 4611686018427387904 - win)) (h : x + win / 2 < x - x % win + t) (h' : win ≤ x - x % win + t) : x - x % win + t - win = expOf x t win := by
  unfold expOf; rw [if_neg g, if_pos ⟨h, h'⟩]
theorem exp_same (x t win : Int) (g : ¬ (x - x % win + t + win / 2 ≤ x ∧ x - x % win + t < 4611686018427387904 - win)) (h : ¬ (x + win / 2 < x - x % win + t ∧ win ≤ x - x % win + t)) : x - x % win + t = expOf x t win := by
  unfold expOf; rw [if_neg g, if_neg h]
theorem ret_exp {a b : Int} (h : a = b) : Ending.returned (.tuple #[.int .u64 a, .int .i64 0]) = .returned (.tuple #[.int .u64 b, .int .i64 0]) := by rw [h]

set_option maxHeartbeats 4000000 in
theorem expand_ok (x t s win : Int) (w : World) (hs : IsSize s win) (h0 : 0 ≤ x) (h1 : x < 4611686018427387904) (h2 : 0 ≤ t) (h3 : t < win) :
    Calls Try.prog 29 #[.int .u64 x, .int .u64 t, .int .i64 s] w fun e w' => e = .returned (.tuple #[.int .u64 (expOf x t win), .int .i64 0]) ∧ w = w' := by
  rcases hs with ⟨rfl, rfl⟩ | ⟨rfl, rfl⟩ | ⟨rfl, rfl⟩ | ⟨rfl, rfl⟩
  · by_cases c1 : x - x % 256 + t + 128 ≤ x
    · by_cases c2 : x - x % 256 + t < 4611686018427387648
      · go_enter Try.func29, Try.ntmps29
        go_wp2
        go_ret2
        exact ⟨ret_exp (exp_up x t 256 (by omega) (by omega)), rfl⟩
      · go_enter Try.func29, Try.ntmps29
        go_wp2
        go_ret2
        exact ⟨ret_exp (exp_same x t 256 (by omega) (by omega)), rfl⟩
    · by_cases c3 : x + 128 < x - x % 256 + t
      · by_cases c4 : 256 ≤ x - x % 256 + t
        · go_enter Try.func29, Try.ntmps29
          go_wp2
          go_ret2
          exact ⟨ret_exp (exp_down x t 256 (by omega) (by omega) (by omega)), rfl⟩
        · go_enter Try.func29, Try.ntmps29
          go_wp2
          go_ret2
          exact ⟨ret_exp (exp_same x t 256 (by omega) (by omega)), rfl⟩
      · go_enter Try.func29, Try.ntmps29
        go_wp2
        go_ret2
        exact ⟨ret_exp (exp_same x t 256 (by omega) (by omega)), rfl⟩
  · by_cases c1 : x - x % 65536 + t + 32768 ≤ x
    · by_cases c2 : x - x % 65536 + t < 4611686018427322368
      · go_enter Try.func29, Try.ntmps29
        go_wp2
        go_ret2
        exact ⟨ret_exp (exp_up x t 65536 (by omega) (by omega)), rfl⟩
      · go_enter Try.func29, Try.ntmps29
        go_wp2
        go_ret2
        exact ⟨ret_exp (exp_same x t 65536 (by omega) (by omega)), rfl⟩
    · by_cases c3 : x + 32768 < x - x % 65536 + t
      · by_cases c4 : 65536 ≤ x - x % 65536 + t
        · go_enter Try.func29, Try.ntmps29
          go_wp2
          go_ret2
          exact ⟨ret_exp (exp_down x t 65536 (by omega) (by omega) (by omega)), rfl⟩
        · go_enter Try.func29, Try.ntmps29
          go_wp2
          go_ret2
          exact ⟨ret_exp (exp_same x t 65536 (by omega) (by omega)), rfl⟩
      · go_enter Try.func29, Try.ntmps29
        go_wp2
        go_ret2
        exact ⟨ret_exp (exp_same x t 65536 (by omega) (by omega)), rfl⟩
  · by_cases c1 : x - x % 16777216 + t + 8388608 ≤ x
    · by_cases c2 : x - x % 16777216 + t < 4611686018410610688
      · go_enter Try.func29, Try.ntmps29
        go_wp2
        go_ret2
        exact ⟨ret_exp (exp_up x t 16777216 (by omega) (by omega)), rfl⟩
      · go_enter Try.func29, Try.ntmps29
        go_wp2
        go_ret2
        exact ⟨ret_exp (exp_same x t 16777216 (by omega) (by omega)), rfl⟩
    · by_cases c3 : x + 8388608 < x - x % 16777216 + t
      · by_cases c4 : 16777216 ≤ x - x % 16777216 + t
        · go_enter Try.func29, Try.ntmps29
          go_wp2
          go_ret2
          exact ⟨ret_exp (exp_down x t 16777216 (by omega) (by omega) (by omega)), rfl⟩
        · go_enter Try.func29, Try.ntmps29
          go_wp2
          go_ret2
          exact ⟨ret_exp (exp_same x t 16777216 (by omega) (by omega)), rfl⟩
      · go_enter Try.func29, Try.ntmps29
        go_wp2
        go_ret2
        exact ⟨ret_exp (exp_same x t 16777216 (by omega) (by omega)), rfl⟩
  · by_cases c1 : x - x % 4294967296 + t + 2147483648 ≤ x
    · by_cases c2 : x - x % 4294967296 + t < 4611686014132420608
      · go_enter Try.func29, Try.ntmps29
        go_wp2
        go_ret2
        exact ⟨ret_exp (exp_up x t 4294967296 (by omega) (by omega)), rfl⟩
      · go_enter Try.func29, Try.ntmps29
        go_wp2
        go_ret2
        exact ⟨ret_exp (exp_same x t 4294967296 (by omega) (by omega)), rfl⟩
    · by_cases c3 : x + 2147483648 < x - x % 4294967296 + t
      · by_cases c4 : 4294967296 ≤ x - x % 4294967296 + t
        · go_enter Try.func29, Try.ntmps29
          go_wp2
          go_ret2
          exact ⟨ret_exp (exp_down x t 4294967296 (by omega) (by omega) (by omega)), rfl⟩
        · go_enter Try.func29, Try.ntmps29
          go_wp2
          go_ret2
          exact ⟨ret_exp (exp_same x t 4294967296 (by omega) (by omega)), rfl⟩
      · go_enter Try.func29, Try.ntmps29
        go_wp2
        go_ret2
        exact ⟨ret_exp (exp_same x t 4294967296 (by omega) (by omega)), rfl⟩

theorem pw_pow (k : Nat) : pw k = 2 ^ k := by induction k with | zero => rfl | succ k ih => simp [pw, ih, Int.pow_succ]
theorem power_p (n : Int) (w : World) (h0 : 0 ≤ n) (h1 : n ≤ 63) :
    Calls Try.prog 38 #[.int .i64 n] w fun e w' => e = .returned (.int .u64 (2 ^ n.toNat)) ∧ w = w' := by
  rw [← pw_pow]; exact power_any n w h0 h1
set_option maxHeartbeats 4000000 in
theorem rexpand_ok (x t s win : Int) (w : World) (hs : IsSize s win) (h0 : 0 ≤ x) (h1 : x < 4611686018427387904) (h2 : 0 ≤ t) (h3 : t < win) :
    Calls Try.prog 31 #[.int .u64 x, .int .u64 t, .int .i64 s] w fun e w' => e = .returned (.int .u64 (expOf x t win)) ∧ w = w' := by
  rcases hs with ⟨rfl, rfl⟩ | ⟨rfl, rfl⟩ | ⟨rfl, rfl⟩ | ⟨rfl, rfl⟩
  · by_cases c1 : x - x % 256 + t + 128 ≤ x
    · by_cases c2 : x - x % 256 + t < 4611686018427387648
      · go_enter Try.func31, Try.ntmps31
        go_wp2_with (go_at_call 38; refine (power_p _ _ (by omega) (by omega)).mono ?_; rintro e w' ⟨rfl, rfl⟩)
        go_ret
        exact ⟨ret_int (exp_up x t 256 (by omega) (by omega)), rfl⟩
      · go_enter Try.func31, Try.ntmps31
        go_wp2_with (go_at_call 38; refine (power_p _ _ (by omega) (by omega)).mono ?_; rintro e w' ⟨rfl, rfl⟩)
        go_ret
        exact ⟨ret_int (exp_same x t 256 (by omega) (by omega)), rfl⟩
    · by_cases c3 : x + 128 < x - x % 256 + t
      · by_cases c4 : 256 ≤ x - x % 256 + t
        · go_enter Try.func31, Try.ntmps31
          go_wp2_with (go_at_call 38; refine (power_p _ _ (by omega) (by omega)).mono ?_; rintro e w' ⟨rfl, rfl⟩)
          go_ret
          exact ⟨ret_int (exp_down x t 256 (by omega) (by omega) (by omega)), rfl⟩
        · go_enter Try.func31, Try.ntmps31
          go_wp2_with (go_at_call 38; refine (power_p _ _ (by omega) (by omega)).mono ?_; rintro e w' ⟨rfl, rfl⟩)
          go_ret
          exact ⟨ret_int (exp_same x t 256 (by omega) (by omega)), rfl⟩
      · go_enter Try.func31, Try.ntmps31
        go_wp2_with (go_at_call 38; refine (power_p _ _ (by omega) (by omega)).mono ?_; rintro e w' ⟨rfl, rfl⟩)
        go_ret
        exact ⟨ret_int (exp_same x t 256 (by omega) (by omega)), rfl⟩
  · by_cases c1 : x - x % 65536 + t + 32768 ≤ x
    · by_cases c2 : x - x % 65536 + t < 4611686018427322368
      · go_enter Try.func31, Try.ntmps31
        go_wp2_with (go_at_call 38; refine (power_p _ _ (by omega) (by omega)).mono ?_; rintro e w' ⟨rfl, rfl⟩)
        go_ret
        exact ⟨ret_int (exp_up x t 65536 (by omega) (by omega)), rfl⟩
      · go_enter Try.func31, Try.ntmps31
        go_wp2_with (go_at_call 38; refine (power_p _ _ (by omega) (by omega)).mono ?_; rintro e w' ⟨rfl, rfl⟩)
        go_ret
        exact ⟨ret_int (exp_same x t 65536 (by omega) (by omega)), rfl⟩
    · by_cases c3 : x + 32768 < x - x % 65536 + t
      · by_cases c4 : 65536 ≤ x - x % 65536 + t
        · go_enter Try.func31, Try.ntmps31
          go_wp2_with (go_at_call 38; refine (power_p _ _ (by omega) (by omega)).mono ?_; rintro e w' ⟨rfl, rfl⟩)
          go_ret
          exact ⟨ret_int (exp_down x t 65536 (by omega) (by omega) (by omega)), rfl⟩
        · go_enter Try.func31, Try.ntmps31
          go_wp2_with (go_at_call 38; refine (power_p _ _ (by omega) (by omega)).mono ?_; rintro e w' ⟨rfl, rfl⟩)
          go_ret
          exact ⟨ret_int (exp_same x t 65536 (by omega) (by omega)), rfl⟩
      · go_enter Try.func31, Try.ntmps31
        go_wp2_with (go_at_call 38; refine (power_p _ _ (by omega) (by omega)).mono ?_; rintro e w' ⟨rfl, rfl⟩)
        go_ret
        exact ⟨ret_int (exp_same x t 65536 (by omega) (by omega)), rfl⟩
  · by_cases c1 : x - x % 16777216 + t + 8388608 ≤ x
    · by_cases c2 : x - x % 16777216 + t < 4611686018410610688
      · go_enter Try.func31, Try.ntmps31
        go_wp2_with (go_at_call 38; refine (power_p _ _ (by omega) (by omega)).mono ?_; rintro e w' ⟨rfl, rfl⟩)
        go_ret
        exact ⟨ret_int (exp_up x t 16777216 (by omega) (by omega)), rfl⟩
      · go_enter Try.func31, Try.ntmps31
        go_wp2_with (go_at_call 38; refine (power_p _ _ (by omega) (by omega)).mono ?_; rintro e w' ⟨rfl, rfl⟩)
        go_ret
        exact ⟨ret_int (exp_same x t 16777216 (by omega) (by omega)), rfl⟩
    · by_cases c3 : x + 8388608 < x - x % 16777216 + t
      · by_cases c4 : 16777216 ≤ x - x % 16777216 + t
        · go_enter Try.func31, Try.ntmps31
          go_wp2_with (go_at_call 38; refine (power_p _ _ (by omega) (by omega)).mono ?_; rintro e w' ⟨rfl, rfl⟩)
          go_ret
          exact ⟨ret_int (exp_down x t 16777216 (by omega) (by omega) (by omega)), rfl⟩
        · go_enter Try.func31, Try.ntmps31
          go_wp2_with (go_at_call 38; refine (power_p _ _ (by omega) (by omega)).mono ?_; rintro e w' ⟨rfl, rfl⟩)
          go_ret
          exact ⟨ret_int (exp_same x t 16777216 (by omega) (by omega)), rfl⟩
      · go_enter Try.func31, Try.ntmps31
        go_wp2_with (go_at_call 38; refine (power_p _ _ (by omega) (by omega)).mono ?_; rintro e w' ⟨rfl, rfl⟩)
        go_ret
        exact ⟨ret_int (exp_same x t 16777216 (by omega) (by omega)), rfl⟩
  · by_cases c1 : x - x % 4294967296 + t + 2147483648 ≤ x
    · by_cases c2 : x - x % 4294967296 + t < 4611686014132420608
      · go_enter Try.func31, Try.ntmps31
        go_wp2_with (go_at_call 38; refine (power_p _ _ (by omega) (by omega)).mono ?_; rintro e w' ⟨rfl, rfl⟩)
        go_ret
        exact ⟨ret_int (exp_up x t 4294967296 (by omega) (by omega)), rfl⟩
      · go_enter Try.func31, Try.ntmps31
        go_wp2_with (go_at_call 38; refine (power_p _ _ (by omega) (by omega)).mono ?_; rintro e w' ⟨rfl, rfl⟩)
        go_ret
        exact ⟨ret_int (exp_same x t 4294967296 (by omega) (by omega)), rfl⟩
    · by_cases c3 : x + 2147483648 < x - x % 4294967296 + t
      · by_cases c4 : 4294967296 ≤ x - x % 4294967296 + t
        · go_enter Try.func31, Try.ntmps31
          go_wp2_with (go_at_call 38; refine (power_p _ _ (by omega) (by omega)).mono ?_; rintro e w' ⟨rfl, rfl⟩)
          go_ret
          exact ⟨ret_int (exp_down x t 4294967296 (by omega) (by omega) (by omega)), rfl⟩
        · go_enter Try.func31, Try.ntmps31
          go_wp2_with (go_at_call 38; refine (power_p _ _ (by omega) (by omega)).mono ?_; rintro e w' ⟨rfl, rfl⟩)
          go_ret
          exact ⟨ret_int (exp_same x t 4294967296 (by omega) (by omega)), rfl⟩
      · go_enter Try.func31, Try.ntmps31
        go_wp2_with (go_at_call 38; refine (power_p _ _ (by omega) (by omega)).mono ?_; rintro e w' ⟨rfl, rfl⟩)
        go_ret
        exact ⟨ret_int (exp_same x t 4294967296 (by omega) (by omega)), rfl⟩

theorem expand_no (x t s : Int) (w : World) (h : s < 1 ∨ 4 < s ∨ 4611686018427387904 ≤ x ∨ ∃ win, IsSize s win ∧ win ≤ t) (h0 : 0 ≤ x) (h1 : x ≤ 18446744073709551615) (_h2 : 0 ≤ t) (_h3 : t ≤ 18446744073709551615) (h4 : -9223372036854775808 ≤ s) (h5 : s ≤ 9223372036854775807) :
    Calls Try.prog 29 #[.int .u64 x, .int .u64 t, .int .i64 s] w fun e w' => e = .returned (.tuple #[.int .u64 0, .int .i64 1]) ∧ w = w' := by
  by_cases c1 : s < 1
  · go_enter Try.func29, Try.ntmps29
    go_wp2
    go_ret2
    exact ⟨rfl, rfl⟩
  by_cases c2 : 4 < s
  · go_enter Try.func29, Try.ntmps29
    go_wp2
    go_ret2
    exact ⟨rfl, rfl⟩
  by_cases c3 : 4611686018427387904 ≤ x
  · go_enter Try.func29, Try.ntmps29
    go_wp2
    go_ret2
    exact ⟨rfl, rfl⟩
  obtain ⟨win, hs, hw⟩ : ∃ win, IsSize s win ∧ win ≤ t := by
    rcases h with h | h | h | h
    · omega
    · omega
    · omega
    · exact h
  clear h
  rcases hs with ⟨rfl, rfl⟩ | ⟨rfl, rfl⟩ | ⟨rfl, rfl⟩ | ⟨rfl, rfl⟩
  all_goals
    go_enter Try.func29, Try.ntmps29
    go_wp2
    go_ret2
    exact ⟨rfl, rfl⟩

theorem awake_num : expOf 2821665003 39730 65536 = 2821692210 := by unfold expOf; omega
theorem awake_any (w : World) :
    Calls Try.prog 30 #[] w fun e w' => e = .returned (.bool true) ∧ w = w' := by
  have he := awake_num
  go_enter Try.func30, Try.ntmps30
  go_wp2_with (go_at_call 29; refine (expand_ok _ _ _ 65536 _ (.inr (.inl ⟨rfl, rfl⟩)) (by omega) (by omega) (by omega) (by omega)).mono ?_; rintro e w' ⟨rfl, rfl⟩)
  go_ret
  exact ⟨rfl, rfl⟩
end Go.Proofs.Ytppafabmmcdlfaa.varnum
