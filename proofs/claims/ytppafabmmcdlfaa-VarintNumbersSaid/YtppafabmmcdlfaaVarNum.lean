import Derived.Test.YtppafabmmcdlfaaRows
import Derived.WalkKit
import Derived.ProofKit
import Derived.OpenShut
import Derived.Below
namespace Go.Proofs.Ytppafabmmcdlfaa.varnum
open Go.ChangeShapes Go.WideShapes Go.ChangeAt Go.RowKit

/-- Bits: how many bytes must be told. -/
def bitsOf (n a : Int) : Int := if n ≥ 4611686018427387904 ∨ a ≥ n then 0 else if n - a ≤ 128 then 1 else if n - a ≤ 32768 then 2 else if n - a ≤ 8388608 then 3 else if n - a ≤ 2147483648 then 4 else 0
def bitsErr (n a : Int) : Int := if bitsOf n a = 0 then 1 else 0
theorem ret_pair {k k' : IntKind} {a b c d : Int} (h : a = b) (h' : c = d) : Ending.returned (.tuple #[.int k a, .int k' c]) = .returned (.tuple #[.int k b, .int k' d]) := by rw [h, h']
theorem ret_int {k : IntKind} {a b : Int} (h : a = b) : Ending.returned (.int k a) = .returned (.int k b) := by rw [h]

def BitsRel (n a : Int) (i : Value) : Prop := ∃ k : Nat, i = .int .i64 k ∧ (k = 1 ∨ (k = 2 ∧ 128 < n - a) ∨ (k = 3 ∧ 32768 < n - a) ∨ (k = 4 ∧ 8388608 < n - a) ∨ (k = 5 ∧ 2147483648 < n - a))


theorem bits_of (n a k : Int) (c1 : n < 4611686018427387904) (c2 : a < n) (h : (k = 1 ∧ n - a ≤ 128) ∨ (k = 2 ∧ 128 < n - a ∧ n - a ≤ 32768) ∨ (k = 3 ∧ 32768 < n - a ∧ n - a ≤ 8388608) ∨ (k = 4 ∧ 8388608 < n - a ∧ n - a ≤ 2147483648)) : k = bitsOf n a ∧ 0 = bitsErr n a := by
  have e : bitsOf n a = k := by unfold bitsOf; repeat' split
                                all_goals omega
  refine ⟨e.symm, ?_⟩
  unfold bitsErr; rw [e, if_neg (by omega)]
theorem bits_no (n a : Int) (h : 4611686018427387904 ≤ n ∨ n ≤ a ∨ 2147483648 < n - a) : 0 = bitsOf n a ∧ 1 = bitsErr n a := by
  have e : bitsOf n a = 0 := by unfold bitsOf; repeat' split
                                all_goals omega
  refine ⟨e.symm, ?_⟩
  unfold bitsErr; rw [e, if_pos rfl]
theorem ret_bits {n a k d : Int} (h : k = bitsOf n a ∧ d = bitsErr n a) : Ending.returned (.tuple #[.int .i64 k, .int .i64 d]) = .returned (.tuple #[.int .i64 (bitsOf n a), .int .i64 (bitsErr n a)]) := by rw [h.1, h.2]

set_option maxHeartbeats 400000 in
theorem bits_any (n a : Int) (w : World) (h0 : 0 ≤ n) (h1 : n ≤ 18446744073709551615) (h2 : 0 ≤ a) (h3 : a ≤ 18446744073709551615) :
    Calls Try.prog 27 #[.int .u64 n, .int .u64 a] w fun e w' => e = .returned (.tuple #[.int .i64 (bitsOf n a), .int .i64 (bitsErr n a)]) ∧ w = w' := by
  by_cases c1 : 4611686018427387904 ≤ n
  · go_enter Try.func27, Try.ntmps27
    go_wp2
    go_ret2
    exact ⟨ret_bits (bits_no n a (by omega)), rfl⟩
  · by_cases c2 : n ≤ a
    · go_enter Try.func27, Try.ntmps27
      go_wp2
      go_ret2
      exact ⟨ret_bits (bits_no n a (by omega)), rfl⟩
    · go_enter Try.func27, Try.ntmps27
      go_wp2
      go_loop [6] (fun i => BitsRel n a i) (fun i => (5 - intOf i).toNat)
      case atStart => exact ⟨1, rfl, .inl rfl⟩
      case round =>
        obtain ⟨k, rfl, hk⟩ := hrel
        rcases hk with rfl | ⟨rfl, hk⟩ | ⟨rfl, hk⟩ | ⟨rfl, hk⟩ | ⟨rfl, hk⟩
        · by_cases c3 : n - a ≤ 128
          · go_wp2
            go_ret2
            exact ⟨ret_bits (bits_of n a 1 (by omega) (by omega) (by omega)), rfl⟩
          · go_wp2
            go_round
            case rel => exact ⟨2, rfl, by omega⟩
            case measure => simp [intOf]
        · by_cases c3 : n - a ≤ 32768
          · go_wp2
            go_ret2
            exact ⟨ret_bits (bits_of n a 2 (by omega) (by omega) (by omega)), rfl⟩
          · go_wp2
            go_round
            case rel => exact ⟨3, rfl, by omega⟩
            case measure => simp [intOf]
        · by_cases c3 : n - a ≤ 8388608
          · go_wp2
            go_ret2
            exact ⟨ret_bits (bits_of n a 3 (by omega) (by omega) (by omega)), rfl⟩
          · go_wp2
            go_round
            case rel => exact ⟨4, rfl, by omega⟩
            case measure => simp [intOf]
        · by_cases c3 : n - a ≤ 2147483648
          · go_wp2
            go_ret2
            exact ⟨ret_bits (bits_of n a 4 (by omega) (by omega) (by omega)), rfl⟩
          · go_wp2
            go_round
            case rel => exact ⟨5, rfl, by omega⟩
            case measure => simp [intOf]
        · go_wp2
          go_ret2
          exact ⟨ret_bits (bits_no n a (by omega)), rfl⟩

/-! ### The reference -/
def pw : Nat → Int | 0 => 1 | k + 1 => pw k * 2
theorem pw_pos (k : Nat) : 1 ≤ pw k := by induction k with | zero => simp [pw] | succ k ih => simp [pw]; omega
theorem pw_le (k : Nat) : ∀ m, k ≤ m → pw k ≤ pw m := by
  intro m h; induction h with | refl => exact Int.le_refl _ | step _ ih => have := pw_pos k; simp [pw]; rename_i m _; have := pw_pos m; omega
theorem pw_63 (k : Nat) (h : k ≤ 63) : pw k ≤ 9223372036854775808 := Int.le_trans (pw_le k 63 h) (by decide)

set_option maxHeartbeats 400000 in
theorem power_any (n : Int) (w : World) (h0 : 0 ≤ n) (h1 : n ≤ 63) :
    Calls Try.prog 38 #[.int .i64 n] w fun e w' => e = .returned (.int .u64 (pw n.toNat)) ∧ w = w' := by
  obtain ⟨m, rfl⟩ := Int.eq_ofNat_of_zero_le h0
  rw [Int.toNat_natCast]
  go_enter Try.func38, Try.ntmps38
  go_wp2
  go_loop [3, 4] (fun p i => ∃ k : Nat, k ≤ m ∧ i = .int .i64 k ∧ p = .int .u64 (pw k)) (fun _ i => (m - intOf i).toNat)
  case atStart => exact ⟨0, Nat.zero_le _, rfl, rfl⟩
  case round =>
    obtain ⟨k, hk, rfl, rfl⟩ := hrel
    have hp := pw_pos k
    have hq := pw_63 k (by omega)
    by_cases hlt : k < m
    · have hr := pw_63 (k + 1) (by omega)
      have HE : Hid (pw (k + 1) = pw k * 2) := rfl
      have hs : pw k * 2 ≤ 9223372036854775808 := by rw [HE.out] at hr; exact hr
      clear hr
      go_wp2
      go_round
      case rel => exact ⟨k + 1, by omega, by go_num, by rw [HE.out]⟩
      case measure => simp [intOf]; omega
    · obtain rfl : k = m := by omega
      go_wp2
      go_ret
      exact ⟨rfl, rfl⟩

theorem power_c (n v : Int) (w : World) (h0 : 0 ≤ n) (h1 : n ≤ 63) (hv : pw n.toNat = v) :
    Calls Try.prog 38 #[.int .i64 n] w fun e w' => e = .returned (.int .u64 v) ∧ w = w' := by
  rw [← hv]; exact power_any n w h0 h1

set_option maxHeartbeats 800000 in
theorem rbits_any (n a : Int) (w : World) (h0 : 0 ≤ n) (h1 : n ≤ 18446744073709551615) (h2 : 0 ≤ a) (h3 : a ≤ 18446744073709551615) :
    Calls Try.prog 28 #[.int .u64 n, .int .u64 a] w fun e w' => e = .returned (.int .i64 (bitsOf n a)) ∧ w = w' := by
  by_cases c1 : 4611686018427387904 ≤ n
  · go_enter Try.func28, Try.ntmps28
    go_wp2_with (go_at_call 38; refine (power_c 62 4611686018427387904 _ (by omega) (by omega) (by decide)).mono ?_; rintro e w' ⟨rfl, rfl⟩)
    go_ret
    exact ⟨ret_int (bits_no n a (by omega)).1, rfl⟩
  · by_cases c2 : n ≤ a
    · go_enter Try.func28, Try.ntmps28
      go_wp2_with (go_at_call 38; refine (power_c 62 4611686018427387904 _ (by omega) (by omega) (by decide)).mono ?_; rintro e w' ⟨rfl, rfl⟩)
      go_ret
      exact ⟨ret_int (bits_no n a (by omega)).1, rfl⟩
    · go_enter Try.func28, Try.ntmps28
      go_wp2_with (go_at_call 38; refine (power_c 62 4611686018427387904 _ (by omega) (by omega) (by decide)).mono ?_; rintro e w' ⟨rfl, rfl⟩)
      go_loop [5] (fun i => BitsRel n a i) (fun i => (5 - intOf i).toNat)
      case atStart => exact ⟨1, rfl, .inl rfl⟩
      case round =>
        obtain ⟨k, rfl, hk⟩ := hrel
        rcases hk with rfl | ⟨rfl, hk⟩ | ⟨rfl, hk⟩ | ⟨rfl, hk⟩ | ⟨rfl, hk⟩
        · by_cases c3 : n - a ≤ 128
          · go_wp2_with (go_at_call 38; refine (power_c 7 128 _ (by omega) (by omega) (by decide)).mono ?_; rintro e w' ⟨rfl, rfl⟩)
            go_ret
            exact ⟨ret_int (bits_of n a 1 (by omega) (by omega) (by omega)).1, rfl⟩
          · go_wp2_with (go_at_call 38; refine (power_c 7 128 _ (by omega) (by omega) (by decide)).mono ?_; rintro e w' ⟨rfl, rfl⟩)
            go_round
            case rel => exact ⟨2, rfl, by omega⟩
            case measure => simp [intOf]
        · by_cases c3 : n - a ≤ 32768
          · go_wp2_with (go_at_call 38; refine (power_c 15 32768 _ (by omega) (by omega) (by decide)).mono ?_; rintro e w' ⟨rfl, rfl⟩)
            go_ret
            exact ⟨ret_int (bits_of n a 2 (by omega) (by omega) (by omega)).1, rfl⟩
          · go_wp2_with (go_at_call 38; refine (power_c 15 32768 _ (by omega) (by omega) (by decide)).mono ?_; rintro e w' ⟨rfl, rfl⟩)
            go_round
            case rel => exact ⟨3, rfl, by omega⟩
            case measure => simp [intOf]
        · by_cases c3 : n - a ≤ 8388608
          · go_wp2_with (go_at_call 38; refine (power_c 23 8388608 _ (by omega) (by omega) (by decide)).mono ?_; rintro e w' ⟨rfl, rfl⟩)
            go_ret
            exact ⟨ret_int (bits_of n a 3 (by omega) (by omega) (by omega)).1, rfl⟩
          · go_wp2_with (go_at_call 38; refine (power_c 23 8388608 _ (by omega) (by omega) (by decide)).mono ?_; rintro e w' ⟨rfl, rfl⟩)
            go_round
            case rel => exact ⟨4, rfl, by omega⟩
            case measure => simp [intOf]
        · by_cases c3 : n - a ≤ 2147483648
          · go_wp2_with (go_at_call 38; refine (power_c 31 2147483648 _ (by omega) (by omega) (by decide)).mono ?_; rintro e w' ⟨rfl, rfl⟩)
            go_ret
            exact ⟨ret_int (bits_of n a 4 (by omega) (by omega) (by omega)).1, rfl⟩
          · go_wp2_with (go_at_call 38; refine (power_c 31 2147483648 _ (by omega) (by omega) (by decide)).mono ?_; rintro e w' ⟨rfl, rfl⟩)
            go_round
            case rel => exact ⟨5, rfl, by omega⟩
            case measure => simp [intOf]
        · go_wp2
          go_ret
          exact ⟨ret_int (bits_no n a (by omega)).1, rfl⟩
end Go.Proofs.Ytppafabmmcdlfaa.varnum
