/-
  The document's power of two and the sizes of a number. Helper of the claims VarintPuts and VarintTakes. No condition.
-/
import Derived.Test.YtkgmgmlicgjfdaaVp
namespace Go.Proofs.Ytkgmgmlicgjfdaa
open Go.ChangeShapes Go.WideShapes Go.ChangeAt Go.RowKit
set_option linter.unusedVariables false
set_option maxRecDepth 100000
def PRel (k : Nat) (v i : Value) : Prop := ∃ j : Nat, j ≤ k ∧ v = .int .u64 ((2 ^ j : Nat) : Int) ∧ i = .int .i64 (j : Int)
set_option maxHeartbeats 1000000 in
theorem rpow (k : Nat) (hk : k ≤ 62) (x : Nat) (hx : 2 ^ k = x) (w : World) : Calls Try.prog 112 #[.int .i64 (k : Int)] w fun e w' => e = .returned (.int .u64 (x : Int)) ∧ w = w' := by
  have HX := Lib.hid hx
  clear hx
  go_enter Try.func112, Try.ntmps112
  go_wp2_with fail
  go_loop [3, 4] (fun v i => PRel k v i) (fun _ i => (k - intOf i).toNat)
  case atStart => exact ⟨0, Nat.zero_le _, rfl, rfl⟩
  case round =>
    obtain ⟨j, hj, rfl, rfl⟩ := hrel
    by_cases e : j = k
    · subst e
      rw [HX.out]
      go_wp2_with fail
      go_ret
      exact ⟨rfl, rfl⟩
    · have hlt : (j : Int) < (k : Int) := by omega
      have hb : 2 ^ j ≤ 2 ^ 61 := Nat.pow_le_pow_right (by omega) (by omega)
      have hs : 2 ^ (j + 1) = 2 ^ j * 2 := Nat.pow_succ ..
      obtain ⟨y, hy⟩ : ∃ y, 2 ^ j = y := ⟨_, rfl⟩
      rw [hy] at hb hs ⊢
      have HS := Lib.hid hs
      have hb2 : (y : Int) ≤ 2305843009213693952 := by omega
      clear hs hy hb e
      go_wp2_with fail
      go_round
      case rel => exact ⟨j + 1, by omega, by rw [HS.out]; go_num, by go_num⟩
      case measure => simp [intOf]; omega
/-- The size of n, if it has one. -/
def VSz (n : Nat) (w : World) (e : Ending) (w' : World) : Prop := w = w' ∧ ((∃ k : Nat, k ≤ 3 ∧ e = .returned (.int .i64 ((2 ^ k : Nat) : Int)) ∧ (n : Int) < vbd k ∧ ∀ j, j < k → vbd j ≤ (n : Int)) ∨ (e = .returned (.int .i64 0) ∧ 4611686018427387904 ≤ (n : Int)))
set_option maxHeartbeats 1000000 in
theorem vsize (n : Nat) (hn : n < 18446744073709551616) (w : World) : Calls Try.prog 51 #[.int .u64 (n : Int)] w (VSz n w) := by
  go_enter Try.func51, Try.ntmps51
  go_wp2_with fail
  refine (vpower n hn _).mono ?_
  rintro e w1 ⟨rfl, ⟨k, hk, rfl, h1, h2⟩ | ⟨rfl, h1⟩⟩
  · have H1 := Lib.hid h1; have H2 := Lib.hid h2
    clear h1 h2
    have h : k = 0 ∨ k = 1 ∨ k = 2 ∨ k = 3 := by omega
    rcases h with rfl | rfl | rfl | rfl
    all_goals
      go_wp2_with fail
      go_ret
      exact ⟨rfl, .inl ⟨_, hk, by simp, H1.out, H2.out⟩⟩
  · have H1 := Lib.hid h1
    clear h1
    go_wp2_with fail
    go_ret
    exact ⟨rfl, .inr ⟨by simp, H1.out⟩⟩
set_option maxHeartbeats 2000000 in
theorem rsize (n : Nat) (hn : n < 18446744073709551616) (w : World) : Calls Try.prog 52 #[.int .u64 (n : Int)] w (VSz n w) := by
  go_enter Try.func52, Try.ntmps52
  go_wp2_with fail
  go_loop [3] (fun i => VRel n i) (fun i => (4 - intOf i).toNat)
  case atStart => exact ⟨0, by omega, rfl, fun j h => by omega⟩
  case round =>
    obtain ⟨k, hk, rfl, hj⟩ := hrel
    have HJ := Lib.hid hj
    clear hj
    have h : k = 4 ∨ k = 0 ∨ k = 1 ∨ k = 2 ∨ k = 3 := by omega
    rcases h with rfl | h
    · go_wp2_with fail
      go_ret
      exact ⟨rfl, .inr ⟨rfl, by have := HJ.out 3 (by omega); simp [vbd] at this; exact this⟩⟩
    · have h3 : k ≤ 3 := by omega
      by_cases q : (n : Int) < vbd k
      · have HQ := Lib.hid q
        rcases h with rfl | rfl | rfl | rfl
        · have q2 : (n : Int) < 64 := q
          clear q
          go_wp2_with fail
          refine (rpow 0 (by omega) 1 rfl _).mono ?_
          rintro e w1 ⟨rfl, rfl⟩
          go_wp2_with fail
          refine (rpow 6 (by omega) 64 rfl _).mono ?_
          rintro e w1 ⟨rfl, rfl⟩
          go_wp2_with fail
          go_ret
          exact ⟨rfl, .inl ⟨0, h3, rfl, HQ.out, HJ.out⟩⟩
        · have q2 : (n : Int) < 16384 := q
          clear q
          go_wp2_with fail
          refine (rpow 1 (by omega) 2 rfl _).mono ?_
          rintro e w1 ⟨rfl, rfl⟩
          go_wp2_with fail
          refine (rpow 14 (by omega) 16384 rfl _).mono ?_
          rintro e w1 ⟨rfl, rfl⟩
          go_wp2_with fail
          go_ret
          exact ⟨rfl, .inl ⟨1, h3, rfl, HQ.out, HJ.out⟩⟩
        · have q2 : (n : Int) < 1073741824 := q
          clear q
          go_wp2_with fail
          refine (rpow 2 (by omega) 4 rfl _).mono ?_
          rintro e w1 ⟨rfl, rfl⟩
          go_wp2_with fail
          refine (rpow 30 (by omega) 1073741824 rfl _).mono ?_
          rintro e w1 ⟨rfl, rfl⟩
          go_wp2_with fail
          go_ret
          exact ⟨rfl, .inl ⟨2, h3, rfl, HQ.out, HJ.out⟩⟩
        · have q2 : (n : Int) < 4611686018427387904 := q
          clear q
          go_wp2_with fail
          refine (rpow 3 (by omega) 8 rfl _).mono ?_
          rintro e w1 ⟨rfl, rfl⟩
          go_wp2_with fail
          refine (rpow 62 (by omega) 4611686018427387904 rfl _).mono ?_
          rintro e w1 ⟨rfl, rfl⟩
          go_wp2_with fail
          go_ret
          exact ⟨rfl, .inl ⟨3, h3, rfl, HQ.out, HJ.out⟩⟩
      · have HN : Hid (∀ j, j < k + 1 → vbd j ≤ (n : Int)) := Lib.hid (fun j h => by
          by_cases e : j = k
          · subst e; omega
          · exact HJ.out j (by omega))
        rcases h with rfl | rfl | rfl | rfl
        · have q2 : ¬ (n : Int) < 64 := q
          clear q
          go_wp2_with fail
          refine (rpow 0 (by omega) 1 rfl _).mono ?_
          rintro e w1 ⟨rfl, rfl⟩
          go_wp2_with fail
          refine (rpow 6 (by omega) 64 rfl _).mono ?_
          rintro e w1 ⟨rfl, rfl⟩
          go_wp2_with fail
          go_round
          case rel => exact ⟨1, by omega, rfl, HN.out⟩
          case measure => simp [intOf]
        · have q2 : ¬ (n : Int) < 16384 := q
          clear q
          go_wp2_with fail
          refine (rpow 1 (by omega) 2 rfl _).mono ?_
          rintro e w1 ⟨rfl, rfl⟩
          go_wp2_with fail
          refine (rpow 14 (by omega) 16384 rfl _).mono ?_
          rintro e w1 ⟨rfl, rfl⟩
          go_wp2_with fail
          go_round
          case rel => exact ⟨2, by omega, rfl, HN.out⟩
          case measure => simp [intOf]
        · obtain ⟨b, hb⟩ : ∃ b : Nat, 2 ^ 30 = b := ⟨_, rfl⟩
          have q2 : ¬ (n : Int) < (b : Int) := by rw [← hb]; exact q
          have HB := Lib.hid hb
          clear q hb
          go_wp2_with fail
          refine (rpow 2 (by omega) 4 rfl _).mono ?_
          rintro e w1 ⟨rfl, rfl⟩
          go_wp2_with fail
          refine (rpow 30 (by omega) b HB.out _).mono ?_
          rintro e w1 ⟨rfl, rfl⟩
          go_wp2_with fail
          go_round
          case rel => exact ⟨3, by omega, rfl, HN.out⟩
          case measure => simp [intOf]
        · obtain ⟨b, hb⟩ : ∃ b : Nat, 2 ^ 62 = b := ⟨_, rfl⟩
          have q2 : ¬ (n : Int) < (b : Int) := by rw [← hb]; exact q
          have HB := Lib.hid hb
          clear q hb
          go_wp2_with fail
          refine (rpow 3 (by omega) 8 rfl _).mono ?_
          rintro e w1 ⟨rfl, rfl⟩
          go_wp2_with fail
          refine (rpow 62 (by omega) b HB.out _).mono ?_
          rintro e w1 ⟨rfl, rfl⟩
          go_wp2_with fail
          go_round
          case rel => exact ⟨4, by omega, rfl, HN.out⟩
          case measure => simp [intOf]
end Go.Proofs.Ytkgmgmlicgjfdaa
