/-
  Addresses and the keys of flows in bytes: package addr and its reference. Helper of the claims of layers 3, 12 and 41. No condition.
-/
import Derived.Test.YtmgendgfdhhgfaaI6a
namespace Go.Proofs.Ytmgendgfdhhgfaa
open Go.ChangeShapes Go.WideShapes Go.ChangeAt Go.RowKit
set_option linter.unusedSimpArgs false
set_option linter.unusedVariables false
set_option maxRecDepth 100000
theorem OwnP.lowk {B B' : Nat} {l : List Int} {n : Nat} {v : Value} {w : World} (h : OwnP B l n v w) (hB : B' ≤ B) : OwnP B' l n v w := by
  obtain ⟨A, c, e, h1⟩ := h; exact ⟨A, c, e, h1.lower hB⟩
/-- An address in bytes, and how many they are. -/
def ab (s : Bool) (hi lo : Nat) : List Int := if s = true then be hi 8 ++ be lo 8 else be lo 4
def abn (s : Bool) : Nat := if s = true then 16 else 4
theorem ab_len (s : Bool) (hi lo : Nat) : (ab s hi lo).length = abn s := by cases s <;> simp [ab, abn, be_len]
theorem abn_le (s : Bool) : abn s ≤ 16 := by cases s <;> simp [abn]
theorem ab_ok (s : Bool) (hi lo : Nat) : Octets (ab s hi lo) := by
  cases s
  · exact be_ok _ _
  · exact Octets.app (be_ok _ _) (be_ok _ _)
set_option maxHeartbeats 400000 in
theorem abytes4 (hi lo : Nat) (w : World) (hl : lo < 18446744073709551616) : Calls Try.prog 105 #[.agg #[.bool false, .int .u64 (hi : Int), .int .u64 (lo : Int)]] w fun e w' => ∃ v, e = .returned v ∧ Below w.heap.size w w' ∧ OwnP w.heap.size (be lo 4) 4 v w' := by
  have HB0 := Lib.hid (show Below w.heap.size w (w.alloc (.cells #[.bool false, .int .u64 (hi : Int), .int .u64 (lo : Int)] 26)) from (Below.refl _ _).alloc (Nat.le_refl _) _)
  go_enter Try.func105, Try.ntmps105
  go_wp2_with fail
  generalize w.alloc (.cells #[.bool false, .int .u64 (hi : Int), .int .u64 (lo : Int)] 26) = W at *
  refine (put_nil lo 4 4 _ hl (by omega) (by omega) rfl).mono ?_
  rintro e w1 ⟨A1, c1, rfl, ho, hb⟩
  have HO := hide (ho.lower HB0.out.size); have HB := Lib.hid (HB0.out.trans (hb.mono HB0.out.size))
  clear ho hb
  go_wp2_with fail
  go_ret
  exact ⟨_, rfl, HB.out, A1, c1, rfl, HO.out⟩
set_option maxHeartbeats 400000 in
theorem rabytes4 (hi lo : Nat) (w : World) (hl : lo < 18446744073709551616) : Calls Try.prog 70 #[.agg #[.bool false, .int .u64 (hi : Int), .int .u64 (lo : Int)]] w fun e w' => ∃ v, e = .returned v ∧ Below w.heap.size w w' ∧ OwnP w.heap.size (be lo 4) 4 v w' := by
  have HB0 := Lib.hid (show Below w.heap.size w (w.alloc (.cells #[.bool false, .int .u64 (hi : Int), .int .u64 (lo : Int)] 26)) from (Below.refl _ _).alloc (Nat.le_refl _) _)
  go_enter Try.func70, Try.ntmps70
  go_wp2_with fail
  generalize w.alloc (.cells #[.bool false, .int .u64 (hi : Int), .int .u64 (lo : Int)] 26) = W at *
  refine (rb_6 lo 4 _ (by omega) hl).mono ?_
  rintro e w1 ⟨A1, c1, rfl, ho, hb⟩
  have HO := hide (ho.lower HB0.out.size); have HB := Lib.hid (HB0.out.trans (hb.mono HB0.out.size))
  clear ho hb
  go_wp2_with fail
  go_ret
  exact ⟨_, rfl, HB.out, A1, c1, rfl, HO.out⟩
theorem abytes_any (s : Bool) (hi lo : Nat) (w : World) (hh : hi < 18446744073709551616) (hl : lo < 18446744073709551616) : Calls Try.prog 105 #[.agg #[.bool s, .int .u64 (hi : Int), .int .u64 (lo : Int)]] w fun e w' => ∃ v, e = .returned v ∧ Below w.heap.size w w' ∧ OwnP w.heap.size (ab s hi lo) (abn s) v w' := by
  cases s
  · exact abytes4 hi lo w hl
  · exact abytes6 hi lo w hh hl
theorem rabytes_any (s : Bool) (hi lo : Nat) (w : World) (hh : hi < 18446744073709551616) (hl : lo < 18446744073709551616) : Calls Try.prog 70 #[.agg #[.bool s, .int .u64 (hi : Int), .int .u64 (lo : Int)]] w fun e w' => ∃ v, e = .returned v ∧ Below w.heap.size w w' ∧ OwnP w.heap.size (ab s hi lo) (abn s) v w' := by
  cases s
  · exact rabytes4 hi lo w hl
  · exact rabytes6 hi lo w hh hl
/-- The bytes of a flow. -/
def kf (s6 : Bool) (sh sl : Nat) (d6 : Bool) (dh dl sp dp po : Nat) : List Int := ab s6 sh sl ++ ab d6 dh dl ++ be sp 2 ++ be dp 2 ++ be po 1
def kfn (s6 d6 : Bool) : Nat := abn s6 + abn d6 + 2 + 2 + 1
theorem kf_len (s6 : Bool) (sh sl : Nat) (d6 : Bool) (dh dl sp dp po : Nat) : (kf s6 sh sl d6 dh dl sp dp po).length = kfn s6 d6 := by simp [kf, kfn, ab_len, be_len]; omega
theorem kf_ok (s6 : Bool) (sh sl : Nat) (d6 : Bool) (dh dl sp dp po : Nat) : Octets (kf s6 sh sl d6 dh dl sp dp po) := (((ab_ok _ _ _).app (ab_ok _ _ _)).app (be_ok _ _)).app (be_ok _ _) |>.app (be_ok _ _)
theorem kfn_le (s6 d6 : Bool) : kfn s6 d6 ≤ 37 := by have := abn_le s6; have := abn_le d6; unfold kfn; omega
/-- May an address be? -/
def aright (s : Bool) (hi lo : Nat) : Bool := s || (decide (hi = 0) && decide (lo ≤ 4294967295))
set_option maxHeartbeats 400000 in
theorem aright_any (s : Bool) (hi lo : Nat) (w : World) : Calls Try.prog 41 #[.agg #[.bool s, .int .u64 (hi : Int), .int .u64 (lo : Int)]] w fun e w' => e = .returned (.bool (aright s hi lo)) ∧ Below w.heap.size w w' := by
  have hb0 : Below w.heap.size w (w.alloc (.cells #[.bool s, .int .u64 (hi : Int), .int .u64 (lo : Int)] 26)) := (Below.refl _ _).alloc (Nat.le_refl _) _
  cases s
  · by_cases h0 : hi = 0
    · subst h0
      by_cases h1 : lo ≤ 4294967295
      · have g1 : (lo : Int) ≤ 4294967295 := by omega
        rw [show aright false 0 lo = true from by simp [aright, h1]]
        clear h1
        go_enter Try.func41, Try.ntmps41
        go_wp2_with fail
        go_ret
        exact ⟨rfl, hb0⟩
      · have g1 : ¬ (lo : Int) ≤ 4294967295 := by omega
        rw [show aright false 0 lo = false from by simp [aright]; omega]
        clear h1
        go_enter Try.func41, Try.ntmps41
        go_wp2_with fail
        go_ret
        exact ⟨rfl, hb0⟩
    · have g0 : ((hi : Int) == 0) = false := by rw [beq_eq_false_iff_ne]; omega
      rw [show aright false hi lo = false from by simp [aright, h0]]
      clear h0
      go_enter Try.func41, Try.ntmps41
      go_wp2_with fail
      go_ret
      exact ⟨rfl, hb0⟩
  · rw [show aright true hi lo = true from rfl]
    go_enter Try.func41, Try.ntmps41
    go_wp2_with fail
    go_ret
    exact ⟨rfl, hb0⟩
end Go.Proofs.Ytmgendgfdhhgfaa
