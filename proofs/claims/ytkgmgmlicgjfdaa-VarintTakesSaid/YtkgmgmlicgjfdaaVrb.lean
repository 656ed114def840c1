/-
  The bytes of a number by the document's answer. Helper of the claim VarintPuts. No condition.
-/
import Derived.Test.YtkgmgmlicgjfdaaVq
import Derived.Test.YtkgmgmlicgjfdaaRef01
import Derived.Test.YtkgmgmlicgjfdaaLinB
import Derived.Test.YtkgmgmlicgjfdaaIcmp
namespace Go.Proofs.Ytkgmgmlicgjfdaa
open Go.ChangeShapes Go.WideShapes Go.ChangeAt Go.RowKit
set_option linter.unusedVariables false
set_option maxRecDepth 100000
def ARel (k : Nat) (i : Value) : Prop := ∃ p : Nat, p ≤ k ∧ i = .int .u8 (p : Int)
theorem vset_0 (n : Nat) (h : n < 64) : (be n 1).set 0 (at0 (be n 1) 0) = be (0 + n) 1 := by
  simp only [be, at0, List.set_cons_zero, List.getD_cons_zero, List.cons.injEq, and_true]
  omega
set_option maxHeartbeats 2000000 in
theorem rvb_0 (n : Nat) (w : World) (hlo : 0 ≤ n) (hhi : n < 64) :
    Calls Try.prog 54 #[.int .u64 (n : Int)] w (GivesK w (be (0 + n) 1) 1) := by
  have HS := Lib.hid (vset_0 n hhi)
  go_enter Try.func54, Try.ntmps54
  go_wp2_with fail
  refine (rsize n (by omega) _).mono ?_
  rintro e w1 ⟨rfl, ⟨k, hk, rfl, h1, h2⟩ | ⟨rfl, h1⟩⟩
  · obtain rfl : k = 0 := by
      have h : k = 0 ∨ k = 1 ∨ k = 2 ∨ k = 3 := by omega
      have g0 := h2 0; have g1 := h2 1; have g2 := h2 2
      rcases h with rfl | rfl | rfl | rfl <;> simp [vbd] at h1 g0 g1 g2 <;> omega
    clear h1 h2 hk
    rw [show ((2 ^ 0 : Nat) : Int) = 1 from rfl]
    go_wp2_with fail
    refine (rbytes_mid n 1 (by omega) _ (by omega)).mono ?_
    rintro e w1 ⟨A, c, rfl, ho, hb⟩
    obtain ⟨g, rfl, hg1, hg2⟩ := ho.blocks (by rw [be_len]; omega)
    rw [be_len]
    have d0 := ho.at (k := 0) (by rw [be_len]; omega)
    have f0 := ho.free 0
    have hy : at0 (be n 1) 0 = ((n / 256 ^ 0 % 256 : Nat) : Int) := rfl
    have y0 : 0 ≤ at0 (be n 1) 0 := by rw [hy]; omega
    have y1 : at0 (be n 1) 0 < 64 := by rw [hy]; omega
    have hput := ho.put 0 (at0 (be n 1) 0)
    rw [HS.out, be_len] at hput
    clear hy
    have HP := hide hput; have HB := Lib.hid hb
    clear ho hput hb HS
    generalize at0 (be n 1) 0 = y at *
    go_wp2_with fail
    go_loop [5] (fun i => ARel 0 i) (fun i => (0 - intOf i).toNat)
    case atStart => exact ⟨0, by omega, rfl⟩
    case round =>
      obtain ⟨p, hp, rfl⟩ := hrel
      have h : p = 0 := by omega
      rcases h with rfl
      · go_wp2_with fail
        refine (rpow 0 (by omega) 1 rfl _).mono ?_
        rintro e w2 ⟨rfl, rfl⟩
        go_wp2_with fail
        go_ret
        exact ⟨_, _, rfl, HP.out, Below.setCell (p := ⟨g, 0, none⟩) HB.out hg1 _⟩
  · omega
theorem vset_1 (n : Nat) (h : n < 16384) : (be n 2).set 0 (at0 (be n 2) 0 + 64) = be (16384 + n) 2 := by
  simp only [be, at0, List.set_cons_zero, List.getD_cons_zero, List.cons.injEq, and_true]
  omega
set_option maxHeartbeats 2000000 in
theorem rvb_1 (n : Nat) (w : World) (hlo : 64 ≤ n) (hhi : n < 16384) :
    Calls Try.prog 54 #[.int .u64 (n : Int)] w (GivesK w (be (16384 + n) 2) 2) := by
  have HS := Lib.hid (vset_1 n hhi)
  go_enter Try.func54, Try.ntmps54
  go_wp2_with fail
  refine (rsize n (by omega) _).mono ?_
  rintro e w1 ⟨rfl, ⟨k, hk, rfl, h1, h2⟩ | ⟨rfl, h1⟩⟩
  · obtain rfl : k = 1 := by
      have h : k = 0 ∨ k = 1 ∨ k = 2 ∨ k = 3 := by omega
      have g0 := h2 0; have g1 := h2 1; have g2 := h2 2
      rcases h with rfl | rfl | rfl | rfl <;> simp [vbd] at h1 g0 g1 g2 <;> omega
    clear h1 h2 hk
    rw [show ((2 ^ 1 : Nat) : Int) = 2 from rfl]
    go_wp2_with fail
    refine (rbytes_mid n 2 (by omega) _ (by omega)).mono ?_
    rintro e w1 ⟨A, c, rfl, ho, hb⟩
    obtain ⟨g, rfl, hg1, hg2⟩ := ho.blocks (by rw [be_len]; omega)
    rw [be_len]
    have d0 := ho.at (k := 0) (by rw [be_len]; omega)
    have f0 := ho.free 0
    have hy : at0 (be n 2) 0 = ((n / 256 ^ 1 % 256 : Nat) : Int) := rfl
    have y0 : 0 ≤ at0 (be n 2) 0 := by rw [hy]; omega
    have y1 : at0 (be n 2) 0 < 64 := by rw [hy]; omega
    have hput := ho.put 0 (at0 (be n 2) 0 + 64)
    rw [HS.out, be_len] at hput
    clear hy
    have HP := hide hput; have HB := Lib.hid hb
    clear ho hput hb HS
    generalize at0 (be n 2) 0 = y at *
    go_wp2_with fail
    go_loop [5] (fun i => ARel 1 i) (fun i => (1 - intOf i).toNat)
    case atStart => exact ⟨0, by omega, rfl⟩
    case round =>
      obtain ⟨p, hp, rfl⟩ := hrel
      have h : p = 0 ∨ p = 1 := by omega
      rcases h with rfl | rfl
      · go_wp2_with fail
        refine (rpow 0 (by omega) 1 rfl _).mono ?_
        rintro e w2 ⟨rfl, rfl⟩
        go_wp2_with fail
        go_round
        case rel => exact ⟨1, by omega, by go_num⟩
        case measure => simp [intOf]
      · go_wp2_with fail
        refine (rpow 1 (by omega) 2 rfl _).mono ?_
        rintro e w2 ⟨rfl, rfl⟩
        go_wp2_with fail
        go_ret
        exact ⟨_, _, rfl, HP.out, Below.setCell (p := ⟨g, 0, none⟩) HB.out hg1 _⟩
  · omega
theorem vset_2 (n : Nat) (h : n < 1073741824) : (be n 4).set 0 (at0 (be n 4) 0 + 128) = be (2147483648 + n) 4 := by
  simp only [be, at0, List.set_cons_zero, List.getD_cons_zero, List.cons.injEq, and_true]
  omega
set_option maxHeartbeats 2000000 in
theorem rvb_2 (n : Nat) (w : World) (hlo : 16384 ≤ n) (hhi : n < 1073741824) :
    Calls Try.prog 54 #[.int .u64 (n : Int)] w (GivesK w (be (2147483648 + n) 4) 4) := by
  have HS := Lib.hid (vset_2 n hhi)
  go_enter Try.func54, Try.ntmps54
  go_wp2_with fail
  refine (rsize n (by omega) _).mono ?_
  rintro e w1 ⟨rfl, ⟨k, hk, rfl, h1, h2⟩ | ⟨rfl, h1⟩⟩
  · obtain rfl : k = 2 := by
      have h : k = 0 ∨ k = 1 ∨ k = 2 ∨ k = 3 := by omega
      have g0 := h2 0; have g1 := h2 1; have g2 := h2 2
      rcases h with rfl | rfl | rfl | rfl <;> simp [vbd] at h1 g0 g1 g2 <;> omega
    clear h1 h2 hk
    rw [show ((2 ^ 2 : Nat) : Int) = 4 from rfl]
    go_wp2_with fail
    refine (rbytes_mid n 4 (by omega) _ (by omega)).mono ?_
    rintro e w1 ⟨A, c, rfl, ho, hb⟩
    obtain ⟨g, rfl, hg1, hg2⟩ := ho.blocks (by rw [be_len]; omega)
    rw [be_len]
    have d0 := ho.at (k := 0) (by rw [be_len]; omega)
    have f0 := ho.free 0
    have hy : at0 (be n 4) 0 = ((n / 256 ^ 3 % 256 : Nat) : Int) := rfl
    have y0 : 0 ≤ at0 (be n 4) 0 := by rw [hy]; omega
    have y1 : at0 (be n 4) 0 < 64 := by rw [hy]; omega
    have hput := ho.put 0 (at0 (be n 4) 0 + 128)
    rw [HS.out, be_len] at hput
    clear hy
    have HP := hide hput; have HB := Lib.hid hb
    clear ho hput hb HS
    generalize at0 (be n 4) 0 = y at *
    go_wp2_with fail
    go_loop [5] (fun i => ARel 2 i) (fun i => (2 - intOf i).toNat)
    case atStart => exact ⟨0, by omega, rfl⟩
    case round =>
      obtain ⟨p, hp, rfl⟩ := hrel
      have h : p = 0 ∨ p = 1 ∨ p = 2 := by omega
      rcases h with rfl | rfl | rfl
      · go_wp2_with fail
        refine (rpow 0 (by omega) 1 rfl _).mono ?_
        rintro e w2 ⟨rfl, rfl⟩
        go_wp2_with fail
        go_round
        case rel => exact ⟨1, by omega, by go_num⟩
        case measure => simp [intOf]
      · go_wp2_with fail
        refine (rpow 1 (by omega) 2 rfl _).mono ?_
        rintro e w2 ⟨rfl, rfl⟩
        go_wp2_with fail
        go_round
        case rel => exact ⟨2, by omega, by go_num⟩
        case measure => simp [intOf]
      · go_wp2_with fail
        refine (rpow 2 (by omega) 4 rfl _).mono ?_
        rintro e w2 ⟨rfl, rfl⟩
        go_wp2_with fail
        go_ret
        exact ⟨_, _, rfl, HP.out, Below.setCell (p := ⟨g, 0, none⟩) HB.out hg1 _⟩
  · omega
theorem vset_3 (n : Nat) (h : n < 4611686018427387904) : (be n 8).set 0 (at0 (be n 8) 0 + 192) = be (13835058055282163712 + n) 8 := by
  simp only [be, at0, List.set_cons_zero, List.getD_cons_zero, List.cons.injEq, and_true]
  omega
set_option maxHeartbeats 2000000 in
theorem rvb_3 (n : Nat) (w : World) (hlo : 1073741824 ≤ n) (hhi : n < 4611686018427387904) :
    Calls Try.prog 54 #[.int .u64 (n : Int)] w (GivesK w (be (13835058055282163712 + n) 8) 8) := by
  have HS := Lib.hid (vset_3 n hhi)
  go_enter Try.func54, Try.ntmps54
  go_wp2_with fail
  refine (rsize n (by omega) _).mono ?_
  rintro e w1 ⟨rfl, ⟨k, hk, rfl, h1, h2⟩ | ⟨rfl, h1⟩⟩
  · obtain rfl : k = 3 := by
      have h : k = 0 ∨ k = 1 ∨ k = 2 ∨ k = 3 := by omega
      have g0 := h2 0; have g1 := h2 1; have g2 := h2 2
      rcases h with rfl | rfl | rfl | rfl <;> simp [vbd] at h1 g0 g1 g2 <;> omega
    clear h1 h2 hk
    rw [show ((2 ^ 3 : Nat) : Int) = 8 from rfl]
    go_wp2_with fail
    refine (rbytes_mid n 8 (by omega) _ (by omega)).mono ?_
    rintro e w1 ⟨A, c, rfl, ho, hb⟩
    obtain ⟨g, rfl, hg1, hg2⟩ := ho.blocks (by rw [be_len]; omega)
    rw [be_len]
    have d0 := ho.at (k := 0) (by rw [be_len]; omega)
    have f0 := ho.free 0
    have hy : at0 (be n 8) 0 = ((n / 256 ^ 7 % 256 : Nat) : Int) := rfl
    have y0 : 0 ≤ at0 (be n 8) 0 := by rw [hy]; omega
    have y1 : at0 (be n 8) 0 < 64 := by rw [hy]; omega
    have hput := ho.put 0 (at0 (be n 8) 0 + 192)
    rw [HS.out, be_len] at hput
    clear hy
    have HP := hide hput; have HB := Lib.hid hb
    clear ho hput hb HS
    generalize at0 (be n 8) 0 = y at *
    go_wp2_with fail
    go_loop [5] (fun i => ARel 3 i) (fun i => (3 - intOf i).toNat)
    case atStart => exact ⟨0, by omega, rfl⟩
    case round =>
      obtain ⟨p, hp, rfl⟩ := hrel
      have h : p = 0 ∨ p = 1 ∨ p = 2 ∨ p = 3 := by omega
      rcases h with rfl | rfl | rfl | rfl
      · go_wp2_with fail
        refine (rpow 0 (by omega) 1 rfl _).mono ?_
        rintro e w2 ⟨rfl, rfl⟩
        go_wp2_with fail
        go_round
        case rel => exact ⟨1, by omega, by go_num⟩
        case measure => simp [intOf]
      · go_wp2_with fail
        refine (rpow 1 (by omega) 2 rfl _).mono ?_
        rintro e w2 ⟨rfl, rfl⟩
        go_wp2_with fail
        go_round
        case rel => exact ⟨2, by omega, by go_num⟩
        case measure => simp [intOf]
      · go_wp2_with fail
        refine (rpow 2 (by omega) 4 rfl _).mono ?_
        rintro e w2 ⟨rfl, rfl⟩
        go_wp2_with fail
        go_round
        case rel => exact ⟨3, by omega, by go_num⟩
        case measure => simp [intOf]
      · go_wp2_with fail
        refine (rpow 3 (by omega) 8 rfl _).mono ?_
        rintro e w2 ⟨rfl, rfl⟩
        go_wp2_with fail
        go_ret
        exact ⟨_, _, rfl, HP.out, Below.setCell (p := ⟨g, 0, none⟩) HB.out hg1 _⟩
  · omega
set_option maxHeartbeats 1000000 in
theorem vput_no (A : Option Addr) (m c : Nat) (n : Nat) (w : World) (hn : n < 18446744073709551616) (hlo : 4611686018427387904 ≤ n) :
    Calls Try.prog 50 #[.slice A m c, .int .u64 (n : Int)] w fun e w' => e = .returned (.tuple #[.slice none 0 0, .int .i64 30]) ∧ w = w' := by
  go_enter Try.func50, Try.ntmps50
  go_wp2_with fail
  refine (vpower n hn _).mono ?_
  rintro e w1 ⟨rfl, ⟨k, hk, rfl, h1, h2⟩ | ⟨rfl, h1⟩⟩
  · exfalso
    have h : k = 0 ∨ k = 1 ∨ k = 2 ∨ k = 3 := by omega
    rcases h with rfl | rfl | rfl | rfl <;> simp [vbd] at h1 <;> omega
  · clear h1 hlo
    go_wp2_with fail
    go_ret2
    exact ⟨by first | rfl | simp, rfl⟩
set_option maxHeartbeats 1000000 in
theorem expand39 (w : World) : Calls Try.prog 109 #[.int .u64 2821665003, .int .u64 39730, .int .i64 2] w fun e w' => e = .returned (.tuple #[.int .u64 2821692210, .int .i64 0]) ∧ w = w' := by
  go_enter Try.func109, Try.ntmps109
  go_wp2_with fail
  go_ret2
  exact ⟨by first | rfl | simp, rfl⟩
theorem awake39 (w : World) : Calls Try.prog 49 #[] w fun e w' => e = .returned (.bool true) ∧ w = w' := by
  go_enter Try.func49, Try.ntmps49
  go_wp2_with fail
  refine (expand39 _).mono ?_
  rintro e w1 ⟨rfl, rfl⟩
  go_wp2_with fail
  go_ret
  exact ⟨rfl, rfl⟩
end Go.Proofs.Ytkgmgmlicgjfdaa
