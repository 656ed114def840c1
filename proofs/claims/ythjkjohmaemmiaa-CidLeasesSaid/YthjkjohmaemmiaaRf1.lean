/-
  The reference of layer 10: Turned and little: what each call returns. Helper of the claims on layers 10 and 11.
-/
import Derived.Test.YthjkjohmaemmiaaSip5
namespace Go.Proofs.Ythjkjohmaemmiaa
open Go.ChangeShapes Go.WideShapes Go.ChangeAt Go.RowKit
set_option linter.unusedSimpArgs false
set_option linter.unusedVariables false
set_option maxRecDepth 100000 in
set_option maxHeartbeats 1000000 in
theorem turn13_any (x : Nat) (w : World) (hx : x < 18446744073709551616) :
    Calls Try.prog 127 #[.int .u64 (x : Int), .int .u64 13] w fun e w' => e = .returned (.int .u64 ((rotl x 13 : Nat) : Int)) ∧ w = w' := by
  have hor : bits .or .u64 (IntKind.u64.wrap ((x : Int) * 8192)) ((x : Int) / 2251799813685248) = ((rotl x 13 : Nat) : Int) := by
    rw [IntKind.wrap_u64]
    have h1 : (x : Int) * 8192 % 18446744073709551616 = ((x * 2 ^ 13 % 18446744073709551616 : Nat) : Int) := by omega
    have h2 : (x : Int) / 2251799813685248 = ((x / 2 ^ (64 - 13) : Nat) : Int) := by omega
    rw [h1, h2, u64_or_nat _ _ (Nat.mod_lt _ (by omega)) (Nat.lt_of_le_of_lt (Nat.div_le_self _ _) hx)]
    rfl
  have x0 : (0 : Int) ≤ (x : Int) := by omega
  have x1 : (x : Int) ≤ 18446744073709551615 := by omega
  go_enter Try.func127, Try.ntmps127
  go_wp2_with fail
  go_ret
  exact ⟨rfl, rfl⟩
set_option maxRecDepth 100000 in
set_option maxHeartbeats 1000000 in
theorem turn16_any (x : Nat) (w : World) (hx : x < 18446744073709551616) :
    Calls Try.prog 127 #[.int .u64 (x : Int), .int .u64 16] w fun e w' => e = .returned (.int .u64 ((rotl x 16 : Nat) : Int)) ∧ w = w' := by
  have hor : bits .or .u64 (IntKind.u64.wrap ((x : Int) * 65536)) ((x : Int) / 281474976710656) = ((rotl x 16 : Nat) : Int) := by
    rw [IntKind.wrap_u64]
    have h1 : (x : Int) * 65536 % 18446744073709551616 = ((x * 2 ^ 16 % 18446744073709551616 : Nat) : Int) := by omega
    have h2 : (x : Int) / 281474976710656 = ((x / 2 ^ (64 - 16) : Nat) : Int) := by omega
    rw [h1, h2, u64_or_nat _ _ (Nat.mod_lt _ (by omega)) (Nat.lt_of_le_of_lt (Nat.div_le_self _ _) hx)]
    rfl
  have x0 : (0 : Int) ≤ (x : Int) := by omega
  have x1 : (x : Int) ≤ 18446744073709551615 := by omega
  go_enter Try.func127, Try.ntmps127
  go_wp2_with fail
  go_ret
  exact ⟨rfl, rfl⟩
set_option maxRecDepth 100000 in
set_option maxHeartbeats 1000000 in
theorem turn17_any (x : Nat) (w : World) (hx : x < 18446744073709551616) :
    Calls Try.prog 127 #[.int .u64 (x : Int), .int .u64 17] w fun e w' => e = .returned (.int .u64 ((rotl x 17 : Nat) : Int)) ∧ w = w' := by
  have hor : bits .or .u64 (IntKind.u64.wrap ((x : Int) * 131072)) ((x : Int) / 140737488355328) = ((rotl x 17 : Nat) : Int) := by
    rw [IntKind.wrap_u64]
    have h1 : (x : Int) * 131072 % 18446744073709551616 = ((x * 2 ^ 17 % 18446744073709551616 : Nat) : Int) := by omega
    have h2 : (x : Int) / 140737488355328 = ((x / 2 ^ (64 - 17) : Nat) : Int) := by omega
    rw [h1, h2, u64_or_nat _ _ (Nat.mod_lt _ (by omega)) (Nat.lt_of_le_of_lt (Nat.div_le_self _ _) hx)]
    rfl
  have x0 : (0 : Int) ≤ (x : Int) := by omega
  have x1 : (x : Int) ≤ 18446744073709551615 := by omega
  go_enter Try.func127, Try.ntmps127
  go_wp2_with fail
  go_ret
  exact ⟨rfl, rfl⟩
set_option maxRecDepth 100000 in
set_option maxHeartbeats 1000000 in
theorem turn21_any (x : Nat) (w : World) (hx : x < 18446744073709551616) :
    Calls Try.prog 127 #[.int .u64 (x : Int), .int .u64 21] w fun e w' => e = .returned (.int .u64 ((rotl x 21 : Nat) : Int)) ∧ w = w' := by
  have hor : bits .or .u64 (IntKind.u64.wrap ((x : Int) * 2097152)) ((x : Int) / 8796093022208) = ((rotl x 21 : Nat) : Int) := by
    rw [IntKind.wrap_u64]
    have h1 : (x : Int) * 2097152 % 18446744073709551616 = ((x * 2 ^ 21 % 18446744073709551616 : Nat) : Int) := by omega
    have h2 : (x : Int) / 8796093022208 = ((x / 2 ^ (64 - 21) : Nat) : Int) := by omega
    rw [h1, h2, u64_or_nat _ _ (Nat.mod_lt _ (by omega)) (Nat.lt_of_le_of_lt (Nat.div_le_self _ _) hx)]
    rfl
  have x0 : (0 : Int) ≤ (x : Int) := by omega
  have x1 : (x : Int) ≤ 18446744073709551615 := by omega
  go_enter Try.func127, Try.ntmps127
  go_wp2_with fail
  go_ret
  exact ⟨rfl, rfl⟩
set_option maxRecDepth 100000 in
set_option maxHeartbeats 1000000 in
theorem turn32_any (x : Nat) (w : World) (hx : x < 18446744073709551616) :
    Calls Try.prog 127 #[.int .u64 (x : Int), .int .u64 32] w fun e w' => e = .returned (.int .u64 ((rotl x 32 : Nat) : Int)) ∧ w = w' := by
  have hor : bits .or .u64 (IntKind.u64.wrap ((x : Int) * 4294967296)) ((x : Int) / 4294967296) = ((rotl x 32 : Nat) : Int) := by
    rw [IntKind.wrap_u64]
    have h1 : (x : Int) * 4294967296 % 18446744073709551616 = ((x * 2 ^ 32 % 18446744073709551616 : Nat) : Int) := by omega
    have h2 : (x : Int) / 4294967296 = ((x / 2 ^ (64 - 32) : Nat) : Int) := by omega
    rw [h1, h2, u64_or_nat _ _ (Nat.mod_lt _ (by omega)) (Nat.lt_of_le_of_lt (Nat.div_le_self _ _) hx)]
    rfl
  have x0 : (0 : Int) ≤ (x : Int) := by omega
  have x1 : (x : Int) ≤ 18446744073709551615 := by omega
  go_enter Try.func127, Try.ntmps127
  go_wp2_with fail
  go_ret
  exact ⟨rfl, rfl⟩
theorem le_drop {l : List Int} {k : Nat} (h : k < l.length) : le (l.drop k) = (at0 l k).toNat + 256 * le (l.drop (k + 1)) := by
  rw [List.drop_eq_getElem_cons h, le]
  congr 2
  unfold at0; rw [List.getD_eq_getElem?_getD, List.getElem?_eq_getElem h]; rfl
theorem le_drop_lt {l : List Int} (ho : Octets l) {k : Nat} (h : k ≤ l.length) : le (l.drop k) < 256 ^ (l.length - k) := by
  have := le_lt (l.drop k) (ho.drop k)
  rwa [List.length_drop] at this
def LitRel (p : List Int) (v i : Value) : Prop := ∃ k : Nat, k ≤ 8 ∧ i = .int .i64 ((k : Int) - 1) ∧ v = .int .u64 (le (p.drop k) : Nat)
set_option maxRecDepth 100000 in
set_option maxHeartbeats 4000000 in
theorem little_any (A : Option Addr) (n c : Nat) (l : List Int) (w : World) (B : Nat) (h : Bytes w B A l) (hn : l.length = n) (hn8 : 8 ≤ n) (ho : Octets l) :
    Calls Try.prog 103 #[.slice A n c] w fun e w' => e = .returned (.int .u64 ((le (pad l 8) : Nat) : Int)) ∧ w = w' := by
  have HA := Lib.hid h; have HO := Lib.hid (pad_ok ho 8); have HN := Lib.hid hn
  have HPL := Lib.hid (pad_len l 8)
  have HAT := hide (fun k (hk : k < 8) => pad_at (l := l) hk)
  have hnn : n ≤ 9223372036854775807 ∨ True := .inr trivial
  clear h ho hn hnn
  generalize pad l 8 = p at *
  go_enter Try.func103, Try.ntmps103
  go_wp2_with fail
  go_loop [3, 4] (fun v i => LitRel p v i) (fun _ i => (intOf i + 1).toNat)
  case atStart => exact ⟨8, by omega, by go_num, by rw [List.drop_eq_nil_of_le (by rw [HPL.out]; omega)]; rfl⟩
  case round =>
    obtain ⟨k, hk, rfl, rfl⟩ := hrel
    by_cases hlt : 1 ≤ k
    · obtain ⟨j, rfl⟩ : ∃ j, k = j + 1 := ⟨k - 1, by omega⟩
      have hs := le_drop (l := p) (k := j) (by rw [HPL.out]; omega)
      have hlt8 := le_drop_lt HO.out (k := j) (by rw [HPL.out]; omega)
      rw [HPL.out] at hlt8
      have hp : (256 : Nat) ^ (8 - j) ≤ 256 ^ 8 := Nat.pow_le_pow_right (by omega) (by omega)
      have h8 : (256 : Nat) ^ 8 = 18446744073709551616 := by decide
      have hx := HO.out j
      have hat := unhide HAT j (by omega)
      rw [hat] at hs hx
      obtain ⟨b1, o1, rfl, hb1, hc1⟩ := HA.out.cells (by have := HN.out; omega)
      have d1 := hc1 j (by have := HN.out; omega)
      have j0 : (0 : Int) ≤ (j : Int) := by omega
      have j1 : (j : Int) < (n : Int) := by omega
      clear hc1 hat
      rw [show ((j + 1 : Nat) : Int) - 1 = (j : Int) by omega]
      generalize at0 l j = x at *
      obtain ⟨y, rfl⟩ := Int.eq_ofNat_of_zero_le hx.1
      rw [Int.toNat_natCast] at hs
      generalize le (p.drop (j + 1)) = m at *
      obtain ⟨r, hr⟩ : ∃ r, le (p.drop j) = r := ⟨_, rfl⟩
      rw [hr] at hs hlt8
      have HS := Lib.hid hs; have HR := Lib.hid hr
      clear hr
      have hr1 : r < 18446744073709551616 := by omega
      have hw1 : IntKind.u64.wrap ((m : Int) * 256) = ((m * 256 : Nat) : Int) := by rw [IntKind.wrap_u64]; omega
      have hw2 : IntKind.u64.wrap (((m * 256 : Nat) : Int) + (y : Int)) = (r : Int) := by rw [IntKind.wrap_u64, HS.out]; omega
      have hw3 : IntKind.u64.wrap (y : Int) = (y : Int) := by rw [IntKind.wrap_u64]; omega
      go_wp2_with fail
      go_round
      case rel => exact ⟨j, by omega, by go_num, by rw [HR.out, HS.out]; congr 1; omega⟩
      case measure => simp [intOf]
    · obtain rfl : k = 0 := by omega
      go_wp2_with fail
      go_ret
      exact ⟨rfl, rfl⟩
end Go.Proofs.Ythjkjohmaemmiaa
