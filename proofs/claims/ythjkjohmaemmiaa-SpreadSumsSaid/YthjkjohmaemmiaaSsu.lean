/-
  Bit and Sum of the reference of layer 41: what a call returns. Helper of the claim SpreadSums.
-/
import Derived.Test.YthjkjohmaemmiaaByte
import Derived.Test.YthjkjohmaemmiaaSpread
namespace Go.Proofs.Ythjkjohmaemmiaa
open Go.ChangeShapes Go.WideShapes Go.ChangeAt Go.RowKit
set_option linter.unusedSimpArgs false
set_option linter.unusedVariables false
def RBit (x r : Nat) (v i : Value) : Prop := ∃ j q : Nat, q + j = 7 ∧ r ≤ q ∧ i = .int .i64 (q : Int) ∧ v = .int .u32 ((x / 2 ^ j : Nat) : Int)
set_option maxHeartbeats 1000000 in
theorem rbit_any (A : Option Addr) (c : Nat) (l : List Int) (k : Nat) (n : Int) (hn : n = (k : Int)) (w : World) (B : Nat) (h : Bytes w B A l) (ho : Octets l) (hm : l.length ≤ 1000000) (hk : k ≤ 100000000) :
    Calls Try.prog 65 #[.slice A l.length c, .int .i64 n] w fun e w' => e = .returned (.int .u32 ((bitN l k : Nat) : Int)) ∧ w = w' := by
  subst hn
  have q1 : (k : Int).tdiv 8 = ((k / 8 : Nat) : Int) := by rw [Int.tdiv_eq_ediv_of_nonneg (by omega)]; omega
  have q2 : (k : Int) / 8 = ((k / 8 : Nat) : Int) := by omega
  have q3 : (k : Int).tmod 8 = ((k % 8 : Nat) : Int) := by rw [Int.tmod_eq_emod_of_nonneg (by omega)]; omega
  have q4 : (k : Int) % 8 = ((k % 8 : Nat) : Int) := by omega
  by_cases hlt : k < 8 * l.length
  · obtain ⟨b, off, rfl, hb, hc⟩ := h.cells (by omega)
    have d0 := hc (k / 8) (by omega)
    obtain ⟨x0, x1⟩ := ho (k / 8)
    have HBT := Lib.hid (show bitN l k = (at0 l (k / 8)).toNat / 2 ^ (7 - k % 8) % 2 from by unfold bitN; rw [if_pos hlt])
    generalize at0 l (k / 8) = x at *
    obtain ⟨X, rfl⟩ : ∃ X : Nat, x = (X : Int) := ⟨x.toNat, by omega⟩
    rw [Int.toNat_natCast] at HBT
    have hp : (k / 8 : Nat) < l.length := by omega
    have hr : k % 8 < 8 := by omega
    generalize k / 8 = p at *
    generalize k % 8 = r at *
    have g1 : ¬ (l.length : Int) ≤ (p : Int) := by omega
    have g2 : (p : Int) < (l.length : Int) := by omega
    have g3 : (0 : Int) ≤ (p : Int) := by omega
    have g4 : IntKind.u32.wrap (X : Int) = (X : Int) := by rw [IntKind.wrap_u32]; omega
    clear h ho hc hlt hp
    go_enter Try.func65, Try.ntmps65
    go_wp2_with fail
    go_loop [5, 6] (fun v i => RBit X r v i) (fun _ i => (intOf i).toNat)
    case atStart => exact ⟨0, 7, rfl, by omega, rfl, by simp⟩
    case round =>
      obtain ⟨j, q, hq, hrq, rfl, rfl⟩ := hrel
      have HJ := Lib.hid (show X / 2 ^ j / 2 = X / 2 ^ (j + 1) from by rw [Nat.div_div_eq_div_mul, Nat.pow_succ])
      have hX : X / 2 ^ j ≤ 255 := Nat.le_trans (Nat.div_le_self _ _) (by omega)
      have HE : Hid (q = r → bitN l k = X / 2 ^ j % 2) := hide (fun e => by rw [HBT.out, show 7 - r = j from by omega])
      generalize hy : X / 2 ^ j = y at *
      clear hy
      have e1 : (y : Int).tdiv 2 = ((y / 2 : Nat) : Int) := by rw [Int.tdiv_eq_ediv_of_nonneg (by omega)]; omega
      have e2 : (y : Int) / 2 = ((y / 2 : Nat) : Int) := by omega
      have e3 : (y : Int).tmod 2 = ((y % 2 : Nat) : Int) := by rw [Int.tmod_eq_emod_of_nonneg (by omega)]; omega
      have e4 : (y : Int) % 2 = ((y % 2 : Nat) : Int) := by omega
      by_cases hlt : r < q
      · obtain ⟨q', rfl⟩ : ∃ q', q = q' + 1 := ⟨q - 1, by omega⟩
        have hlt' : (r : Int) < ((q' + 1 : Nat) : Int) := by omega
        have hq' : ((q' + 1 : Nat) : Int) - 1 = (q' : Int) := by omega
        have hA : q' + (j + 1) = 7 := by omega
        have hB : r ≤ q' := by omega
        have hM : (q' : Int) < ((q' + 1 : Nat) : Int) := by omega
        generalize ((q' + 1 : Nat) : Int) = qq at *
        generalize y / 2 = z at *
        clear hq hlt hrq
        go_wp2_with fail
        go_round
        case rel => exact ⟨j + 1, q', by omega, by omega, by go_num, by rw [← HJ.out]⟩
        case measure => simp [intOf]; omega
      · have hqr : q = r := by omega
        subst hqr
        have hge : ¬ (q : Int) < (q : Int) := by omega
        have HF := Lib.hid (HE.out rfl)
        generalize y % 2 = z at *
        go_wp2_with fail
        go_ret
        exact ⟨by rw [HF.out]; rfl, rfl⟩
  · have g1 : (l.length : Int) ≤ ((k / 8 : Nat) : Int) := by omega
    have HB := Lib.hid (bit_no hlt)
    generalize k / 8 = p at *
    clear h ho hlt
    go_enter Try.func65, Try.ntmps65
    go_wp2_with fail
    go_ret
    exact ⟨by rw [HB.out]; rfl, rfl⟩
theorem win_low (key : List Int) (k j : Nat) (h : j < 32) : win key (k + (j + 1)) % 2 ^ (j + 1) = win key (k + j) % 2 ^ j * 2 + bitN key (k + j) := by
  have hb := bitN_le key (k + j)
  have e : win key (k + (j + 1)) = 2 * win key (k + j) % 4294967296 + bitN key (k + j) := rfl
  have hd : (2 : Nat) ^ (j + 1) ∣ 4294967296 := by
    rw [show (4294967296 : Nat) = 2 ^ 32 from rfl]; exact Nat.pow_dvd_pow 2 (by omega)
  have e2 : 2 * win key (k + j) % 4294967296 % 2 ^ (j + 1) = 2 * (win key (k + j) % 2 ^ j) := by
    rw [Nat.mod_mod_of_dvd _ hd, Nat.pow_succ, Nat.mul_comm (2 ^ j) 2, Nat.mul_mod_mul_left]
  have hlt : win key (k + j) % 2 ^ j < 2 ^ j := Nat.mod_lt _ (Nat.pow_pos (by omega))
  rw [e, Nat.add_mod, e2]
  have hp : (2 : Nat) ^ (j + 1) = 2 * 2 ^ j := by rw [Nat.pow_succ, Nat.mul_comm]
  have h1 : (2 : Nat) ≤ 2 ^ (j + 1) := by rw [hp]; have : 1 ≤ 2 ^ j := Nat.one_le_two_pow; omega
  rw [Nat.mod_eq_of_lt (show bitN key (k + j) < 2 ^ (j + 1) from by omega), Nat.mod_eq_of_lt (by omega), Nat.mul_comm]
def RIn (key : List Int) (k : Nat) (v i : Value) : Prop := ∃ j : Nat, j ≤ 32 ∧ i = .int .i64 (j : Int) ∧ v = .int .u32 ((win key (k + j) % 2 ^ j : Nat) : Int)
def ROut (key l : List Int) (s i : Value) : Prop := ∃ k : Nat, k ≤ 8 * l.length ∧ i = .int .i64 (k : Int) ∧ s = .int .u32 ((tsum key l k : Nat) : Int)
set_option maxHeartbeats 1000000 in
theorem rsum41 (K A : Option Addr) (c d : Nat) (key l : List Int) (w : World) (B : Nat) (hk : Bytes w B K key) (hok : Octets key) (h : Bytes w B A l) (ho : Octets l) (hkm : key.length ≤ 1000000) (hm : l.length ≤ 1000000) :
    Calls Try.prog 16 #[.slice K key.length c, .slice A l.length d] w fun e w' => e = .returned (.int .u32 ((tsum key l (8 * l.length) : Nat) : Int)) ∧ w = w' := by
  have HK := Lib.hid hk; have HOK := Lib.hid hok; have HA := Lib.hid h; have HO := Lib.hid ho
  clear hk hok h ho
  go_enter Try.func16, Try.ntmps16
  go_wp2_with fail
  go_loop [5, 6] (fun s i => ROut key l s i) (fun _ i => 8 * l.length - (intOf i).toNat)
  case atStart => exact ⟨0, by omega, rfl, rfl⟩
  case round =>
    obtain ⟨k, hkl, rfl, rfl⟩ := hrel
    have ht := tsum_lt key l k
    by_cases hlt : k < 8 * l.length
    · have hlt' : (k : Int) < 8 * (l.length : Int) := by omega
      have hb := bitN_le l k
      by_cases h1 : bitN l k = 1
      · have HS := Lib.hid (show tsum key l (k + 1) = tsum key l k ^^^ win key (k + 32) by simp only [tsum]; rw [if_pos h1])
        have hx := sum_xor key l k
        go_wp2_with fail
        refine (rbit_any A d l k _ rfl _ _ HA.out HO.out hm (by omega)).mono ?_; rintro e w' ⟨rfl, rfl⟩
        rw [h1]
        have H1 := Lib.hid h1
        clear h1
        go_wp2_with fail
        go_loop [7, 8] (fun v i => RIn key k v i) (fun _ i => (32 - intOf i).toNat)
        case atStart => exact ⟨0, by omega, rfl, by simp [Nat.mod_one]⟩
        case round =>
          obtain ⟨j, hj, rfl, rfl⟩ := hrel
          by_cases hj2 : j < 32
          · have HW := Lib.hid (win_low key k j hj2)
            have hlt2 : win key (k + j) % 2 ^ j < 2147483648 := Nat.lt_of_lt_of_le (Nat.mod_lt _ (Nat.pow_pos (by omega))) (by rw [show (2147483648 : Nat) = 2 ^ 31 from rfl]; exact Nat.pow_le_pow_right (by omega) (by omega))
            have hbk := bitN_le key (k + j)
            have jl : (j : Int) < 32 := by omega
            generalize win key (k + j) % 2 ^ j = V at *
            have e1 : (V : Int) * 2 % 4294967296 = ((V * 2 : Nat) : Int) := by omega
            have e2 : IntKind.u32.wrap ((V : Int) * 2) = ((V * 2 : Nat) : Int) := by rw [IntKind.wrap_u32]; omega
            have hv2 : V * 2 < 4294967296 := by omega
            have hv3 : V * 2 + bitN key (k + j) < 4294967296 := by omega
            have HV := Lib.hid (rfl : V * 2 + bitN key (k + j) = V * 2 + bitN key (k + j))
            generalize hV2 : V * 2 = V2 at *
            clear hV2
            go_wp2_with fail
            refine (rbit_any K c key (k + j) _ (by omega) _ _ HK.out HOK.out hkm (by omega)).mono ?_; rintro e w' ⟨rfl, rfl⟩
            generalize bitN key (k + j) = bt at *
            have e3 : ((V2 : Int) + (bt : Int)) % 4294967296 = ((V2 + bt : Nat) : Int) := by omega
            have e4 : IntKind.u32.wrap ((V2 : Int) + (bt : Int)) = ((V2 + bt : Nat) : Int) := by rw [IntKind.wrap_u32]; omega
            generalize hV3 : V2 + bt = V3 at *
            clear hV3
            go_wp2_with fail
            go_round
            case rel => exact ⟨j + 1, by omega, by go_num, by rw [HW.out]⟩
            case measure => simp [intOf]; omega
          · obtain rfl : j = 32 := by omega
            have HW := Lib.hid (show win key (k + 32) % 2 ^ 32 = win key (k + 32) from Nat.mod_eq_of_lt (win_lt key (k + 32)))
            rw [HW.out]
            have jl : ¬ (32 : Int) < 32 := by omega
            have hwl := win_lt key (k + 32)
            generalize win key (k + 32) = W at *
            generalize tsum key l k = t at *
            generalize t ^^^ W = tx at *
            go_wp2_with fail
            go_round
            case rel => exact ⟨k + 1, by omega, by go_num, by rw [HS.out]⟩
            case measure => simp [intOf]; omega
      · have h0 : bitN l k = 0 := by omega
        have HS := Lib.hid (show tsum key l (k + 1) = tsum key l k by simp only [tsum]; rw [if_neg h1])
        go_wp2_with fail
        refine (rbit_any A d l k _ rfl _ _ HA.out HO.out hm (by omega)).mono ?_; rintro e w' ⟨rfl, rfl⟩
        rw [h0]
        clear h0 h1 hb
        go_wp2_with fail
        go_round
        case rel => exact ⟨k + 1, by omega, by go_num, by rw [HS.out]⟩
        case measure => simp [intOf]; omega
    · obtain rfl : k = 8 * l.length := by omega
      have hge : ¬ ((8 * l.length : Nat) : Int) < 8 * (l.length : Int) := by omega
      go_wp2_with fail
      go_ret
      exact ⟨rfl, rfl⟩
end Go.Proofs.Ythjkjohmaemmiaa
