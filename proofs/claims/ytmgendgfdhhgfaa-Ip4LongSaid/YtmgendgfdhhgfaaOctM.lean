/-
  Plain mathematics of numbers in bytes: the last bytes of a number, the number of bytes, rows of bytes one behind the other. Nothing here speaks of a Go function. No condition.
-/
import Derived.Test.YtmgendgfdhhgfaaByte
import Derived.Laws.BitsAllLaws
namespace Go.Proofs.Ytmgendgfdhhgfaa
set_option linter.unusedSimpArgs false
set_option linter.unusedVariables false
/-- The last s bytes of n, the most significant one first. -/
def be (n : Nat) : Nat → List Int | 0 => [] | s + 1 => ((n / 256 ^ s % 256 : Nat) : Int) :: be n s
theorem be_len (n s : Nat) : (be n s).length = s := by induction s with | zero => rfl | succ s ih => simp [be, ih]
theorem be_ok (n s : Nat) : Octets (be n s) := by
  induction s with
  | zero => exact Octets.nil
  | succ s ih => exact Octets.cons (by omega) ih
theorem be_at (n s k : Nat) (h : k < s) : at0 (be n s) k = ((n / 256 ^ (s - 1 - k) % 256 : Nat) : Int) := by
  induction s generalizing k with
  | zero => omega
  | succ s ih =>
    cases k with
    | zero => simp [be, at0]
    | succ k =>
      have e : at0 (be n (s + 1)) (k + 1) = at0 (be n s) k := by simp [be, at0]
      rw [e, ih k (by omega)]
      congr 4; omega
theorem be_take (n s k : Nat) (h : k < s) : (be n s).take (k + 1) = (be n s).take k ++ [((n / 256 ^ (s - 1 - k) % 256 : Nat) : Int)] := by
  rw [take_at0 (by rw [be_len]; exact h), be_at n s k h]
theorem pow256 (i : Nat) : (256 : Nat) ^ i = 2 ^ (8 * i) := by rw [Nat.pow_mul]
theorem be_step {n k j p : Nat} (h : p + 1 + j = k) : (be n k).take j ++ [(n : Int) / 2 ^ (8 * p) % 256] = (be n k).take (j + 1) := by
  rw [be_take n k j (by omega), show k - 1 - j = p by omega, pow256]
  congr 2
/-- A row that is filled from its end: k bytes are there. -/
def fillB (n s k : Nat) : List Int := List.replicate (s - k) 0 ++ be n k
theorem fillB_len (n s k : Nat) (h : k ≤ s) : (fillB n s k).length = s := by simp [fillB, be_len]; omega
theorem fillB_zero (n s : Nat) : fillB n s 0 = List.replicate s 0 := by simp [fillB, be]
theorem fillB_all (n s : Nat) : fillB n s s = be n s := by simp [fillB]
theorem fillB_set (n s k : Nat) (h : k < s) : (fillB n s k).set (s - 1 - k) ((n / 256 ^ k % 256 : Nat) : Int) = fillB n s (k + 1) := by
  unfold fillB
  have e : s - k = (s - 1 - k) + 1 := by omega
  rw [e, List.replicate_succ', List.append_assoc, show s - (k + 1) = s - 1 - k by omega, List.set_append_right _ _ (by simp)]
  simp [be]
/-- The number of bytes, modulo 2^64. -/
def numW (l : List Int) : Int := l.foldl (fun n x => (n * 256 + x) % 18446744073709551616) 0
theorem numW_take (l : List Int) (k : Nat) (h : k < l.length) : numW (l.take (k + 1)) = (numW (l.take k) * 256 + at0 l k) % 18446744073709551616 := by
  rw [take_at0 h]; simp [numW]
theorem numW_bd (l : List Int) : 0 ≤ numW l ∧ numW l < 18446744073709551616 := by
  have key : ∀ (l : List Int) (a : Int), 0 ≤ a ∧ a < 18446744073709551616 → 0 ≤ l.foldl (fun n x => (n * 256 + x) % 18446744073709551616) a ∧ l.foldl (fun n x => (n * 256 + x) % 18446744073709551616) a < 18446744073709551616 := by
    intro l
    induction l with
    | nil => intro a h; simpa using h
    | cons x l ih => intro a h; exact ih _ (by show 0 ≤ (a * 256 + x) % 18446744073709551616 ∧ (a * 256 + x) % 18446744073709551616 < 18446744073709551616; omega)
  exact key l 0 (by omega)
theorem numW_nil : numW [] = 0 := rfl
/-- Fewer than 8 bytes: no wrapping. -/
theorem numW_le (l : List Int) (ho : Octets l) (k : Nat) (hk : k ≤ 7) (hl : l.length ≤ k) : numW l < 256 ^ k := by
  have key : ∀ (k : Nat) (l : List Int), Octets l → k ≤ 7 → l.length ≤ k → numW l < 256 ^ k := by
    intro k
    induction k with
    | zero => intro l _ _ hl; obtain rfl : l = [] := List.eq_nil_of_length_eq_zero (by omega); simp [numW]
    | succ k ih =>
      intro l ho hk hl
      by_cases h0 : l.length = 0
      · obtain rfl := List.eq_nil_of_length_eq_zero h0
        have : (0 : Int) < 256 ^ (k + 1) := Int.pow_pos (by decide)
        simpa [numW] using this
      · have e := numW_take l (l.length - 1) (by omega)
        rw [show l.length - 1 + 1 = l.length by omega, List.take_length] at e
        have h1 := ih (l.take (l.length - 1)) (ho.take _) (by omega) (by rw [List.length_take]; omega)
        have h2 := numW_bd (l.take (l.length - 1))
        have h3 := ho (l.length - 1)
        have h4 : (256 : Int) ^ (k + 1) = 256 ^ k * 256 := Int.pow_succ ..
        have h5 : numW l ≤ numW (l.take (l.length - 1)) * 256 + at0 l (l.length - 1) := by
          rw [e]; omega
        omega
  exact key k l ho hk hl
theorem or_byte {n x : Int} (hx : 0 ≤ x ∧ x ≤ 255) : bits .or .u64 (n * 256 % 18446744073709551616) x = (n * 256 + x) % 18446744073709551616 := by
  rw [u64_or _ _ (by omega) (by omega) (by omega) (by omega), nat_join 8 _ _ (by omega) (by omega)]
  omega
theorem or_wrap {n x : Int} (hx : 0 ≤ x ∧ x ≤ 255) : bits .or .u64 (IntKind.u64.wrap (n * 256)) (IntKind.u64.wrap x) = (n * 256 + x) % 18446744073709551616 := by
  rw [IntKind.wrap_u64, IntKind.wrap_u64, Int.emod_eq_of_lt hx.1 (by omega)]; exact or_byte hx
theorem fill_step {n k j p : Nat} (h : p + 1 + j = k) : (fillB n k j).set p ((n / 256 ^ j % 256 : Nat) : Int) = fillB n k (j + 1) := by
  have := fillB_set n k j (by omega)
  rw [show k - 1 - j = p by omega] at this; exact this
theorem div_step (n j : Nat) : n / 256 ^ j / 256 = n / 256 ^ (j + 1) := by rw [Nat.div_div_eq_div_mul, Nat.pow_succ]
theorem num_wrap {n x : Int} (hx : 0 ≤ x ∧ x ≤ 255) : IntKind.u64.wrap (IntKind.u64.wrap (n * 256) + IntKind.u64.wrap x) = (n * 256 + x) % 18446744073709551616 := by
  rw [IntKind.wrap_u64, IntKind.wrap_u64, IntKind.wrap_u64]; omega
/-- Bytes that are replaced from a place on. -/
def setB (b : List Int) (i : Nat) (x : List Int) : List Int := splice b i x
theorem setB_len (b : List Int) (i : Nat) (x : List Int) (h : i + x.length ≤ b.length) : (setB b i x).length = b.length := length_splice b i x h
theorem setB_nil (b : List Int) (i : Nat) : setB b i [] = b := by simp [setB, splice]
theorem setB_step (b : List Int) (i k : Nat) (x : List Int) (h : i + x.length ≤ b.length) (hk : k < x.length) : (setB b i (x.take k)).set (i + k) (at0 x k) = setB b i (x.take (k + 1)) := by
  have e1 : (x.take k).length = k := by rw [List.length_take]; omega
  have e2 : (x.take (k + 1)).length = k + 1 := by rw [List.length_take]; omega
  have e3 : (b.take i).length = i := by rw [List.length_take]; omega
  unfold setB splice
  rw [e1, e2, List.set_append_right _ _ (by omega), e3, List.set_append_right _ _ (by omega), e1, show i + k - i - k = 0 by omega]
  have e4 : b.drop (i + k) = at0 b (i + k) :: b.drop (i + (k + 1)) := by rw [drop_at0 (by omega)]; rfl
  rw [e4, List.set_cons_zero, take_at0 hk, List.append_assoc, List.singleton_append]
theorem setB_ok {b x : List Int} (hb : Octets b) (hx : Octets x) (i : Nat) : Octets (setB b i x) := (hb.take i).app (hx.app (hb.drop _))
end Go.Proofs.Ytmgendgfdhhgfaa
