/-
  What was written of a segment is read back. Helper of the claim TcpWrites. No condition.
-/
import Derived.Test.YtkgmgmlicgjfdaaTw2
import Derived.Test.YtkgmgmlicgjfdaaTcpP
import Derived.Test.YtkgmgmlicgjfdaaTcpA
namespace Go.Proofs.Ytkgmgmlicgjfdaa
open Go.ChangeShapes Go.WideShapes Go.ChangeAt Go.RowKit
set_option linter.unusedVariables false
set_option maxRecDepth 100000
theorem hd6_ok (xa xb xs xk xf xn xm xg m : Nat) : Octets (hd6 xa xb xs xk xf xn xm xg m) := by
  unfold hd6
  exact ((((((((be_ok _ _).app (be_ok _ _)).app (be_ok _ _)).app (be_ok _ _)).app (be_ok _ _)).app (be_ok _ _)).app (be_ok _ _)).app (be_ok _ _)).app (be_ok _ _)
set_option maxHeartbeats 1000000 in
theorem parse_back (xa xb xs xk xf xn xm xg : Nat) (o l : List Int) (i j m : Nat) (v : Value) (w : World) (hi : i = 4 * m) (hm : m ≤ 10) (hj : j ≤ 2000) (ba : xa ≤ 65535) (bb : xb ≤ 65535) (bs : xs ≤ 4294967295) (bk : xk ≤ 4294967295) (bf : xf ≤ 255) (bn : xn ≤ 65535) (bm : xm ≤ 65535) (bg : xg ≤ 65535) (h1 : o.length = i) (h2 : l.length = j) (ho : Octets o) (hl : Octets l)
    (hv : IsB (hd6 xa xb xs xk xf xn xm xg m ++ o ++ l) (20 + i + j) v w) : Calls Try.prog 30 #[v] w (Sg w xa xb xs xk xf xn xm xg o i l j 0) := by
  have hlen : (hd6 xa xb xs xk xf xn xm xg m ++ o ++ l).length = 20 + i + j := by rw [List.length_append, List.length_append, hd6_len, h1, h2]
  have hok : Octets (hd6 xa xb xs xk xf xn xm xg m ++ o ++ l) := ((hd6_ok _ _ _ _ _ _ _ _ _).app ho).app hl
  obtain ⟨A, c, rfl⟩ := hv.shape
  have e0 : at0 (hd6 xa xb xs xk xf xn xm xg m ++ o ++ l) 0 = ((xa / 256 ^ 1 % 256 : Nat) : Int) := rfl
  have e1 : at0 (hd6 xa xb xs xk xf xn xm xg m ++ o ++ l) 1 = ((xa / 256 ^ 0 % 256 : Nat) : Int) := rfl
  have n0 : nw (hd6 xa xb xs xk xf xn xm xg m ++ o ++ l) 0 2 = (xa : Int) := (nw_two (by omega) hok).trans (by (try simp only [Nat.reduceAdd]); rw [e0, e1]; omega)
  have e2 : at0 (hd6 xa xb xs xk xf xn xm xg m ++ o ++ l) 2 = ((xb / 256 ^ 1 % 256 : Nat) : Int) := rfl
  have e3 : at0 (hd6 xa xb xs xk xf xn xm xg m ++ o ++ l) 3 = ((xb / 256 ^ 0 % 256 : Nat) : Int) := rfl
  have n2 : nw (hd6 xa xb xs xk xf xn xm xg m ++ o ++ l) 2 2 = (xb : Int) := (nw_two (by omega) hok).trans (by (try simp only [Nat.reduceAdd]); rw [e2, e3]; omega)
  have e4 : at0 (hd6 xa xb xs xk xf xn xm xg m ++ o ++ l) 4 = ((xs / 256 ^ 3 % 256 : Nat) : Int) := rfl
  have e5 : at0 (hd6 xa xb xs xk xf xn xm xg m ++ o ++ l) 5 = ((xs / 256 ^ 2 % 256 : Nat) : Int) := rfl
  have e6 : at0 (hd6 xa xb xs xk xf xn xm xg m ++ o ++ l) 6 = ((xs / 256 ^ 1 % 256 : Nat) : Int) := rfl
  have e7 : at0 (hd6 xa xb xs xk xf xn xm xg m ++ o ++ l) 7 = ((xs / 256 ^ 0 % 256 : Nat) : Int) := rfl
  have n4 : nw (hd6 xa xb xs xk xf xn xm xg m ++ o ++ l) 4 4 = (xs : Int) := (nw_four (by omega) hok).trans (by (try simp only [Nat.reduceAdd]); rw [e4, e5, e6, e7]; omega)
  have e8 : at0 (hd6 xa xb xs xk xf xn xm xg m ++ o ++ l) 8 = ((xk / 256 ^ 3 % 256 : Nat) : Int) := rfl
  have e9 : at0 (hd6 xa xb xs xk xf xn xm xg m ++ o ++ l) 9 = ((xk / 256 ^ 2 % 256 : Nat) : Int) := rfl
  have e10 : at0 (hd6 xa xb xs xk xf xn xm xg m ++ o ++ l) 10 = ((xk / 256 ^ 1 % 256 : Nat) : Int) := rfl
  have e11 : at0 (hd6 xa xb xs xk xf xn xm xg m ++ o ++ l) 11 = ((xk / 256 ^ 0 % 256 : Nat) : Int) := rfl
  have n8 : nw (hd6 xa xb xs xk xf xn xm xg m ++ o ++ l) 8 4 = (xk : Int) := (nw_four (by omega) hok).trans (by (try simp only [Nat.reduceAdd]); rw [e8, e9, e10, e11]; omega)
  have e13 : at0 (hd6 xa xb xs xk xf xn xm xg m ++ o ++ l) 13 = ((xf / 256 ^ 0 % 256 : Nat) : Int) := rfl
  have n13 : nw (hd6 xa xb xs xk xf xn xm xg m ++ o ++ l) 13 1 = (xf : Int) := (nw_one (by omega) hok).trans (by (try simp only [Nat.reduceAdd]); rw [e13]; omega)
  have e14 : at0 (hd6 xa xb xs xk xf xn xm xg m ++ o ++ l) 14 = ((xn / 256 ^ 1 % 256 : Nat) : Int) := rfl
  have e15 : at0 (hd6 xa xb xs xk xf xn xm xg m ++ o ++ l) 15 = ((xn / 256 ^ 0 % 256 : Nat) : Int) := rfl
  have n14 : nw (hd6 xa xb xs xk xf xn xm xg m ++ o ++ l) 14 2 = (xn : Int) := (nw_two (by omega) hok).trans (by (try simp only [Nat.reduceAdd]); rw [e14, e15]; omega)
  have e16 : at0 (hd6 xa xb xs xk xf xn xm xg m ++ o ++ l) 16 = ((xm / 256 ^ 1 % 256 : Nat) : Int) := rfl
  have e17 : at0 (hd6 xa xb xs xk xf xn xm xg m ++ o ++ l) 17 = ((xm / 256 ^ 0 % 256 : Nat) : Int) := rfl
  have n16 : nw (hd6 xa xb xs xk xf xn xm xg m ++ o ++ l) 16 2 = (xm : Int) := (nw_two (by omega) hok).trans (by (try simp only [Nat.reduceAdd]); rw [e16, e17]; omega)
  have e18 : at0 (hd6 xa xb xs xk xf xn xm xg m ++ o ++ l) 18 = ((xg / 256 ^ 1 % 256 : Nat) : Int) := rfl
  have e19 : at0 (hd6 xa xb xs xk xf xn xm xg m ++ o ++ l) 19 = ((xg / 256 ^ 0 % 256 : Nat) : Int) := rfl
  have n18 : nw (hd6 xa xb xs xk xf xn xm xg m ++ o ++ l) 18 2 = (xg : Int) := (nw_two (by omega) hok).trans (by (try simp only [Nat.reduceAdd]); rw [e18, e19]; omega)
  have e12 : at0 (hd6 xa xb xs xk xf xn xm xg m ++ o ++ l) 12 = (((80 + 16 * m) / 256 ^ 0 % 256 : Nat) : Int) := rfl
  have d1 : ((hd6 xa xb xs xk xf xn xm xg m ++ o ++ l).drop 20).take i = o := by
    rw [List.append_assoc, List.drop_append_of_le_length (by rw [hd6_len]; exact Nat.le_refl _), List.drop_of_length_le (by rw [hd6_len]; exact Nat.le_refl _), List.nil_append, List.take_append_of_le_length (by omega), List.take_of_length_le (by omega)]
  have d2 : (hd6 xa xb xs xk xf xn xm xg m ++ o ++ l).drop (20 + i) = l := by
    rw [List.drop_append_of_le_length (by rw [List.length_append, hd6_len]; omega), List.drop_of_length_le (by rw [List.length_append, hd6_len]; omega), List.nil_append]
  have h := fun (hi' : IsB (hd6 xa xb xs xk xf xn xm xg m ++ o ++ l) (hd6 xa xb xs xk xf xn xm xg m ++ o ++ l).length (.slice A (hd6 xa xb xs xk xf xn xm xg m ++ o ++ l).length c) w) => tparse_ok A c (hd6 xa xb xs xk xf xn xm xg m ++ o ++ l) (80 + 16 * (m : Int)) w hi' hok (by omega) i j (by rw [e12]; omega) (by omega) (by omega) (by omega)
  rw [hlen, n0, n2, n4, n8, n13, n14, n16, n18, d1, d2] at h
  exact h hv
end Go.Proofs.Ytkgmgmlicgjfdaa
