/-
  Set, Equal and the example of layer 1: what each call returns. Helper of the claims.
-/
import Derived.Test.YtkdcaipadejchaaRd
import Derived.Test.YtkdcaipadejchaaRef01
import Derived.Deep.RegionHeld3
import Derived.Deep.RegionLaw
namespace Go.Proofs.Ytkdcaipadejchaa
open Go.ChangeShapes Go.WideShapes Go.ChangeAt Go.RowKit
set_option linter.unusedSimpArgs false
set_option linter.unusedVariables false

set_option maxRecDepth 100000 in
set_option maxHeartbeats 1000000 in
theorem equal_any (A X : Option Addr) (c d : Nat) (l x : List Int) (w : World) (B B' : Nat) (h : Bytes w B A l) (hx : Bytes w B' X x) :
    Calls Try.prog 62 #[.slice A l.length c, .slice X x.length d] w fun e w' => e = .returned (.bool ((strOfNums l).toList == (strOfNums x).toList)) ∧ w = w' := by
  have h1 := convert_bytes (P := Try.prog) h c 22 5 9 Try.underlying22 Try.underlying5 Try.underlying9
  have h2 := convert_bytes (P := Try.prog) hx d 22 5 9 Try.underlying22 Try.underlying5 Try.underlying9
  clear h hx
  go_enter Try.func62, Try.ntmps62
  go_wp2_with fail
  go_ret
  exact ⟨ret_bool rfl, rfl⟩
set_option maxRecDepth 100000 in
set_option maxHeartbeats 1000000 in
theorem oequal_any (A X : Option Addr) (c d : Nat) (l x : List Int) (w : World) (B B' : Nat) (h : Bytes w B A l) (hx : Bytes w B' X x) :
    Calls Try.prog 21 #[.slice A l.length c, .slice X x.length d] w fun e w' => e = .returned (.bool ((strOfNums l).toList == (strOfNums x).toList)) ∧ w = w' := by
  have HA := Lib.hid h; have HX := Lib.hid hx
  clear h hx
  go_enter Try.func21, Try.ntmps21
  go_wp2_with fail
  refine (equal_any A X c d l x w B B' HA.out HX.out).mono ?_
  rintro e w' ⟨rfl, rfl⟩
  go_wp2_with fail
  go_ret
  exact ⟨rfl, rfl⟩
set_option maxRecDepth 100000 in
set_option maxHeartbeats 2000000 in
theorem set_ok (A : Option Addr) (c : Nat) (l : List Int) (i n k : Nat) (w : World) (h : Bytes w w.heap.size A l) (hm : l.length ≤ 80000000) (hn : n < 18446744073709551616) (k0 : 1 ≤ k) (k8 : k ≤ 8) (hi : i + k ≤ l.length) :
    Calls Try.prog 16 #[.slice A l.length c, .int .i64 (i : Int), .int .u64 (n : Int), .int .i64 (k : Int)] w fun e w' => ∃ A c, e = .returned (.tuple #[.slice A l.length c, .int .i64 0]) ∧ OwnB w' w.heap.size (.slice A l.length c) (setB l i (be n k)) ∧ Below w.heap.size w w' := by
  have HA := Lib.hid h
  have hmk := fun W => make_bytes W l.length l.length (l.length : Int) (l.length : Int) rfl rfl (by omega) (by omega)
  have a1 : ¬ ((k : Int) < 1) := by omega
  have a2 : ¬ (8 < (k : Int)) := by omega
  have a3 : ¬ ((i : Int) < 0) := by omega
  have a4 : ¬ ((l.length : Int) - (k : Int) < (i : Int)) := by omega
  clear h
  go_enter Try.func16, Try.ntmps16
  go_wp2_with (with_reducible show wpList _ _ _ (⟨some 34, _, _, _, _, _⟩ :: _) _ _; refine wpList_copy_splice rfl (.tmp 32) (.tmp 33) 22 22 rfl 5 Try.underlying22 (by kernel_rfl) (some ⟨w.heap.size, 0, none⟩) A l.length l.length l.length c rfl rfl w.heap.size 0 _ 5 (zeros_new w _) (u8s l) (by simp [u8s]) (fun h0 => ⟨rfl, (HA.out.alloc (Nat.le_refl _) _).src h0⟩) (by simp [u8s]) (u8s_one l) w.heap.size w ((Below.refl _ w).alloc (Nat.le_refl _) _) (Nat.le_refl _) ?_; intro w1 hg1 hb1)
  have ho1 : OwnB w1 w.heap.size (.slice (some ⟨w.heap.size, 0, none⟩) l.length l.length) l := own_mk (by have := hg1.out; rw [splice_head0] at this; exact this) (Nat.le_refl _) rfl (by omega) (by unfold maxLen; omega) (by simp [u8s]) (List.take_of_length_le (by simp [u8s]))
  have hcur : w1.heap[w.heap.size]? = some (.cells (u8s l).toArray 5 (0, 0)) := by have := hg1.out; rw [splice_head0] at this; exact this
  have hput := fun W => put_nil n (k : Int) k W hn (by omega) (by omega) (sz8_mid k8)
  have hne : ¬ l.length = i := by omega
  have hil : i ≤ l.length := by omega
  have HP := hide hput; have HC := Lib.hid hcur; have HB := Lib.hid hb1
  have hz : w.heap.size < w1.heap.size := by
    apply Decidable.byContradiction; intro hx
    rw [Array.getElem?_eq_none (by omega)] at hcur; cases hcur
  clear hg1 hb1 ho1 hcur hput hmk
  go_region_law (first | (go_simp; go_at_call 19; refine (unhide HP _).mono ?_; rintro e w2 ⟨A2, c2, rfl, ho2, hb2⟩) | (go_loud (refine step_copy_splice rfl (.tmp 37) (.tmp 40) 22 22 rfl 5 Try.underlying22 (by kernel_rfl) (some ⟨w.heap.size, i, none⟩) A2 (l.length - i) (l.length - i) k c2 rfl rfl w.heap.size i (u8s l) 5 (by rw [hb2.block w.heap.size hz]; exact HC.out) (u8s (be n k)) (by rw [u8s_len, be_len]; exact (Nat.min_eq_left (by omega)).symm) (fun h0 => ⟨rfl, (ho2.bytes).src h0⟩) (by simp [u8s, be_len]; omega) (u8s_one _) w.heap.size w (HB.out.drew.trans (hb2.mono (Nat.le_of_lt hz))) (Nat.le_refl _) ?_); intro w3 hg3 hb3))
  have e0 := setB_len l i (be n k) (by rw [be_len]; exact hi)
  have ho3 : OwnB w3 w.heap.size (.slice (some ⟨w.heap.size, 0, none⟩) l.length l.length) (setB l i (be n k)) := own_mk (cur := splice (u8s l) i (u8s (be n k))) hg3.out (Nat.le_refl _) e0 (Nat.le_refl _) (by unfold maxLen; omega) (by rw [length_splice _ _ _ (by rw [u8s_len, u8s_len, be_len]; exact hi), u8s_len])
    (by rw [u8s_splice]; exact List.take_of_length_le (by rw [u8s_len]; exact Nat.le_of_eq e0))
  have HO := Lib.hid ho3; have HB3 := Lib.hid hb3
  clear ho3 hb3 hg3 hb2 ho2 e0
  go_wp2_with fail
  go_ret2
  exact ⟨_, _, rfl, HO.out, HB3.out⟩
set_option maxRecDepth 100000 in
set_option maxHeartbeats 2000000 in
theorem set_bad (A : Option Addr) (c : Nat) (l : List Int) (i n k : Int) (w : World) (hm : l.length ≤ 80000000) (hi : k < 1 ∨ (1 ≤ k ∧ 8 < k) ∨ (1 ≤ k ∧ k ≤ 8 ∧ i < 0) ∨ (1 ≤ k ∧ k ≤ 8 ∧ 0 ≤ i ∧ (l.length : Int) - k < i)) :
    Calls Try.prog 16 #[.slice A l.length c, .int .i64 i, .int .u64 n, .int .i64 k] w fun e w' => e = .returned (.tuple #[.slice none 0 0, .int .i64 20]) ∧ w = w' := by
  rcases hi with h | ⟨h1, h⟩ | ⟨h1, h2, h⟩ | ⟨h1, h2, h3, h⟩
  all_goals
    go_enter Try.func16, Try.ntmps16
    go_wp2_with fail
    go_ret2
    exact ⟨rfl, rfl⟩
theorem str_self (l : List Int) : ((strOfNums l).toList == (strOfNums l).toList) = true := by simp
set_option maxRecDepth 100000 in
set_option maxHeartbeats 2000000 in
theorem awake01 (w : World) : Calls Try.prog 15 #[] w fun e w' => e = .returned (.bool true) ∧ Below w.heap.size w w' := by
  go_enter Try.func15, Try.ntmps15
  go_wp2_with fail
  refine (put_nil 258 4 4 w (by omega) (by omega) (by omega) (by decide)).mono ?_
  rintro e w1 ⟨A, c, rfl, ho, hb⟩
  rw [show be 258 4 = [0, 0, 1, 2] from by decide] at ho
  have HO := Lib.hid ho; have HB := Lib.hid hb
  clear ho hb
  go_wp2_with fail
  refine (oequal_any A (some ⟨w1.heap.size, 0, none⟩) c 4 [0, 0, 1, 2] [0, 0, 1, 2] _ _ _ (HO.out.bytes.alloc (Nat.le_refl _) _) (Bytes.lit w1 [0, 0, 1, 2])).mono ?_
  rintro e w2 ⟨rfl, rfl⟩
  rw [str_self]
  go_wp2_with fail
  go_ret
  exact ⟨rfl, HB.out.alloc HB.out.size _⟩
theorem equal_p {l x : List Int} {n m : Nat} {v u : Value} {w : World} (h : IsB l n v w) (hx : IsB x m u w) : Calls Try.prog 21 #[v, u] w fun e w'' => ∃ r, e = .returned r ∧ Below w.heap.size w w'' ∧ r = .bool ((strOfNums l).toList == (strOfNums x).toList) := by
  obtain ⟨A, c, rfl, rfl, h2, _⟩ := h
  obtain ⟨X, d, rfl, rfl, h4, _⟩ := hx
  exact (oequal_any A X c d l x w _ _ h2 h4).mono fun e w' ⟨h, h'⟩ => ⟨_, h, by subst h'; exact Below.refl _ _, rfl⟩
theorem awake01_p (w : World) : Calls Try.prog 15 #[] w fun e w'' => ∃ r, e = .returned r ∧ Below w.heap.size w w'' ∧ r = .bool true :=
  (awake01 w).mono fun e w' ⟨h, hb⟩ => ⟨_, h, hb, rfl⟩
end Go.Proofs.Ytkdcaipadejchaa
