/-
  The least loaded candidate, and the names of the policies: what the calls return. Helper of the claims on layers 20 and 21. No condition.
-/
import Derived.Test.YtkebgkjopfdafaaTurn
namespace Go.Proofs.Ytkebgkjopfdafaa
open Go.ChangeShapes Go.WideShapes Go.ChangeAt Go.RowKit
set_option linter.unusedVariables false
set_option maxRecDepth 100000
theorem hide0 {p : Prop} (h : p) : Hid p := h
theorem set1c {B : Nat} {u w : World} (h : Below B u w) {g i : Nat} (hg : B ≤ g) (v : Value) : Below B u (w.setCell ⟨g, i, none⟩ v) := h.setCell hg v
/-- Which of the first k candidates is the least loaded one, the earliest of equals. -/
def bestTo (l : List Cand) : Nat → Nat | 0 => 0 | k + 1 => if (nth l k).load < (nth l (bestTo l k)).load then k else bestTo l k
def LeastRel (w : World) (l : List Cand) (i : Value) (wr : World) : Prop :=
  ∃ k : Nat, k ≤ l.length ∧ i = .int .i64 k ∧ Below w.heap.size w wr ∧ Is wr w.heap.size 29 #[.int .i64 0, .int .i64 0, .int .i64 0, .int .u32 0] ∧ Is wr (w.heap.size + 1) 29 (nth l (bestTo l k)).cells
set_option maxHeartbeats 2000000 in
theorem least_any (A : Option Addr) (c : Nat) (l : List Cand) (w : World) (h : Cands w w.heap.size A l) (hm : l.length ≤ maxLen) (h0 : 0 < l.length) :
    Calls Try.prog 37 #[.slice A l.length c] w fun e w' => e = .returned (.tuple #[(nth l (bestTo l l.length)).val, .bool true]) ∧ Below w.heap.size w w' := by
  unfold maxLen at hm
  obtain ⟨b, off, rfl, hb, hc⟩ := h h0
  obtain ⟨c0, c1, c2, c3⟩ := cell4 h0 hc
  simp at c0 c1 c2 c3
  have hn0 : ((l.length : Int) == 0) = false := by rw [beq_eq_false_iff_ne]; omega
  have HC := Lib.hid hc
  clear hc h
  go_enter Try.func37, Try.ntmps37
  go_wp2
  go_loopw [16] (fun i wr => LeastRel w l i wr) (fun i _ => l.length - (intOf i).toNat)
  case atStart =>
    exact ⟨0, Nat.zero_le _, rfl, ((Below.refl _ _).alloc (Nat.le_refl _) _).alloc (by simp) _, (Is.new _ _ _).alloc _, by simpa [Cand.cells, bestTo] using Is.new (w.alloc (.cells #[.int .i64 0, .int .i64 0, .int .i64 0, .int .u32 0] 29)) 29 (nth l 0).cells⟩
  case round =>
    obtain ⟨k, hk, rfl, hbel, hz, hp⟩ := hrel
    have z0 := hz.cell 0
    have z1 := hz.cell 1
    have z2 := hz.cell 2
    have z3 := hz.cell 3
    have y := hz.free
    have p0 := hp.cell 0
    have p1 := hp.cell 1
    have p2 := hp.cell 2
    have p3 := hp.cell 3
    have q := hp.free
    simp [Cand.cells] at z0 z1 z2 z3 p0 p1 p2 p3 y q
    have zl := hz.lt
    have pl := hp.lt
    have HZ := Lib.hid hz
    have HP := Lib.hid hp
    have HB := Lib.hid hbel
    clear hz hp hbel c0 c1 c2 c3
    by_cases hlt : k < l.length
    · obtain ⟨c0, c1, c2, c3⟩ := cell4 hlt HC.out
      have d0 := (HB.out.cell (p := ⟨b, off + k * 4, none⟩) hb).trans c0
      have d1 := (HB.out.cell (p := ⟨b, off + k * 4 + 1, none⟩) hb).trans c1
      have d2 := (HB.out.cell (p := ⟨b, off + k * 4 + 2, none⟩) hb).trans c2
      have d3 := (HB.out.cell (p := ⟨b, off + k * 4 + 3, none⟩) hb).trans c3
      have HS := Lib.hid (show bestTo l (k + 1) = if (nth l k).load < (nth l (bestTo l k)).load then k else bestTo l k from rfl)
      clear c0 c1 c2 c3
      have hbl : b < wr.heap.size := by omega
      by_cases hs : (nth l k).load < (nth l (bestTo l k)).load
      · go_wp2
        go_roundw
        case rel =>
          refine ⟨k + 1, by omega, by go_num, ?_, ?_, ?_⟩
          · have ob := HB.out
            have obs := HB.out.size
            repeat' first | with_reducible exact ob | with_reducible apply set1c | with_reducible refine Below.alloc ?_ ?_ _
            all_goals (first | omega | (simp; omega))
          · have ob := HZ.out
            repeat' first | with_reducible exact ob | with_reducible apply Is.other | with_reducible apply Is.alloc
            all_goals (show w.heap.size ≠ w.heap.size + 1; omega)
          · rw [HS.out, if_pos hs]
            have hp9 : Is wr (w.heap.size + 1) 29 #[.int .i64 (nth l (bestTo l k)).slot, .int .i64 (nth l (bestTo l k)).backend, .int .i64 (nth l (bestTo l k)).weight, .int .u32 (nth l (bestTo l k)).load] := HP.out
            have h9 := ((((hp9.put 0 (.int .i64 (nth l k).slot)).put 1 (.int .i64 (nth l k).backend)).put 2 (.int .i64 (nth l k).weight)).put 3 (.int .u32 (nth l k).load)).alloc (.cells #[.int .i64 (nth l k).slot, .int .i64 (nth l k).backend, .int .i64 (nth l k).weight, .int .u32 (nth l k).load] 29)
            simp only [List.setIfInBounds_toArray, List.set_cons_zero, List.set_cons_succ] at h9
            exact h9
        case measure => simp [intOf]; omega
      · go_wp2
        go_roundw
        case rel =>
          exact ⟨k + 1, by omega, by go_num, HB.out.alloc HB.out.size _, HZ.out.alloc _, by rw [HS.out, if_neg hs]; exact HP.out.alloc _⟩
        case measure => simp [intOf]; omega
    · obtain rfl : k = l.length := by omega
      go_wp2
      refine bodyPost_ret (v := .tuple #[(nth l (bestTo l l.length)).val, .bool true]) (by simp [results, Try.results37, go_sem, Cand.val, z0, z1, z2, z3]) rfl ⟨rfl, ?_⟩
      have ob := HB.out
      repeat' first | with_reducible exact ob | with_reducible apply set1c
      all_goals omega

/-- The names. -/
def pname (k : Int) : ByteArray := if k = 1 then ⟨#[116, 117, 114, 110, 115]⟩ else if k = 2 then ⟨#[119, 101, 105, 103, 104, 116, 115]⟩ else if k = 3 then ⟨#[108, 111, 97, 100, 115]⟩ else if k = 4 then ⟨#[100, 114, 97, 119, 115]⟩ else ⟨#[]⟩
theorem ways5 (k : Int) : k < 1 ∨ 4 < k ∨ k = 1 ∨ k = 2 ∨ k = 3 ∨ k = 4 := by omega
theorem pname_out {k : Int} (h : k < 1 ∨ 4 < k) : pname k = ⟨#[]⟩ := by
  unfold pname; rw [if_neg (by omega), if_neg (by omega), if_neg (by omega), if_neg (by omega)]
set_option maxHeartbeats 1000000 in
theorem name_any (k : Int) (w : World) : Calls Try.prog 42 #[.int .i64 k] w fun e w' => e = .returned (.string (pname k)) ∧ w = w' := by
  rcases ways5 k with h | h | rfl | rfl | rfl | rfl
  · rw [pname_out (.inl h)]
    go_enter Try.func42, Try.ntmps42
    have e1 : (k == 1) = false := by rw [beq_eq_false_iff_ne]; omega
    have e2 : (k == 2) = false := by rw [beq_eq_false_iff_ne]; omega
    have e3 : (k == 3) = false := by rw [beq_eq_false_iff_ne]; omega
    have e4 : (k == 4) = false := by rw [beq_eq_false_iff_ne]; omega
    go_wp2_with fail
    go_ret
    exact ⟨rfl, rfl⟩
  · rw [pname_out (.inr h)]
    go_enter Try.func42, Try.ntmps42
    have e1 : (k == 1) = false := by rw [beq_eq_false_iff_ne]; omega
    have e2 : (k == 2) = false := by rw [beq_eq_false_iff_ne]; omega
    have e3 : (k == 3) = false := by rw [beq_eq_false_iff_ne]; omega
    have e4 : (k == 4) = false := by rw [beq_eq_false_iff_ne]; omega
    go_wp2_with fail
    go_ret
    exact ⟨rfl, rfl⟩
  all_goals
    go_enter Try.func42, Try.ntmps42
    go_wp2_with fail
    go_ret
    exact ⟨rfl, rfl⟩
set_option maxHeartbeats 1000000 in
theorem rname_any (k : Int) (w : World) : Calls Try.prog 40 #[.int .i64 k] w fun e w' => e = .returned (.string (pname k)) ∧ Below w.heap.size w w' := by
  rcases ways5 k with h | h | rfl | rfl | rfl | rfl
  · rw [pname_out (.inl h)]
    go_enter Try.func40, Try.ntmps40
    go_wp2_with fail
    go_ret
    exact ⟨rfl, (Below.refl _ _).alloc (Nat.le_refl _) _⟩
  · rw [pname_out (.inr h)]
    go_enter Try.func40, Try.ntmps40
    go_wp2_with fail
    go_ret
    exact ⟨rfl, (Below.refl _ _).alloc (Nat.le_refl _) _⟩
  all_goals
    go_enter Try.func40, Try.ntmps40
    go_wp2_with fail
    go_ret
    exact ⟨rfl, (Below.refl _ _).alloc (Nat.le_refl _) _⟩
end Go.Proofs.Ytkebgkjopfdafaa
