/-
  Leases: Left and Cut of package cid; the example of layer 13. Helper of the claims of layer 13. No condition.
-/
import Derived.Test.YthjkjohmaemmiaaCd2
import Derived.BigRegion
namespace Go.Proofs.Ythjkjohmaemmiaa
open Go.ChangeShapes Go.WideShapes Go.ChangeAt Go.RowKit
set_option linter.unusedSimpArgs false
set_option linter.unusedVariables false
set_option maxRecDepth 100000
def lleft (a b : Nat) : Nat := b - a
set_option maxHeartbeats 400000 in
theorem cleft (a b : Nat) (hb : b < 18446744073709551616) (w : World) : Calls Try.prog 36 #[.agg #[.int .u64 (a : Int), .int .u64 (b : Int)]] w fun e w' => e = .returned (.int .u64 ((lleft a b : Nat) : Int)) ∧ Below w.heap.size w w' := by
  unfold lleft
  have hb0 : Below w.heap.size w (w.alloc (.cells #[.int .u64 (a : Int), .int .u64 (b : Int)] 66)) := (Below.refl _ _).alloc (Nat.le_refl _) _
  by_cases h : b ≤ a
  · rw [show b - a = 0 from by omega]
    have g : (b : Int) ≤ (a : Int) := by omega
    go_enter Try.func36, Try.ntmps36
    go_wp2_with fail
    go_ret
    exact ⟨rfl, hb0⟩
  · have g : ¬ (b : Int) ≤ (a : Int) := by omega
    have e1 : (b : Int) - (a : Int) = ((b - a : Nat) : Int) := by omega
    have e2 : IntKind.u64.wrap ((b : Int) - (a : Int)) = ((b - a : Nat) : Int) := by rw [IntKind.wrap_u64]; omega
    generalize b - a = d at *
    go_enter Try.func36, Try.ntmps36
    go_wp2_with fail
    go_ret
    exact ⟨rfl, hb0⟩
set_option maxHeartbeats 2000000 in
theorem cut_yes (a b n : Nat) (hb : b < 18446744073709551616) (hn : n < 18446744073709551616) (h : n ≤ lleft a b) (h2 : n = 0 ∨ a ≤ b) (ha : a < 18446744073709551616) (w : World) : Calls Try.prog 35 #[.agg #[.int .u64 (a : Int), .int .u64 (b : Int)], .int .u64 (n : Int)] w fun e w' => e = .returned (.tuple #[.agg #[.int .u64 (a : Int), .int .u64 ((a + n : Nat) : Int)], .agg #[.int .u64 ((a + n : Nat) : Int), .int .u64 (b : Int)], .int .i64 0]) ∧ Below w.heap.size w w' := by
  have LT := hide (fun W => cleft a b hb W)
  have g1 : ¬ (lleft a b : Int) < (n : Int) := by omega
  have e0 : a + n < 18446744073709551616 := by unfold lleft at h; omega
  have e1 : (a : Int) + (n : Int) = ((a + n : Nat) : Int) := by omega
  have e2 : IntKind.u64.wrap ((a : Int) + (n : Int)) = ((a + n : Nat) : Int) := by rw [IntKind.wrap_u64]; omega
  clear h h2
  generalize a + n = s at *
  generalize lleft a b = lf at *
  have HB0 := Lib.hid (show Below w.heap.size w (((w.alloc (.cells #[.int .u64 (a : Int), .int .u64 (b : Int)] 66)).alloc (.cells #[.int .u64 0, .int .u64 0] 66)).alloc (.cells #[.int .u64 0, .int .u64 0] 66)) from (((Below.refl _ _).alloc (Nat.le_refl _) _).alloc (by simp) _).alloc (by simp; omega) _)
  have A0 := Lib.hid (((Is.new w 66 #[.int .u64 (a : Int), .int .u64 (b : Int)]).alloc (.cells #[.int .u64 0, .int .u64 0] 66)).alloc (.cells #[.int .u64 0, .int .u64 0] 66))
  have B0 := (Is.new (w.alloc (.cells #[.int .u64 (a : Int), .int .u64 (b : Int)] 66)) 66 #[.int .u64 0, .int .u64 0]).alloc (.cells #[.int .u64 0, .int .u64 0] 66)
  have C0 := Is.new ((w.alloc (.cells #[.int .u64 (a : Int), .int .u64 (b : Int)] 66)).alloc (.cells #[.int .u64 0, .int .u64 0] 66)) 66 #[.int .u64 0, .int .u64 0]
  rw [show (w.alloc (.cells #[.int .u64 (a : Int), .int .u64 (b : Int)] 66)).heap.size = w.heap.size + 1 from by simp] at B0
  rw [show ((w.alloc (.cells #[.int .u64 (a : Int), .int .u64 (b : Int)] 66)).alloc (.cells #[.int .u64 0, .int .u64 0] 66)).heap.size = w.heap.size + 1 + 1 from by simp] at C0
  go_enter Try.func35, Try.ntmps35
  go_wp2_with fail
  generalize (((w.alloc (.cells #[.int .u64 (a : Int), .int .u64 (b : Int)] 66)).alloc (.cells #[.int .u64 0, .int .u64 0] 66)).alloc (.cells #[.int .u64 0, .int .u64 0] 66)) = V at *
  refine (unhide LT _).mono ?_
  rintro e w1 ⟨rfl, hb⟩
  have HB1 := Lib.hid (HB0.out.trans (hb.mono HB0.out.size)); have A1 := A0.out.below hb A0.out.lt; have B1 := B0.below hb B0.lt; have C1 := C0.below hb C0.lt
  clear hb HB0 A0 B0 C0
  have a0 := A1.cell 0; have a1 := A1.cell 1; have b0 := B1.cell 0; have b1 := B1.cell 1; have c0 := C1.cell 0; have c1 := C1.cell 1
  have y0 := B1.free 0; have y1 := B1.free 1; have z0 := C1.free 0; have z1 := C1.free 1
  simp at a0 a1 b0 b1 c0 c1
  clear A1 B1 C1
  go_wp2_with fail
  go_region
  all_goals (
    go_wp2_with fail
    refine bodyPost_ret (v := .tuple #[.agg #[.int .u64 (a : Int), .int .u64 (s : Int)], .agg #[.int .u64 (s : Int), .int .u64 (b : Int)], .int .i64 0]) (by simp [results, Try.results35, go_sem, b0, b1, c0, c1]) rfl ⟨rfl, ?_⟩
    repeat' first | with_reducible exact HB1.out | with_reducible apply Below.set1 | with_reducible apply Below.drew
    all_goals omega)
set_option maxHeartbeats 2000000 in
theorem cut_no (a b n : Nat) (hb : b < 18446744073709551616) (hn : n < 18446744073709551616) (h : lleft a b < n) (w : World) : Calls Try.prog 35 #[.agg #[.int .u64 (a : Int), .int .u64 (b : Int)], .int .u64 (n : Int)] w fun e w' => e = .returned (.tuple #[.agg #[.int .u64 0, .int .u64 0], .agg #[.int .u64 (a : Int), .int .u64 (b : Int)], .int .i64 6]) ∧ Below w.heap.size w w' := by
  have LT := hide (fun W => cleft a b hb W)
  have g1 : (lleft a b : Int) < (n : Int) := by omega
  clear h
  generalize lleft a b = lf at *
  have HB0 := Lib.hid (show Below w.heap.size w (((w.alloc (.cells #[.int .u64 (a : Int), .int .u64 (b : Int)] 66)).alloc (.cells #[.int .u64 0, .int .u64 0] 66)).alloc (.cells #[.int .u64 0, .int .u64 0] 66)) from (((Below.refl _ _).alloc (Nat.le_refl _) _).alloc (by simp) _).alloc (by simp; omega) _)
  have A0 := Lib.hid (((Is.new w 66 #[.int .u64 (a : Int), .int .u64 (b : Int)]).alloc (.cells #[.int .u64 0, .int .u64 0] 66)).alloc (.cells #[.int .u64 0, .int .u64 0] 66))
  have B0 := (Is.new (w.alloc (.cells #[.int .u64 (a : Int), .int .u64 (b : Int)] 66)) 66 #[.int .u64 0, .int .u64 0]).alloc (.cells #[.int .u64 0, .int .u64 0] 66)
  have C0 := Is.new ((w.alloc (.cells #[.int .u64 (a : Int), .int .u64 (b : Int)] 66)).alloc (.cells #[.int .u64 0, .int .u64 0] 66)) 66 #[.int .u64 0, .int .u64 0]
  rw [show (w.alloc (.cells #[.int .u64 (a : Int), .int .u64 (b : Int)] 66)).heap.size = w.heap.size + 1 from by simp] at B0
  rw [show ((w.alloc (.cells #[.int .u64 (a : Int), .int .u64 (b : Int)] 66)).alloc (.cells #[.int .u64 0, .int .u64 0] 66)).heap.size = w.heap.size + 1 + 1 from by simp] at C0
  go_enter Try.func35, Try.ntmps35
  go_wp2_with fail
  generalize (((w.alloc (.cells #[.int .u64 (a : Int), .int .u64 (b : Int)] 66)).alloc (.cells #[.int .u64 0, .int .u64 0] 66)).alloc (.cells #[.int .u64 0, .int .u64 0] 66)) = V at *
  refine (unhide LT _).mono ?_
  rintro e w1 ⟨rfl, hb⟩
  have HB1 := Lib.hid (HB0.out.trans (hb.mono HB0.out.size)); have A1 := A0.out.below hb A0.out.lt; have B1 := B0.below hb B0.lt; have C1 := C0.below hb C0.lt
  clear hb HB0 A0 B0 C0
  have a0 := A1.cell 0; have a1 := A1.cell 1; have b0 := B1.cell 0; have b1 := B1.cell 1; have c0 := C1.cell 0; have c1 := C1.cell 1
  have y0 := B1.free 0; have y1 := B1.free 1; have z0 := C1.free 0; have z1 := C1.free 1
  simp at a0 a1 b0 b1 c0 c1
  clear A1 B1 C1
  go_wp2_with fail
  go_region
  all_goals (
    go_wp2_with fail
    refine bodyPost_ret (v := .tuple #[.agg #[.int .u64 0, .int .u64 0], .agg #[.int .u64 (a : Int), .int .u64 (b : Int)], .int .i64 6]) (by simp [results, Try.results35, go_sem, b0, b1, c0, c1]) rfl ⟨rfl, ?_⟩
    repeat' first | with_reducible exact HB1.out | with_reducible apply Below.set1 | with_reducible apply Below.drew
    all_goals omega)
end Go.Proofs.Ythjkjohmaemmiaa
