/-
  Take of package cid, Left of the reference. Helper of the claim CidLeases. No condition.
-/
import Derived.Test.YthjkjohmaemmiaaCm3
import Derived.BigRegion
namespace Go.Proofs.Ythjkjohmaemmiaa
open Go.ChangeShapes Go.WideShapes Go.ChangeAt Go.RowKit
set_option linter.unusedSimpArgs false
set_option linter.unusedVariables false
set_option maxRecDepth 100000
theorem only_set7 {a w : World} {g i : Nat} (h : a.grownBy w (some g)) (u : Value) : a.grownBy (w.setCell ⟨g, i, none⟩ u) (some g) := only_set h (.inl rfl) u
/-- Bytes don't lie where a lease lies. -/
theorem far_of {l : List Int} {n c g a b : Nat} {A : Option Addr} {w : World} (h : IsB l n (.slice A n c) w) (hz : Is w g 66 #[.int .u64 (a : Int), .int .u64 (b : Int)]) (hn : 0 < n) : ∀ x, A = some x → x.block ≠ g := by
  intro x hx e
  obtain ⟨A', c', e1, h1, h2, _⟩ := h
  injection e1 with e1 e2 e3; subst e1
  obtain ⟨bl, off, hA, _, hc⟩ := h2 (by omega)
  rw [hx] at hA
  injection hA with hA
  subst hA
  have h0 := hc 0 0 (by omega) (by omega)
  simp at h0 e
  rw [e, hz.cell] at h0
  match off, h0 with
  | 0, h0 => simp at h0
  | 1, h0 => simp at h0
  | k + 2, h0 => simp at h0
theorem isb_far {l : List Int} {n c g : Nat} {A : Option Addr} {w w' : World} (h : IsB l n (.slice A n c) w) (hf : ∀ x, A = some x → x.block ≠ g) (hw : w.grownBy w' (some g)) : IsB l n (.slice A n c) w' := by
  obtain ⟨A', c', e1, h1, h2, h3⟩ := h
  have e0 := e1
  injection e1 with e1 e2 e3; subst e1
  refine ⟨A, c', e0, h1, ?_, h3⟩
  exact (Arr.only h2 hw (Nat.le_refl _) (fun b off hA => hf _ hA)).more hw.size
theorem IsB.drew7 {l : List Int} {n : Nat} {v : Value} {w : World} (h : IsB l n v w) : IsB l n v w.drew := h.st (Below.refl _ _).drew
set_option maxHeartbeats 400000 in
theorem rleft13 (a b : Nat) (hb : b < 18446744073709551616) (w : World) : Calls Try.prog 34 #[.int .u64 (a : Int), .int .u64 (b : Int)] w fun e w' => e = .returned (.int .u64 ((lleft a b : Nat) : Int)) ∧ w = w' := by
  unfold lleft
  by_cases h : b ≤ a
  · rw [show b - a = 0 from by omega]
    have g : (b : Int) ≤ (a : Int) := by omega
    go_enter Try.func34, Try.ntmps34
    go_wp2_with fail
    go_ret
    exact ⟨rfl, rfl⟩
  · have g : ¬ (b : Int) ≤ (a : Int) := by omega
    have e1 : (b : Int) - (a : Int) = ((b - a : Nat) : Int) := by omega
    have e2 : IntKind.u64.wrap ((b : Int) - (a : Int)) = ((b - a : Nat) : Int) := by rw [IntKind.wrap_u64]; omega
    generalize b - a = d at *
    go_enter Try.func34, Try.ntmps34
    go_wp2_with fail
    go_ret
    exact ⟨rfl, rfl⟩
theorem idl_ne {kk : List Int} {o1 o2 w1 w2 : Nat} (h1 : o1 < 1099511627776) (h2 : o2 < 1099511627776) (h : o1 ≠ o2) : ¬ (strOfNums (idl kk o1 w1)).toList = (strOfNums (idl kk o2 w2)).toList := by
  intro e
  have hb := eqb_of (idl_ok kk o1 w1) (idl_ok kk o2 w2)
  rw [e] at hb
  simp at hb
  have e5 := congrArg (fun l => nw l 0 5) hb
  simp only [idl_once _ _ _ h1, idl_once _ _ _ h2] at e5
  omega
set_option maxHeartbeats 2000000 in
theorem ctake_none (key : List Int) (hk : key.length = 16) (ho : Octets key) (n : Nat) (hn : n < 18446744073709551616) (a b : Nat) (ha : a < 18446744073709551616) (hb : b < 18446744073709551616) (v s : Int) (h : lleft a b = 0) (w : World) :
    Calls Try.prog 37 #[.agg #[.int .u64 (a : Int), .int .u64 (b : Int)], .agg (rcs key n), .agg #[.int .i64 v, .int .i64 s]] w fun e w' => e = .returned (.tuple #[.slice none 0 0, .agg #[.int .u64 (a : Int), .int .u64 (b : Int)], .int .i64 6]) ∧ Below w.heap.size w w' := by
  have LT := hide (fun W => cleft a b hb W)
  rw [h] at LT
  clear h
  have RSZ := Lib.hid (rcs_size hk n)
  have HB0 := Lib.hid (show Below w.heap.size w ((((w.alloc (.cells #[.int .u64 (a : Int), .int .u64 (b : Int)] 66)).alloc (.cells (rcs key n) 45)).alloc (.cells #[.int .i64 v, .int .i64 s] 41)).alloc (.cells #[.int .u64 0, .int .u64 0] 66)) from ((((Below.refl _ _).alloc (Nat.le_refl _) _).alloc (by simp) _).alloc (by simp; omega) _).alloc (by simp; omega) _)
  have A0 := (((Is.new w 66 #[.int .u64 (a : Int), .int .u64 (b : Int)]).alloc (.cells (rcs key n) 45)).alloc (.cells #[.int .i64 v, .int .i64 s] 41)).alloc (.cells #[.int .u64 0, .int .u64 0] 66)
  have R0 := ((Is.new (w.alloc (.cells #[.int .u64 (a : Int), .int .u64 (b : Int)] 66)) 45 (rcs key n)).alloc (.cells #[.int .i64 v, .int .i64 s] 41)).alloc (.cells #[.int .u64 0, .int .u64 0] 66)
  have P0 := (Is.new ((w.alloc (.cells #[.int .u64 (a : Int), .int .u64 (b : Int)] 66)).alloc (.cells (rcs key n) 45)) 41 #[.int .i64 v, .int .i64 s]).alloc (.cells #[.int .u64 0, .int .u64 0] 66)
  have Z0 := Is.new (((w.alloc (.cells #[.int .u64 (a : Int), .int .u64 (b : Int)] 66)).alloc (.cells (rcs key n) 45)).alloc (.cells #[.int .i64 v, .int .i64 s] 41)) 66 #[.int .u64 0, .int .u64 0]
  rw [show (w.alloc (.cells #[.int .u64 (a : Int), .int .u64 (b : Int)] 66)).heap.size = w.heap.size + 1 from by simp] at R0
  rw [show ((w.alloc (.cells #[.int .u64 (a : Int), .int .u64 (b : Int)] 66)).alloc (.cells (rcs key n) 45)).heap.size = w.heap.size + 1 + 1 from by simp] at P0
  rw [show (((w.alloc (.cells #[.int .u64 (a : Int), .int .u64 (b : Int)] 66)).alloc (.cells (rcs key n) 45)).alloc (.cells #[.int .i64 v, .int .i64 s] 41)).heap.size = w.heap.size + 1 + 1 + 1 from by simp] at Z0
  go_enter Try.func37, Try.ntmps37
  go_wp2_with fail
  generalize ((((w.alloc (.cells #[.int .u64 (a : Int), .int .u64 (b : Int)] 66)).alloc (.cells (rcs key n) 45)).alloc (.cells #[.int .i64 v, .int .i64 s] 41)).alloc (.cells #[.int .u64 0, .int .u64 0] 66)) = V at *
  generalize hg7 : w.heap.size + 1 + 1 + 1 = g7 at *
  generalize hg5 : w.heap.size + 1 + 1 = g5 at *
  generalize hg4 : w.heap.size + 1 = g4 at *
  have G7 := Lib.hid (show w.heap.size < g7 from by omega)
  clear hg4 hg5 hg7
  refine (unhide LT _).mono ?_
  rintro e w1 ⟨rfl, hb⟩
  have HB1 := Lib.hid (HB0.out.trans (hb.mono HB0.out.size)); have A1 := Lib.hid (A0.below hb A0.lt); have R1 := Lib.hid (R0.below hb R0.lt); have P1 := Lib.hid (P0.below hb P0.lt); have Z1 := Lib.hid (Z0.below hb Z0.lt)
  clear hb HB0 A0 R0 P0 Z0
  have a0 := A1.out.cell 0; have a1 := A1.out.cell 1; have z0 := Z1.out.cell 0; have z1 := Z1.out.cell 1; have y0 := Z1.out.free 0; have y1 := Z1.out.free 1
  simp at a0 a1 z0 z1
  clear A1 R1 P1 Z1
  go_wp2_with fail
  go_region
  all_goals (
    go_wp2_with fail
    refine bodyPost_ret (v := .tuple #[.slice none 0 0, .agg #[.int .u64 (a : Int), .int .u64 (b : Int)], .int .i64 6]) (by simp [results, Try.results37, go_sem, z0, z1]) rfl ⟨rfl, ?_⟩
    repeat' first | with_reducible exact HB1.out | with_reducible apply Below.set1 | with_reducible apply Below.drew
    all_goals have := G7.out; omega)
set_option maxHeartbeats 2000000 in
theorem ctake_err (key : List Int) (hk : key.length = 16) (ho : Octets key) (n : Nat) (hn : n < 18446744073709551616) (a b : Nat) (ha : a < 18446744073709551616) (hb : b < 18446744073709551616) (v s : Int) (h : lleft a b ≠ 0) (h2 : (pright v s && decide (a < 1099511627776)) = false) (w : World) :
    Calls Try.prog 37 #[.agg #[.int .u64 (a : Int), .int .u64 (b : Int)], .agg (rcs key n), .agg #[.int .i64 v, .int .i64 s]] w fun e w' => e = .returned (.tuple #[.slice none 0 0, .agg #[.int .u64 (a : Int), .int .u64 (b : Int)], .int .i64 1]) ∧ Below w.heap.size w w' := by
  have MT := hide (fun W => cmake_no key n v s a (by cases hp : pright v s with | false => exact .inl rfl | true => (rw [hp] at h2; simp at h2; exact .inr ⟨rfl, h2⟩)) W)
  have LT := hide (fun W => cleft a b hb W)
  have hnz : ((lleft a b : Nat) : Int) ≠ 0 := by omega
  have hnz2 : (((lleft a b : Nat) : Int) == 0) = false := by rw [beq_eq_false_iff_ne]; exact hnz
  clear hnz h
  generalize lleft a b = lf at *
  have RSZ := Lib.hid (rcs_size hk n)
  have HB0 := Lib.hid (show Below w.heap.size w ((((w.alloc (.cells #[.int .u64 (a : Int), .int .u64 (b : Int)] 66)).alloc (.cells (rcs key n) 45)).alloc (.cells #[.int .i64 v, .int .i64 s] 41)).alloc (.cells #[.int .u64 0, .int .u64 0] 66)) from ((((Below.refl _ _).alloc (Nat.le_refl _) _).alloc (by simp) _).alloc (by simp; omega) _).alloc (by simp; omega) _)
  have A0 := (((Is.new w 66 #[.int .u64 (a : Int), .int .u64 (b : Int)]).alloc (.cells (rcs key n) 45)).alloc (.cells #[.int .i64 v, .int .i64 s] 41)).alloc (.cells #[.int .u64 0, .int .u64 0] 66)
  have R0 := ((Is.new (w.alloc (.cells #[.int .u64 (a : Int), .int .u64 (b : Int)] 66)) 45 (rcs key n)).alloc (.cells #[.int .i64 v, .int .i64 s] 41)).alloc (.cells #[.int .u64 0, .int .u64 0] 66)
  have P0 := (Is.new ((w.alloc (.cells #[.int .u64 (a : Int), .int .u64 (b : Int)] 66)).alloc (.cells (rcs key n) 45)) 41 #[.int .i64 v, .int .i64 s]).alloc (.cells #[.int .u64 0, .int .u64 0] 66)
  have Z0 := Is.new (((w.alloc (.cells #[.int .u64 (a : Int), .int .u64 (b : Int)] 66)).alloc (.cells (rcs key n) 45)).alloc (.cells #[.int .i64 v, .int .i64 s] 41)) 66 #[.int .u64 0, .int .u64 0]
  rw [show (w.alloc (.cells #[.int .u64 (a : Int), .int .u64 (b : Int)] 66)).heap.size = w.heap.size + 1 from by simp] at R0
  rw [show ((w.alloc (.cells #[.int .u64 (a : Int), .int .u64 (b : Int)] 66)).alloc (.cells (rcs key n) 45)).heap.size = w.heap.size + 1 + 1 from by simp] at P0
  rw [show (((w.alloc (.cells #[.int .u64 (a : Int), .int .u64 (b : Int)] 66)).alloc (.cells (rcs key n) 45)).alloc (.cells #[.int .i64 v, .int .i64 s] 41)).heap.size = w.heap.size + 1 + 1 + 1 from by simp] at Z0
  go_enter Try.func37, Try.ntmps37
  go_wp2_with fail
  generalize ((((w.alloc (.cells #[.int .u64 (a : Int), .int .u64 (b : Int)] 66)).alloc (.cells (rcs key n) 45)).alloc (.cells #[.int .i64 v, .int .i64 s] 41)).alloc (.cells #[.int .u64 0, .int .u64 0] 66)) = V at *
  generalize hg7 : w.heap.size + 1 + 1 + 1 = g7 at *
  generalize hg5 : w.heap.size + 1 + 1 = g5 at *
  generalize hg4 : w.heap.size + 1 = g4 at *
  have G7 := Lib.hid (show w.heap.size < g7 from by omega)
  clear hg4 hg5 hg7
  refine (unhide LT _).mono ?_
  rintro e w1 ⟨rfl, hb⟩
  have HB1 := Lib.hid (HB0.out.trans (hb.mono HB0.out.size)); have A1 := Lib.hid (A0.below hb A0.lt); have R1 := Lib.hid (R0.below hb R0.lt); have P1 := Lib.hid (P0.below hb P0.lt); have Z1 := Lib.hid (Z0.below hb Z0.lt)
  clear hb HB0 A0 R0 P0 Z0
  have p0 := P1.out.cell 0; have p1 := P1.out.cell 1; have a0 := A1.out.cell 0; have a1 := A1.out.cell 1
  simp at p0 p1 a0 a1
  go_wp2_with (with_reducible show wpList _ _ _ (⟨some 16, _, _, _, _, _⟩ :: _) _ _; go_loud (refine Go.wpList_load_row rfl 45 (.tmp 4) rfl g4 rfl 45 (rcs key n) (0, 0) _ (is_raw R1.out) Try.underlying45 rfl (by rw [RSZ.out]; kernel_rfl) ?_))
  refine (unhide MT _).mono ?_
  rintro e w2 ⟨rfl, hb⟩
  have HB2 := Lib.hid (HB1.out.trans (hb.mono HB1.out.size)); have A2 := Lib.hid (A1.out.below hb A1.out.lt); have Z2 := Lib.hid (Z1.out.below hb Z1.out.lt)
  clear hb HB1 A1 R1 P1 Z1 p0 p1 a0 a1
  have a0 := A2.out.cell 0; have a1 := A2.out.cell 1; have z0 := Z2.out.cell 0; have z1 := Z2.out.cell 1; have y0 := Z2.out.free 0; have y1 := Z2.out.free 1
  simp at a0 a1 z0 z1
  clear A2 Z2
  go_wp2_with fail
  go_region
  all_goals (
    go_wp2_with fail
    refine bodyPost_ret (v := .tuple #[.slice none 0 0, .agg #[.int .u64 (a : Int), .int .u64 (b : Int)], .int .i64 1]) (by simp [results, Try.results37, go_sem, z0, z1]) rfl ⟨rfl, ?_⟩
    repeat' first | with_reducible exact HB2.out | with_reducible apply Below.set1 | with_reducible apply Below.drew
    all_goals have := G7.out; omega)
set_option maxHeartbeats 2000000 in
theorem ctake_ok (key : List Int) (hk : key.length = 16) (ho : Octets key) (n : Nat) (hn : n < 18446744073709551616) (a b : Nat) (ha : a < 18446744073709551616) (hb : b < 18446744073709551616) (vv sl : Nat) (hvv : vv < 8) (hsl : sl < 4096) (h : lleft a b ≠ 0) (hon : a < 1099511627776) (wd : Nat) (hwd : n % 2 * 32768 + ((vv * 4096 + sl) ^^^ mkc (dvk key n) (be a 5)) = wd) (w : World) :
    Calls Try.prog 37 #[.agg #[.int .u64 (a : Int), .int .u64 (b : Int)], .agg (rcs key n), .agg #[.int .i64 (vv : Int), .int .i64 (sl : Int)]] w fun e w' => ∃ u, e = .returned (.tuple #[u, .agg #[.int .u64 ((a + 1 : Nat) : Int), .int .u64 (b : Int)], .int .i64 0]) ∧ Below w.heap.size w w' ∧ IsB (idl (dvk key n) a wd) 12 u w' := by
  have MT := hide (fun W => cmake_yes key hk ho n hn vv sl a hvv hsl hon wd hwd W)
  generalize idl (dvk key n) a wd = ID at *
  have e1 : IntKind.u64.wrap ((a : Int) + 1) = ((a + 1 : Nat) : Int) := by rw [IntKind.wrap_u64]; omega
  have e2 : (a : Int) + 1 = ((a + 1 : Nat) : Int) := by omega
  clear hwd hvv hsl
  have LT := hide (fun W => cleft a b hb W)
  have hnz : ((lleft a b : Nat) : Int) ≠ 0 := by omega
  have hnz2 : (((lleft a b : Nat) : Int) == 0) = false := by rw [beq_eq_false_iff_ne]; exact hnz
  clear hnz h
  generalize lleft a b = lf at *
  generalize a + 1 = a' at *
  have RSZ := Lib.hid (rcs_size hk n)
  have HB0 := Lib.hid (show Below w.heap.size w ((((w.alloc (.cells #[.int .u64 (a : Int), .int .u64 (b : Int)] 66)).alloc (.cells (rcs key n) 45)).alloc (.cells #[.int .i64 (vv : Int), .int .i64 (sl : Int)] 41)).alloc (.cells #[.int .u64 0, .int .u64 0] 66)) from ((((Below.refl _ _).alloc (Nat.le_refl _) _).alloc (by simp) _).alloc (by simp; omega) _).alloc (by simp; omega) _)
  have A0 := (((Is.new w 66 #[.int .u64 (a : Int), .int .u64 (b : Int)]).alloc (.cells (rcs key n) 45)).alloc (.cells #[.int .i64 (vv : Int), .int .i64 (sl : Int)] 41)).alloc (.cells #[.int .u64 0, .int .u64 0] 66)
  have R0 := ((Is.new (w.alloc (.cells #[.int .u64 (a : Int), .int .u64 (b : Int)] 66)) 45 (rcs key n)).alloc (.cells #[.int .i64 (vv : Int), .int .i64 (sl : Int)] 41)).alloc (.cells #[.int .u64 0, .int .u64 0] 66)
  have P0 := (Is.new ((w.alloc (.cells #[.int .u64 (a : Int), .int .u64 (b : Int)] 66)).alloc (.cells (rcs key n) 45)) 41 #[.int .i64 (vv : Int), .int .i64 (sl : Int)]).alloc (.cells #[.int .u64 0, .int .u64 0] 66)
  have Z0 := Is.new (((w.alloc (.cells #[.int .u64 (a : Int), .int .u64 (b : Int)] 66)).alloc (.cells (rcs key n) 45)).alloc (.cells #[.int .i64 (vv : Int), .int .i64 (sl : Int)] 41)) 66 #[.int .u64 0, .int .u64 0]
  rw [show (w.alloc (.cells #[.int .u64 (a : Int), .int .u64 (b : Int)] 66)).heap.size = w.heap.size + 1 from by simp] at R0
  rw [show ((w.alloc (.cells #[.int .u64 (a : Int), .int .u64 (b : Int)] 66)).alloc (.cells (rcs key n) 45)).heap.size = w.heap.size + 1 + 1 from by simp] at P0
  rw [show (((w.alloc (.cells #[.int .u64 (a : Int), .int .u64 (b : Int)] 66)).alloc (.cells (rcs key n) 45)).alloc (.cells #[.int .i64 (vv : Int), .int .i64 (sl : Int)] 41)).heap.size = w.heap.size + 1 + 1 + 1 from by simp] at Z0
  go_enter Try.func37, Try.ntmps37
  go_wp2_with fail
  generalize ((((w.alloc (.cells #[.int .u64 (a : Int), .int .u64 (b : Int)] 66)).alloc (.cells (rcs key n) 45)).alloc (.cells #[.int .i64 (vv : Int), .int .i64 (sl : Int)] 41)).alloc (.cells #[.int .u64 0, .int .u64 0] 66)) = V at *
  generalize hg7 : w.heap.size + 1 + 1 + 1 = g7 at *
  generalize hg5 : w.heap.size + 1 + 1 = g5 at *
  generalize hg4 : w.heap.size + 1 = g4 at *
  have G7 := Lib.hid (show w.heap.size < g7 from by omega)
  clear hg4 hg5 hg7
  refine (unhide LT _).mono ?_
  rintro e w1 ⟨rfl, hb⟩
  have HB1 := Lib.hid (HB0.out.trans (hb.mono HB0.out.size)); have A1 := Lib.hid (A0.below hb A0.lt); have R1 := Lib.hid (R0.below hb R0.lt); have P1 := Lib.hid (P0.below hb P0.lt); have Z1 := Lib.hid (Z0.below hb Z0.lt)
  clear hb HB0 A0 R0 P0 Z0
  have p0 := P1.out.cell 0; have p1 := P1.out.cell 1; have a0 := A1.out.cell 0; have a1 := A1.out.cell 1
  simp at p0 p1 a0 a1
  go_wp2_with (with_reducible show wpList _ _ _ (⟨some 16, _, _, _, _, _⟩ :: _) _ _; go_loud (refine Go.wpList_load_row rfl 45 (.tmp 4) rfl g4 rfl 45 (rcs key n) (0, 0) _ (is_raw R1.out) Try.underlying45 rfl (by rw [RSZ.out]; kernel_rfl) ?_))
  refine (unhide MT _).mono ?_
  rintro e w2 ⟨u, rfl, hb, hu⟩
  obtain ⟨Au, cu, rfl⟩ := hu.shape
  have HU := Lib.hid hu
  have HB2 := Lib.hid (HB1.out.trans (hb.mono HB1.out.size)); have A2 := Lib.hid (A1.out.below hb A1.out.lt); have Z2 := Lib.hid (Z1.out.below hb Z1.out.lt)
  clear hb HB1 A1 R1 P1 Z1 p0 p1 a0 a1 hu
  have a0 := A2.out.cell 0; have a1 := A2.out.cell 1; have z0 := Z2.out.cell 0; have z1 := Z2.out.cell 1; have y0 := Z2.out.free 0; have y1 := Z2.out.free 1
  simp at a0 a1 z0 z1
  have FAR := Lib.hid (far_of HU.out Z2.out (by omega))
  clear A2 Z2
  go_wp2_with fail
  go_region
  all_goals (
    go_wp2_with fail
    refine bodyPost_ret (v := .tuple #[.slice Au 12 cu, .agg #[.int .u64 (a' : Int), .int .u64 (b : Int)], .int .i64 0]) (by simp [results, Try.results37, go_sem, z0, z1]) rfl ⟨_, rfl, ?_, ?_⟩
    · repeat' first | with_reducible exact HB2.out | with_reducible apply Below.set1 | with_reducible apply Below.drew
      all_goals have := G7.out; omega
    · refine isb_far HU.out FAR.out ?_
      repeat' first | with_reducible exact only_refl _ _ | with_reducible apply only_set7 | with_reducible apply only_drew)
end Go.Proofs.Ythjkjohmaemmiaa
