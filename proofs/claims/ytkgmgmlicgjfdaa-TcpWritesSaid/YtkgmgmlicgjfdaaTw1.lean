/-
  Which segments are right, and their bytes. Helper of the claim TcpWrites. No condition.
-/
import Derived.Test.YtkgmgmlicgjfdaaStpS
namespace Go.Proofs.Ytkgmgmlicgjfdaa
open Go.ChangeShapes Go.WideShapes Go.ChangeAt Go.RowKit
set_option linter.unusedVariables false
set_option maxRecDepth 100000
set_option maxHeartbeats 1000000 in
theorem size6 (xa xb xs xk xf xn xm xg : Int) (A1 : Option Addr) (i c1 : Nat) (A2 : Option Addr) (j c2 : Nat) (w : World) (hi : i ≤ 200) (hj : j ≤ 2000) : Calls Try.prog 96 #[sg6 xa xb xs xk xf xn xm xg (.slice A1 i c1) (.slice A2 j c2)] w fun e w' => e = .returned (.int .i64 (20 + (i : Int) + (j : Int))) ∧ Below w.heap.size w w' := by
  unfold sg6
  go_enter Try.func96, Try.ntmps96
  go_wp2_with fail
  go_ret
  exact ⟨by simp, (Below.refl _ _).alloc (Nat.le_refl _) _⟩
set_option maxHeartbeats 1000000 in
theorem tright_yes (xa xb xs xk xf xn xm xg : Int) (A1 : Option Addr) (i c1 : Nat) (A2 : Option Addr) (j c2 : Nat) (w : World) (m : Nat) (hi : i = 4 * m) (hm : m ≤ 10) (hj : j ≤ 2000) : Calls Try.prog 27 #[sg6 xa xb xs xk xf xn xm xg (.slice A1 i c1) (.slice A2 j c2)] w fun e w' => e = .returned (.bool true) ∧ Below w.heap.size w w' := by
  have h1 : (i : Int) ≤ 40 := by omega
  have h2 : (i : Int).tmod 4 = 0 := by rw [Int.tmod_eq_emod_of_nonneg (by omega)]; omega
  have h3 : 20 + (i : Int) + (j : Int) ≤ 65535 := by omega
  have hi200 : i ≤ 200 := by omega
  clear hi
  unfold sg6
  go_enter Try.func27, Try.ntmps27
  go_wp2_with fail
  refine (size6 xa xb xs xk xf xn xm xg A1 i c1 A2 j c2 _ hi200 hj).mono ?_
  rintro e w1 ⟨rfl, hb⟩
  go_wp2_with fail
  go_ret
  exact ⟨rfl, Below.trans ((Below.refl _ _).alloc (Nat.le_refl _) _) (hb.mono (by simp))⟩
set_option maxHeartbeats 1000000 in
theorem tright_no (xa xb xs xk xf xn xm xg : Int) (A1 : Option Addr) (i c1 : Nat) (A2 : Option Addr) (j c2 : Nat) (w : World) (h : ¬ (i ≤ 40 ∧ i % 4 = 0)) : Calls Try.prog 27 #[sg6 xa xb xs xk xf xn xm xg (.slice A1 i c1) (.slice A2 j c2)] w fun e w' => e = .returned (.bool false) ∧ Below w.heap.size w w' := by
  unfold sg6
  by_cases q : i ≤ 40
  · have h1 : (i : Int) ≤ 40 := by omega
    have h2 : (((i : Int).tmod 4) == 0) = false := by rw [Int.tmod_eq_emod_of_nonneg (by omega), beq_eq_false_iff_ne]; omega
    go_enter Try.func27, Try.ntmps27
    go_wp2_with fail
    go_ret
    exact ⟨rfl, (Below.refl _ _).alloc (Nat.le_refl _) _⟩
  · have h1 : ¬ (i : Int) ≤ 40 := by omega
    go_enter Try.func27, Try.ntmps27
    go_wp2_with fail
    go_ret
    exact ⟨rfl, (Below.refl _ _).alloc (Nat.le_refl _) _⟩
set_option maxHeartbeats 1000000 in
theorem rright_yes (xa xb xs xk xf xn xm xg : Int) (A1 : Option Addr) (i c1 : Nat) (A2 : Option Addr) (j c2 : Nat) (w : World) (m : Nat) (hi : i = 4 * m) (hm : m ≤ 10) (hj : j ≤ 2000) : Calls Try.prog 28 #[sg6 xa xb xs xk xf xn xm xg (.slice A1 i c1) (.slice A2 j c2)] w fun e w' => e = .returned (.bool true) ∧ Below w.heap.size w w' := by
  have h1 : (i : Int) ≤ 40 := by omega
  have h2 : (i : Int).tmod 4 = 0 := by rw [Int.tmod_eq_emod_of_nonneg (by omega)]; omega
  have h3 : 20 + (i : Int) + (j : Int) ≤ 65535 := by omega
  have hi200 : i ≤ 200 := by omega
  clear hi
  unfold sg6
  go_enter Try.func28, Try.ntmps28
  go_wp2_with fail
  go_ret
  exact ⟨rfl, (Below.refl _ _).alloc (Nat.le_refl _) _⟩
set_option maxHeartbeats 1000000 in
theorem rright_no (xa xb xs xk xf xn xm xg : Int) (A1 : Option Addr) (i c1 : Nat) (A2 : Option Addr) (j c2 : Nat) (w : World) (h : ¬ (i ≤ 40 ∧ i % 4 = 0)) : Calls Try.prog 28 #[sg6 xa xb xs xk xf xn xm xg (.slice A1 i c1) (.slice A2 j c2)] w fun e w' => e = .returned (.bool false) ∧ Below w.heap.size w w' := by
  unfold sg6
  by_cases q : i ≤ 40
  · have h1 : (i : Int) ≤ 40 := by omega
    have h2 : (((i : Int).tmod 4) == 0) = false := by rw [Int.tmod_eq_emod_of_nonneg (by omega), beq_eq_false_iff_ne]; omega
    go_enter Try.func28, Try.ntmps28
    go_wp2_with fail
    go_ret
    exact ⟨rfl, (Below.refl _ _).alloc (Nat.le_refl _) _⟩
  · have h1 : ¬ (i : Int) ≤ 40 := by omega
    go_enter Try.func28, Try.ntmps28
    go_wp2_with fail
    go_ret
    exact ⟨rfl, (Below.refl _ _).alloc (Nat.le_refl _) _⟩
set_option maxHeartbeats 1000000 in
theorem tbytes_no (xa xb xs xk xf xn xm xg : Int) (A1 : Option Addr) (i c1 : Nat) (A2 : Option Addr) (j c2 : Nat) (w : World) (h : ¬ (i ≤ 40 ∧ i % 4 = 0)) : Calls Try.prog 29 #[sg6 xa xb xs xk xf xn xm xg (.slice A1 i c1) (.slice A2 j c2)] w fun e w' => e = .returned (.slice none 0 0) ∧ Below w.heap.size w w' := by
  unfold sg6
  go_enter Try.func29, Try.ntmps29
  go_wp2_with fail
  refine (tright_no xa xb xs xk xf xn xm xg A1 i c1 A2 j c2 _ h).mono ?_
  rintro e w1 ⟨rfl, hb⟩
  go_wp2_with fail
  go_ret
  exact ⟨rfl, Below.trans ((Below.refl _ _).alloc (Nat.le_refl _) _) (hb.mono (by simp))⟩
/-- The head of a segment's bytes. -/
def hd6 (xa xb xs xk xf xn xm xg m : Nat) : List Int := be xa 2 ++ be xb 2 ++ be xs 4 ++ be xk 4 ++ be (80 + 16 * m) 1 ++ be xf 1 ++ be xn 2 ++ be xm 2 ++ be xg 2
theorem hd6_len (xa xb xs xk xf xn xm xg m : Nat) : (hd6 xa xb xs xk xf xn xm xg m).length = 20 := by simp [hd6, be_len]
set_option maxHeartbeats 4000000 in
theorem tbytes_yes (xa xb xs xk xf xn xm xg : Nat) (o l : List Int) (A1 : Option Addr) (i c1 : Nat) (A2 : Option Addr) (j c2 : Nat) (w : World) (m : Nat) (hi : i = 4 * m) (hm : m ≤ 10) (hj : j ≤ 2000) (ba : xa ≤ 65535) (bb : xb ≤ 65535) (bs : xs ≤ 4294967295) (bk : xk ≤ 4294967295) (bf : xf ≤ 255) (bn : xn ≤ 65535) (bm : xm ≤ 65535) (bg : xg ≤ 65535)
    (hv : IsB o i (.slice A1 i c1) w) (hu : IsB l j (.slice A2 j c2) w) : Calls Try.prog 29 #[sg6 xa xb xs xk xf xn xm xg (.slice A1 i c1) (.slice A2 j c2)] w (GivesK w (hd6 xa xb xs xk xf xn xm xg m ++ o ++ l) (20 + i + j)) := by
  have HL := Lib.hid (show o.length = i from by obtain ⟨_, _, _, e, _⟩ := hv; exact e)
  have HV := hide hv; have HU := hide hu
  clear hv hu
  have q1 : (20 + (i : Int)).tdiv 4 = ((5 + m : Nat) : Int) := by rw [Int.tdiv_eq_ediv_of_nonneg (by omega)]; omega
  have HI40 := Lib.hid hi
  have hi40 : i ≤ 40 := by omega
  clear hi
  unfold sg6
  go_enter Try.func29, Try.ntmps29
  go_wp2_with fail
  refine (tright_yes xa xb xs xk xf xn xm xg A1 i c1 A2 j c2 _ m HI40.out hm hj).mono ?_
  rintro e w0 ⟨rfl, hb0⟩
  have hm0 := (Is.new w 41 #[.int .u16 xa, .int .u16 xb, .int .u32 xs, .int .u32 xk, .int .u8 xf, .int .u16 xn, .int .u16 xm, .int .u16 xg, .slice A1 i c1, .slice A2 j c2]).below hb0 (by simp)
  have HB0 := Lib.hid (Below.trans ((Below.refl w.heap.size w).alloc (Nat.le_refl _) (.cells #[.int .u16 xa, .int .u16 xb, .int .u32 xs, .int .u32 xk, .int .u8 xf, .int .u16 xn, .int .u16 xm, .int .u16 xg, .slice A1 i c1, .slice A2 j c2] 41)) (hb0.mono (by simp)))
  have d0 := hm0.cell 0
  simp at d0
  have HM0 := hide hm0
  clear hb0 hm0
  go_wp2_with fail
  refine (put_nil xa 2 2 _ (by omega) (by omega) (by omega) (by decide)).mono ?_
  rintro e w1 ⟨B1, z1, rfl, ho, hb1⟩
  have HB1 := Lib.hid (HB0.out.trans (hb1.mono HB0.out.size))
  have HI1 := hide (IsB.own ho)
  have HO1 := hide (ho.lower (base' := w.heap.size) HB0.out.size)
  have hm1 := HM0.out.below hb1 HM0.out.lt
  have d1 := hm1.cell 1
  simp at d1
  have HM1 := hide hm1
  clear ho hb1 hm1 d0 HM0 HB0
  go_wp2_with fail
  refine (put_k xb 2 2 4 HI1.out (by omega) (by omega) (by omega) (by omega) (by decide) (by omega)).mono ?_
  rintro e w2 ⟨B2, z2, rfl, ho, hb1⟩
  have HB2 := Lib.hid (HB1.out.trans (hb1.mono HB1.out.size))
  have HI2 := hide (IsB.own ho)
  have HO2 := hide (ho.lower (base' := w.heap.size) HB1.out.size)
  have hm2 := HM1.out.below hb1 HM1.out.lt
  have d2 := hm2.cell 2
  simp at d2
  have HM2 := hide hm2
  clear ho hb1 hm2 d1 HM1 HB1 HI1 HO1
  go_wp2_with fail
  refine (put_k xs 4 4 8 HI2.out (by omega) (by omega) (by omega) (by omega) (by decide) (by omega)).mono ?_
  rintro e w3 ⟨B3, z3, rfl, ho, hb1⟩
  have HB3 := Lib.hid (HB2.out.trans (hb1.mono HB2.out.size))
  have HI3 := hide (IsB.own ho)
  have HO3 := hide (ho.lower (base' := w.heap.size) HB2.out.size)
  have hm3 := HM2.out.below hb1 HM2.out.lt
  have d3 := hm3.cell 3
  simp at d3
  have HM3 := hide hm3
  clear ho hb1 hm3 d2 HM2 HB2 HI2 HO2
  go_wp2_with fail
  refine (put_k xk 4 4 12 HI3.out (by omega) (by omega) (by omega) (by omega) (by decide) (by omega)).mono ?_
  rintro e w4 ⟨B4, z4, rfl, ho, hb1⟩
  have HB4 := Lib.hid (HB3.out.trans (hb1.mono HB3.out.size))
  have HI4 := hide (IsB.own ho)
  have HO4 := hide (ho.lower (base' := w.heap.size) HB3.out.size)
  have hm4 := HM3.out.below hb1 HM3.out.lt
  have d4 := hm4.cell 8
  simp at d4
  have HM4 := hide hm4
  clear ho hb1 hm4 d3 HM3 HB3 HI3 HO3
  go_wp2_with fail
  rw [show ((5 : Int) + (m : Int)) * 16 = ((80 + 16 * m : Nat) : Int) from by omega]
  refine (put_k (80 + 16 * m) 1 1 13 HI4.out (by omega) (by omega) (by omega) (by omega) (by decide) (by omega)).mono ?_
  rintro e w5 ⟨B5, z5, rfl, ho, hb1⟩
  have HB5 := Lib.hid (HB4.out.trans (hb1.mono HB4.out.size))
  have HI5 := hide (IsB.own ho)
  have HO5 := hide (ho.lower (base' := w.heap.size) HB4.out.size)
  have hm5 := HM4.out.below hb1 HM4.out.lt
  have d5 := hm5.cell 4
  simp at d5
  have HM5 := hide hm5
  clear ho hb1 hm5 d4 HM4 HB4 HI4 HO4
  go_wp2_with fail
  refine (put_k xf 1 1 14 HI5.out (by omega) (by omega) (by omega) (by omega) (by decide) (by omega)).mono ?_
  rintro e w6 ⟨B6, z6, rfl, ho, hb1⟩
  have HB6 := Lib.hid (HB5.out.trans (hb1.mono HB5.out.size))
  have HI6 := hide (IsB.own ho)
  have HO6 := hide (ho.lower (base' := w.heap.size) HB5.out.size)
  have hm6 := HM5.out.below hb1 HM5.out.lt
  have d6 := hm6.cell 5
  simp at d6
  have HM6 := hide hm6
  clear ho hb1 hm6 d5 HM5 HB5 HI5 HO5
  go_wp2_with fail
  refine (put_k xn 2 2 16 HI6.out (by omega) (by omega) (by omega) (by omega) (by decide) (by omega)).mono ?_
  rintro e w7 ⟨B7, z7, rfl, ho, hb1⟩
  have HB7 := Lib.hid (HB6.out.trans (hb1.mono HB6.out.size))
  have HI7 := hide (IsB.own ho)
  have HO7 := hide (ho.lower (base' := w.heap.size) HB6.out.size)
  have hm7 := HM6.out.below hb1 HM6.out.lt
  have d7 := hm7.cell 6
  simp at d7
  have HM7 := hide hm7
  clear ho hb1 hm7 d6 HM6 HB6 HI6 HO6
  go_wp2_with fail
  refine (put_k xm 2 2 18 HI7.out (by omega) (by omega) (by omega) (by omega) (by decide) (by omega)).mono ?_
  rintro e w8 ⟨B8, z8, rfl, ho, hb1⟩
  have HB8 := Lib.hid (HB7.out.trans (hb1.mono HB7.out.size))
  have HI8 := hide (IsB.own ho)
  have HO8 := hide (ho.lower (base' := w.heap.size) HB7.out.size)
  have hm8 := HM7.out.below hb1 HM7.out.lt
  have d8 := hm8.cell 7
  simp at d8
  have HM8 := hide hm8
  clear ho hb1 hm8 d7 HM7 HB7 HI7 HO7
  go_wp2_with fail
  refine (put_k xg 2 2 20 HI8.out (by omega) (by omega) (by omega) (by omega) (by decide) (by omega)).mono ?_
  rintro e w9 ⟨B9, z9, rfl, ho, hb1⟩
  have HB9 := Lib.hid (HB8.out.trans (hb1.mono HB8.out.size))
  have HI9 := hide (IsB.own ho)
  have HO9 := hide (ho.lower (base' := w.heap.size) HB8.out.size)
  have hm9 := HM8.out.below hb1 HM8.out.lt
  have d9 := hm9.cell 8
  have e9 := hm9.cell 9
  simp at d9 e9
  have HM9 := hide hm9
  clear ho hb1 hm9 d8 HM8 HB8 HI8 HO8
  have HVV := hide (HV.out.st HB9.out)
  go_wp2_with (first
    | ((with_reducible show wpList _ _ _ (⟨some 58, _, _, _, _, _⟩ :: _) _ _)
       refine app_k _ _ _ rfl rfl Try.underlying22 info8 (v := .slice B9 20 z9) (base := w.heap.size) (xs := be xa 2 ++ be xb 2 ++ be xs 4 ++ be xk 4 ++ be (80 + 16 * m) 1 ++ be xf 1 ++ be xn 2 ++ be xm 2 ++ be xg 2) (k := 20) (k' := 20 + i) (l := o) rfl HO9.out (by simp [be_len]) rfl HVV.out rfl (by omega) HB9.out.size ?_
       intro B10 z10 w10 ho hg
       have hb1 := grown_own HB9.out hg HO9.out
       have HU10 := hide (HU.out.st hb1)
       have HB10 := Lib.hid hb1
       have hg9 := HM9.out.only hg ((own_differ HO9.out HM9.out (by decide)).symm)
       have f9 := hg9.cell 9
       simp at f9
       have HO10 := hide ho
       clear ho hg hb1 hg9 d9 e9 HM9 HO9 HI9 HVV)
    | ((with_reducible show wpList _ _ _ (⟨some 62, _, _, _, _, _⟩ :: _) _ _)
       refine app_k _ _ _ rfl rfl Try.underlying22 info8 (v := .slice B10 (20 + i) z10) (base := w.heap.size) (xs := be xa 2 ++ be xb 2 ++ be xs 4 ++ be xk 4 ++ be (80 + 16 * m) 1 ++ be xf 1 ++ be xn 2 ++ be xm 2 ++ be xg 2 ++ o) (k := 20 + i) (k' := 20 + i + j) (l := l) rfl HO10.out (by have := HL.out; simp only [List.length_append, be_len]; omega) rfl HU10.out rfl (by omega) HB10.out.size ?_
       intro B11 z11 w11 ho hg
       have HO11 := hide ho
       have HB11 := Lib.hid (grown_own HB10.out hg HO10.out)
       clear ho hg))
  go_ret
  refine ⟨B11, z11, rfl, ?_, HB11.out⟩
  have h := HO11.out
  simp [hd6] at h ⊢
  exact h
end Go.Proofs.Ytkgmgmlicgjfdaa
