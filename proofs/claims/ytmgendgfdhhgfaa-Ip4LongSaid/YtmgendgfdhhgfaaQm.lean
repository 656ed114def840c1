/-
  awake of layer 4, and the law Ip4Reads, walked. Helper of the claims of layer 4.
-/
import Derived.Test.YtmgendgfdhhgfaaQl
import Derived.Test.YtmgendgfdhhgfaaQo
import Derived.Test.YtmgendgfdhhgfaaQt
import Derived.Test.YtmgendgfdhhgfaaUdpA
namespace Go.Proofs.Ytmgendgfdhhgfaa
open Go.ChangeShapes Go.WideShapes Go.ChangeAt Go.RowKit
set_option linter.unusedSimpArgs false
set_option linter.unusedVariables false
set_option maxRecDepth 100000
set_option maxHeartbeats 4000000 in
theorem awake04 (w : World) : Calls Try.prog 14 #[] w fun e w' => e = .returned (.bool true) ∧ Below w.heap.size w w' := by
  have HB0 := Lib.hid ((Below.refl w.heap.size w).alloc (Nat.le_refl _) (.cells #[.int .u8 1] 5))
  have HPK := hide (packet4_yes 0 0 0 false false 0 64 6 0 0 0 0 [] [1] none 0 0 (some ⟨w.heap.size, 0, none⟩) 1 1 (w.alloc (.cells #[.int .u8 1] 5)) (by omega) (by omega) (by omega) (by omega) (by omega) (by omega) (by omega) (by omega) (by omega) (by omega) Octets.nil (IsB.nil0 _) (isb_lit w [1] (by simp)))
  unfold hv4 at HPK
  go_enter Try.func14, Try.ntmps14
  go_wp2_with fail
  refine (unhide HPK).mono ?_
  rintro e w1 ⟨v, rfl, hb, ho⟩
  have ho2 : OwnP (w.alloc (.cells #[.int .u8 1] 5)).heap.size L21 21 v w1 := by rw [← L21_eq]; exact ho
  obtain ⟨A1, c1, rfl⟩ := ho2.shape
  have HV := hide ho2.isb
  have HB1 := Lib.hid (HB0.out.trans (hb.mono (by simp)))
  clear hb ho ho2 HPK
  go_wp2_with fail
  refine (older4 A1 c1 w1 HV.out).mono ?_
  rintro e w2 ⟨g, c2, rfl, hb, d8⟩
  have HB2 := Lib.hid (HB1.out.trans (hb.mono HB1.out.size))
  clear hb
  go_wp2_with fail
  go_ret
  exact ⟨rfl, HB2.out⟩
set_option maxHeartbeats 8000000 in
theorem walkReads4 (A : Option Addr) (c : Nat) (l : List Int) (w : World) (h : IsB l l.length (.slice A l.length c) w) (ho : Octets l) (hlm : l.length ≤ maxLen) :
    Calls Try.prog 4 #[.slice A l.length c] w fun e w' => e = .returned (.bool true) ∧ Below w.heap.size w w' := by
  unfold maxLen at hlm
  by_cases q : 3000 < l.length
  · clear h ho
    go_enter Try.func4, Try.ntmps4
    go_wp2_with fail
    refine (awake04 _).mono ?_
    rintro e w1 ⟨rfl, hb⟩
    go_wp2_with fail
    go_ret
    exact ⟨rfl, hb⟩
  · obtain ⟨ts, le, id, st, mo, ofs, tt, pr, sm, sl, dl, er, o, L, hk1, hk2⟩ := both4 l l.length ho (by omega)
    have HK1 := hide hk1; have HK2 := hide hk2
    have HI := hide h
    clear h hk1 hk2 ho
    go_enter Try.func4, Try.ntmps4
    go_wp2_with fail
    refine ((unhide HK1) A c w HI.out).mono ?_
    rintro e w1 ⟨vo, vl, i1, p3, rfl, hb, ho1, hl1⟩
    obtain ⟨A1, c1, rfl⟩ := ho1.shape
    obtain ⟨A3, c3, rfl⟩ := hl1.shape
    have HBA := Lib.hid (hb.alloc hb.size (.cells #[.int .u8 ts, .int .i64 le, .int .u16 id, .bool st, .bool mo, .int .i64 ofs, .int .u8 tt, .int .u8 pr, .int .u16 sm, .bool false, .int .u64 0, .int .u64 sl, .bool false, .int .u64 0, .int .u64 dl, .slice A1 i1 c1] 28)); have HGA := hide (Is.new w1 28 #[.int .u8 ts, .int .i64 le, .int .u16 id, .bool st, .bool mo, .int .i64 ofs, .int .u8 tt, .int .u8 pr, .int .u16 sm, .bool false, .int .u64 0, .int .u64 sl, .bool false, .int .u64 0, .int .u64 dl, .slice A1 i1 c1]); have HOA := hide (ho1.alloc (.cells #[.int .u8 ts, .int .i64 le, .int .u16 id, .bool st, .bool mo, .int .i64 ofs, .int .u8 tt, .int .u8 pr, .int .u16 sm, .bool false, .int .u64 0, .int .u64 sl, .bool false, .int .u64 0, .int .u64 dl, .slice A1 i1 c1] 28)); have HLA := hide (hl1.alloc (.cells #[.int .u8 ts, .int .i64 le, .int .u16 id, .bool st, .bool mo, .int .i64 ofs, .int .u8 tt, .int .u8 pr, .int .u16 sm, .bool false, .int .u64 0, .int .u64 sl, .bool false, .int .u64 0, .int .u64 dl, .slice A1 i1 c1] 28))
    clear hb ho1 hl1
    unfold hv4
    go_wp2_with fail
    generalize w1.alloc (.cells #[.int .u8 ts, .int .i64 le, .int .u16 id, .bool st, .bool mo, .int .i64 ofs, .int .u8 tt, .int .u8 pr, .int .u16 sm, .bool false, .int .u64 0, .int .u64 sl, .bool false, .int .u64 0, .int .u64 dl, .slice A1 i1 c1] 28) = W1 at *
    generalize w1.heap.size = g3 at *
    refine ((unhide HK2) A c W1 (HI.out.st HBA.out)).mono ?_
    rintro e w2 ⟨vo2, vl2, i2, p4, rfl, hb, ho2, hl2⟩
    obtain ⟨A2, c2, rfl⟩ := ho2.shape
    obtain ⟨A4, c4, rfl⟩ := hl2.shape
    have hbx := hb.alloc hb.size (.cells #[.int .u8 ts, .int .i64 le, .int .u16 id, .bool st, .bool mo, .int .i64 ofs, .int .u8 tt, .int .u8 pr, .int .u16 sm, .bool false, .int .u64 0, .int .u64 sl, .bool false, .int .u64 0, .int .u64 dl, .slice A2 i2 c2] 37)
    have HBB := Lib.hid (HBA.out.trans (hbx.mono HBA.out.size)); have HG3 := hide (HGA.out.below hbx HGA.out.lt); have HO1 := hide (HOA.out.st hbx); have HL1 := hide (HLA.out.st hbx)
    have HG6 := hide (Is.new w2 37 #[.int .u8 ts, .int .i64 le, .int .u16 id, .bool st, .bool mo, .int .i64 ofs, .int .u8 tt, .int .u8 pr, .int .u16 sm, .bool false, .int .u64 0, .int .u64 sl, .bool false, .int .u64 0, .int .u64 dl, .slice A2 i2 c2]); have HO2 := hide (ho2.alloc (.cells #[.int .u8 ts, .int .i64 le, .int .u16 id, .bool st, .bool mo, .int .i64 ofs, .int .u8 tt, .int .u8 pr, .int .u16 sm, .bool false, .int .u64 0, .int .u64 sl, .bool false, .int .u64 0, .int .u64 dl, .slice A2 i2 c2] 37)); have HL2 := hide (hl2.alloc (.cells #[.int .u8 ts, .int .i64 le, .int .u16 id, .bool st, .bool mo, .int .i64 ofs, .int .u8 tt, .int .u8 pr, .int .u16 sm, .bool false, .int .u64 0, .int .u64 sl, .bool false, .int .u64 0, .int .u64 dl, .slice A2 i2 c2] 37))
    clear hb ho2 hl2 hbx HBA HGA HOA HLA HK1 HK2
    unfold hv4
    go_wp2_with fail
    generalize w2.alloc (.cells #[.int .u8 ts, .int .i64 le, .int .u16 id, .bool st, .bool mo, .int .i64 ofs, .int .u8 tt, .int .u8 pr, .int .u16 sm, .bool false, .int .u64 0, .int .u64 sl, .bool false, .int .u64 0, .int .u64 dl, .slice A2 i2 c2] 37) = W2 at *
    generalize w2.heap.size = g6 at *
    have y0 := HG3.out.cell 0; have z0 := HG6.out.cell 0
    have y1 := HG3.out.cell 1; have z1 := HG6.out.cell 1
    have y2 := HG3.out.cell 2; have z2 := HG6.out.cell 2
    have y3 := HG3.out.cell 3; have z3 := HG6.out.cell 3
    have y4 := HG3.out.cell 4; have z4 := HG6.out.cell 4
    have y5 := HG3.out.cell 5; have z5 := HG6.out.cell 5
    have y6 := HG3.out.cell 6; have z6 := HG6.out.cell 6
    have y7 := HG3.out.cell 7; have z7 := HG6.out.cell 7
    have y8 := HG3.out.cell 8; have z8 := HG6.out.cell 8
    have y9 := HG3.out.cell 9; have z9 := HG6.out.cell 9
    have y10 := HG3.out.cell 10; have z10 := HG6.out.cell 10
    have y11 := HG3.out.cell 11; have z11 := HG6.out.cell 11
    have y12 := HG3.out.cell 12; have z12 := HG6.out.cell 12
    have y13 := HG3.out.cell 13; have z13 := HG6.out.cell 13
    have y14 := HG3.out.cell 14; have z14 := HG6.out.cell 14
    have y15 := HG3.out.cell 15; have z15 := HG6.out.cell 15
    simp at y0 z0 y1 z1 y2 z2 y3 z3 y4 z4 y5 z5 y6 z6 y7 z7 y8 z8 y9 z9 y10 z10 y11 z11 y12 z12 y13 z13 y14 z14 y15 z15
    have Y0 := Lib.hid y0; have Z0 := Lib.hid z0
    have Y1 := Lib.hid y1; have Z1 := Lib.hid z1
    have Y2 := Lib.hid y2; have Z2 := Lib.hid z2
    have Y3 := Lib.hid y3; have Z3 := Lib.hid z3
    have Y4 := Lib.hid y4; have Z4 := Lib.hid z4
    have Y5 := Lib.hid y5; have Z5 := Lib.hid z5
    have Y6 := Lib.hid y6; have Z6 := Lib.hid z6
    have Y7 := Lib.hid y7; have Z7 := Lib.hid z7
    have Y8 := Lib.hid y8; have Z8 := Lib.hid z8
    have Y9 := Lib.hid y9; have Z9 := Lib.hid z9
    have Y10 := Lib.hid y10; have Z10 := Lib.hid z10
    have Y11 := Lib.hid y11; have Z11 := Lib.hid z11
    have Y12 := Lib.hid y12; have Z12 := Lib.hid z12
    have Y13 := Lib.hid y13; have Z13 := Lib.hid z13
    have Y14 := Lib.hid y14; have Z14 := Lib.hid z14
    have Y15 := Lib.hid y15; have Z15 := Lib.hid z15
    have YL := Lib.hid HG3.out.lt; have ZL := Lib.hid HG6.out.lt
    clear y0 z0 y1 z1 y2 z2 y3 z3 y4 z4 y5 z5 y6 z6 y7 z7 y8 z8 y9 z9 y10 z10 y11 z11 y12 z12 y13 z13 y14 z14 y15 z15
    refine Lin.wp_region_lin Lin.keeps (n := 44)  (fun slotq => match slotq with | 25 => Lin.Spec.val (.agg #[.int .u8 ts, .int .i64 le, .int .u16 id, .bool st, .bool mo, .int .i64 ofs, .int .u8 tt, .int .u8 pr, .int .u16 sm, .bool false, .int .u64 0, .int .u64 sl, .bool false, .int .u64 0, .int .u64 dl, .slice A1 i1 c1]) | 26 => Lin.Spec.val (.agg #[.int .u8 ts, .int .i64 le, .int .u16 id, .bool st, .bool mo, .int .i64 ofs, .int .u8 tt, .int .u8 pr, .int .u16 sm, .bool false, .int .u64 0, .int .u64 sl, .bool false, .int .u64 0, .int .u64 dl, .slice A1 i1 c1]) | 27 => Lin.Spec.val (.agg #[.int .u8 ts, .int .i64 le, .int .u16 id, .bool st, .bool mo, .int .i64 ofs, .int .u8 tt, .int .u8 pr, .int .u16 sm, .bool false, .int .u64 0, .int .u64 sl, .bool false, .int .u64 0, .int .u64 dl, .slice A2 i2 c2]) | 28 => Lin.Spec.val (.bool true) | 29 => Lin.Spec.val (.bool true) | 30 => Lin.Spec.val (.slice A3 p3 c3) | 31 => Lin.Spec.val (.string (strOfNums L)) | 32 => Lin.Spec.val (.slice A4 p4 c4) | 33 => Lin.Spec.val (.string (strOfNums L)) | 34 => Lin.Spec.val (.bool true) | 35 => Lin.Spec.val (.bool true) | 36 => Lin.Spec.val (.bool true) | 37 => Lin.Spec.val (.int .i64 er) | 38 => Lin.Spec.val (.int .i64 er) | 39 => Lin.Spec.val (.bool true) | 40 => Lin.Spec.val (.bool true) | 41 => Lin.Spec.val (.bool true) | 42 => Lin.Spec.val (.bool true) | 43 => Lin.Spec.val (.bool true) | 2 => Lin.Spec.val (.bool true) | _ => Lin.Spec.any) (by kernel_rfl) rfl (by kernel_rfl) ⟨?_, ?_, ?_, ?_, ?_, ?_, ?_, ?_, ?_, ?_, ?_, ?_, ?_, ?_, ?_, ?_, ?_, ?_, ?_, ?_, trivial⟩ ?_
    · intro ρ wq hb ho hc hd
      have hC : ∀ v, ρ (.const v) = v := fun v => hc _ (by intro t e; cases e)
      have hF : ∀ f, ρ (.func f) = .func (.func f) #[] #[] := fun f => hc _ (by intro t e; cases e)
      have h3 : ρ (.tmp 3) = .pointer (some ⟨g3, 0, none⟩) := ho 3 (by kernel_rfl)
      have q0 := (hb.cell (p := ⟨g3, 0, none⟩) YL.out).trans Y0.out
      have q1 := (hb.cell (p := ⟨g3, 1, none⟩) YL.out).trans Y1.out
      have q2 := (hb.cell (p := ⟨g3, 2, none⟩) YL.out).trans Y2.out
      have q3 := (hb.cell (p := ⟨g3, 3, none⟩) YL.out).trans Y3.out
      have q4 := (hb.cell (p := ⟨g3, 4, none⟩) YL.out).trans Y4.out
      have q5 := (hb.cell (p := ⟨g3, 5, none⟩) YL.out).trans Y5.out
      have q6 := (hb.cell (p := ⟨g3, 6, none⟩) YL.out).trans Y6.out
      have q7 := (hb.cell (p := ⟨g3, 7, none⟩) YL.out).trans Y7.out
      have q8 := (hb.cell (p := ⟨g3, 8, none⟩) YL.out).trans Y8.out
      have q9 := (hb.cell (p := ⟨g3, 9, none⟩) YL.out).trans Y9.out
      have q10 := (hb.cell (p := ⟨g3, 10, none⟩) YL.out).trans Y10.out
      have q11 := (hb.cell (p := ⟨g3, 11, none⟩) YL.out).trans Y11.out
      have q12 := (hb.cell (p := ⟨g3, 12, none⟩) YL.out).trans Y12.out
      have q13 := (hb.cell (p := ⟨g3, 13, none⟩) YL.out).trans Y13.out
      have q14 := (hb.cell (p := ⟨g3, 14, none⟩) YL.out).trans Y14.out
      have q15 := (hb.cell (p := ⟨g3, 15, none⟩) YL.out).trans Y15.out
      exact Lin.Runs.value Lin.keeps (v := .agg #[.int .u8 ts, .int .i64 le, .int .u16 id, .bool st, .bool mo, .int .i64 ofs, .int .u8 tt, .int .u8 pr, .int .u16 sm, .bool false, .int .u64 0, .int .u64 sl, .bool false, .int .u64 0, .int .u64 dl, .slice A1 i1 c1]) (by simp [execOp, go_sem, h3, q0, q1, q2, q3, q4, q5, q6, q7, q8, q9, q10, q11, q12, q13, q14, q15]) rfl
    · intro ρ wq hb ho hc hd
      have hC : ∀ v, ρ (.const v) = v := fun v => hc _ (by intro t e; cases e)
      have hF : ∀ f, ρ (.func f) = .func (.func f) #[] #[] := fun f => hc _ (by intro t e; cases e)
      have h25 : ρ (.tmp 25) = .agg #[.int .u8 ts, .int .i64 le, .int .u16 id, .bool st, .bool mo, .int .i64 ofs, .int .u8 tt, .int .u8 pr, .int .u16 sm, .bool false, .int .u64 0, .int .u64 sl, .bool false, .int .u64 0, .int .u64 dl, .slice A1 i1 c1] := hd 25 (by kernel_rfl)
      exact Lin.Runs.call Lin.keeps (f := 18) (args := #[hv4 ts le id st mo ofs tt pr sm false 0 sl false 0 dl (.slice A1 i1 c1)]) (by simp [execOp, go_sem, hF, h25, hv4]) ((of4 ts le id st mo ofs tt pr sm false 0 sl false 0 dl A1 i1 c1 wq).mono fun e w9 h => ⟨_, h.1, h.2, rfl⟩)
    · intro ρ wq hb ho hc hd
      have hC : ∀ v, ρ (.const v) = v := fun v => hc _ (by intro t e; cases e)
      have hF : ∀ f, ρ (.func f) = .func (.func f) #[] #[] := fun f => hc _ (by intro t e; cases e)
      have h6 : ρ (.tmp 6) = .pointer (some ⟨g6, 0, none⟩) := ho 6 (by kernel_rfl)
      have q0 := (hb.cell (p := ⟨g6, 0, none⟩) ZL.out).trans Z0.out
      have q1 := (hb.cell (p := ⟨g6, 1, none⟩) ZL.out).trans Z1.out
      have q2 := (hb.cell (p := ⟨g6, 2, none⟩) ZL.out).trans Z2.out
      have q3 := (hb.cell (p := ⟨g6, 3, none⟩) ZL.out).trans Z3.out
      have q4 := (hb.cell (p := ⟨g6, 4, none⟩) ZL.out).trans Z4.out
      have q5 := (hb.cell (p := ⟨g6, 5, none⟩) ZL.out).trans Z5.out
      have q6 := (hb.cell (p := ⟨g6, 6, none⟩) ZL.out).trans Z6.out
      have q7 := (hb.cell (p := ⟨g6, 7, none⟩) ZL.out).trans Z7.out
      have q8 := (hb.cell (p := ⟨g6, 8, none⟩) ZL.out).trans Z8.out
      have q9 := (hb.cell (p := ⟨g6, 9, none⟩) ZL.out).trans Z9.out
      have q10 := (hb.cell (p := ⟨g6, 10, none⟩) ZL.out).trans Z10.out
      have q11 := (hb.cell (p := ⟨g6, 11, none⟩) ZL.out).trans Z11.out
      have q12 := (hb.cell (p := ⟨g6, 12, none⟩) ZL.out).trans Z12.out
      have q13 := (hb.cell (p := ⟨g6, 13, none⟩) ZL.out).trans Z13.out
      have q14 := (hb.cell (p := ⟨g6, 14, none⟩) ZL.out).trans Z14.out
      have q15 := (hb.cell (p := ⟨g6, 15, none⟩) ZL.out).trans Z15.out
      exact Lin.Runs.value Lin.keeps (v := .agg #[.int .u8 ts, .int .i64 le, .int .u16 id, .bool st, .bool mo, .int .i64 ofs, .int .u8 tt, .int .u8 pr, .int .u16 sm, .bool false, .int .u64 0, .int .u64 sl, .bool false, .int .u64 0, .int .u64 dl, .slice A2 i2 c2]) (by simp [execOp, go_sem, h6, q0, q1, q2, q3, q4, q5, q6, q7, q8, q9, q10, q11, q12, q13, q14, q15]) rfl
    · intro ρ wq hb ho hc hd
      have hC : ∀ v, ρ (.const v) = v := fun v => hc _ (by intro t e; cases e)
      have hF : ∀ f, ρ (.func f) = .func (.func f) #[] #[] := fun f => hc _ (by intro t e; cases e)
      have h26 : ρ (.tmp 26) = .agg #[.int .u8 ts, .int .i64 le, .int .u16 id, .bool st, .bool mo, .int .i64 ofs, .int .u8 tt, .int .u8 pr, .int .u16 sm, .bool false, .int .u64 0, .int .u64 sl, .bool false, .int .u64 0, .int .u64 dl, .slice A1 i1 c1] := hd 26 (by kernel_rfl)
      have h27 : ρ (.tmp 27) = .agg #[.int .u8 ts, .int .i64 le, .int .u16 id, .bool st, .bool mo, .int .i64 ofs, .int .u8 tt, .int .u8 pr, .int .u16 sm, .bool false, .int .u64 0, .int .u64 sl, .bool false, .int .u64 0, .int .u64 dl, .slice A2 i2 c2] := hd 27 (by kernel_rfl)
      exact Lin.Runs.call Lin.keeps (f := 17) (args := #[hv4 ts le id st mo ofs tt pr sm false 0 sl false 0 dl (.slice A1 i1 c1), hv4 ts le id st mo ofs tt pr sm false 0 sl false 0 dl (.slice A2 i2 c2)]) (by simp [execOp, go_sem, hF, h26, h27, hv4]) ((same4 ts le id st mo ofs tt pr sm false 0 sl false 0 dl o i1 i2 _ _ wq (HO1.out.st hb) (HO2.out.st hb)).mono fun e w9 h => ⟨_, h.1, h.2, rfl⟩)
    · intro ρ wq hb ho hc hd
      have hC : ∀ v, ρ (.const v) = v := fun v => hc _ (by intro t e; cases e)
      have hF : ∀ f, ρ (.func f) = .func (.func f) #[] #[] := fun f => hc _ (by intro t e; cases e)
      have h28 : ρ (.tmp 28) = .bool true := hd 28 (by kernel_rfl)
      exact Lin.Runs.value Lin.keeps (Lin.exec_move rfl) h28
    · intro ρ wq hb ho hc hd
      have hC : ∀ v, ρ (.const v) = v := fun v => hc _ (by intro t e; cases e)
      have hF : ∀ f, ρ (.func f) = .func (.func f) #[] #[] := fun f => hc _ (by intro t e; cases e)
      intro t ht; cases (show some 29 = some t from ht)
      refine ⟨fun _ => ?_, fun hn => absurd (hd 29 (by kernel_rfl)) hn⟩
      have h4 : ρ (.tmp 4) = .slice A3 p3 c3 := ho 4 (by kernel_rfl)
      exact Lin.Runs.value Lin.keeps (Lin.exec_move rfl) h4
    · intro ρ wq hb ho hc hd
      have hC : ∀ v, ρ (.const v) = v := fun v => hc _ (by intro t e; cases e)
      have hF : ∀ f, ρ (.func f) = .func (.func f) #[] #[] := fun f => hc _ (by intro t e; cases e)
      intro t ht; cases (show some 29 = some t from ht)
      refine ⟨fun _ => ?_, fun hn => absurd (hd 29 (by kernel_rfl)) hn⟩
      have h30 : ρ (.tmp 30) = .slice A3 p3 c3 := hd 30 (by kernel_rfl)
      exact Lin.Runs.value Lin.keeps (v := .string (strOfNums L)) (Lin.exec_convert (s := 22) (d := 9) (x := .tmp 30) rfl (by rw [h30]; exact (HL1.out.st hb).conv)) rfl
    · intro ρ wq hb ho hc hd
      have hC : ∀ v, ρ (.const v) = v := fun v => hc _ (by intro t e; cases e)
      have hF : ∀ f, ρ (.func f) = .func (.func f) #[] #[] := fun f => hc _ (by intro t e; cases e)
      intro t ht; cases (show some 29 = some t from ht)
      refine ⟨fun _ => ?_, fun hn => absurd (hd 29 (by kernel_rfl)) hn⟩
      have h7 : ρ (.tmp 7) = .slice A4 p4 c4 := ho 7 (by kernel_rfl)
      exact Lin.Runs.value Lin.keeps (Lin.exec_move rfl) h7
    · intro ρ wq hb ho hc hd
      have hC : ∀ v, ρ (.const v) = v := fun v => hc _ (by intro t e; cases e)
      have hF : ∀ f, ρ (.func f) = .func (.func f) #[] #[] := fun f => hc _ (by intro t e; cases e)
      intro t ht; cases (show some 29 = some t from ht)
      refine ⟨fun _ => ?_, fun hn => absurd (hd 29 (by kernel_rfl)) hn⟩
      have h32 : ρ (.tmp 32) = .slice A4 p4 c4 := hd 32 (by kernel_rfl)
      exact Lin.Runs.value Lin.keeps (v := .string (strOfNums L)) (Lin.exec_convert (s := 22) (d := 9) (x := .tmp 32) rfl (by rw [h32]; exact (HL2.out.st hb).conv)) rfl
    · intro ρ wq hb ho hc hd
      have hC : ∀ v, ρ (.const v) = v := fun v => hc _ (by intro t e; cases e)
      have hF : ∀ f, ρ (.func f) = .func (.func f) #[] #[] := fun f => hc _ (by intro t e; cases e)
      intro t ht; cases (show some 29 = some t from ht)
      refine ⟨fun _ => ?_, fun hn => absurd (hd 29 (by kernel_rfl)) hn⟩
      have h31 : ρ (.tmp 31) = .string (strOfNums L) := hd 31 (by kernel_rfl)
      have h33 : ρ (.tmp 33) = .string (strOfNums L) := hd 33 (by kernel_rfl)
      exact Lin.Runs.value Lin.keeps (v := .bool true) (by simp [execOp, go_sem, h31, h33]) rfl
    · intro ρ wq hb ho hc hd
      have hC : ∀ v, ρ (.const v) = v := fun v => hc _ (by intro t e; cases e)
      have hF : ∀ f, ρ (.func f) = .func (.func f) #[] #[] := fun f => hc _ (by intro t e; cases e)
      have h29 : ρ (.tmp 29) = .bool true := hd 29 (by kernel_rfl)
      have h34 : ρ (.tmp 34) = .bool true := hd 34 (by kernel_rfl)
      exact Lin.Runs.value Lin.keeps (v := .bool true) (by simp [execOp, go_sem, hC, h29, h34]) rfl
    · intro ρ wq hb ho hc hd
      have hC : ∀ v, ρ (.const v) = v := fun v => hc _ (by intro t e; cases e)
      have hF : ∀ f, ρ (.func f) = .func (.func f) #[] #[] := fun f => hc _ (by intro t e; cases e)
      have h35 : ρ (.tmp 35) = .bool true := hd 35 (by kernel_rfl)
      exact Lin.Runs.value Lin.keeps (Lin.exec_move rfl) h35
    · intro ρ wq hb ho hc hd
      have hC : ∀ v, ρ (.const v) = v := fun v => hc _ (by intro t e; cases e)
      have hF : ∀ f, ρ (.func f) = .func (.func f) #[] #[] := fun f => hc _ (by intro t e; cases e)
      intro t ht; cases (show some 36 = some t from ht)
      refine ⟨fun _ => ?_, fun hn => absurd (hd 36 (by kernel_rfl)) hn⟩
      have h5 : ρ (.tmp 5) = .int .i64 er := ho 5 (by kernel_rfl)
      exact Lin.Runs.value Lin.keeps (Lin.exec_move rfl) h5
    · intro ρ wq hb ho hc hd
      have hC : ∀ v, ρ (.const v) = v := fun v => hc _ (by intro t e; cases e)
      have hF : ∀ f, ρ (.func f) = .func (.func f) #[] #[] := fun f => hc _ (by intro t e; cases e)
      intro t ht; cases (show some 36 = some t from ht)
      refine ⟨fun _ => ?_, fun hn => absurd (hd 36 (by kernel_rfl)) hn⟩
      have h8 : ρ (.tmp 8) = .int .i64 er := ho 8 (by kernel_rfl)
      exact Lin.Runs.value Lin.keeps (Lin.exec_move rfl) h8
    · intro ρ wq hb ho hc hd
      have hC : ∀ v, ρ (.const v) = v := fun v => hc _ (by intro t e; cases e)
      have hF : ∀ f, ρ (.func f) = .func (.func f) #[] #[] := fun f => hc _ (by intro t e; cases e)
      intro t ht; cases (show some 36 = some t from ht)
      refine ⟨fun _ => ?_, fun hn => absurd (hd 36 (by kernel_rfl)) hn⟩
      have h37 : ρ (.tmp 37) = .int .i64 er := hd 37 (by kernel_rfl)
      have h38 : ρ (.tmp 38) = .int .i64 er := hd 38 (by kernel_rfl)
      exact Lin.Runs.value Lin.keeps (v := .bool true) (by simp [execOp, go_sem, h37, h38]) rfl
    · intro ρ wq hb ho hc hd
      have hC : ∀ v, ρ (.const v) = v := fun v => hc _ (by intro t e; cases e)
      have hF : ∀ f, ρ (.func f) = .func (.func f) #[] #[] := fun f => hc _ (by intro t e; cases e)
      have h36 : ρ (.tmp 36) = .bool true := hd 36 (by kernel_rfl)
      have h39 : ρ (.tmp 39) = .bool true := hd 39 (by kernel_rfl)
      exact Lin.Runs.value Lin.keeps (v := .bool true) (by simp [execOp, go_sem, hC, h36, h39]) rfl
    · intro ρ wq hb ho hc hd
      have hC : ∀ v, ρ (.const v) = v := fun v => hc _ (by intro t e; cases e)
      have hF : ∀ f, ρ (.func f) = .func (.func f) #[] #[] := fun f => hc _ (by intro t e; cases e)
      have h40 : ρ (.tmp 40) = .bool true := hd 40 (by kernel_rfl)
      exact Lin.Runs.value Lin.keeps (Lin.exec_move rfl) h40
    · intro ρ wq hb ho hc hd
      have hC : ∀ v, ρ (.const v) = v := fun v => hc _ (by intro t e; cases e)
      have hF : ∀ f, ρ (.func f) = .func (.func f) #[] #[] := fun f => hc _ (by intro t e; cases e)
      intro t ht; cases (show some 41 = some t from ht)
      refine ⟨fun _ => ?_, fun hn => absurd (hd 41 (by kernel_rfl)) hn⟩
      exact Lin.Runs.call Lin.keeps (f := 14) (args := #[]) (by simp [execOp, go_sem, hF]) ((awake04 wq).mono fun e w9 h => ⟨_, h.1, h.2, rfl⟩)
    · intro ρ wq hb ho hc hd
      have hC : ∀ v, ρ (.const v) = v := fun v => hc _ (by intro t e; cases e)
      have hF : ∀ f, ρ (.func f) = .func (.func f) #[] #[] := fun f => hc _ (by intro t e; cases e)
      have h41 : ρ (.tmp 41) = .bool true := hd 41 (by kernel_rfl)
      have h42 : ρ (.tmp 42) = .bool true := hd 42 (by kernel_rfl)
      exact Lin.Runs.value Lin.keeps (v := .bool true) (by simp [execOp, go_sem, hC, h41, h42]) rfl
    · intro ρ wq hb ho hc hd
      have hC : ∀ v, ρ (.const v) = v := fun v => hc _ (by intro t e; cases e)
      have hF : ∀ f, ρ (.func f) = .func (.func f) #[] #[] := fun f => hc _ (by intro t e; cases e)
      have h43 : ρ (.tmp 43) = .bool true := hd 43 (by kernel_rfl)
      exact Lin.Runs.value Lin.keeps (Lin.exec_assign rfl) h43
    · intro vals w9 hb2 hv
      have ee := hv 2 (by kernel_rfl)
      have HB9 := Lib.hid (HBB.out.trans (hb2.mono HBB.out.size))
      clear hb2
      simp only [Lin.putAll, Option.getD_some]
      rw [show vals 2 = .bool true from ee]
      clear ee hv
      go_simp
      generalize vals = vv
      go_wp2_with fail
      go_ret
      exact ⟨rfl, HB9.out⟩
end Go.Proofs.Ytmgendgfdhhgfaa
