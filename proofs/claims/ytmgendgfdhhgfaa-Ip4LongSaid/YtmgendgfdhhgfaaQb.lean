/-
  Parse of package ip4. Helper of the claims of layer 4.
-/
import Derived.Test.YtmgendgfdhhgfaaQa
namespace Go.Proofs.Ytmgendgfdhhgfaa
open Go.ChangeShapes Go.WideShapes Go.ChangeAt Go.RowKit
set_option linter.unusedSimpArgs false
set_option linter.unusedVariables false
set_option maxRecDepth 100000
/-- The header that bytes hold, and its options vo. -/
def hdr4 (l : List Int) (vo : Value) : Value := hv4 (nw l 1 1) (nw l 2 2) (nw l 4 2) (stB (nw l 6 2)) (moB (nw l 6 2)) (nw l 6 2 % 8192) (nw l 8 1) (nw l 9 1) (nw l 10 2) false 0 (nw l 12 4) false 0 (nw l 16 4) vo
theorem nw_take {l : List Int} {S i k : Nat} (h : i + k ≤ S) : nw (l.take S) i k = nw l i k := by
  unfold nw; rw [List.drop_take, List.take_take, Nat.min_eq_left (by omega)]
set_option maxHeartbeats 8000000 in
theorem read4 (A : Option Addr) (c n S : Nat) (l : List Int) (w : World) (hv : IsB l n (.slice A n c) w) (ho : Octets l) (hn : n ≤ 70000) (h20 : 20 ≤ S) (hS : S ≤ n) :
    Calls Try.prog 61 #[.slice A n c, .int .i64 (S : Int)] w fun e w' => ∃ vo, e = .returned (hdr4 l vo) ∧ Below w.heap.size w w' ∧ OwnP w.heap.size ((l.drop 20).take (S - 20)) (S - 20) vo w' := by
  have hlen : l.length = n := by obtain ⟨_, _, _, e, _⟩ := hv; exact e
  have hcap := hv.caps
  have hb0 : Below w.heap.size w (w.alloc (.cells #[.int .u8 0, .int .i64 0, .int .u16 0, .bool false, .bool false, .int .i64 0, .int .u8 0, .int .u8 0, .int .u16 0, .bool false, .int .u64 0, .int .u64 0, .bool false, .int .u64 0, .int .u64 0, .slice none 0 0] 28)) := (Below.refl _ _).alloc (Nat.le_refl _) _
  have hg0 := Is.new w 28 #[.int .u8 0, .int .i64 0, .int .u16 0, .bool false, .bool false, .int .i64 0, .int .u8 0, .int .u8 0, .int .u16 0, .bool false, .int .u64 0, .int .u64 0, .bool false, .int .u64 0, .int .u64 0, .slice none 0 0]
  have HT := hide ((hv.st hb0).take hS)
  have LN := Lib.hid (show (l.take S).length = S from by simp; omega)
  have OK := Lib.hid (ho.take S)
  have HOPT := Lib.hid (show ((l.take S).drop 20).take (S - 20) = (l.drop 20).take (S - 20) from by rw [List.drop_take, List.take_take, Nat.min_self])
  unfold hdr4
  have hx1 := nw_take (l := l) (S := S) (i := 1) (k := 1) (by omega)
  have hx2 := nw_take (l := l) (S := S) (i := 2) (k := 2) (by omega)
  have hx4 := nw_take (l := l) (S := S) (i := 4) (k := 2) (by omega)
  have hx6 := nw_take (l := l) (S := S) (i := 6) (k := 2) (by omega)
  have hx8 := nw_take (l := l) (S := S) (i := 8) (k := 1) (by omega)
  have hx9 := nw_take (l := l) (S := S) (i := 9) (k := 1) (by omega)
  have hx10 := nw_take (l := l) (S := S) (i := 10) (k := 2) (by omega)
  have hx12 := nw_take (l := l) (S := S) (i := 12) (k := 4) (by omega)
  have hx16 := nw_take (l := l) (S := S) (i := 16) (k := 4) (by omega)
  have bp := nw2_bd (l := l) (i := 6) (by omega) ho
  have b2 := nw2_bd (l := l) (i := 2) (by omega) ho
  generalize nw l 1 1 = x1 at *
  have X1 := Lib.hid hx1
  clear hx1
  generalize nw l 2 2 = x2 at *
  have X2 := Lib.hid hx2
  clear hx2
  generalize nw l 4 2 = x4 at *
  have X4 := Lib.hid hx4
  clear hx4
  generalize nw l 6 2 = x6 at *
  have X6 := Lib.hid hx6
  clear hx6
  generalize nw l 8 1 = x8 at *
  have X8 := Lib.hid hx8
  clear hx8
  generalize nw l 9 1 = x9 at *
  have X9 := Lib.hid hx9
  clear hx9
  generalize nw l 10 2 = x10 at *
  have X10 := Lib.hid hx10
  clear hx10
  generalize nw l 12 4 = x12 at *
  have X12 := Lib.hid hx12
  clear hx12
  generalize nw l 16 4 = x16 at *
  have X16 := Lib.hid hx16
  clear hx16
  obtain ⟨p0, p1⟩ := bp
  have ST := bit_st p0 (by omega); have MO := bit_mo p0 (by omega); have OF := bit_of p0 (by omega)
  have PB := Lib.hid (show 0 ≤ x6 ∧ x6 ≤ 65535 from ⟨p0, p1⟩)
  have n0 : (0 : Int) ≤ (S : Int) := Int.natCast_nonneg _
  have nS : (S : Int) ≤ (c : Int) := by have := hcap.1; omega
  generalize l.take S = T at *
  have S70 : S ≤ 70000 := by omega
  have HS20 := Lib.hid h20
  clear hv ho hlen hS hn
  go_enter Try.func61, Try.ntmps61
  go_wp2_with fail
  generalize w.alloc (.cells #[.int .u8 0, .int .i64 0, .int .u16 0, .bool false, .bool false, .int .i64 0, .int .u8 0, .int .u8 0, .int .u16 0, .bool false, .int .u64 0, .int .u64 0, .bool false, .int .u64 0, .int .u64 0, .slice none 0 0] 28) = W at *
  have HG := hide hg0; have HB := Lib.hid hb0
  clear hg0 hb0
  refine (read_q HT.out (by omega)).mono ?_
  rintro e w1 ⟨g, rfl, h1⟩
  have RR := hide h1; clear h1
  go_wp2_with fail
  refine (byte_q 1 _ RR.out OK.out rfl (by rw [LN.out]; omega) rfl).mono ?_
  rintro e w2 ⟨rfl, h1, _⟩
  have R9 := hide h1
  clear RR h1
  have RR := R9
  clear R9
  go_wp2_with fail
  refine (byte_q 2 x1 RR.out OK.out rfl (by rw [LN.out]; omega) X1.out).mono ?_
  rintro e w3 ⟨rfl, h1, _⟩
  have R9 := hide h1
  clear RR h1
  have RR := R9
  clear R9
  go_wp2_with fail
  refine (word_q 4 x2 RR.out OK.out rfl (by rw [LN.out]; omega) X2.out).mono ?_
  rintro e w4 ⟨rfl, h1, _⟩
  have R9 := hide h1
  clear RR h1
  have RR := R9
  clear R9
  go_wp2_with fail
  refine (word_q 6 x4 RR.out OK.out rfl (by rw [LN.out]; omega) X4.out).mono ?_
  rintro e w5 ⟨rfl, h1, _⟩
  have R9 := hide h1
  clear RR h1
  have RR := R9
  clear R9
  have R5S := Lib.hid (Nat.lt_of_lt_of_le HG.out.lt RR.out.bel.size); have R5G := Lib.hid RR.out.1.lt
  go_wp2_with fail
  have h6 := Is.new w5 28 #[.int .u8 x1, .int .i64 x2, .int .u16 x4, .bool false, .bool false, .int .i64 0, .int .u8 0, .int .u8 0, .int .u16 0, .bool false, .int .u64 0, .int .u64 0, .bool false, .int .u64 0, .int .u64 0, .slice none 0 0]
  have h1 := RR.out.alloc (.cells #[.int .u8 x1, .int .i64 x2, .int .u16 x4, .bool false, .bool false, .int .i64 0, .int .u8 0, .int .u8 0, .int .u16 0, .bool false, .int .u64 0, .int .u64 0, .bool false, .int .u64 0, .int .u64 0, .slice none 0 0] 28)
  have H6 := hide h6
  have R9 := hide h1
  clear RR h1 h6
  have RR := R9
  clear R9
  have hgl : g < w5.heap.size := R5G.out
  have HZ := Lib.hid (show w.heap.size < w5.heap.size from R5S.out)
  generalize w5.alloc (.cells #[.int .u8 x1, .int .i64 x2, .int .u16 x4, .bool false, .bool false, .int .i64 0, .int .u8 0, .int .u8 0, .int .u16 0, .bool false, .int .u64 0, .int .u64 0, .bool false, .int .u64 0, .int .u64 0, .slice none 0 0] 28) = W6 at *
  generalize w5.heap.size = g6 at *
  have HNE := Lib.hid (show g ≠ g6 from by omega)
  go_wp2_with fail
  refine (word_q 8 x6 RR.out OK.out rfl (by rw [LN.out]; omega) X6.out).mono ?_
  rintro e w7 ⟨rfl, h1, hgr⟩
  have R9 := hide h1
  clear RR h1
  have RR := R9
  clear R9
  have H9 := hide (H6.out.only hgr (by intro e; injection e with e; exact HNE.out e.symm))
  clear H6 hgr
  have H6 := H9
  clear H9
  have e1 : (bits .and .i64 x6 16384 != 0) = stB x6 := by rw [ST]; cases stB x6 <;> rfl
  have e2 : (bits .and .i64 x6 8192 != 0) = moB x6 := by rw [MO]; cases moB x6 <;> rfl
  have w6 : IntKind.i64.wrap x6 = x6 := IntWalk.i64_in _ (by omega)
  clear ST MO
  have h6 := H6.out
  have c3 := h6.cell 3; have f3 := h6.free 3
  have c4 := h6.cell 4; have f4 := h6.free 4
  have c5 := h6.cell 5; have f5 := h6.free 5
  simp at c3 c4 c5
  have g6l := h6.lt
  have H9 : Hid (Is (((w7.setCell ⟨g6, 3, none⟩ (.bool (stB x6))).setCell ⟨g6, 4, none⟩ (.bool (moB x6))).setCell ⟨g6, 5, none⟩ (.int .i64 (x6 % 8192))) g6 28 #[.int .u8 x1, .int .i64 x2, .int .u16 x4, .bool (stB x6), .bool (moB x6), .int .i64 (x6 % 8192), .int .u8 0, .int .u8 0, .int .u16 0, .bool false, .int .u64 0, .int .u64 0, .bool false, .int .u64 0, .int .u64 0, .slice none 0 0]) := hide (((h6.put 3 (.bool (stB x6))).put 4 (.bool (moB x6))).put 5 (.int .i64 (x6 % 8192)))
  have R9 := hide (((RR.out.set hgl (.bool (stB x6)) (o := 3)).set hgl (.bool (moB x6)) (o := 4)).set hgl (.int .i64 (x6 % 8192)) (o := 5))
  clear RR H6 h6
  have RR := R9; have H6 := H9
  clear R9 H9
  go_wp2_with fail
  generalize (((w7.setCell ⟨g6, 3, none⟩ (.bool (stB x6))).setCell ⟨g6, 4, none⟩ (.bool (moB x6))).setCell ⟨g6, 5, none⟩ (.int .i64 (x6 % 8192))) = W7 at *
  clear c3 f3 c4 f4 c5 f5 g6l
  refine (byte_q 9 x8 RR.out OK.out rfl (by rw [LN.out]; omega) X8.out).mono ?_
  rintro e w8 ⟨rfl, h1, hgr⟩
  have R9 := hide h1
  clear RR h1
  have RR := R9
  clear R9
  have H9 := hide (H6.out.only hgr (by intro e; injection e with e; exact HNE.out e.symm))
  clear H6 hgr
  have H6 := H9
  clear H9
  go_wp2_with fail
  refine (byte_q 10 x9 RR.out OK.out rfl (by rw [LN.out]; omega) X9.out).mono ?_
  rintro e w9 ⟨rfl, h1, hgr⟩
  have R9 := hide h1
  clear RR h1
  have RR := R9
  clear R9
  have H9 := hide (H6.out.only hgr (by intro e; injection e with e; exact HNE.out e.symm))
  clear H6 hgr
  have H6 := H9
  clear H9
  go_wp2_with fail
  refine (word_q 12 x10 RR.out OK.out rfl (by rw [LN.out]; omega) X10.out).mono ?_
  rintro e w10 ⟨rfl, h1, hgr⟩
  have R9 := hide h1
  clear RR h1
  have RR := R9
  clear R9
  have H9 := hide (H6.out.only hgr (by intro e; injection e with e; exact HNE.out e.symm))
  clear H6 hgr
  have H6 := H9
  clear H9
  have h6 := H6.out
  have c6 := h6.cell 6; have f6 := h6.free 6
  have c7 := h6.cell 7; have f7 := h6.free 7
  have c8 := h6.cell 8; have f8 := h6.free 8
  simp at c6 c7 c8
  have g6l := h6.lt
  have H9 : Hid (Is (((w10.setCell ⟨g6, 6, none⟩ (.int .u8 x8)).setCell ⟨g6, 7, none⟩ (.int .u8 x9)).setCell ⟨g6, 8, none⟩ (.int .u16 x10)) g6 28 #[.int .u8 x1, .int .i64 x2, .int .u16 x4, .bool (stB x6), .bool (moB x6), .int .i64 (x6 % 8192), .int .u8 x8, .int .u8 x9, .int .u16 x10, .bool false, .int .u64 0, .int .u64 0, .bool false, .int .u64 0, .int .u64 0, .slice none 0 0]) := hide (((h6.put 6 (.int .u8 x8)).put 7 (.int .u8 x9)).put 8 (.int .u16 x10))
  have R9 := hide (((RR.out.set hgl (.int .u8 x8) (o := 6)).set hgl (.int .u8 x9) (o := 7)).set hgl (.int .u16 x10) (o := 8))
  clear RR H6 h6
  have RR := R9; have H6 := H9
  clear R9 H9
  go_wp2_with fail
  generalize (((w10.setCell ⟨g6, 6, none⟩ (.int .u8 x8)).setCell ⟨g6, 7, none⟩ (.int .u8 x9)).setCell ⟨g6, 8, none⟩ (.int .u16 x10)) = W10 at *
  clear c6 f6 c7 f7 c8 f8 g6l
  refine (part_q 4 16 RR.out rfl (by rw [LN.out]; omega) (by rw [LN.out]; omega)).mono ?_
  rintro e wa0 ⟨A0, c0, rfl, hpo, h1, hgr⟩
  have HPO := hide (IsB.own hpo)
  have R9 := hide h1
  clear RR h1 hpo
  have RR := R9
  clear R9
  have H9 := hide (H6.out.only hgr (by intro e; injection e with e; exact HNE.out e.symm))
  clear H6 hgr
  have H6 := H9
  clear H9
  go_wp2_with fail
  refine (aof4 _ x12 _ _ (OK.out.drop 12 |>.take 4) (by unfold nw; rw [List.drop_zero, List.take_take, Nat.min_self]; exact X12.out) HPO.out).mono ?_
  rintro e wb0 ⟨rfl, hb⟩
  have R9 := hide (RR.out.kept hb); have H9 := hide (H6.out.below hb H6.out.lt)
  clear RR H6 hb HPO
  have RR := R9; have H6 := H9
  clear R9 H9
  have h6 := H6.out
  have c9 := h6.cell 9; have f9 := h6.free 9
  have c10 := h6.cell 10; have f10 := h6.free 10
  have c11 := h6.cell 11; have f11 := h6.free 11
  simp at c9 c10 c11
  have g6l := h6.lt
  have H9 : Hid (Is (((wb0.setCell ⟨g6, 9, none⟩ (.bool false)).setCell ⟨g6, 10, none⟩ (.int .u64 0)).setCell ⟨g6, 11, none⟩ (.int .u64 x12)) g6 28 #[.int .u8 x1, .int .i64 x2, .int .u16 x4, .bool (stB x6), .bool (moB x6), .int .i64 (x6 % 8192), .int .u8 x8, .int .u8 x9, .int .u16 x10, .bool false, .int .u64 0, .int .u64 x12, .bool false, .int .u64 0, .int .u64 0, .slice none 0 0]) := hide (((h6.put 9 (.bool false)).put 10 (.int .u64 0)).put 11 (.int .u64 x12))
  have R9 := hide (((RR.out.set hgl (.bool false) (o := 9)).set hgl (.int .u64 0) (o := 10)).set hgl (.int .u64 x12) (o := 11))
  clear RR H6 h6
  have RR := R9; have H6 := H9
  clear R9 H9
  go_wp2_with fail
  generalize (((wb0.setCell ⟨g6, 9, none⟩ (.bool false)).setCell ⟨g6, 10, none⟩ (.int .u64 0)).setCell ⟨g6, 11, none⟩ (.int .u64 x12)) = W12 at *
  clear c9 f9 c10 f10 c11 f11 g6l
  refine (part_q 4 20 RR.out rfl (by rw [LN.out]; omega) (by rw [LN.out]; omega)).mono ?_
  rintro e wa1 ⟨A1, c1, rfl, hpo, h1, hgr⟩
  have HPO := hide (IsB.own hpo)
  have R9 := hide h1
  clear RR h1 hpo
  have RR := R9
  clear R9
  have H9 := hide (H6.out.only hgr (by intro e; injection e with e; exact HNE.out e.symm))
  clear H6 hgr
  have H6 := H9
  clear H9
  go_wp2_with fail
  refine (aof4 _ x16 _ _ (OK.out.drop 16 |>.take 4) (by unfold nw; rw [List.drop_zero, List.take_take, Nat.min_self]; exact X16.out) HPO.out).mono ?_
  rintro e wb1 ⟨rfl, hb⟩
  have R9 := hide (RR.out.kept hb); have H9 := hide (H6.out.below hb H6.out.lt)
  clear RR H6 hb HPO
  have RR := R9; have H6 := H9
  clear R9 H9
  have h6 := H6.out
  have c12 := h6.cell 12; have f12 := h6.free 12
  have c13 := h6.cell 13; have f13 := h6.free 13
  have c14 := h6.cell 14; have f14 := h6.free 14
  simp at c12 c13 c14
  have g6l := h6.lt
  have H9 : Hid (Is (((wb1.setCell ⟨g6, 12, none⟩ (.bool false)).setCell ⟨g6, 13, none⟩ (.int .u64 0)).setCell ⟨g6, 14, none⟩ (.int .u64 x16)) g6 28 #[.int .u8 x1, .int .i64 x2, .int .u16 x4, .bool (stB x6), .bool (moB x6), .int .i64 (x6 % 8192), .int .u8 x8, .int .u8 x9, .int .u16 x10, .bool false, .int .u64 0, .int .u64 x12, .bool false, .int .u64 0, .int .u64 x16, .slice none 0 0]) := hide (((h6.put 12 (.bool false)).put 13 (.int .u64 0)).put 14 (.int .u64 x16))
  have R9 := hide (((RR.out.set hgl (.bool false) (o := 12)).set hgl (.int .u64 0) (o := 13)).set hgl (.int .u64 x16) (o := 14))
  clear RR H6 h6
  have RR := R9; have H6 := H9
  clear R9 H9
  go_wp2_with fail
  generalize (((wb1.setCell ⟨g6, 12, none⟩ (.bool false)).setCell ⟨g6, 13, none⟩ (.int .u64 0)).setCell ⟨g6, 14, none⟩ (.int .u64 x16)) = W14 at *
  clear c12 f12 c13 f13 c14 f14 g6l
  have HOB := Lib.hid H6.out.lt
  generalize hB0 : W14.heap.size = B0 at *
  have HGB := Lib.hid (show w.heap.size < B0 from by have := HOB.out; have := HZ.out; omega)
  refine (rest_q (S - 20) RR.out (by rw [LN.out]; have := HS20.out; omega) (by rw [LN.out]; omega)).mono ?_
  rintro e w20 ⟨Ao, co, rfl, hpo, h1, hgr⟩
  rw [HOPT.out] at hpo
  rw [hB0] at hpo
  have HPO := hide hpo
  have HBW := Lib.hid (HB.out.trans (h1.bel.mono HB.out.size))
  have HG2 := hide (HG.out.below h1.bel HG.out.lt)
  clear RR h1 hpo HG HB
  have H9 := hide (H6.out.only hgr (by intro e; injection e with e; exact HNE.out e.symm))
  clear H6 hgr
  have H6 := H9
  clear H9
  have h6 := H6.out
  have c15 := h6.cell 15; have f15 := h6.free 15; have g6l := h6.lt
  simp at c15
  have H9 : Hid (Is (w20.setCell ⟨g6, 15, none⟩ (.slice Ao (S - 20) co)) g6 28 #[.int .u8 x1, .int .i64 x2, .int .u16 x4, .bool (stB x6), .bool (moB x6), .int .i64 (x6 % 8192), .int .u8 x8, .int .u8 x9, .int .u16 x10, .bool false, .int .u64 0, .int .u64 x12, .bool false, .int .u64 0, .int .u64 x16, .slice Ao (S - 20) co]) := hide (h6.put 15 _)
  have HG3 := hide (HG2.out.other (p := ⟨g6, 15, none⟩) (by have := HZ.out; show w.heap.size ≠ g6; omega) (.slice Ao (S - 20) co))
  have HB3 := Lib.hid (Below.setCell (p := ⟨g6, 15, none⟩) HBW.out (Nat.le_of_lt HZ.out) (.slice Ao (S - 20) co))
  have HP3 := hide (HPO.out.set (p := ⟨g6, 15, none⟩) HOB.out (.slice Ao (S - 20) co))
  clear HPO H6 HG2 HBW h6
  have zs := HG3.out
  have z0 := zs.cell 0; have y0 := zs.free 0
  have z1 := zs.cell 1; have y1 := zs.free 1
  have z2 := zs.cell 2; have y2 := zs.free 2
  have z3 := zs.cell 3; have y3 := zs.free 3
  have z4 := zs.cell 4; have y4 := zs.free 4
  have z5 := zs.cell 5; have y5 := zs.free 5
  have z6 := zs.cell 6; have y6 := zs.free 6
  have z7 := zs.cell 7; have y7 := zs.free 7
  have z8 := zs.cell 8; have y8 := zs.free 8
  have z9 := zs.cell 9; have y9 := zs.free 9
  have z10 := zs.cell 10; have y10 := zs.free 10
  have z11 := zs.cell 11; have y11 := zs.free 11
  have z12 := zs.cell 12; have y12 := zs.free 12
  have z13 := zs.cell 13; have y13 := zs.free 13
  have z14 := zs.cell 14; have y14 := zs.free 14
  have z15 := zs.cell 15; have y15 := zs.free 15
  have c0 := H9.out.cell 0
  have c1 := H9.out.cell 1
  have c2 := H9.out.cell 2
  have c3 := H9.out.cell 3
  have c4 := H9.out.cell 4
  have c5 := H9.out.cell 5
  have c6 := H9.out.cell 6
  have c7 := H9.out.cell 7
  have c8 := H9.out.cell 8
  have c9 := H9.out.cell 9
  have c10 := H9.out.cell 10
  have c11 := H9.out.cell 11
  have c12 := H9.out.cell 12
  have c13 := H9.out.cell 13
  have c14 := H9.out.cell 14
  have c15 := H9.out.cell 15
  simp at z0 z1 z2 z3 z4 z5 z6 z7 z8 z9 z10 z11 z12 z13 z14 z15 c0 c1 c2 c3 c4 c5 c6 c7 c8 c9 c10 c11 c12 c13 c14
  have c15b := c15
  clear c15
  have c15 := H9.out.cell 15
  simp at c15
  have zl := zs.lt
  clear zs
  go_wp2_with fail
  refine bodyPost_ret (v := hv4 x1 x2 x4 (stB x6) (moB x6) (x6 % 8192) x8 x9 x10 false 0 x12 false 0 x16 (.slice Ao (S - 20) co)) (by simp [results, Try.results61, go_sem, hv4, z0, z1, z2, z3, z4, z5, z6, z7, z8, z9, z10, z11, z12, z13, z14, z15, zl]) rfl ⟨_, rfl, ?_, _, _, rfl, OwnB.lower (base := B0) ?_ (Nat.le_of_lt HGB.out)⟩
  · have ob := HB3.out
    repeat' first | with_reducible exact ob | with_reducible apply Below.set1
    all_goals simp
  · have oo := HP3.out
    have hgb := HGB.out
    repeat' first | with_reducible exact oo | with_reducible apply OwnB.set1
    all_goals exact hgb
end Go.Proofs.Ytmgendgfdhhgfaa
