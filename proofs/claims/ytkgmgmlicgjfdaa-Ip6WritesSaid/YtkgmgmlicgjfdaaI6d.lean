/-
  What was written of a header is read back: packages addr and ip6. Helper of the claims of layer 5. No condition.
-/
import Derived.Test.YtkgmgmlicgjfdaaI6c
import Derived.Test.YtkgmgmlicgjfdaaVtk
import Derived.Test.YtkgmgmlicgjfdaaSl
import Derived.Test.YtkgmgmlicgjfdaaLin5
import Derived.Laws.CopyOwn
namespace Go.Proofs.Ytkgmgmlicgjfdaa
open Go.ChangeShapes Go.WideShapes Go.ChangeAt Go.RowKit
set_option linter.unusedVariables false
set_option maxRecDepth 100000
theorem exec_store_row {P : Program} {o : Oper} {ρ : Operand → Value} {w : World} (ty : TypeId) (x y : Operand) (ho : o.op = .store ty x y) (g : Nat) (cells : Array Value) (hx : ρ x = .pointer (some ⟨g, 0, none⟩)) (hy : ρ y = .agg cells)
    (t : TypeId) (old : Array Value) (hg : Is w g t old) (hi : (P.info? ty).map (·.size) = some cells.size) (hold : old.size = cells.size) (h1 : cells.all (·.oneCell') = true) :
    (execOp ρ o).run P w = .ok .skip (w.setRow g cells) := by
  unfold execOp
  simp only [ho, hx, hy, Instr.storeAt, Instr.sureAddr, Sem.run_bind, Sem.run_pure, Result.andThen_ok, run_storeVar_row w g t ty old cells hg hi hold h1]
theorem OwnP.only6 {B : Nat} {l : List Int} {n g : Nat} {v : Value} {w w' : World} (h : OwnP B l n v w) (hw : w.grownBy w' (some g)) (hg : g < B) : OwnP B l n v w' := by
  obtain ⟨A, c, e, h1⟩ := h
  exact ⟨A, c, e, World.ownsRow.kept h1 hw (.inr (own_far h1 hg))⟩
theorem IsBg.keep {g : Nat} {l : List Int} {n : Nat} {v : Value} {w w' : World} (h : IsBg g l n v w) (hb : Below w.heap.size w w') : IsBg g l n v w' := ⟨h.1.st hb, h.2⟩
def specG (g : Nat) (l : List Int) (n : Nat) : Lin.Spec Lin.Keeps := ⟨IsBg g l n, IsBg.keep⟩
theorem only_row (w : World) (g : Nat) (cs : Array Value) : w.grownBy (w.setRow g cs) (some g) := ⟨rfl, rfl, rfl, by simp [World.setRow], fun k hk hn => setRow_other w g k cs (by intro e; subst e; exact hn rfl)⟩
theorem is_row6 {w : World} {g : Nat} {t : TypeId} {cs cs' : Array Value} (h : Is w g t cs) : Is (w.setRow g cs') g t cs' := by
  unfold Is at *
  exact setRow_heap w g cs cs' t (0, 0) h
theorem av6 (hi lo : Int) (w : World) : Calls Try.prog 147 #[.int .u64 hi, .int .u64 lo] w fun e w' => e = .returned (.agg #[.bool true, .int .u64 hi, .int .u64 lo]) ∧ Below w.heap.size w w' := by
  go_enter Try.func147, Try.ntmps147
  go_wp2_with fail
  refine bodyPost_ret (v := .agg #[.bool true, .int .u64 hi, .int .u64 lo]) (by simp [results, Try.results147, go_sem]) rfl ⟨rfl, ?_⟩
  repeat' first | exact Below.refl _ _ | apply Below.set1 | apply Below.alloc
  all_goals simp
theorem be16 (hi lo : Nat) (hh : hi < 18446744073709551616) (hl : lo < 18446744073709551616) : nw (be hi 8 ++ be lo 8) 0 8 = (hi : Int) ∧ nw (be hi 8 ++ be lo 8) 8 8 = (lo : Int) := by
  unfold nw
  constructor
  · rw [List.drop_zero, List.take_append_of_le_length (by rw [be_len]; exact Nat.le_refl _), List.take_of_length_le (by rw [be_len]; exact Nat.le_refl _), numW_be]; omega
  · rw [List.drop_append_of_le_length (by rw [be_len]; exact Nat.le_refl _), List.drop_of_length_le (by rw [be_len]; exact Nat.le_refl _), List.nil_append, List.take_of_length_le (by rw [be_len]; exact Nat.le_refl _), numW_be]; omega
set_option maxHeartbeats 2000000 in
theorem aof6 (hi lo : Nat) (v : Value) (w : World) (hh : hi < 18446744073709551616) (hl : lo < 18446744073709551616) (hv : IsB (be hi 8 ++ be lo 8) 16 v w) :
    Calls Try.prog 126 #[v] w fun e w' => e = .returned (.tuple #[.agg #[.bool true, .int .u64 (hi : Int), .int .u64 (lo : Int)], .int .i64 0]) ∧ Below w.heap.size w w' := by
  obtain ⟨h1, h2⟩ := be16 hi lo hh hl
  have N1 := Lib.hid h1; have N2 := Lib.hid h2; have OK := Lib.hid ((be_ok hi 8).app (be_ok lo 8)); have LN := Lib.hid (show (be hi 8 ++ be lo 8).length = 16 from by simp [be_len])
  clear h1 h2
  obtain ⟨A, c, rfl⟩ := hv.shape
  have hb0 : Below w.heap.size w (w.alloc (.cells #[.bool false, .int .u64 0, .int .u64 0] 31)) := (Below.refl _ _).alloc (Nat.le_refl _) _
  have hg0 := Is.new w 31 #[.bool false, .int .u64 0, .int .u64 0]
  have HV := hide (hv.st hb0)
  clear hv
  generalize be hi 8 ++ be lo 8 = L at *
  go_enter Try.func126, Try.ntmps126
  go_wp2_with fail
  generalize w.alloc (.cells #[.bool false, .int .u64 0, .int .u64 0] 31) = W at *
  refine (read_q HV.out (by omega)).mono ?_
  rintro e w1 ⟨g, rfl, h1⟩
  have R1 := hide h1; clear h1
  have HG := hide hg0; have HB := Lib.hid hb0
  clear hg0 hb0
  go_wp2_with fail
  refine (num_q 8 8 (hi : Int) R1.out OK.out rfl (by rw [LN.out]; omega) (by omega) N1.out).mono ?_
  rintro e w2 ⟨rfl, h1, _⟩
  have R2 := hide h1; clear h1 R1
  go_wp2_with fail
  refine (num_q 8 16 (lo : Int) R2.out OK.out rfl (by rw [LN.out]; omega) (by omega) N2.out).mono ?_
  rintro e w3 ⟨rfl, h1, _⟩
  have HBW := Lib.hid h1.bel; clear h1 R2
  go_wp2_with fail
  refine (av6 _ _ _).mono ?_
  rintro e w4 ⟨rfl, hb⟩
  have hbw := HBW.out.trans (hb.mono HBW.out.size)
  have hg4 := HG.out.below hbw HG.out.lt
  have z0 := hg4.cell 0
  have z1 := hg4.cell 1
  have z2 := hg4.cell 2
  have y0 := hg4.free 0
  have y1 := hg4.free 1
  have y2 := hg4.free 2
  have zl := hg4.lt
  simp at z0 z1 z2
  have HB4 := Lib.hid (HB.out.trans (hbw.mono HB.out.size))
  clear hb hbw hg4
  go_wp2_with fail
  refine bodyPost_ret (v := .tuple #[.agg #[.bool true, .int .u64 (hi : Int), .int .u64 (lo : Int)], .int .i64 0]) (by simp [results, Try.results126, go_sem, z0, z1, z2, zl]) rfl ⟨rfl, ?_⟩
  have ob := HB4.out
  repeat' first | with_reducible exact ob | with_reducible apply Below.set1
  all_goals simp
theorem hl6_ok (cl la le ne hq sh sl dh dl : Nat) : Octets (hl6 cl la le ne hq sh sl dh dl) := by
  unfold hl6
  exact (((((be_ok _ _).app (be_ok _ _)).app (be_ok _ _)).app (be_ok _ _)).app ((be_ok _ _).app (be_ok _ _))).app ((be_ok _ _).app (be_ok _ _))
theorem hl6_nw (cl la le ne hq sh sl dh dl : Nat) (hcl : cl ≤ 255) (hla : la < 1048576) (hle : le ≤ 65535) (hne : ne ≤ 255) (hho : hq ≤ 255) (hsh : sh < 18446744073709551616) (hsl : sl < 18446744073709551616) (hdh : dh < 18446744073709551616) (hdl : dl < 18446744073709551616) : nw (hl6 cl la le ne hq sh sl dh dl) 0 4 = ((1610612736 + cl * 1048576 + la : Nat) : Int) ∧ nw (hl6 cl la le ne hq sh sl dh dl) 4 2 = (le : Int) ∧ nw (hl6 cl la le ne hq sh sl dh dl) 6 1 = (ne : Int) ∧ nw (hl6 cl la le ne hq sh sl dh dl) 7 1 = (hq : Int) ∧ ((hl6 cl la le ne hq sh sl dh dl).drop 8).take 16 = be sh 8 ++ be sl 8 ∧ ((hl6 cl la le ne hq sh sl dh dl).drop 24).take 16 = be dh 8 ++ be dl 8 ∧ at0 (hl6 cl la le ne hq sh sl dh dl) 0 / 16 = 6 := by
  have hok := hl6_ok cl la le ne hq sh sl dh dl
  have hlen := hl6_len cl la le ne hq sh sl dh dl
  have e0 : at0 (hl6 cl la le ne hq sh sl dh dl) 0 = (((1610612736 + cl * 1048576 + la) / 256 ^ 3 % 256 : Nat) : Int) := rfl
  have e1 : at0 (hl6 cl la le ne hq sh sl dh dl) 1 = (((1610612736 + cl * 1048576 + la) / 256 ^ 2 % 256 : Nat) : Int) := rfl
  have e2 : at0 (hl6 cl la le ne hq sh sl dh dl) 2 = (((1610612736 + cl * 1048576 + la) / 256 ^ 1 % 256 : Nat) : Int) := rfl
  have e3 : at0 (hl6 cl la le ne hq sh sl dh dl) 3 = (((1610612736 + cl * 1048576 + la) / 256 ^ 0 % 256 : Nat) : Int) := rfl
  have n0 : nw (hl6 cl la le ne hq sh sl dh dl) 0 4 = (((1610612736 + cl * 1048576 + la) : Nat) : Int) := (nw_four (by omega) hok).trans (by (try simp only [Nat.reduceAdd]); rw [e0, e1, e2, e3]; omega)
  have e4 : at0 (hl6 cl la le ne hq sh sl dh dl) 4 = ((le / 256 ^ 1 % 256 : Nat) : Int) := rfl
  have e5 : at0 (hl6 cl la le ne hq sh sl dh dl) 5 = ((le / 256 ^ 0 % 256 : Nat) : Int) := rfl
  have n4 : nw (hl6 cl la le ne hq sh sl dh dl) 4 2 = ((le : Nat) : Int) := (nw_two (by omega) hok).trans (by (try simp only [Nat.reduceAdd]); rw [e4, e5]; omega)
  have e6 : at0 (hl6 cl la le ne hq sh sl dh dl) 6 = ((ne / 256 ^ 0 % 256 : Nat) : Int) := rfl
  have n6 : nw (hl6 cl la le ne hq sh sl dh dl) 6 1 = ((ne : Nat) : Int) := (nw_one (by omega) hok).trans (by (try simp only [Nat.reduceAdd]); rw [e6]; omega)
  have e7 : at0 (hl6 cl la le ne hq sh sl dh dl) 7 = ((hq / 256 ^ 0 % 256 : Nat) : Int) := rfl
  have n7 : nw (hl6 cl la le ne hq sh sl dh dl) 7 1 = ((hq : Nat) : Int) := (nw_one (by omega) hok).trans (by (try simp only [Nat.reduceAdd]); rw [e7]; omega)
  refine ⟨n0, n4, n6, n7, ?_, ?_, by rw [e0]; omega⟩
  · rfl
  · rfl
set_option maxHeartbeats 1000000 in
theorem cparse6 (cl la le ne hq sh sl dh dl : Nat) (hcl : cl ≤ 255) (hla : la < 1048576) (hle : le ≤ 65535) (hne : ne ≤ 255) (hho : hq ≤ 255) (hsh : sh < 18446744073709551616) (hsl : sl < 18446744073709551616) (hdh : dh < 18446744073709551616) (hdl : dl < 18446744073709551616) (l : List Int) (hn3 : le ≤ 3000) (v : Value) (w : World) (hv : IsB ((hl6 cl la le ne hq sh sl dh dl) ++ l) (40 + le) v w) :
    Calls Try.prog 88 #[v] w fun e w' => ∃ u, e = .returned (.tuple #[hv6 (cl : Int) (la : Int) (le : Int) (ne : Int) (hq : Int) true (sh : Int) (sl : Int) true (dh : Int) (dl : Int), u, .int .i64 0]) ∧ Below w.heap.size w w' ∧ OwnP w.heap.size l le u w' := by
  obtain ⟨m1, m2, m3, m4, m5, m6, m7⟩ := hl6_nw cl la le ne hq sh sl dh dl hcl hla hle hne hho hsh hsl hdh hdl
  have M1 := Lib.hid m1; have M2 := Lib.hid m2; have M3 := Lib.hid m3; have M4 := Lib.hid m4; have M5 := Lib.hid m5; have M6 := Lib.hid m6
  have OK := Lib.hid (hl6_ok cl la le ne hq sh sl dh dl); have LN := Lib.hid (hl6_len cl la le ne hq sh sl dh dl)
  have oy := hl6_ok cl la le ne hq sh sl dh dl 0
  obtain ⟨A, c, rfl⟩ := hv.shape
  have hb0 : Below w.heap.size w (w.alloc (.cells #[.int .u8 0, .int .u32 0, .int .i64 0, .int .u8 0, .int .u8 0, .bool false, .int .u64 0, .int .u64 0, .bool false, .int .u64 0, .int .u64 0] 126)) := (Below.refl _ _).alloc (Nat.le_refl _) _
  have hg0 := Is.new w 126 #[.int .u8 0, .int .u32 0, .int .i64 0, .int .u8 0, .int .u8 0, .bool false, .int .u64 0, .int .u64 0, .bool false, .int .u64 0, .int .u64 0]
  have HV0 := hide hv
  have HV := hide (hv.st hb0)
  have hT := (hv.st hb0).take (k := 40) (by omega)
  rw [List.take_append_of_le_length (by rw [LN.out]; exact Nat.le_refl _), List.take_of_length_le (by rw [LN.out]; exact Nat.le_refl _)] at hT
  have HD := Lib.hid (show ((hl6 cl la le ne hq sh sl dh dl) ++ l).drop 40 = l from by rw [List.drop_append_of_le_length (by rw [LN.out]; exact Nat.le_refl _), List.drop_of_length_le (by rw [LN.out]; exact Nat.le_refl _), List.nil_append])
  have HT := hide hT
  have hlen : ((hl6 cl la le ne hq sh sl dh dl) ++ l).length = 40 + le := by obtain ⟨_, _, _, e, _⟩ := hv; exact e
  have hby : Bytes (w.alloc (.cells #[.int .u8 0, .int .u32 0, .int .i64 0, .int .u8 0, .int .u8 0, .bool false, .int .u64 0, .int .u64 0, .bool false, .int .u64 0, .int .u64 0] 126)) (w.alloc (.cells #[.int .u8 0, .int .u32 0, .int .i64 0, .int .u8 0, .int .u8 0, .bool false, .int .u64 0, .int .u64 0, .bool false, .int .u64 0, .int .u64 0] 126)).heap.size A ((hl6 cl la le ne hq sh sl dh dl) ++ l) := by obtain ⟨A', c', e, _, h, _⟩ := (hv.st hb0); injection e with e; subst e; exact h
  obtain ⟨bl, ol, rfl, hbl, hcl⟩ := hby.cells (by omega)
  have dc : (w.alloc (.cells #[.int .u8 0, .int .u32 0, .int .i64 0, .int .u8 0, .int .u8 0, .bool false, .int .u64 0, .int .u64 0, .bool false, .int .u64 0, .int .u64 0] 126)).cell? ⟨bl, ol, none⟩ = some (.int .u8 (at0 ((hl6 cl la le ne hq sh sl dh dl) ++ l) 0)) := hcl 0 (by omega)
  rw [show at0 ((hl6 cl la le ne hq sh sl dh dl) ++ l) 0 = at0 (hl6 cl la le ne hq sh sl dh dl) 0 from rfl] at dc
  obtain ⟨q1, q2⟩ := hv.caps
  unfold maxLen at q2
  have l40 : ¬ (40 + (le : Int) < 40) := by omega
  have ls2 : (40 : Int) ≤ 40 + (le : Int) := by omega
  have lz : 0 < 40 + le := by omega
  have lz2 : (0 : Int) < 40 + (le : Int) := by omega
  clear hby hv hT hcl hlen m1 m2 m3 m4 m5 m6
  generalize at0 (hl6 cl la le ne hq sh sl dh dl) 0 = y at *
  obtain ⟨y0, y1⟩ := oy
  obtain ⟨X, hX⟩ : ∃ X : Int, ((1610612736 + cl * 1048576 + la : Nat) : Int) = X := ⟨_, rfl⟩
  rw [hX] at M1
  have x0 : 0 ≤ X ∧ X ≤ 4294967295 := by omega
  obtain ⟨x0, x1⟩ := x0
  have hxc : X / 1048576 % 256 = (cl : Int) := by omega
  have hxa : bits .and .u32 X 1048575 = (la : Int) := by
    rw [← hX]
    have h := u32_and ((1610612736 + cl * 1048576 + la : Nat) : Int) 1048575 (by omega) (by omega) (by omega) (by omega)
    rw [h, show ((1048575 : Int)).toNat = 2 ^ 20 - 1 from rfl, Nat.and_two_pow_sub_one_eq_mod, Int.toNat_natCast]
    omega
  clear hX
  go_enter Try.func88, Try.ntmps88
  go_wp2_with fail
  generalize w.alloc (.cells #[.int .u8 0, .int .u32 0, .int .i64 0, .int .u8 0, .int .u8 0, .bool false, .int .u64 0, .int .u64 0, .bool false, .int .u64 0, .int .u64 0] 126) = W at *
  have HG := hide hg0; have HB := Lib.hid hb0
  clear hg0 hb0
  refine (read_q HT.out (by omega)).mono ?_
  rintro e w1 ⟨g, rfl, h1⟩
  have R1 := hide h1; clear h1
  go_wp2_with fail
  refine (long_q 4 X R1.out OK.out rfl (by rw [LN.out]; omega) M1.out).mono ?_
  rintro e w2 ⟨rfl, h1, _⟩
  have R2 := hide h1; clear h1 R1
  go_wp2_with fail
  refine (word_q 6 (le : Int) R2.out OK.out rfl (by rw [LN.out]; omega) M2.out).mono ?_
  rintro e w3 ⟨rfl, h1, _⟩
  have R3 := hide h1; clear h1 R2
  go_wp2_with fail
  refine (byte_q 7 (ne : Int) R3.out OK.out rfl (by rw [LN.out]; omega) M3.out).mono ?_
  rintro e w4 ⟨rfl, h1, _⟩
  have R4 := hide h1; clear h1 R3
  go_wp2_with fail
  refine (byte_q 8 (hq : Int) R4.out OK.out rfl (by rw [LN.out]; omega) M4.out).mono ?_
  rintro e w5 ⟨rfl, h1, _⟩
  have R5 := hide h1; have R5S := Lib.hid (Nat.lt_of_lt_of_le HG.out.lt h1.bel.size); have R5G := Lib.hid h1.1.lt; clear h1 R4
  go_wp2_with fail
  have hi7 := Is.new w5 126 #[.int .u8 (cl : Int), .int .u32 (la : Int), .int .i64 (le : Int), .int .u8 (ne : Int), .int .u8 (hq : Int), .bool false, .int .u64 0, .int .u64 0, .bool false, .int .u64 0, .int .u64 0]
  have h1 := R5.out.alloc (.cells #[.int .u8 (cl : Int), .int .u32 (la : Int), .int .i64 (le : Int), .int .u8 (ne : Int), .int .u8 (hq : Int), .bool false, .int .u64 0, .int .u64 0, .bool false, .int .u64 0, .int .u64 0] 126)
  have R6 := hide h1; have H7 := hide hi7
  clear h1 hi7 R5
  have hz7 : w.heap.size < w5.heap.size := R5S.out
  have hgl : g < w5.heap.size := R5G.out
  generalize w5.alloc (.cells #[.int .u8 (cl : Int), .int .u32 (la : Int), .int .i64 (le : Int), .int .u8 (ne : Int), .int .u8 (hq : Int), .bool false, .int .u64 0, .int .u64 0, .bool false, .int .u64 0, .int .u64 0] 126) = W6 at *
  generalize w5.heap.size = g7 at *
  refine (part_q 16 24 R6.out rfl (by rw [LN.out]; omega) (by rw [LN.out]; omega)).mono ?_
  rintro e wa1 ⟨Aa1, ca1, rfl, hpo, hrs, hgr⟩
  rw [M5.out] at hpo
  have HPO := hide (IsB.own hpo)
  have h7a := H7.out.only hgr (by intro e; injection e with e; omega)
  have RA := hide hrs; have H7A := hide h7a
  clear hpo hrs hgr h7a R6 H7
  go_wp2_with fail
  refine (aof6 sh sl _ _ hsh hsl HPO.out).mono ?_
  rintro e wb1 ⟨rfl, hb⟩
  have hrb := RA.out.kept hb
  have h7b := H7A.out.below hb H7A.out.lt
  have p5 := h7b.cell 5
  have p6 := h7b.cell 6
  have p7 := h7b.cell 7
  have p2 := h7b.cell 2
  have f5 := h7b.free 5
  have f6 := h7b.free 6
  have f7 := h7b.free 7
  have g7l := h7b.lt
  simp at p2 p5 p6 p7
  have h7c : Is (((wb1.setCell ⟨g7, 5, none⟩ (.bool true)).setCell ⟨g7, 6, none⟩ (.int .u64 (sh : Int))).setCell ⟨g7, 7, none⟩ (.int .u64 (sl : Int))) g7 126 #[.int .u8 (cl : Int), .int .u32 (la : Int), .int .i64 (le : Int), .int .u8 (ne : Int), .int .u8 (hq : Int), .bool true, .int .u64 (sh : Int), .int .u64 (sl : Int), .bool false, .int .u64 0, .int .u64 0] := ((h7b.put 5 (.bool true)).put 6 (.int .u64 (sh : Int))).put 7 (.int .u64 (sl : Int))
  have hrc := ((hrb.set hgl (.bool true) (o := 5)).set hgl (.int .u64 (sh : Int)) (o := 6)).set hgl (.int .u64 (sl : Int)) (o := 7)
  have H7 := hide h7c; have RC1 := hide hrc
  clear hb hrb h7b h7c hrc RA H7A HPO
  go_wp2_with fail
  generalize ((wb1.setCell ⟨g7, 5, none⟩ (.bool true)).setCell ⟨g7, 6, none⟩ (.int .u64 (sh : Int))).setCell ⟨g7, 7, none⟩ (.int .u64 (sl : Int)) = wc1 at *
  clear p2 p5 p6 p7 f5 f6 f7 g7l
  refine (part_q 16 40 RC1.out rfl (by rw [LN.out]; omega) (by rw [LN.out]; omega)).mono ?_
  rintro e wa2 ⟨Aa2, ca2, rfl, hpo, hrs, hgr⟩
  rw [M6.out] at hpo
  have HPO := hide (IsB.own hpo)
  have h7a := H7.out.only hgr (by intro e; injection e with e; omega)
  have RA := hide hrs; have H7A := hide h7a
  clear hpo hrs hgr h7a RC1 H7
  go_wp2_with fail
  refine (aof6 dh dl _ _ hdh hdl HPO.out).mono ?_
  rintro e wb2 ⟨rfl, hb⟩
  have hrb := RA.out.kept hb
  have h7b := H7A.out.below hb H7A.out.lt
  have p8 := h7b.cell 8
  have p9 := h7b.cell 9
  have p10 := h7b.cell 10
  have p2 := h7b.cell 2
  have f8 := h7b.free 8
  have f9 := h7b.free 9
  have f10 := h7b.free 10
  have g7l := h7b.lt
  simp at p2 p8 p9 p10
  have h7c : Is (((wb2.setCell ⟨g7, 8, none⟩ (.bool true)).setCell ⟨g7, 9, none⟩ (.int .u64 (dh : Int))).setCell ⟨g7, 10, none⟩ (.int .u64 (dl : Int))) g7 126 #[.int .u8 (cl : Int), .int .u32 (la : Int), .int .i64 (le : Int), .int .u8 (ne : Int), .int .u8 (hq : Int), .bool true, .int .u64 (sh : Int), .int .u64 (sl : Int), .bool true, .int .u64 (dh : Int), .int .u64 (dl : Int)] := ((h7b.put 8 (.bool true)).put 9 (.int .u64 (dh : Int))).put 10 (.int .u64 (dl : Int))
  have hrc := ((hrb.set hgl (.bool true) (o := 8)).set hgl (.int .u64 (dh : Int)) (o := 9)).set hgl (.int .u64 (dl : Int)) (o := 10)
  have H7 := hide h7c; have RC2 := hide hrc
  clear hb hrb h7b h7c hrc RA H7A HPO
  go_wp2_with fail
  generalize ((wb2.setCell ⟨g7, 8, none⟩ (.bool true)).setCell ⟨g7, 9, none⟩ (.int .u64 (dh : Int))).setCell ⟨g7, 10, none⟩ (.int .u64 (dl : Int)) = wc2 at *
  clear p2 p8 p9 p10 f8 f9 f10 g7l
  have hbc := HB.out.trans (RC2.out.bel.mono HB.out.size)
  have HBC := Lib.hid hbc
  have HG12 := hide (HG.out.below RC2.out.bel HG.out.lt)
  have hz12 : w.heap.size ≤ wc2.heap.size := hbc.size
  have HLT := Lib.hid (show l.take le = l from List.take_of_length_le (by have h := HV0.out; obtain ⟨_, _, _, e, _⟩ := h; rw [List.length_append, LN.out] at e; omega))
  clear hbc
  refine Lin5.wp_region_lin4 (n := 64) (fun slotq => match slotq with | 57 => Lin.Spec.val (hv6 (cl : Int) (la : Int) (le : Int) (ne : Int) (hq : Int) true (sh : Int) (sl : Int) true (dh : Int) (dl : Int)) | 58 => Lin.Spec.val (.slice (some ⟨bl, ol, none⟩) (40 + le) c) | 59 => Lin.Spec.val (.pointer (some ⟨g7, 2, none⟩)) | 60 => Lin.Spec.val (.int .i64 (le : Int)) | 61 => Lin.Spec.val (.int .i64 (40 + (le : Int))) | 62 => Lin.Spec.sl l le | 63 => Lin.Spec.own (w.heap.size + 1) l le | 1007 => (⟨fun _ wx => Is wx w.heap.size 126 #[.int .u8 (cl : Int), .int .u32 (la : Int), .int .i64 (le : Int), .int .u8 (ne : Int), .int .u8 (hq : Int), .bool true, .int .u64 (sh : Int), .int .u64 (sl : Int), .bool true, .int .u64 (dh : Int), .int .u64 (dl : Int)], fun h hb => Is.below h hb h.lt⟩ : Lin.Spec Lin.Keeps) | 3 => Lin.Spec.own (w.heap.size + 1) l le | 4 => Lin.Spec.val (.int .i64 0) | _ => Lin.Spec.any) (Lin.But w.heap.size) [(7, [62])] (by kernel_rfl) rfl (by kernel_rfl) (by kernel_rfl) (Lin.but _) (fun {a b} h k => only_below k _) ⟨.inr (Lin5.firm_val _ _), .inr (Lin5.firm_val _ _), .inr (Lin5.firm_val _ _), .inr (Lin5.firm_val _ _), .inr (Lin5.firm_val _ _), .inl (by kernel_rfl), .inr (fun _ _ _ hb h => OwnP.only6 h hb (Nat.lt_succ_self _)), .inl (by kernel_rfl), .inr (fun _ _ _ hb h => OwnP.only6 h hb (Nat.lt_succ_self _)), .inr (Lin5.firm_val _ _), trivial⟩ ⟨?_, ?_, ?_, ?_, ?_, ?_, ?_, ?_, ?_, ?_, trivial⟩ ?_
  · refine Lin5.stepR (by kernel_rfl) ?_
    intro ρ wq hb hk ho hc hd hs
    have hC : ∀ v, ρ (.const v) = v := fun v => hc _ (by intro t e; cases e)
    have hF : ∀ f, ρ (.func f) = .func (.func f) #[] #[] := fun f => hc _ (by intro t e; cases e)
    have h7 : ρ (.tmp 7) = .pointer (some ⟨g7, 0, none⟩) := ho 7 (by kernel_rfl)
    have hg8 := H7.out.below (hk (by kernel_rfl)) H7.out.lt
    have m0 := hg8.cell 0
    have m1 := hg8.cell 1
    have m2 := hg8.cell 2
    have m3 := hg8.cell 3
    have m4 := hg8.cell 4
    have m5 := hg8.cell 5
    have m6 := hg8.cell 6
    have m7 := hg8.cell 7
    have m8 := hg8.cell 8
    have m9 := hg8.cell 9
    have m10 := hg8.cell 10
    simp at m0 m1 m2 m3 m4 m5 m6 m7 m8 m9 m10
    exact Lin.Runs.value Lin.keeps (v := hv6 (cl : Int) (la : Int) (le : Int) (ne : Int) (hq : Int) true (sh : Int) (sl : Int) true (dh : Int) (dl : Int)) (by simp [hv6, execOp, go_sem, h7, m0, m1, m2, m3, m4, m5, m6, m7, m8, m9, m10]) rfl
  · refine Lin5.stepR (by kernel_rfl) ?_
    intro ρ wq hb hk ho hc hd hs
    have hC : ∀ v, ρ (.const v) = v := fun v => hc _ (by intro t e; cases e)
    have hF : ∀ f, ρ (.func f) = .func (.func f) #[] #[] := fun f => hc _ (by intro t e; cases e)
    have h0 : ρ (.tmp 0) = .slice (some ⟨bl, ol, none⟩) (40 + le) c := ho 0 (by kernel_rfl)
    exact Lin.Runs.value Lin.keeps (Lin.exec_move rfl) h0
  · refine Lin5.stepR (by kernel_rfl) ?_
    intro ρ wq hb hk ho hc hd hs
    have hC : ∀ v, ρ (.const v) = v := fun v => hc _ (by intro t e; cases e)
    have hF : ∀ f, ρ (.func f) = .func (.func f) #[] #[] := fun f => hc _ (by intro t e; cases e)
    have h7 : ρ (.tmp 7) = .pointer (some ⟨g7, 0, none⟩) := ho 7 (by kernel_rfl)
    exact Lin.Runs.value Lin.keeps (v := .pointer (some ⟨g7, 2, none⟩)) (by simp [execOp, go_sem, h7]) rfl
  · refine Lin5.stepR (by kernel_rfl) ?_
    intro ρ wq hb hk ho hc hd hs
    have hC : ∀ v, ρ (.const v) = v := fun v => hc _ (by intro t e; cases e)
    have hF : ∀ f, ρ (.func f) = .func (.func f) #[] #[] := fun f => hc _ (by intro t e; cases e)
    have h59 : ρ (.tmp 59) = .pointer (some ⟨g7, 2, none⟩) := hd 59 (by kernel_rfl)
    have hg8 := H7.out.below (hk (by kernel_rfl)) H7.out.lt
    have m2 := hg8.cell 2
    simp at m2
    exact Lin.Runs.value Lin.keeps (v := .int .i64 (le : Int)) (by simp [execOp, go_sem, h59, m2]) rfl
  · refine Lin5.stepR (by kernel_rfl) ?_
    intro ρ wq hb hk ho hc hd hs
    have hC : ∀ v, ρ (.const v) = v := fun v => hc _ (by intro t e; cases e)
    have hF : ∀ f, ρ (.func f) = .func (.func f) #[] #[] := fun f => hc _ (by intro t e; cases e)
    have h60 : ρ (.tmp 60) = .int .i64 (le : Int) := hd 60 (by kernel_rfl)
    exact Lin.Runs.value Lin.keeps (v := .int .i64 (40 + (le : Int))) (by simp [execOp, go_sem, hC, h60]; first | done | exact IntWalk.i64_in _ (by omega)) rfl
  · refine Lin5.stepR (by kernel_rfl) ?_
    intro ρ wq hb hk ho hc hd hs
    have hC : ∀ v, ρ (.const v) = v := fun v => hc _ (by intro t e; cases e)
    have hF : ∀ f, ρ (.func f) = .func (.func f) #[] #[] := fun f => hc _ (by intro t e; cases e)
    have h58 : ρ (.tmp 58) = .slice (some ⟨bl, ol, none⟩) (40 + le) c := hd 58 (by kernel_rfl)
    have h61 : ρ (.tmp 61) = .int .i64 (40 + (le : Int)) := hd 61 (by kernel_rfl)
    have hx := HV0.out.st (HBC.out.trans ((hk (by kernel_rfl)).mono HBC.out.size))
    obtain ⟨q1, q2⟩ := hx.caps
    have hp := hx.part (i := 40) (k := le) (by omega)
    rw [HD.out, HLT.out] at hp
    exact Lin.Runs.value Lin.keeps (run_sl2 _ ρ wq (.tmp 58) (.const (.int .i64 40)) (.tmp 61) rfl (i := 40) (k := le) h58 (hC _) h61 (by omega) q1 q2) hp
  · refine Lin5.stepR (by kernel_rfl) ?_
    intro ρ wq hb hk ho hc hd hs
    have hC : ∀ v, ρ (.const v) = v := fun v => hc _ (by intro t e; cases e)
    have hF : ∀ f, ρ (.func f) = .func (.func f) #[] #[] := fun f => hc _ (by intro t e; cases e)
    have h62 := hd 62 (by kernel_rfl)
    obtain ⟨A62, c62, e62⟩ := IsB.shape h62
    refine Lin.Runs.call Lin.keeps (f := 104) (args := #[ρ (.tmp 62)]) (by simp [execOp, go_sem, hF]) ?_
    have hgw : w.heap.size < wq.heap.size := Nat.lt_of_lt_of_le HG12.out.lt hb.size
    exact (clone_k h62 (by omega)).mono fun e w9 ⟨A9, c9, h1, h2, h3⟩ => ⟨_, h1, h3, A9, c9, rfl, h2.lower hgw⟩
  · refine Lin5.stepW (by kernel_rfl) ?_
    intro ρ wq hb hk ho hc hd hs
    have hC : ∀ v, ρ (.const v) = v := fun v => hc _ (by intro t e; cases e)
    have hF : ∀ f, ρ (.func f) = .func (.func f) #[] #[] := fun f => hc _ (by intro t e; cases e)
    have h2 : ρ (.tmp 2) = .pointer (some ⟨w.heap.size, 0, none⟩) := ho 2 (by kernel_rfl)
    have h57 : ρ (.tmp 57) = hv6 (cl : Int) (la : Int) (le : Int) (ne : Int) (hq : Int) true (sh : Int) (sl : Int) true (dh : Int) (dl : Int) := hd 57 (by kernel_rfl)
    have hg8 := HG12.out.below (hk (by kernel_rfl)) HG12.out.lt
    exact Lin5.RunsB.store (exec_store_row 126 (.tmp 2) (.tmp 57) rfl w.heap.size #[.int .u8 (cl : Int), .int .u32 (la : Int), .int .i64 (le : Int), .int .u8 (ne : Int), .int .u8 (hq : Int), .bool true, .int .u64 (sh : Int), .int .u64 (sl : Int), .bool true, .int .u64 (dh : Int), .int .u64 (dl : Int)] h2 h57 126 _ hg8 (by kernel_rfl) rfl (by simp [Value.oneCell'])) (only_row _ _ _) (is_row6 hg8)
  · refine Lin5.stepR (by kernel_rfl) ?_
    intro ρ wq hb hk ho hc hd hs
    have hC : ∀ v, ρ (.const v) = v := fun v => hc _ (by intro t e; cases e)
    have hF : ∀ f, ρ (.func f) = .func (.func f) #[] #[] := fun f => hc _ (by intro t e; cases e)
    have h63 := hd 63 (by kernel_rfl)
    exact Lin.Runs.value Lin.keeps (Lin.exec_assign rfl) h63
  · refine Lin5.stepR (by kernel_rfl) ?_
    intro ρ wq hb hk ho hc hd hs
    have hC : ∀ v, ρ (.const v) = v := fun v => hc _ (by intro t e; cases e)
    have hF : ∀ f, ρ (.func f) = .func (.func f) #[] #[] := fun f => hc _ (by intro t e; cases e)
    exact Lin.Runs.value Lin.keeps (Lin.exec_assign rfl) (hc _ (by intro t e; cases e))
  · intro vals w9 hb2 hv hs
    have hr9 : Is w9 w.heap.size _ _ := hs 7 _ rfl rfl (by kernel_rfl)
    have h3 := hv 3 (by kernel_rfl) (by kernel_rfl)
    have h4 := hv 4 (by kernel_rfl) (by kernel_rfl)
    obtain ⟨A9, c9, e3, o3⟩ := h3
    have H3 := hide (OwnB.lower o3 (Nat.le_succ _))
    have HB9 := Lib.hid (below_only HBC.out hb2 (Nat.le_refl _))
    have r0 := hr9.cell 0
    have r1 := hr9.cell 1
    have r2 := hr9.cell 2
    have r3 := hr9.cell 3
    have r4 := hr9.cell 4
    have r5 := hr9.cell 5
    have r6 := hr9.cell 6
    have r7 := hr9.cell 7
    have r8 := hr9.cell 8
    have r9 := hr9.cell 9
    have r10 := hr9.cell 10
    simp at r0 r1 r2 r3 r4 r5 r6 r7 r8 r9 r10
    clear hv hs hb2 hr9 o3
    simp only [Lin.putAll, Option.getD_some]
    rw [e3, show vals 4 = .int .i64 0 from h4]
    go_simp
    generalize vals = vv
    go_wp2_with fail
    refine bodyPost_ret (v := .tuple #[.agg #[.int .u8 (cl : Int), .int .u32 (la : Int), .int .i64 (le : Int), .int .u8 (ne : Int), .int .u8 (hq : Int), .bool true, .int .u64 (sh : Int), .int .u64 (sl : Int), .bool true, .int .u64 (dh : Int), .int .u64 (dl : Int)], .slice A9 le c9, .int .i64 0]) (by simp [results, Try.results88, go_sem, r0, r1, r2, r3, r4, r5, r6, r7, r8, r9, r10]) rfl ⟨_, rfl, HB9.out, A9, c9, rfl, H3.out⟩
end Go.Proofs.Ytkgmgmlicgjfdaa
