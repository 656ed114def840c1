/-
  Parse of the reference of layer 4. Helper of the claims of layer 4.
-/
import Derived.Test.YtmgendgfdhhgfaaQd
import Derived.StillTailTactics
namespace Go.Proofs.Ytmgendgfdhhgfaa
open Go.ChangeShapes Go.WideShapes Go.ChangeAt Go.RowKit
set_option linter.unusedSimpArgs false
set_option linter.unusedVariables false
set_option maxRecDepth 100000
set_option maxHeartbeats 4000000 in
theorem rparse4_short (A : Option Addr) (c n : Nat) (l : List Int) (w : World) (hv : IsB l n (.slice A n c) w) (ho : Octets l) (hn : n ≤ 70000) (h : n < 20) :
    Calls Try.prog 16 #[.slice A n c] w fun e w' => e = .returned (.tuple #[hz4, .slice none 0 0, .int .i64 20]) ∧ Below w.heap.size w w' := by
  have hlen : l.length = n := by obtain ⟨_, _, _, e, _⟩ := hv; exact e
  have hb0 : Below w.heap.size w (w.alloc (.cells #[.int .u8 0, .int .i64 0, .int .u16 0, .bool false, .bool false, .int .i64 0, .int .u8 0, .int .u8 0, .int .u16 0, .bool false, .int .u64 0, .int .u64 0, .bool false, .int .u64 0, .int .u64 0, .slice none 0 0] 37)) := (Below.refl _ _).alloc (Nat.le_refl _) _
  have HB := Lib.hid hb0
  have hg0 := Is.new w 37 #[.int .u8 0, .int .i64 0, .int .u16 0, .bool false, .bool false, .int .i64 0, .int .u8 0, .int .u8 0, .int .u16 0, .bool false, .int .u64 0, .int .u64 0, .bool false, .int .u64 0, .int .u64 0, .slice none 0 0]
  clear hv ho hg0
  have h20 : (n : Int) < 20 := by omega
  go_enter Try.func16, Try.ntmps16
  go_wp2_with fail
  refine bodyPost_ret (v := .tuple #[hz4, .slice none 0 0, .int .i64 20]) (by simp [results, Try.results16, go_sem, hz4]) rfl ⟨rfl, ?_⟩
  have ob := HB.out
  repeat' first | with_reducible exact ob | with_reducible apply Below.set1
  all_goals simp
set_option maxHeartbeats 8000000 in
theorem rparse4_a (A : Option Addr) (c n : Nat) (l : List Int) (w : World) (hv : IsB l n (.slice A n c) w) (ho : Octets l) (hn : n ≤ 70000) (h20 : 20 ≤ n) (h : at0 l 0 / 16 ≠ 4) :
    Calls Try.prog 16 #[.slice A n c] w fun e w' => e = .returned (.tuple #[hz4, .slice none 0 0, .int .i64 21]) ∧ Below w.heap.size w w' := by
  have hlen : l.length = n := by obtain ⟨_, _, _, e, _⟩ := hv; exact e
  have hb0 : Below w.heap.size w (w.alloc (.cells #[.int .u8 0, .int .i64 0, .int .u16 0, .bool false, .bool false, .int .i64 0, .int .u8 0, .int .u8 0, .int .u16 0, .bool false, .int .u64 0, .int .u64 0, .bool false, .int .u64 0, .int .u64 0, .slice none 0 0] 37)) := (Below.refl _ _).alloc (Nat.le_refl _) _
  have HB := Lib.hid hb0
  have hg0 := Is.new w 37 #[.int .u8 0, .int .i64 0, .int .u16 0, .bool false, .bool false, .int .i64 0, .int .u8 0, .int .u8 0, .int .u16 0, .bool false, .int .u64 0, .int .u64 0, .bool false, .int .u64 0, .int .u64 0, .slice none 0 0]
  have hby : Bytes w w.heap.size A l := by obtain ⟨A', c', e, _, h, _⟩ := hv; injection e with e; subst e; exact h
  obtain ⟨b, off, rfl, hbl, hcl⟩ := hby.cells (by omega)
  have d0 := (hb0.cell (p := ⟨b, off + 0, none⟩) hbl).trans (hcl 0 (by omega))
  have d1 := (hb0.cell (p := ⟨b, off + 1, none⟩) hbl).trans (hcl 1 (by omega))
  have d8 := (hb0.cell (p := ⟨b, off + 8, none⟩) hbl).trans (hcl 8 (by omega))
  have d9 := (hb0.cell (p := ⟨b, off + 9, none⟩) hbl).trans (hcl 9 (by omega))
  simp only [Nat.add_zero] at d0
  obtain ⟨u0, v0⟩ := ho 0
  obtain ⟨u6, v6⟩ := ho 6
  obtain ⟨u7, v7⟩ := ho 7
  have hN1 := nw_one (l := l) (i := 1) (by omega) ho; have hN8 := nw_one (l := l) (i := 8) (by omega) ho; have hN9 := nw_one (l := l) (i := 9) (by omega) ho
  have hN6 : nw l 6 2 = at0 l 6 * 256 + at0 l 7 := nw_two (l := l) (i := 6) (by omega) ho
  have b2 := nw2_bd (l := l) (i := 2) (by omega) ho; have b4 := nw2_bd (l := l) (i := 4) (by omega) ho; have b10 := nw2_bd (l := l) (i := 10) (by omega) ho
  have b12 := nw4_bd (l := l) (i := 12) (by omega) ho; have b16 := nw4_bd (l := l) (i := 16) (by omega) ho
  have n20 : ¬ (n : Int) < 20 := by omega
  have n0z : (0 : Int) < (n : Int) := by omega
  have n1z : (1 : Int) < (n : Int) := by omega
  have n8z : (8 : Int) < (n : Int) := by omega
  have n9z : (9 : Int) < (n : Int) := by omega
  have HV := hide (hv.st hb0)
  have HO := Lib.hid ho
  have hcap := hv.caps
  rw [← hN1] at d1
  rw [← hN8] at d8
  rw [← hN9] at d9
  obtain ⟨q, hq⟩ : ∃ q : Nat, at0 l 0 % 16 = (q : Int) := ⟨(at0 l 0 % 16).toNat, by omega⟩
  have hS : sz4 l = q * 4 := by unfold sz4; rw [hq]; simp
  have q16 : q ≤ 15 := by omega
  obtain ⟨S, hSq⟩ : ∃ S : Nat, q * 4 = S := ⟨_, rfl⟩
  have hmul : (q : Int) * 4 = (S : Int) := by omega
  have S60 : S ≤ 60 := by omega
  rw [hSq] at hS
  have HS := Lib.hid hS
  obtain ⟨L, hLn⟩ : ∃ L : Nat, nw l 2 2 = (L : Int) := ⟨(nw l 2 2).toNat, by omega⟩
  have HL := Lib.hid hLn
  have L64 : L ≤ 65535 := by omega
  have P6 := Lib.hid (show 0 ≤ nw l 6 2 ∧ nw l 6 2 ≤ 65535 from by omega)
  have nb : (at0 l 0 / 16 == 4) = false := by rw [beq_eq_false_iff_ne]; exact h
  have nb2 : (at0 l 0 / 16 != 4) = true := by simp [bne, nb]
  have hcd : w.heap.size ≠ b := by omega
  have HG := hide hg0
  have M0 := Lib.hid (rfl : nw l 1 1 = nw l 1 1)
  clear hg0 hv hby hcl hN1 hN8 hN9 hN6 hSq hS hLn
  generalize at0 l 0 = x0 at *
  go_enter Try.func16, Try.ntmps16
  go_wp2_with (
    (with_reducible show wpList _ _ _ (⟨none, _, _, _, _, _⟩ :: _) _ _)
    go_loud (refine Go.wpList_store_row rfl 37 (.tmp 2) (.tmp 27) rfl w.heap.size #[.int .u8 0, .int .i64 0, .int .u16 0, .bool false, .bool false, .int .i64 0, .int .u8 0, .int .u8 0, .int .u16 0, .bool false, .int .u64 0, .int .u64 0, .bool false, .int .u64 0, .int .u64 0, .slice none 0 0] rfl rfl 37 #[.int .u8 0, .int .i64 0, .int .u16 0, .bool false, .bool false, .int .i64 0, .int .u8 0, .int .u8 0, .int .u16 0, .bool false, .int .u64 0, .int .u64 0, .bool false, .int .u64 0, .int .u64 0, .slice none 0 0] (is_raw HG.out) (by kernel_rfl) rfl (by simp [Value.oneCell']) ?_)
    have HG9 := hide (is_row6 (cs' := #[.int .u8 0, .int .i64 0, .int .u16 0, .bool false, .bool false, .int .i64 0, .int .u8 0, .int .u8 0, .int .u16 0, .bool false, .int .u64 0, .int .u64 0, .bool false, .int .u64 0, .int .u64 0, .slice none 0 0]) HG.out); have HB9 := Lib.hid (below_setRow HB.out (g := w.heap.size) (Nat.le_refl _) #[.int .u8 0, .int .i64 0, .int .u16 0, .bool false, .bool false, .int .i64 0, .int .u8 0, .int .u8 0, .int .u16 0, .bool false, .int .u64 0, .int .u64 0, .bool false, .int .u64 0, .int .u64 0, .slice none 0 0])
    generalize (w.alloc (.cells #[.int .u8 0, .int .i64 0, .int .u16 0, .bool false, .bool false, .int .i64 0, .int .u8 0, .int .u8 0, .int .u16 0, .bool false, .int .u64 0, .int .u64 0, .bool false, .int .u64 0, .int .u64 0, .slice none 0 0] 37)).setRow w.heap.size #[.int .u8 0, .int .i64 0, .int .u16 0, .bool false, .bool false, .int .i64 0, .int .u8 0, .int .u8 0, .int .u16 0, .bool false, .int .u64 0, .int .u64 0, .bool false, .int .u64 0, .int .u64 0, .slice none 0 0] = Wz at *)
  have z0 := HG9.out.cell 0; have y0 := HG9.out.free 0
  have z1 := HG9.out.cell 1; have y1 := HG9.out.free 1
  have z2 := HG9.out.cell 2; have y2 := HG9.out.free 2
  have z3 := HG9.out.cell 3; have y3 := HG9.out.free 3
  have z4 := HG9.out.cell 4; have y4 := HG9.out.free 4
  have z5 := HG9.out.cell 5; have y5 := HG9.out.free 5
  have z6 := HG9.out.cell 6; have y6 := HG9.out.free 6
  have z7 := HG9.out.cell 7; have y7 := HG9.out.free 7
  have z8 := HG9.out.cell 8; have y8 := HG9.out.free 8
  have z9 := HG9.out.cell 9; have y9 := HG9.out.free 9
  have z10 := HG9.out.cell 10; have y10 := HG9.out.free 10
  have z11 := HG9.out.cell 11; have y11 := HG9.out.free 11
  have z12 := HG9.out.cell 12; have y12 := HG9.out.free 12
  have z13 := HG9.out.cell 13; have y13 := HG9.out.free 13
  have z14 := HG9.out.cell 14; have y14 := HG9.out.free 14
  have z15 := HG9.out.cell 15; have y15 := HG9.out.free 15
  simp at z0 z1 z2 z3 z4 z5 z6 z7 z8 z9 z10 z11 z12 z13 z14 z15
  have zl := HG9.out.lt
  refine bodyPost_ret (v := .tuple #[hz4, .slice none 0 0, .int .i64 21]) (by simp [results, Try.results16, go_sem, hz4, z0, z1, z2, z3, z4, z5, z6, z7, z8, z9, z10, z11, z12, z13, z14, z15, zl]) rfl ⟨rfl, HB9.out⟩
set_option maxHeartbeats 8000000 in
theorem rparse4_b (A : Option Addr) (c n : Nat) (l : List Int) (w : World) (hv : IsB l n (.slice A n c) w) (ho : Octets l) (hn : n ≤ 70000) (h20 : 20 ≤ n) (h : at0 l 0 / 16 = 4) (h2 : sz4 l < 20) :
    Calls Try.prog 16 #[.slice A n c] w fun e w' => e = .returned (.tuple #[hz4, .slice none 0 0, .int .i64 21]) ∧ Below w.heap.size w w' := by
  have hlen : l.length = n := by obtain ⟨_, _, _, e, _⟩ := hv; exact e
  have hb0 : Below w.heap.size w (w.alloc (.cells #[.int .u8 0, .int .i64 0, .int .u16 0, .bool false, .bool false, .int .i64 0, .int .u8 0, .int .u8 0, .int .u16 0, .bool false, .int .u64 0, .int .u64 0, .bool false, .int .u64 0, .int .u64 0, .slice none 0 0] 37)) := (Below.refl _ _).alloc (Nat.le_refl _) _
  have HB := Lib.hid hb0
  have hg0 := Is.new w 37 #[.int .u8 0, .int .i64 0, .int .u16 0, .bool false, .bool false, .int .i64 0, .int .u8 0, .int .u8 0, .int .u16 0, .bool false, .int .u64 0, .int .u64 0, .bool false, .int .u64 0, .int .u64 0, .slice none 0 0]
  have hby : Bytes w w.heap.size A l := by obtain ⟨A', c', e, _, h, _⟩ := hv; injection e with e; subst e; exact h
  obtain ⟨b, off, rfl, hbl, hcl⟩ := hby.cells (by omega)
  have d0 := (hb0.cell (p := ⟨b, off + 0, none⟩) hbl).trans (hcl 0 (by omega))
  have d1 := (hb0.cell (p := ⟨b, off + 1, none⟩) hbl).trans (hcl 1 (by omega))
  have d8 := (hb0.cell (p := ⟨b, off + 8, none⟩) hbl).trans (hcl 8 (by omega))
  have d9 := (hb0.cell (p := ⟨b, off + 9, none⟩) hbl).trans (hcl 9 (by omega))
  simp only [Nat.add_zero] at d0
  obtain ⟨u0, v0⟩ := ho 0
  obtain ⟨u6, v6⟩ := ho 6
  obtain ⟨u7, v7⟩ := ho 7
  have hN1 := nw_one (l := l) (i := 1) (by omega) ho; have hN8 := nw_one (l := l) (i := 8) (by omega) ho; have hN9 := nw_one (l := l) (i := 9) (by omega) ho
  have hN6 : nw l 6 2 = at0 l 6 * 256 + at0 l 7 := nw_two (l := l) (i := 6) (by omega) ho
  have b2 := nw2_bd (l := l) (i := 2) (by omega) ho; have b4 := nw2_bd (l := l) (i := 4) (by omega) ho; have b10 := nw2_bd (l := l) (i := 10) (by omega) ho
  have b12 := nw4_bd (l := l) (i := 12) (by omega) ho; have b16 := nw4_bd (l := l) (i := 16) (by omega) ho
  have n20 : ¬ (n : Int) < 20 := by omega
  have n0z : (0 : Int) < (n : Int) := by omega
  have n1z : (1 : Int) < (n : Int) := by omega
  have n8z : (8 : Int) < (n : Int) := by omega
  have n9z : (9 : Int) < (n : Int) := by omega
  have HV := hide (hv.st hb0)
  have HO := Lib.hid ho
  have hcap := hv.caps
  rw [← hN1] at d1
  rw [← hN8] at d8
  rw [← hN9] at d9
  obtain ⟨q, hq⟩ : ∃ q : Nat, at0 l 0 % 16 = (q : Int) := ⟨(at0 l 0 % 16).toNat, by omega⟩
  have hS : sz4 l = q * 4 := by unfold sz4; rw [hq]; simp
  have q16 : q ≤ 15 := by omega
  obtain ⟨S, hSq⟩ : ∃ S : Nat, q * 4 = S := ⟨_, rfl⟩
  have hmul : (q : Int) * 4 = (S : Int) := by omega
  have S60 : S ≤ 60 := by omega
  rw [hSq] at hS
  have HS := Lib.hid hS
  obtain ⟨L, hLn⟩ : ∃ L : Nat, nw l 2 2 = (L : Int) := ⟨(nw l 2 2).toNat, by omega⟩
  have HL := Lib.hid hLn
  have L64 : L ≤ 65535 := by omega
  have P6 := Lib.hid (show 0 ≤ nw l 6 2 ∧ nw l 6 2 ≤ 65535 from by omega)
  have g2 : (S : Int) < 20 := by omega
  have hcd : w.heap.size ≠ b := by omega
  have HG := hide hg0
  have M0 := Lib.hid (rfl : nw l 1 1 = nw l 1 1)
  clear hg0 hv hby hcl hN1 hN8 hN9 hN6 hSq hS hLn
  generalize at0 l 0 = x0 at *
  go_enter Try.func16, Try.ntmps16
  go_wp2_with (
    (with_reducible show wpList _ _ _ (⟨none, _, _, _, _, _⟩ :: _) _ _)
    go_loud (refine Go.wpList_store_row rfl 37 (.tmp 2) (.tmp 27) rfl w.heap.size #[.int .u8 0, .int .i64 0, .int .u16 0, .bool false, .bool false, .int .i64 0, .int .u8 0, .int .u8 0, .int .u16 0, .bool false, .int .u64 0, .int .u64 0, .bool false, .int .u64 0, .int .u64 0, .slice none 0 0] rfl rfl 37 #[.int .u8 0, .int .i64 0, .int .u16 0, .bool false, .bool false, .int .i64 0, .int .u8 0, .int .u8 0, .int .u16 0, .bool false, .int .u64 0, .int .u64 0, .bool false, .int .u64 0, .int .u64 0, .slice none 0 0] (is_raw HG.out) (by kernel_rfl) rfl (by simp [Value.oneCell']) ?_)
    have HG9 := hide (is_row6 (cs' := #[.int .u8 0, .int .i64 0, .int .u16 0, .bool false, .bool false, .int .i64 0, .int .u8 0, .int .u8 0, .int .u16 0, .bool false, .int .u64 0, .int .u64 0, .bool false, .int .u64 0, .int .u64 0, .slice none 0 0]) HG.out); have HB9 := Lib.hid (below_setRow HB.out (g := w.heap.size) (Nat.le_refl _) #[.int .u8 0, .int .i64 0, .int .u16 0, .bool false, .bool false, .int .i64 0, .int .u8 0, .int .u8 0, .int .u16 0, .bool false, .int .u64 0, .int .u64 0, .bool false, .int .u64 0, .int .u64 0, .slice none 0 0])
    generalize (w.alloc (.cells #[.int .u8 0, .int .i64 0, .int .u16 0, .bool false, .bool false, .int .i64 0, .int .u8 0, .int .u8 0, .int .u16 0, .bool false, .int .u64 0, .int .u64 0, .bool false, .int .u64 0, .int .u64 0, .slice none 0 0] 37)).setRow w.heap.size #[.int .u8 0, .int .i64 0, .int .u16 0, .bool false, .bool false, .int .i64 0, .int .u8 0, .int .u8 0, .int .u16 0, .bool false, .int .u64 0, .int .u64 0, .bool false, .int .u64 0, .int .u64 0, .slice none 0 0] = Wz at *)
  have z0 := HG9.out.cell 0; have y0 := HG9.out.free 0
  have z1 := HG9.out.cell 1; have y1 := HG9.out.free 1
  have z2 := HG9.out.cell 2; have y2 := HG9.out.free 2
  have z3 := HG9.out.cell 3; have y3 := HG9.out.free 3
  have z4 := HG9.out.cell 4; have y4 := HG9.out.free 4
  have z5 := HG9.out.cell 5; have y5 := HG9.out.free 5
  have z6 := HG9.out.cell 6; have y6 := HG9.out.free 6
  have z7 := HG9.out.cell 7; have y7 := HG9.out.free 7
  have z8 := HG9.out.cell 8; have y8 := HG9.out.free 8
  have z9 := HG9.out.cell 9; have y9 := HG9.out.free 9
  have z10 := HG9.out.cell 10; have y10 := HG9.out.free 10
  have z11 := HG9.out.cell 11; have y11 := HG9.out.free 11
  have z12 := HG9.out.cell 12; have y12 := HG9.out.free 12
  have z13 := HG9.out.cell 13; have y13 := HG9.out.free 13
  have z14 := HG9.out.cell 14; have y14 := HG9.out.free 14
  have z15 := HG9.out.cell 15; have y15 := HG9.out.free 15
  simp at z0 z1 z2 z3 z4 z5 z6 z7 z8 z9 z10 z11 z12 z13 z14 z15
  have zl := HG9.out.lt
  refine bodyPost_ret (v := .tuple #[hz4, .slice none 0 0, .int .i64 21]) (by simp [results, Try.results16, go_sem, hz4, z0, z1, z2, z3, z4, z5, z6, z7, z8, z9, z10, z11, z12, z13, z14, z15, zl]) rfl ⟨rfl, HB9.out⟩
end Go.Proofs.Ytmgendgfdhhgfaa
