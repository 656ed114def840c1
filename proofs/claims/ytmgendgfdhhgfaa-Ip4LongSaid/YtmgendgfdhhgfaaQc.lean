/-
  Parse of package ip4: all cases. Helper of the claims of layer 4.
-/
import Derived.Test.YtmgendgfdhhgfaaQb
namespace Go.Proofs.Ytmgendgfdhhgfaa
open Go.ChangeShapes Go.WideShapes Go.ChangeAt Go.RowKit
set_option linter.unusedSimpArgs false
set_option linter.unusedVariables false
set_option maxRecDepth 100000
def sz4 (l : List Int) : Nat := (at0 l 0 % 16).toNat * 4
def form4 (l : List Int) : Prop := at0 l 0 / 16 = 4 ∧ 20 ≤ sz4 l ∧ at0 l 6 < 128 ∧ (sz4 l : Int) ≤ nw l 2 2
open Classical in
/-- The error of bytes (0: none). -/
noncomputable def code4 (l : List Int) : Int := if l.length < 20 then 20 else if ¬ form4 l then 21 else if (l.length : Int) < nw l 2 2 then 20 else if S2.sumOf (l.take (sz4 l)) ≠ 0 then 22 else 0
def opt4 (l : List Int) : List Int := (l.drop 20).take (sz4 l - 20)
def load4 (l : List Int) : List Int := (l.drop (sz4 l)).take ((nw l 2 2).toNat - sz4 l)
set_option maxHeartbeats 4000000 in
theorem parse4_short (A : Option Addr) (c n : Nat) (l : List Int) (w : World) (hv : IsB l n (.slice A n c) w) (ho : Octets l) (hn : n ≤ 70000) (h : n < 20) :
    Calls Try.prog 15 #[.slice A n c] w fun e w' => e = .returned (.tuple #[hz4, .slice none 0 0, .int .i64 20]) ∧ Below w.heap.size w w' := by
  have hlen : l.length = n := by obtain ⟨_, _, _, e, _⟩ := hv; exact e
  have hb0 : Below w.heap.size w (w.alloc (.cells #[.int .u8 0, .int .i64 0, .int .u16 0, .bool false, .bool false, .int .i64 0, .int .u8 0, .int .u8 0, .int .u16 0, .bool false, .int .u64 0, .int .u64 0, .bool false, .int .u64 0, .int .u64 0, .slice none 0 0] 28)) := (Below.refl _ _).alloc (Nat.le_refl _) _
  have HB := Lib.hid hb0
  have hg0 := Is.new w 28 #[.int .u8 0, .int .i64 0, .int .u16 0, .bool false, .bool false, .int .i64 0, .int .u8 0, .int .u8 0, .int .u16 0, .bool false, .int .u64 0, .int .u64 0, .bool false, .int .u64 0, .int .u64 0, .slice none 0 0]
  clear hv ho hg0
  have h20 : (n : Int) < 20 := by omega
  go_enter Try.func15, Try.ntmps15
  go_wp2_with fail
  refine bodyPost_ret (v := .tuple #[hz4, .slice none 0 0, .int .i64 20]) (by simp [results, Try.results15, go_sem, hz4]) rfl ⟨rfl, ?_⟩
  have ob := HB.out
  repeat' first | with_reducible exact ob | with_reducible apply Below.set1
  all_goals simp
set_option maxHeartbeats 4000000 in
theorem parse4_a (A : Option Addr) (c n : Nat) (l : List Int) (w : World) (hv : IsB l n (.slice A n c) w) (ho : Octets l) (hn : n ≤ 70000) (h20 : 20 ≤ n) (h : at0 l 0 / 16 ≠ 4) :
    Calls Try.prog 15 #[.slice A n c] w fun e w' => e = .returned (.tuple #[hz4, .slice none 0 0, .int .i64 21]) ∧ Below w.heap.size w w' := by
  have hlen : l.length = n := by obtain ⟨_, _, _, e, _⟩ := hv; exact e
  have hb0 : Below w.heap.size w (w.alloc (.cells #[.int .u8 0, .int .i64 0, .int .u16 0, .bool false, .bool false, .int .i64 0, .int .u8 0, .int .u8 0, .int .u16 0, .bool false, .int .u64 0, .int .u64 0, .bool false, .int .u64 0, .int .u64 0, .slice none 0 0] 28)) := (Below.refl _ _).alloc (Nat.le_refl _) _
  have HB := Lib.hid hb0
  have hg0 := Is.new w 28 #[.int .u8 0, .int .i64 0, .int .u16 0, .bool false, .bool false, .int .i64 0, .int .u8 0, .int .u8 0, .int .u16 0, .bool false, .int .u64 0, .int .u64 0, .bool false, .int .u64 0, .int .u64 0, .slice none 0 0]
  have hby : Bytes w w.heap.size A l := by obtain ⟨A', c', e, _, h, _⟩ := hv; injection e with e; subst e; exact h
  obtain ⟨b, off, rfl, hbl, hcl⟩ := hby.cells (by omega)
  have d0 := (hb0.cell (p := ⟨b, off + 0, none⟩) hbl).trans (hcl 0 (by omega))
  have d2 := (hb0.cell (p := ⟨b, off + 2, none⟩) hbl).trans (hcl 2 (by omega))
  have d3 := (hb0.cell (p := ⟨b, off + 3, none⟩) hbl).trans (hcl 3 (by omega))
  have d6 := (hb0.cell (p := ⟨b, off + 6, none⟩) hbl).trans (hcl 6 (by omega))
  simp only [Nat.add_zero] at d0
  obtain ⟨u0, v0⟩ := ho 0
  obtain ⟨u2, v2⟩ := ho 2
  obtain ⟨u3, v3⟩ := ho 3
  obtain ⟨u6, v6⟩ := ho 6
  have hL : nw l 2 2 = at0 l 2 * 256 + at0 l 3 := nw_two (l := l) (i := 2) (by omega) ho
  have n20 : ¬ (n : Int) < 20 := by omega
  have n0z : (0 : Int) < (n : Int) := by omega
  have n2z : (2 : Int) < (n : Int) := by omega
  have n3z : (3 : Int) < (n : Int) := by omega
  have n6z : (6 : Int) < (n : Int) := by omega
  have HV := hide hv
  have HO := Lib.hid ho
  have hlo := bit_lo u0 v0; have hjn := bit_jn u2 v2 u3 v3; have hun := bit_un u6 v6
  have nb : (at0 l 0 / 16 == 4) = false := by rw [beq_eq_false_iff_ne]; exact h
  have nb2 : (at0 l 0 / 16 != 4) = true := by simp [bne, nb]
  obtain ⟨q, hq⟩ : ∃ q : Nat, at0 l 0 % 16 = (q : Int) := ⟨(at0 l 0 % 16).toNat, by omega⟩
  have hS : sz4 l = q * 4 := by unfold sz4; rw [hq]; simp
  rw [hq] at hlo
  have q16 : q ≤ 15 := by omega
  obtain ⟨S, hSq⟩ : ∃ S : Nat, q * 4 = S := ⟨_, rfl⟩
  have hmul : (q : Int) * 4 = (S : Int) := by omega
  have S60 : S ≤ 60 := by omega
  rw [hSq] at hS
  have HS := Lib.hid hS
  obtain ⟨L, hLn⟩ : ∃ L : Nat, nw l 2 2 = (L : Int) := ⟨(nw l 2 2).toNat, by omega⟩
  rw [← hL, hLn] at hjn
  have HL := Lib.hid hLn
  have L64 : L ≤ 65535 := by omega
  have w2 : IntKind.i64.wrap (at0 l 2 * 256) = at0 l 2 * 256 := IntWalk.i64_in _ (by omega)
  have w6 : IntKind.i64.wrap (at0 l 6 * 256) = at0 l 6 * 256 := IntWalk.i64_in _ (by omega)
  generalize at0 l 0 = x0 at *
  generalize at0 l 2 = x2 at *
  generalize at0 l 3 = x3 at *
  generalize at0 l 6 = x6 at *
  clear hL hLn hq hSq hS ho hv hby hcl
  have hcd : w.heap.size ≠ b := by omega
  have HG := hide hg0
  have HV0 := hide (HV.out.st hb0)
  clear HV
  clear hg0
  go_enter Try.func15, Try.ntmps15
  go_wp2_with fail
  generalize w.alloc (.cells #[.int .u8 0, .int .i64 0, .int .u16 0, .bool false, .bool false, .int .i64 0, .int .u8 0, .int .u8 0, .int .u16 0, .bool false, .int .u64 0, .int .u64 0, .bool false, .int .u64 0, .int .u64 0, .slice none 0 0] 28) = W at *
  go_quiet (fail)
  have HB1 := Lib.hid (below_drewN hb0 nq)
  have HG1 : Hid (Is (W.drewN nq) w.heap.size 28 #[.int .u8 0, .int .i64 0, .int .u16 0, .bool false, .bool false, .int .i64 0, .int .u8 0, .int .u8 0, .int .u16 0, .bool false, .int .u64 0, .int .u64 0, .bool false, .int .u64 0, .int .u64 0, .slice none 0 0]) := HG
  have HV1 := hide (HV0.out.st (below_drewN (Below.refl W.heap.size W) nq))
  have d6 : (W.drewN nq).cell? ⟨b, off + 6, none⟩ = _ := d6
  have d0 : (W.drewN nq).cell? ⟨b, off, none⟩ = _ := d0
  clear HB HG HV0
  have HB := HB1; have HG := HG1; have HV := HV1
  clear HB1 HG1 HV1
  generalize W.drewN nq = Wq at *
  go_wp2_with (
    (with_reducible show wpList _ _ _ (⟨none, _, _, _, _, _⟩ :: _) _ _)
    go_loud (refine Go.wpList_store_row rfl 28 (.tmp 2) (.tmp 50) rfl w.heap.size #[.int .u8 0, .int .i64 0, .int .u16 0, .bool false, .bool false, .int .i64 0, .int .u8 0, .int .u8 0, .int .u16 0, .bool false, .int .u64 0, .int .u64 0, .bool false, .int .u64 0, .int .u64 0, .slice none 0 0] rfl rfl 28 #[.int .u8 0, .int .i64 0, .int .u16 0, .bool false, .bool false, .int .i64 0, .int .u8 0, .int .u8 0, .int .u16 0, .bool false, .int .u64 0, .int .u64 0, .bool false, .int .u64 0, .int .u64 0, .slice none 0 0] (is_raw HG.out) (by kernel_rfl) rfl (by simp [Value.oneCell']) ?_)
    have HG9 := hide (is_row6 (cs' := #[.int .u8 0, .int .i64 0, .int .u16 0, .bool false, .bool false, .int .i64 0, .int .u8 0, .int .u8 0, .int .u16 0, .bool false, .int .u64 0, .int .u64 0, .bool false, .int .u64 0, .int .u64 0, .slice none 0 0]) HG.out); have HB9 := Lib.hid (below_setRow HB.out (g := w.heap.size) (Nat.le_refl _) #[.int .u8 0, .int .i64 0, .int .u16 0, .bool false, .bool false, .int .i64 0, .int .u8 0, .int .u8 0, .int .u16 0, .bool false, .int .u64 0, .int .u64 0, .bool false, .int .u64 0, .int .u64 0, .slice none 0 0])
    generalize Wq.setRow w.heap.size #[.int .u8 0, .int .i64 0, .int .u16 0, .bool false, .bool false, .int .i64 0, .int .u8 0, .int .u8 0, .int .u16 0, .bool false, .int .u64 0, .int .u64 0, .bool false, .int .u64 0, .int .u64 0, .slice none 0 0] = Wz at *)
  have z0 := HG9.out.cell 0; have y0 := HG9.out.free 0
  have z1 := HG9.out.cell 1; have y1 := HG9.out.free 1
  have z2 := HG9.out.cell 2; have y2 := HG9.out.free 2
  have z3 := HG9.out.cell 3; have y3 := HG9.out.free 3
  have z4 := HG9.out.cell 4; have y4 := HG9.out.free 4
  have z5 := HG9.out.cell 5; have y5 := HG9.out.free 5
  have z6 := HG9.out.cell 6; have y6 := HG9.out.free 6
  have z7 := HG9.out.cell 7; have y7 := HG9.out.free 7
  have z8 := HG9.out.cell 8; have y8 := HG9.out.free 8
  have z9 := HG9.out.cell 9; have y9 := HG9.out.free 9
  have z10 := HG9.out.cell 10; have y10 := HG9.out.free 10
  have z11 := HG9.out.cell 11; have y11 := HG9.out.free 11
  have z12 := HG9.out.cell 12; have y12 := HG9.out.free 12
  have z13 := HG9.out.cell 13; have y13 := HG9.out.free 13
  have z14 := HG9.out.cell 14; have y14 := HG9.out.free 14
  have z15 := HG9.out.cell 15; have y15 := HG9.out.free 15
  simp at z0 z1 z2 z3 z4 z5 z6 z7 z8 z9 z10 z11 z12 z13 z14 z15
  have zl := HG9.out.lt
  refine bodyPost_ret (v := .tuple #[hz4, .slice none 0 0, .int .i64 21]) (by simp [results, Try.results15, go_sem, hz4, z0, z1, z2, z3, z4, z5, z6, z7, z8, z9, z10, z11, z12, z13, z14, z15, zl]) rfl ⟨rfl, HB9.out⟩
set_option maxHeartbeats 4000000 in
theorem parse4_b (A : Option Addr) (c n : Nat) (l : List Int) (w : World) (hv : IsB l n (.slice A n c) w) (ho : Octets l) (hn : n ≤ 70000) (h20 : 20 ≤ n) (h : at0 l 0 / 16 = 4) (h2 : sz4 l < 20) :
    Calls Try.prog 15 #[.slice A n c] w fun e w' => e = .returned (.tuple #[hz4, .slice none 0 0, .int .i64 21]) ∧ Below w.heap.size w w' := by
  have hlen : l.length = n := by obtain ⟨_, _, _, e, _⟩ := hv; exact e
  have hb0 : Below w.heap.size w (w.alloc (.cells #[.int .u8 0, .int .i64 0, .int .u16 0, .bool false, .bool false, .int .i64 0, .int .u8 0, .int .u8 0, .int .u16 0, .bool false, .int .u64 0, .int .u64 0, .bool false, .int .u64 0, .int .u64 0, .slice none 0 0] 28)) := (Below.refl _ _).alloc (Nat.le_refl _) _
  have HB := Lib.hid hb0
  have hg0 := Is.new w 28 #[.int .u8 0, .int .i64 0, .int .u16 0, .bool false, .bool false, .int .i64 0, .int .u8 0, .int .u8 0, .int .u16 0, .bool false, .int .u64 0, .int .u64 0, .bool false, .int .u64 0, .int .u64 0, .slice none 0 0]
  have hby : Bytes w w.heap.size A l := by obtain ⟨A', c', e, _, h, _⟩ := hv; injection e with e; subst e; exact h
  obtain ⟨b, off, rfl, hbl, hcl⟩ := hby.cells (by omega)
  have d0 := (hb0.cell (p := ⟨b, off + 0, none⟩) hbl).trans (hcl 0 (by omega))
  have d2 := (hb0.cell (p := ⟨b, off + 2, none⟩) hbl).trans (hcl 2 (by omega))
  have d3 := (hb0.cell (p := ⟨b, off + 3, none⟩) hbl).trans (hcl 3 (by omega))
  have d6 := (hb0.cell (p := ⟨b, off + 6, none⟩) hbl).trans (hcl 6 (by omega))
  simp only [Nat.add_zero] at d0
  obtain ⟨u0, v0⟩ := ho 0
  obtain ⟨u2, v2⟩ := ho 2
  obtain ⟨u3, v3⟩ := ho 3
  obtain ⟨u6, v6⟩ := ho 6
  have hL : nw l 2 2 = at0 l 2 * 256 + at0 l 3 := nw_two (l := l) (i := 2) (by omega) ho
  have n20 : ¬ (n : Int) < 20 := by omega
  have n0z : (0 : Int) < (n : Int) := by omega
  have n2z : (2 : Int) < (n : Int) := by omega
  have n3z : (3 : Int) < (n : Int) := by omega
  have n6z : (6 : Int) < (n : Int) := by omega
  have HV := hide hv
  have HO := Lib.hid ho
  have hlo := bit_lo u0 v0; have hjn := bit_jn u2 v2 u3 v3; have hun := bit_un u6 v6
  obtain ⟨q, hq⟩ : ∃ q : Nat, at0 l 0 % 16 = (q : Int) := ⟨(at0 l 0 % 16).toNat, by omega⟩
  have hS : sz4 l = q * 4 := by unfold sz4; rw [hq]; simp
  rw [hq] at hlo
  have q16 : q ≤ 15 := by omega
  obtain ⟨S, hSq⟩ : ∃ S : Nat, q * 4 = S := ⟨_, rfl⟩
  have hmul : (q : Int) * 4 = (S : Int) := by omega
  have S60 : S ≤ 60 := by omega
  rw [hSq] at hS
  have HS := Lib.hid hS
  obtain ⟨L, hLn⟩ : ∃ L : Nat, nw l 2 2 = (L : Int) := ⟨(nw l 2 2).toNat, by omega⟩
  rw [← hL, hLn] at hjn
  have HL := Lib.hid hLn
  have L64 : L ≤ 65535 := by omega
  have w2 : IntKind.i64.wrap (at0 l 2 * 256) = at0 l 2 * 256 := IntWalk.i64_in _ (by omega)
  have w6 : IntKind.i64.wrap (at0 l 6 * 256) = at0 l 6 * 256 := IntWalk.i64_in _ (by omega)
  generalize at0 l 0 = x0 at *
  generalize at0 l 2 = x2 at *
  generalize at0 l 3 = x3 at *
  generalize at0 l 6 = x6 at *
  have g2 : (S : Int) < 20 := by omega
  clear h2 hL hLn hq hSq hS ho hv hby hcl
  have hcd : w.heap.size ≠ b := by omega
  have HG := hide hg0
  have HV0 := hide (HV.out.st hb0)
  clear HV
  clear hg0
  go_enter Try.func15, Try.ntmps15
  go_wp2_with fail
  generalize w.alloc (.cells #[.int .u8 0, .int .i64 0, .int .u16 0, .bool false, .bool false, .int .i64 0, .int .u8 0, .int .u8 0, .int .u16 0, .bool false, .int .u64 0, .int .u64 0, .bool false, .int .u64 0, .int .u64 0, .slice none 0 0] 28) = W at *
  go_quiet (fail)
  have HB1 := Lib.hid (below_drewN hb0 nq)
  have HG1 : Hid (Is (W.drewN nq) w.heap.size 28 #[.int .u8 0, .int .i64 0, .int .u16 0, .bool false, .bool false, .int .i64 0, .int .u8 0, .int .u8 0, .int .u16 0, .bool false, .int .u64 0, .int .u64 0, .bool false, .int .u64 0, .int .u64 0, .slice none 0 0]) := HG
  have HV1 := hide (HV0.out.st (below_drewN (Below.refl W.heap.size W) nq))
  have d6 : (W.drewN nq).cell? ⟨b, off + 6, none⟩ = _ := d6
  have d0 : (W.drewN nq).cell? ⟨b, off, none⟩ = _ := d0
  clear HB HG HV0
  have HB := HB1; have HG := HG1; have HV := HV1
  clear HB1 HG1 HV1
  generalize W.drewN nq = Wq at *
  go_wp2_with (
    (with_reducible show wpList _ _ _ (⟨none, _, _, _, _, _⟩ :: _) _ _)
    go_loud (refine Go.wpList_store_row rfl 28 (.tmp 2) (.tmp 50) rfl w.heap.size #[.int .u8 0, .int .i64 0, .int .u16 0, .bool false, .bool false, .int .i64 0, .int .u8 0, .int .u8 0, .int .u16 0, .bool false, .int .u64 0, .int .u64 0, .bool false, .int .u64 0, .int .u64 0, .slice none 0 0] rfl rfl 28 #[.int .u8 0, .int .i64 0, .int .u16 0, .bool false, .bool false, .int .i64 0, .int .u8 0, .int .u8 0, .int .u16 0, .bool false, .int .u64 0, .int .u64 0, .bool false, .int .u64 0, .int .u64 0, .slice none 0 0] (is_raw HG.out) (by kernel_rfl) rfl (by simp [Value.oneCell']) ?_)
    have HG9 := hide (is_row6 (cs' := #[.int .u8 0, .int .i64 0, .int .u16 0, .bool false, .bool false, .int .i64 0, .int .u8 0, .int .u8 0, .int .u16 0, .bool false, .int .u64 0, .int .u64 0, .bool false, .int .u64 0, .int .u64 0, .slice none 0 0]) HG.out); have HB9 := Lib.hid (below_setRow HB.out (g := w.heap.size) (Nat.le_refl _) #[.int .u8 0, .int .i64 0, .int .u16 0, .bool false, .bool false, .int .i64 0, .int .u8 0, .int .u8 0, .int .u16 0, .bool false, .int .u64 0, .int .u64 0, .bool false, .int .u64 0, .int .u64 0, .slice none 0 0])
    generalize Wq.setRow w.heap.size #[.int .u8 0, .int .i64 0, .int .u16 0, .bool false, .bool false, .int .i64 0, .int .u8 0, .int .u8 0, .int .u16 0, .bool false, .int .u64 0, .int .u64 0, .bool false, .int .u64 0, .int .u64 0, .slice none 0 0] = Wz at *)
  have z0 := HG9.out.cell 0; have y0 := HG9.out.free 0
  have z1 := HG9.out.cell 1; have y1 := HG9.out.free 1
  have z2 := HG9.out.cell 2; have y2 := HG9.out.free 2
  have z3 := HG9.out.cell 3; have y3 := HG9.out.free 3
  have z4 := HG9.out.cell 4; have y4 := HG9.out.free 4
  have z5 := HG9.out.cell 5; have y5 := HG9.out.free 5
  have z6 := HG9.out.cell 6; have y6 := HG9.out.free 6
  have z7 := HG9.out.cell 7; have y7 := HG9.out.free 7
  have z8 := HG9.out.cell 8; have y8 := HG9.out.free 8
  have z9 := HG9.out.cell 9; have y9 := HG9.out.free 9
  have z10 := HG9.out.cell 10; have y10 := HG9.out.free 10
  have z11 := HG9.out.cell 11; have y11 := HG9.out.free 11
  have z12 := HG9.out.cell 12; have y12 := HG9.out.free 12
  have z13 := HG9.out.cell 13; have y13 := HG9.out.free 13
  have z14 := HG9.out.cell 14; have y14 := HG9.out.free 14
  have z15 := HG9.out.cell 15; have y15 := HG9.out.free 15
  simp at z0 z1 z2 z3 z4 z5 z6 z7 z8 z9 z10 z11 z12 z13 z14 z15
  have zl := HG9.out.lt
  refine bodyPost_ret (v := .tuple #[hz4, .slice none 0 0, .int .i64 21]) (by simp [results, Try.results15, go_sem, hz4, z0, z1, z2, z3, z4, z5, z6, z7, z8, z9, z10, z11, z12, z13, z14, z15, zl]) rfl ⟨rfl, HB9.out⟩
set_option maxHeartbeats 4000000 in
theorem parse4_c (A : Option Addr) (c n : Nat) (l : List Int) (w : World) (hv : IsB l n (.slice A n c) w) (ho : Octets l) (hn : n ≤ 70000) (h20 : 20 ≤ n) (h : at0 l 0 / 16 = 4) (h2 : 20 ≤ sz4 l) (h3 : 128 ≤ at0 l 6) :
    Calls Try.prog 15 #[.slice A n c] w fun e w' => e = .returned (.tuple #[hz4, .slice none 0 0, .int .i64 21]) ∧ Below w.heap.size w w' := by
  have hlen : l.length = n := by obtain ⟨_, _, _, e, _⟩ := hv; exact e
  have hb0 : Below w.heap.size w (w.alloc (.cells #[.int .u8 0, .int .i64 0, .int .u16 0, .bool false, .bool false, .int .i64 0, .int .u8 0, .int .u8 0, .int .u16 0, .bool false, .int .u64 0, .int .u64 0, .bool false, .int .u64 0, .int .u64 0, .slice none 0 0] 28)) := (Below.refl _ _).alloc (Nat.le_refl _) _
  have HB := Lib.hid hb0
  have hg0 := Is.new w 28 #[.int .u8 0, .int .i64 0, .int .u16 0, .bool false, .bool false, .int .i64 0, .int .u8 0, .int .u8 0, .int .u16 0, .bool false, .int .u64 0, .int .u64 0, .bool false, .int .u64 0, .int .u64 0, .slice none 0 0]
  have hby : Bytes w w.heap.size A l := by obtain ⟨A', c', e, _, h, _⟩ := hv; injection e with e; subst e; exact h
  obtain ⟨b, off, rfl, hbl, hcl⟩ := hby.cells (by omega)
  have d0 := (hb0.cell (p := ⟨b, off + 0, none⟩) hbl).trans (hcl 0 (by omega))
  have d2 := (hb0.cell (p := ⟨b, off + 2, none⟩) hbl).trans (hcl 2 (by omega))
  have d3 := (hb0.cell (p := ⟨b, off + 3, none⟩) hbl).trans (hcl 3 (by omega))
  have d6 := (hb0.cell (p := ⟨b, off + 6, none⟩) hbl).trans (hcl 6 (by omega))
  simp only [Nat.add_zero] at d0
  obtain ⟨u0, v0⟩ := ho 0
  obtain ⟨u2, v2⟩ := ho 2
  obtain ⟨u3, v3⟩ := ho 3
  obtain ⟨u6, v6⟩ := ho 6
  have hL : nw l 2 2 = at0 l 2 * 256 + at0 l 3 := nw_two (l := l) (i := 2) (by omega) ho
  have n20 : ¬ (n : Int) < 20 := by omega
  have n0z : (0 : Int) < (n : Int) := by omega
  have n2z : (2 : Int) < (n : Int) := by omega
  have n3z : (3 : Int) < (n : Int) := by omega
  have n6z : (6 : Int) < (n : Int) := by omega
  have HV := hide hv
  have HO := Lib.hid ho
  have hlo := bit_lo u0 v0; have hjn := bit_jn u2 v2 u3 v3; have hun := bit_un u6 v6
  obtain ⟨q, hq⟩ : ∃ q : Nat, at0 l 0 % 16 = (q : Int) := ⟨(at0 l 0 % 16).toNat, by omega⟩
  have hS : sz4 l = q * 4 := by unfold sz4; rw [hq]; simp
  rw [hq] at hlo
  have q16 : q ≤ 15 := by omega
  obtain ⟨S, hSq⟩ : ∃ S : Nat, q * 4 = S := ⟨_, rfl⟩
  have hmul : (q : Int) * 4 = (S : Int) := by omega
  have S60 : S ≤ 60 := by omega
  rw [hSq] at hS
  have HS := Lib.hid hS
  obtain ⟨L, hLn⟩ : ∃ L : Nat, nw l 2 2 = (L : Int) := ⟨(nw l 2 2).toNat, by omega⟩
  rw [← hL, hLn] at hjn
  have HL := Lib.hid hLn
  have L64 : L ≤ 65535 := by omega
  have w2 : IntKind.i64.wrap (at0 l 2 * 256) = at0 l 2 * 256 := IntWalk.i64_in _ (by omega)
  have w6 : IntKind.i64.wrap (at0 l 6 * 256) = at0 l 6 * 256 := IntWalk.i64_in _ (by omega)
  generalize at0 l 0 = x0 at *
  generalize at0 l 2 = x2 at *
  generalize at0 l 3 = x3 at *
  generalize at0 l 6 = x6 at *
  have g2 : ¬ (S : Int) < 20 := by omega
  rw [if_pos h3] at hun
  clear h2 hL hLn hq hSq hS ho hv hby hcl
  have hcd : w.heap.size ≠ b := by omega
  have HG := hide hg0
  have HV0 := hide (HV.out.st hb0)
  clear HV
  clear hg0
  go_enter Try.func15, Try.ntmps15
  go_wp2_with fail
  generalize w.alloc (.cells #[.int .u8 0, .int .i64 0, .int .u16 0, .bool false, .bool false, .int .i64 0, .int .u8 0, .int .u8 0, .int .u16 0, .bool false, .int .u64 0, .int .u64 0, .bool false, .int .u64 0, .int .u64 0, .slice none 0 0] 28) = W at *
  go_quiet (fail)
  have HB1 := Lib.hid (below_drewN hb0 nq)
  have HG1 : Hid (Is (W.drewN nq) w.heap.size 28 #[.int .u8 0, .int .i64 0, .int .u16 0, .bool false, .bool false, .int .i64 0, .int .u8 0, .int .u8 0, .int .u16 0, .bool false, .int .u64 0, .int .u64 0, .bool false, .int .u64 0, .int .u64 0, .slice none 0 0]) := HG
  have HV1 := hide (HV0.out.st (below_drewN (Below.refl W.heap.size W) nq))
  have d6 : (W.drewN nq).cell? ⟨b, off + 6, none⟩ = _ := d6
  have d0 : (W.drewN nq).cell? ⟨b, off, none⟩ = _ := d0
  clear HB HG HV0
  have HB := HB1; have HG := HG1; have HV := HV1
  clear HB1 HG1 HV1
  generalize W.drewN nq = Wq at *
  go_wp2_with (
    (with_reducible show wpList _ _ _ (⟨none, _, _, _, _, _⟩ :: _) _ _)
    go_loud (refine Go.wpList_store_row rfl 28 (.tmp 2) (.tmp 50) rfl w.heap.size #[.int .u8 0, .int .i64 0, .int .u16 0, .bool false, .bool false, .int .i64 0, .int .u8 0, .int .u8 0, .int .u16 0, .bool false, .int .u64 0, .int .u64 0, .bool false, .int .u64 0, .int .u64 0, .slice none 0 0] rfl rfl 28 #[.int .u8 0, .int .i64 0, .int .u16 0, .bool false, .bool false, .int .i64 0, .int .u8 0, .int .u8 0, .int .u16 0, .bool false, .int .u64 0, .int .u64 0, .bool false, .int .u64 0, .int .u64 0, .slice none 0 0] (is_raw HG.out) (by kernel_rfl) rfl (by simp [Value.oneCell']) ?_)
    have HG9 := hide (is_row6 (cs' := #[.int .u8 0, .int .i64 0, .int .u16 0, .bool false, .bool false, .int .i64 0, .int .u8 0, .int .u8 0, .int .u16 0, .bool false, .int .u64 0, .int .u64 0, .bool false, .int .u64 0, .int .u64 0, .slice none 0 0]) HG.out); have HB9 := Lib.hid (below_setRow HB.out (g := w.heap.size) (Nat.le_refl _) #[.int .u8 0, .int .i64 0, .int .u16 0, .bool false, .bool false, .int .i64 0, .int .u8 0, .int .u8 0, .int .u16 0, .bool false, .int .u64 0, .int .u64 0, .bool false, .int .u64 0, .int .u64 0, .slice none 0 0])
    generalize Wq.setRow w.heap.size #[.int .u8 0, .int .i64 0, .int .u16 0, .bool false, .bool false, .int .i64 0, .int .u8 0, .int .u8 0, .int .u16 0, .bool false, .int .u64 0, .int .u64 0, .bool false, .int .u64 0, .int .u64 0, .slice none 0 0] = Wz at *)
  have z0 := HG9.out.cell 0; have y0 := HG9.out.free 0
  have z1 := HG9.out.cell 1; have y1 := HG9.out.free 1
  have z2 := HG9.out.cell 2; have y2 := HG9.out.free 2
  have z3 := HG9.out.cell 3; have y3 := HG9.out.free 3
  have z4 := HG9.out.cell 4; have y4 := HG9.out.free 4
  have z5 := HG9.out.cell 5; have y5 := HG9.out.free 5
  have z6 := HG9.out.cell 6; have y6 := HG9.out.free 6
  have z7 := HG9.out.cell 7; have y7 := HG9.out.free 7
  have z8 := HG9.out.cell 8; have y8 := HG9.out.free 8
  have z9 := HG9.out.cell 9; have y9 := HG9.out.free 9
  have z10 := HG9.out.cell 10; have y10 := HG9.out.free 10
  have z11 := HG9.out.cell 11; have y11 := HG9.out.free 11
  have z12 := HG9.out.cell 12; have y12 := HG9.out.free 12
  have z13 := HG9.out.cell 13; have y13 := HG9.out.free 13
  have z14 := HG9.out.cell 14; have y14 := HG9.out.free 14
  have z15 := HG9.out.cell 15; have y15 := HG9.out.free 15
  simp at z0 z1 z2 z3 z4 z5 z6 z7 z8 z9 z10 z11 z12 z13 z14 z15
  have zl := HG9.out.lt
  refine bodyPost_ret (v := .tuple #[hz4, .slice none 0 0, .int .i64 21]) (by simp [results, Try.results15, go_sem, hz4, z0, z1, z2, z3, z4, z5, z6, z7, z8, z9, z10, z11, z12, z13, z14, z15, zl]) rfl ⟨rfl, HB9.out⟩
set_option maxHeartbeats 4000000 in
theorem parse4_d (A : Option Addr) (c n : Nat) (l : List Int) (w : World) (hv : IsB l n (.slice A n c) w) (ho : Octets l) (hn : n ≤ 70000) (h20 : 20 ≤ n) (h : at0 l 0 / 16 = 4) (h2 : 20 ≤ sz4 l) (h3 : at0 l 6 < 128) (h4 : nw l 2 2 < (sz4 l : Int)) :
    Calls Try.prog 15 #[.slice A n c] w fun e w' => e = .returned (.tuple #[hz4, .slice none 0 0, .int .i64 21]) ∧ Below w.heap.size w w' := by
  have hlen : l.length = n := by obtain ⟨_, _, _, e, _⟩ := hv; exact e
  have hb0 : Below w.heap.size w (w.alloc (.cells #[.int .u8 0, .int .i64 0, .int .u16 0, .bool false, .bool false, .int .i64 0, .int .u8 0, .int .u8 0, .int .u16 0, .bool false, .int .u64 0, .int .u64 0, .bool false, .int .u64 0, .int .u64 0, .slice none 0 0] 28)) := (Below.refl _ _).alloc (Nat.le_refl _) _
  have HB := Lib.hid hb0
  have hg0 := Is.new w 28 #[.int .u8 0, .int .i64 0, .int .u16 0, .bool false, .bool false, .int .i64 0, .int .u8 0, .int .u8 0, .int .u16 0, .bool false, .int .u64 0, .int .u64 0, .bool false, .int .u64 0, .int .u64 0, .slice none 0 0]
  have hby : Bytes w w.heap.size A l := by obtain ⟨A', c', e, _, h, _⟩ := hv; injection e with e; subst e; exact h
  obtain ⟨b, off, rfl, hbl, hcl⟩ := hby.cells (by omega)
  have d0 := (hb0.cell (p := ⟨b, off + 0, none⟩) hbl).trans (hcl 0 (by omega))
  have d2 := (hb0.cell (p := ⟨b, off + 2, none⟩) hbl).trans (hcl 2 (by omega))
  have d3 := (hb0.cell (p := ⟨b, off + 3, none⟩) hbl).trans (hcl 3 (by omega))
  have d6 := (hb0.cell (p := ⟨b, off + 6, none⟩) hbl).trans (hcl 6 (by omega))
  simp only [Nat.add_zero] at d0
  obtain ⟨u0, v0⟩ := ho 0
  obtain ⟨u2, v2⟩ := ho 2
  obtain ⟨u3, v3⟩ := ho 3
  obtain ⟨u6, v6⟩ := ho 6
  have hL : nw l 2 2 = at0 l 2 * 256 + at0 l 3 := nw_two (l := l) (i := 2) (by omega) ho
  have n20 : ¬ (n : Int) < 20 := by omega
  have n0z : (0 : Int) < (n : Int) := by omega
  have n2z : (2 : Int) < (n : Int) := by omega
  have n3z : (3 : Int) < (n : Int) := by omega
  have n6z : (6 : Int) < (n : Int) := by omega
  have HV := hide hv
  have HO := Lib.hid ho
  have hlo := bit_lo u0 v0; have hjn := bit_jn u2 v2 u3 v3; have hun := bit_un u6 v6
  obtain ⟨q, hq⟩ : ∃ q : Nat, at0 l 0 % 16 = (q : Int) := ⟨(at0 l 0 % 16).toNat, by omega⟩
  have hS : sz4 l = q * 4 := by unfold sz4; rw [hq]; simp
  rw [hq] at hlo
  have q16 : q ≤ 15 := by omega
  obtain ⟨S, hSq⟩ : ∃ S : Nat, q * 4 = S := ⟨_, rfl⟩
  have hmul : (q : Int) * 4 = (S : Int) := by omega
  have S60 : S ≤ 60 := by omega
  rw [hSq] at hS
  have HS := Lib.hid hS
  obtain ⟨L, hLn⟩ : ∃ L : Nat, nw l 2 2 = (L : Int) := ⟨(nw l 2 2).toNat, by omega⟩
  rw [← hL, hLn] at hjn
  have HL := Lib.hid hLn
  have L64 : L ≤ 65535 := by omega
  have w2 : IntKind.i64.wrap (at0 l 2 * 256) = at0 l 2 * 256 := IntWalk.i64_in _ (by omega)
  have w6 : IntKind.i64.wrap (at0 l 6 * 256) = at0 l 6 * 256 := IntWalk.i64_in _ (by omega)
  generalize at0 l 0 = x0 at *
  generalize at0 l 2 = x2 at *
  generalize at0 l 3 = x3 at *
  generalize at0 l 6 = x6 at *
  have g2 : ¬ (S : Int) < 20 := by omega
  have g4 : (L : Int) < (S : Int) := by omega
  rw [if_neg (by omega)] at hun
  clear h2 h4 hL hLn hq hSq hS ho hv hby hcl
  have hcd : w.heap.size ≠ b := by omega
  have HG := hide hg0
  have HV0 := hide (HV.out.st hb0)
  clear HV
  clear hg0
  go_enter Try.func15, Try.ntmps15
  go_wp2_with fail
  generalize w.alloc (.cells #[.int .u8 0, .int .i64 0, .int .u16 0, .bool false, .bool false, .int .i64 0, .int .u8 0, .int .u8 0, .int .u16 0, .bool false, .int .u64 0, .int .u64 0, .bool false, .int .u64 0, .int .u64 0, .slice none 0 0] 28) = W at *
  go_quiet (fail)
  have HB1 := Lib.hid (below_drewN hb0 nq)
  have HG1 : Hid (Is (W.drewN nq) w.heap.size 28 #[.int .u8 0, .int .i64 0, .int .u16 0, .bool false, .bool false, .int .i64 0, .int .u8 0, .int .u8 0, .int .u16 0, .bool false, .int .u64 0, .int .u64 0, .bool false, .int .u64 0, .int .u64 0, .slice none 0 0]) := HG
  have HV1 := hide (HV0.out.st (below_drewN (Below.refl W.heap.size W) nq))
  have d6 : (W.drewN nq).cell? ⟨b, off + 6, none⟩ = _ := d6
  have d0 : (W.drewN nq).cell? ⟨b, off, none⟩ = _ := d0
  clear HB HG HV0
  have HB := HB1; have HG := HG1; have HV := HV1
  clear HB1 HG1 HV1
  generalize W.drewN nq = Wq at *
  go_wp2_with (
    (with_reducible show wpList _ _ _ (⟨none, _, _, _, _, _⟩ :: _) _ _)
    go_loud (refine Go.wpList_store_row rfl 28 (.tmp 2) (.tmp 50) rfl w.heap.size #[.int .u8 0, .int .i64 0, .int .u16 0, .bool false, .bool false, .int .i64 0, .int .u8 0, .int .u8 0, .int .u16 0, .bool false, .int .u64 0, .int .u64 0, .bool false, .int .u64 0, .int .u64 0, .slice none 0 0] rfl rfl 28 #[.int .u8 0, .int .i64 0, .int .u16 0, .bool false, .bool false, .int .i64 0, .int .u8 0, .int .u8 0, .int .u16 0, .bool false, .int .u64 0, .int .u64 0, .bool false, .int .u64 0, .int .u64 0, .slice none 0 0] (is_raw HG.out) (by kernel_rfl) rfl (by simp [Value.oneCell']) ?_)
    have HG9 := hide (is_row6 (cs' := #[.int .u8 0, .int .i64 0, .int .u16 0, .bool false, .bool false, .int .i64 0, .int .u8 0, .int .u8 0, .int .u16 0, .bool false, .int .u64 0, .int .u64 0, .bool false, .int .u64 0, .int .u64 0, .slice none 0 0]) HG.out); have HB9 := Lib.hid (below_setRow HB.out (g := w.heap.size) (Nat.le_refl _) #[.int .u8 0, .int .i64 0, .int .u16 0, .bool false, .bool false, .int .i64 0, .int .u8 0, .int .u8 0, .int .u16 0, .bool false, .int .u64 0, .int .u64 0, .bool false, .int .u64 0, .int .u64 0, .slice none 0 0])
    generalize Wq.setRow w.heap.size #[.int .u8 0, .int .i64 0, .int .u16 0, .bool false, .bool false, .int .i64 0, .int .u8 0, .int .u8 0, .int .u16 0, .bool false, .int .u64 0, .int .u64 0, .bool false, .int .u64 0, .int .u64 0, .slice none 0 0] = Wz at *)
  have z0 := HG9.out.cell 0; have y0 := HG9.out.free 0
  have z1 := HG9.out.cell 1; have y1 := HG9.out.free 1
  have z2 := HG9.out.cell 2; have y2 := HG9.out.free 2
  have z3 := HG9.out.cell 3; have y3 := HG9.out.free 3
  have z4 := HG9.out.cell 4; have y4 := HG9.out.free 4
  have z5 := HG9.out.cell 5; have y5 := HG9.out.free 5
  have z6 := HG9.out.cell 6; have y6 := HG9.out.free 6
  have z7 := HG9.out.cell 7; have y7 := HG9.out.free 7
  have z8 := HG9.out.cell 8; have y8 := HG9.out.free 8
  have z9 := HG9.out.cell 9; have y9 := HG9.out.free 9
  have z10 := HG9.out.cell 10; have y10 := HG9.out.free 10
  have z11 := HG9.out.cell 11; have y11 := HG9.out.free 11
  have z12 := HG9.out.cell 12; have y12 := HG9.out.free 12
  have z13 := HG9.out.cell 13; have y13 := HG9.out.free 13
  have z14 := HG9.out.cell 14; have y14 := HG9.out.free 14
  have z15 := HG9.out.cell 15; have y15 := HG9.out.free 15
  simp at z0 z1 z2 z3 z4 z5 z6 z7 z8 z9 z10 z11 z12 z13 z14 z15
  have zl := HG9.out.lt
  refine bodyPost_ret (v := .tuple #[hz4, .slice none 0 0, .int .i64 21]) (by simp [results, Try.results15, go_sem, hz4, z0, z1, z2, z3, z4, z5, z6, z7, z8, z9, z10, z11, z12, z13, z14, z15, zl]) rfl ⟨rfl, HB9.out⟩
set_option maxHeartbeats 4000000 in
theorem parse4_e (A : Option Addr) (c n : Nat) (l : List Int) (w : World) (hv : IsB l n (.slice A n c) w) (ho : Octets l) (hn : n ≤ 70000) (h20 : 20 ≤ n) (h : at0 l 0 / 16 = 4) (h2 : 20 ≤ sz4 l) (h3 : at0 l 6 < 128) (h4 : (sz4 l : Int) ≤ nw l 2 2) (h5 : (n : Int) < nw l 2 2) :
    Calls Try.prog 15 #[.slice A n c] w fun e w' => e = .returned (.tuple #[hz4, .slice none 0 0, .int .i64 20]) ∧ Below w.heap.size w w' := by
  have hlen : l.length = n := by obtain ⟨_, _, _, e, _⟩ := hv; exact e
  have hb0 : Below w.heap.size w (w.alloc (.cells #[.int .u8 0, .int .i64 0, .int .u16 0, .bool false, .bool false, .int .i64 0, .int .u8 0, .int .u8 0, .int .u16 0, .bool false, .int .u64 0, .int .u64 0, .bool false, .int .u64 0, .int .u64 0, .slice none 0 0] 28)) := (Below.refl _ _).alloc (Nat.le_refl _) _
  have HB := Lib.hid hb0
  have hg0 := Is.new w 28 #[.int .u8 0, .int .i64 0, .int .u16 0, .bool false, .bool false, .int .i64 0, .int .u8 0, .int .u8 0, .int .u16 0, .bool false, .int .u64 0, .int .u64 0, .bool false, .int .u64 0, .int .u64 0, .slice none 0 0]
  have hby : Bytes w w.heap.size A l := by obtain ⟨A', c', e, _, h, _⟩ := hv; injection e with e; subst e; exact h
  obtain ⟨b, off, rfl, hbl, hcl⟩ := hby.cells (by omega)
  have d0 := (hb0.cell (p := ⟨b, off + 0, none⟩) hbl).trans (hcl 0 (by omega))
  have d2 := (hb0.cell (p := ⟨b, off + 2, none⟩) hbl).trans (hcl 2 (by omega))
  have d3 := (hb0.cell (p := ⟨b, off + 3, none⟩) hbl).trans (hcl 3 (by omega))
  have d6 := (hb0.cell (p := ⟨b, off + 6, none⟩) hbl).trans (hcl 6 (by omega))
  simp only [Nat.add_zero] at d0
  obtain ⟨u0, v0⟩ := ho 0
  obtain ⟨u2, v2⟩ := ho 2
  obtain ⟨u3, v3⟩ := ho 3
  obtain ⟨u6, v6⟩ := ho 6
  have hL : nw l 2 2 = at0 l 2 * 256 + at0 l 3 := nw_two (l := l) (i := 2) (by omega) ho
  have n20 : ¬ (n : Int) < 20 := by omega
  have n0z : (0 : Int) < (n : Int) := by omega
  have n2z : (2 : Int) < (n : Int) := by omega
  have n3z : (3 : Int) < (n : Int) := by omega
  have n6z : (6 : Int) < (n : Int) := by omega
  have HV := hide hv
  have HO := Lib.hid ho
  have hlo := bit_lo u0 v0; have hjn := bit_jn u2 v2 u3 v3; have hun := bit_un u6 v6
  obtain ⟨q, hq⟩ : ∃ q : Nat, at0 l 0 % 16 = (q : Int) := ⟨(at0 l 0 % 16).toNat, by omega⟩
  have hS : sz4 l = q * 4 := by unfold sz4; rw [hq]; simp
  rw [hq] at hlo
  have q16 : q ≤ 15 := by omega
  obtain ⟨S, hSq⟩ : ∃ S : Nat, q * 4 = S := ⟨_, rfl⟩
  have hmul : (q : Int) * 4 = (S : Int) := by omega
  have S60 : S ≤ 60 := by omega
  rw [hSq] at hS
  have HS := Lib.hid hS
  obtain ⟨L, hLn⟩ : ∃ L : Nat, nw l 2 2 = (L : Int) := ⟨(nw l 2 2).toNat, by omega⟩
  rw [← hL, hLn] at hjn
  have HL := Lib.hid hLn
  have L64 : L ≤ 65535 := by omega
  have w2 : IntKind.i64.wrap (at0 l 2 * 256) = at0 l 2 * 256 := IntWalk.i64_in _ (by omega)
  have w6 : IntKind.i64.wrap (at0 l 6 * 256) = at0 l 6 * 256 := IntWalk.i64_in _ (by omega)
  generalize at0 l 0 = x0 at *
  generalize at0 l 2 = x2 at *
  generalize at0 l 3 = x3 at *
  generalize at0 l 6 = x6 at *
  have g2 : ¬ (S : Int) < 20 := by omega
  have g4 : ¬ (L : Int) < (S : Int) := by omega
  have g5 : (n : Int) < (L : Int) := by omega
  rw [if_neg (by omega)] at hun
  clear h2 h4 h5 hL hLn hq hSq hS ho hv hby hcl
  have hcd : w.heap.size ≠ b := by omega
  have HG := hide hg0
  have HV0 := hide (HV.out.st hb0)
  clear HV
  clear hg0
  go_enter Try.func15, Try.ntmps15
  go_wp2_with fail
  generalize w.alloc (.cells #[.int .u8 0, .int .i64 0, .int .u16 0, .bool false, .bool false, .int .i64 0, .int .u8 0, .int .u8 0, .int .u16 0, .bool false, .int .u64 0, .int .u64 0, .bool false, .int .u64 0, .int .u64 0, .slice none 0 0] 28) = W at *
  go_quiet (fail)
  have HB1 := Lib.hid (below_drewN hb0 nq)
  have HG1 : Hid (Is (W.drewN nq) w.heap.size 28 #[.int .u8 0, .int .i64 0, .int .u16 0, .bool false, .bool false, .int .i64 0, .int .u8 0, .int .u8 0, .int .u16 0, .bool false, .int .u64 0, .int .u64 0, .bool false, .int .u64 0, .int .u64 0, .slice none 0 0]) := HG
  have HV1 := hide (HV0.out.st (below_drewN (Below.refl W.heap.size W) nq))
  have d6 : (W.drewN nq).cell? ⟨b, off + 6, none⟩ = _ := d6
  have d0 : (W.drewN nq).cell? ⟨b, off, none⟩ = _ := d0
  clear HB HG HV0
  have HB := HB1; have HG := HG1; have HV := HV1
  clear HB1 HG1 HV1
  generalize W.drewN nq = Wq at *
  go_wp2_with (
    (with_reducible show wpList _ _ _ (⟨none, _, _, _, _, _⟩ :: _) _ _)
    go_loud (refine Go.wpList_store_row rfl 28 (.tmp 2) (.tmp 55) rfl w.heap.size #[.int .u8 0, .int .i64 0, .int .u16 0, .bool false, .bool false, .int .i64 0, .int .u8 0, .int .u8 0, .int .u16 0, .bool false, .int .u64 0, .int .u64 0, .bool false, .int .u64 0, .int .u64 0, .slice none 0 0] rfl rfl 28 #[.int .u8 0, .int .i64 0, .int .u16 0, .bool false, .bool false, .int .i64 0, .int .u8 0, .int .u8 0, .int .u16 0, .bool false, .int .u64 0, .int .u64 0, .bool false, .int .u64 0, .int .u64 0, .slice none 0 0] (is_raw HG.out) (by kernel_rfl) rfl (by simp [Value.oneCell']) ?_)
    have HG9 := hide (is_row6 (cs' := #[.int .u8 0, .int .i64 0, .int .u16 0, .bool false, .bool false, .int .i64 0, .int .u8 0, .int .u8 0, .int .u16 0, .bool false, .int .u64 0, .int .u64 0, .bool false, .int .u64 0, .int .u64 0, .slice none 0 0]) HG.out); have HB9 := Lib.hid (below_setRow HB.out (g := w.heap.size) (Nat.le_refl _) #[.int .u8 0, .int .i64 0, .int .u16 0, .bool false, .bool false, .int .i64 0, .int .u8 0, .int .u8 0, .int .u16 0, .bool false, .int .u64 0, .int .u64 0, .bool false, .int .u64 0, .int .u64 0, .slice none 0 0])
    generalize Wq.setRow w.heap.size #[.int .u8 0, .int .i64 0, .int .u16 0, .bool false, .bool false, .int .i64 0, .int .u8 0, .int .u8 0, .int .u16 0, .bool false, .int .u64 0, .int .u64 0, .bool false, .int .u64 0, .int .u64 0, .slice none 0 0] = Wz at *)
  have z0 := HG9.out.cell 0; have y0 := HG9.out.free 0
  have z1 := HG9.out.cell 1; have y1 := HG9.out.free 1
  have z2 := HG9.out.cell 2; have y2 := HG9.out.free 2
  have z3 := HG9.out.cell 3; have y3 := HG9.out.free 3
  have z4 := HG9.out.cell 4; have y4 := HG9.out.free 4
  have z5 := HG9.out.cell 5; have y5 := HG9.out.free 5
  have z6 := HG9.out.cell 6; have y6 := HG9.out.free 6
  have z7 := HG9.out.cell 7; have y7 := HG9.out.free 7
  have z8 := HG9.out.cell 8; have y8 := HG9.out.free 8
  have z9 := HG9.out.cell 9; have y9 := HG9.out.free 9
  have z10 := HG9.out.cell 10; have y10 := HG9.out.free 10
  have z11 := HG9.out.cell 11; have y11 := HG9.out.free 11
  have z12 := HG9.out.cell 12; have y12 := HG9.out.free 12
  have z13 := HG9.out.cell 13; have y13 := HG9.out.free 13
  have z14 := HG9.out.cell 14; have y14 := HG9.out.free 14
  have z15 := HG9.out.cell 15; have y15 := HG9.out.free 15
  simp at z0 z1 z2 z3 z4 z5 z6 z7 z8 z9 z10 z11 z12 z13 z14 z15
  have zl := HG9.out.lt
  refine bodyPost_ret (v := .tuple #[hz4, .slice none 0 0, .int .i64 20]) (by simp [results, Try.results15, go_sem, hz4, z0, z1, z2, z3, z4, z5, z6, z7, z8, z9, z10, z11, z12, z13, z14, z15, zl]) rfl ⟨rfl, HB9.out⟩
set_option maxHeartbeats 4000000 in
theorem parse4_f (A : Option Addr) (c n : Nat) (l : List Int) (w : World) (hv : IsB l n (.slice A n c) w) (ho : Octets l) (hn : n ≤ 70000) (h20 : 20 ≤ n) (h : at0 l 0 / 16 = 4) (h2 : 20 ≤ sz4 l) (h3 : at0 l 6 < 128) (h4 : (sz4 l : Int) ≤ nw l 2 2) (h5 : nw l 2 2 ≤ (n : Int)) (h6 : S2.sumOf (l.take (sz4 l)) ≠ 0) :
    Calls Try.prog 15 #[.slice A n c] w fun e w' => e = .returned (.tuple #[hz4, .slice none 0 0, .int .i64 22]) ∧ Below w.heap.size w w' := by
  have hlen : l.length = n := by obtain ⟨_, _, _, e, _⟩ := hv; exact e
  have hb0 : Below w.heap.size w (w.alloc (.cells #[.int .u8 0, .int .i64 0, .int .u16 0, .bool false, .bool false, .int .i64 0, .int .u8 0, .int .u8 0, .int .u16 0, .bool false, .int .u64 0, .int .u64 0, .bool false, .int .u64 0, .int .u64 0, .slice none 0 0] 28)) := (Below.refl _ _).alloc (Nat.le_refl _) _
  have HB := Lib.hid hb0
  have hg0 := Is.new w 28 #[.int .u8 0, .int .i64 0, .int .u16 0, .bool false, .bool false, .int .i64 0, .int .u8 0, .int .u8 0, .int .u16 0, .bool false, .int .u64 0, .int .u64 0, .bool false, .int .u64 0, .int .u64 0, .slice none 0 0]
  have hby : Bytes w w.heap.size A l := by obtain ⟨A', c', e, _, h, _⟩ := hv; injection e with e; subst e; exact h
  obtain ⟨b, off, rfl, hbl, hcl⟩ := hby.cells (by omega)
  have d0 := (hb0.cell (p := ⟨b, off + 0, none⟩) hbl).trans (hcl 0 (by omega))
  have d2 := (hb0.cell (p := ⟨b, off + 2, none⟩) hbl).trans (hcl 2 (by omega))
  have d3 := (hb0.cell (p := ⟨b, off + 3, none⟩) hbl).trans (hcl 3 (by omega))
  have d6 := (hb0.cell (p := ⟨b, off + 6, none⟩) hbl).trans (hcl 6 (by omega))
  simp only [Nat.add_zero] at d0
  obtain ⟨u0, v0⟩ := ho 0
  obtain ⟨u2, v2⟩ := ho 2
  obtain ⟨u3, v3⟩ := ho 3
  obtain ⟨u6, v6⟩ := ho 6
  have hL : nw l 2 2 = at0 l 2 * 256 + at0 l 3 := nw_two (l := l) (i := 2) (by omega) ho
  have n20 : ¬ (n : Int) < 20 := by omega
  have n0z : (0 : Int) < (n : Int) := by omega
  have n2z : (2 : Int) < (n : Int) := by omega
  have n3z : (3 : Int) < (n : Int) := by omega
  have n6z : (6 : Int) < (n : Int) := by omega
  have HV := hide hv
  have HO := Lib.hid ho
  have hcap := hv.caps
  have hlo := bit_lo u0 v0; have hjn := bit_jn u2 v2 u3 v3; have hun := bit_un u6 v6
  obtain ⟨q, hq⟩ : ∃ q : Nat, at0 l 0 % 16 = (q : Int) := ⟨(at0 l 0 % 16).toNat, by omega⟩
  have hS : sz4 l = q * 4 := by unfold sz4; rw [hq]; simp
  rw [hq] at hlo
  have q16 : q ≤ 15 := by omega
  obtain ⟨S, hSq⟩ : ∃ S : Nat, q * 4 = S := ⟨_, rfl⟩
  have hmul : (q : Int) * 4 = (S : Int) := by omega
  have S60 : S ≤ 60 := by omega
  rw [hSq] at hS
  have HS := Lib.hid hS
  obtain ⟨L, hLn⟩ : ∃ L : Nat, nw l 2 2 = (L : Int) := ⟨(nw l 2 2).toNat, by omega⟩
  rw [← hL, hLn] at hjn
  have HL := Lib.hid hLn
  have L64 : L ≤ 65535 := by omega
  have w2 : IntKind.i64.wrap (at0 l 2 * 256) = at0 l 2 * 256 := IntWalk.i64_in _ (by omega)
  have w6 : IntKind.i64.wrap (at0 l 6 * 256) = at0 l 6 * 256 := IntWalk.i64_in _ (by omega)
  generalize at0 l 0 = x0 at *
  generalize at0 l 2 = x2 at *
  generalize at0 l 3 = x3 at *
  generalize at0 l 6 = x6 at *
  have g2 : ¬ (S : Int) < 20 := by omega
  have g4 : ¬ (L : Int) < (S : Int) := by omega
  have g5 : ¬ (n : Int) < (L : Int) := by omega
  rw [if_neg (by omega)] at hun
  have SLN := Lib.hid (show 20 ≤ S ∧ S ≤ L ∧ L ≤ n from by omega)
  have hSc : (S : Int) ≤ (c : Int) := by have := hcap.1; omega
  have s0 : (0 : Int) ≤ (S : Int) := Int.natCast_nonneg _
  clear h2 h4 h5 hL hLn hq hSq hS ho hv hby hcl
  have hcd : w.heap.size ≠ b := by omega
  have HG := hide hg0
  have HV0 := hide (HV.out.st hb0)
  clear HV
  clear hg0
  go_enter Try.func15, Try.ntmps15
  go_wp2_with fail
  generalize w.alloc (.cells #[.int .u8 0, .int .i64 0, .int .u16 0, .bool false, .bool false, .int .i64 0, .int .u8 0, .int .u8 0, .int .u16 0, .bool false, .int .u64 0, .int .u64 0, .bool false, .int .u64 0, .int .u64 0, .slice none 0 0] 28) = W at *
  go_quiet (fail)
  have HB1 := Lib.hid (below_drewN hb0 nq)
  have HG1 : Hid (Is (W.drewN nq) w.heap.size 28 #[.int .u8 0, .int .i64 0, .int .u16 0, .bool false, .bool false, .int .i64 0, .int .u8 0, .int .u8 0, .int .u16 0, .bool false, .int .u64 0, .int .u64 0, .bool false, .int .u64 0, .int .u64 0, .slice none 0 0]) := HG
  have HV1 := hide (HV0.out.st (below_drewN (Below.refl W.heap.size W) nq))
  have d6 : (W.drewN nq).cell? ⟨b, off + 6, none⟩ = _ := d6
  have d0 : (W.drewN nq).cell? ⟨b, off, none⟩ = _ := d0
  clear HB HG HV0
  have HB := HB1; have HG := HG1; have HV := HV1
  clear HB1 HG1 HV1
  generalize W.drewN nq = Wq at *
  have HT := hide (HV.out.take (k := S) (by have := SLN.out; omega))
  rw [HS.out] at h6
  have HS6 := Lib.hid h6
  have TO := Lib.hid (HO.out.take S)
  clear h6
  go_wp2_with fail
  refine (sum_wrong1 (t := 22) HT.out TO.out (by omega) HS6.out).mono ?_
  rintro e w2 ⟨rfl, rfl⟩
  have HB9 := Lib.hid (HB.out.alloc HB.out.size (.cells #[.slice (some ⟨b, off, none⟩) S c] 22))
  have HG9 := hide (HG.out.alloc (.cells #[.slice (some ⟨b, off, none⟩) S c] 22))
  clear HB HG
  have HB := HB9; have HG := HG9
  clear HB9 HG9
  generalize Wq.alloc (.cells #[.slice (some ⟨b, off, none⟩) S c] 22) = Wr at *
  go_wp2_with (
    (with_reducible show wpList _ _ _ (⟨none, _, _, _, _, _⟩ :: _) _ _)
    go_loud (refine Go.wpList_store_row rfl 28 (.tmp 2) (.tmp 62) rfl w.heap.size #[.int .u8 0, .int .i64 0, .int .u16 0, .bool false, .bool false, .int .i64 0, .int .u8 0, .int .u8 0, .int .u16 0, .bool false, .int .u64 0, .int .u64 0, .bool false, .int .u64 0, .int .u64 0, .slice none 0 0] rfl rfl 28 #[.int .u8 0, .int .i64 0, .int .u16 0, .bool false, .bool false, .int .i64 0, .int .u8 0, .int .u8 0, .int .u16 0, .bool false, .int .u64 0, .int .u64 0, .bool false, .int .u64 0, .int .u64 0, .slice none 0 0] (is_raw HG.out) (by kernel_rfl) rfl (by simp [Value.oneCell']) ?_)
    have HG9 := hide (is_row6 (cs' := #[.int .u8 0, .int .i64 0, .int .u16 0, .bool false, .bool false, .int .i64 0, .int .u8 0, .int .u8 0, .int .u16 0, .bool false, .int .u64 0, .int .u64 0, .bool false, .int .u64 0, .int .u64 0, .slice none 0 0]) HG.out); have HB9 := Lib.hid (below_setRow HB.out (g := w.heap.size) (Nat.le_refl _) #[.int .u8 0, .int .i64 0, .int .u16 0, .bool false, .bool false, .int .i64 0, .int .u8 0, .int .u8 0, .int .u16 0, .bool false, .int .u64 0, .int .u64 0, .bool false, .int .u64 0, .int .u64 0, .slice none 0 0])
    generalize Wr.setRow w.heap.size #[.int .u8 0, .int .i64 0, .int .u16 0, .bool false, .bool false, .int .i64 0, .int .u8 0, .int .u8 0, .int .u16 0, .bool false, .int .u64 0, .int .u64 0, .bool false, .int .u64 0, .int .u64 0, .slice none 0 0] = Wz at *)
  have z0 := HG9.out.cell 0; have y0 := HG9.out.free 0
  have z1 := HG9.out.cell 1; have y1 := HG9.out.free 1
  have z2 := HG9.out.cell 2; have y2 := HG9.out.free 2
  have z3 := HG9.out.cell 3; have y3 := HG9.out.free 3
  have z4 := HG9.out.cell 4; have y4 := HG9.out.free 4
  have z5 := HG9.out.cell 5; have y5 := HG9.out.free 5
  have z6 := HG9.out.cell 6; have y6 := HG9.out.free 6
  have z7 := HG9.out.cell 7; have y7 := HG9.out.free 7
  have z8 := HG9.out.cell 8; have y8 := HG9.out.free 8
  have z9 := HG9.out.cell 9; have y9 := HG9.out.free 9
  have z10 := HG9.out.cell 10; have y10 := HG9.out.free 10
  have z11 := HG9.out.cell 11; have y11 := HG9.out.free 11
  have z12 := HG9.out.cell 12; have y12 := HG9.out.free 12
  have z13 := HG9.out.cell 13; have y13 := HG9.out.free 13
  have z14 := HG9.out.cell 14; have y14 := HG9.out.free 14
  have z15 := HG9.out.cell 15; have y15 := HG9.out.free 15
  simp at z0 z1 z2 z3 z4 z5 z6 z7 z8 z9 z10 z11 z12 z13 z14 z15
  have zl := HG9.out.lt
  refine bodyPost_ret (v := .tuple #[hz4, .slice none 0 0, .int .i64 22]) (by simp [results, Try.results15, go_sem, hz4, z0, z1, z2, z3, z4, z5, z6, z7, z8, z9, z10, z11, z12, z13, z14, z15, zl]) rfl ⟨rfl, HB9.out⟩
end Go.Proofs.Ytmgendgfdhhgfaa
