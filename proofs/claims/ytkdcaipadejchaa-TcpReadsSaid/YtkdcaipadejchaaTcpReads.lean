/-
  TcpReads (P6.1) answers true and leaves its argument as it was, for all bytes: Parse gives the segment or the error that the document asks for. No condition.
-/
import Derived.Test.YtkdcaipadejchaaRows
import Derived.WalkKit
import Derived.ProofKit
import Derived.OpenShut
import Derived.ShutString
import Derived.ChangeOld
import Derived.Below
import Derived.Test.YtkdcaipadejchaaTcpA
import Derived.Test.YtkdcaipadejchaaTcpP
import Derived.Test.YtkdcaipadejchaaTcpR
namespace Go.Proofs.Ytkdcaipadejchaa.tcpReads
open Go.ChangeShapes Go.WideShapes Go.ChangeAt Go.RowKit
open Go.ChangeMaps (open_string shut_string)
open Go.Proofs.Ytkdcaipadejchaa
set_option maxRecDepth 100000
set_option linter.unusedVariables false

theorem own : ownKnob Try.prog.godebug = none := by kernel_rfl
theorem laidOut : laidOutB Try.prog = true := by kernel_rfl


def IsS (xa xb xs xk xf xn xm xg : Int) (o : List Int) (i : Nat) (l : List Int) (j : Nat) (x : Value) (w : World) : Prop := ∃ v u, x = sg6 xa xb xs xk xf xn xm xg v u ∧ IsB o i v w ∧ IsB l j u w
theorem IsS.st {xa xb xs xk xf xn xm xg : Int} {o l : List Int} {i j : Nat} {x : Value} {w w' : World} (h : IsS xa xb xs xk xf xn xm xg o i l j x w) (hb : Below w.heap.size w w') : IsS xa xb xs xk xf xn xm xg o i l j x w' := by
  obtain ⟨v, u, e, hv, hu⟩ := h; exact ⟨v, u, e, hv.st hb, hu.st hb⟩
def specS (xa xb xs xk xf xn xm xg : Int) (o : List Int) (i : Nat) (l : List Int) (j : Nat) : Lin.Spec Lin.Keeps := ⟨IsS xa xb xs xk xf xn xm xg o i l j, IsS.st⟩
theorem parses (A : Option Addr) (c : Nat) (l : List Int) (ho : Octets l) (hm : l.length ≤ 3000) :
    ∃ (xa xb xs xk xf xn xm xg : Int) (o L : List Int) (i j : Nat) (x : Int), ∀ w, IsB l l.length (.slice A l.length c) w →
      Calls Try.prog 28 #[.slice A l.length c] w (Sg w xa xb xs xk xf xn xm xg o i L j x) ∧
      Calls Try.prog 29 #[.slice A l.length c] w (Sg w xa xb xs xk xf xn xm xg o i L j x) := by
  by_cases h20 : l.length < 20
  · exact ⟨0, 0, 0, 0, 0, 0, 0, 0, [], [], 0, 0, 20, fun w hi => ⟨tparse_short A c l.length w h20, rparse_short A c l.length w h20⟩⟩
  · have yb := ho 12
    obtain ⟨y, hy⟩ : ∃ y, at0 l 12 = y := ⟨_, rfl⟩
    rw [hy] at yb
    by_cases h1 : y / 16 * 4 < 20 ∨ (20 ≤ y / 16 * 4 ∧ y % 16 ≠ 0)
    · exact ⟨0, 0, 0, 0, 0, 0, 0, 0, [], [], 0, 0, 21, fun w hi => ⟨tparse_form A c l y w hi ho hm (by omega) hy h1, rparse_form A c l y w hi ho hm (by omega) hy h1⟩⟩
    · have h2 : 20 ≤ y / 16 * 4 ∧ y % 16 = 0 := by omega
      by_cases h3 : (l.length : Int) < y / 16 * 4
      · exact ⟨0, 0, 0, 0, 0, 0, 0, 0, [], [], 0, 0, 20, fun w hi => ⟨tparse_long A c l y w hi ho hm (by omega) hy h2 h3, rparse_long A c l y w hi ho hm (by omega) hy h2 h3⟩⟩
      · obtain ⟨i, hi0⟩ : ∃ i : Nat, y / 16 * 4 = 20 + (i : Int) := ⟨(y / 16 * 4 - 20).toNat, by omega⟩
        obtain ⟨j, hj0⟩ : ∃ j : Nat, 20 + i + j = l.length := ⟨l.length - (20 + i), by omega⟩
        exact ⟨_, _, _, _, _, _, _, _, _, _, i, j, 0, fun w hi => ⟨tparse_ok A c l y w hi ho hm i j hy hi0 h2.2 hj0, rparse_ok A c l y w hi ho hm i j hy hi0 h2.2 hj0⟩⟩
set_option maxHeartbeats 4000000 in
theorem walk (A : Option Addr) (c : Nat) (l : List Int) (w : World) (h : IsB l l.length (.slice A l.length c) w) (ho : Octets l) (hlm : l.length ≤ maxLen) :
    Calls Try.prog 5 #[.slice A l.length c] w fun e w' => e = .returned (.bool true) ∧ Below w.heap.size w w' := by
  unfold maxLen at hlm
  by_cases q : 3000 < l.length
  · clear h ho
    go_enter Try.func5, Try.ntmps5
    go_wp2_with fail
    refine (awake06 _).mono ?_
    rintro e w1 ⟨rfl, hb⟩
    go_wp2_with fail
    go_ret
    exact ⟨rfl, hb⟩
  · obtain ⟨xa, xb, xs, xk, xf, xn, xm, xg, o, L, i, j, x, hk⟩ := parses A c l ho (by omega)
    have HK := Lib.hid hk
    have HI := hide h
    clear h hk ho
    go_enter Try.func5, Try.ntmps5
    go_wp2_with fail
    refine ((HK.out w HI.out).1).mono ?_
    rintro e w1 ⟨v, u, rfl, hb1, hv, hu⟩
    obtain ⟨A1, c1, rfl⟩ := hv.shape
    obtain ⟨A2, c2, rfl⟩ := hu.shape
    have HV := hide hv; have HU := hide hu
    have HB1 := Lib.hid hb1
    unfold sg6
    clear hv hu hb1
    go_wp2_with fail
    have hb1 : Below w.heap.size w (w1.alloc (.cells #[.int .u16 xa, .int .u16 xb, .int .u32 xs, .int .u32 xk, .int .u8 xf, .int .u16 xn, .int .u16 xm, .int .u16 xg, .slice A1 i c1, .slice A2 j c2] 45)) := HB1.out.alloc HB1.out.size _
    have hg1 := Is.new w1 45 #[.int .u16 xa, .int .u16 xb, .int .u32 xs, .int .u32 xk, .int .u8 xf, .int .u16 xn, .int .u16 xm, .int .u16 xg, .slice A1 i c1, .slice A2 j c2]
    have hv1 := HV.out.alloc (.cells #[.int .u16 xa, .int .u16 xb, .int .u32 xs, .int .u32 xk, .int .u8 xf, .int .u16 xn, .int .u16 xm, .int .u16 xg, .slice A1 i c1, .slice A2 j c2] 45)
    have hu1 := HU.out.alloc (.cells #[.int .u16 xa, .int .u16 xb, .int .u32 xs, .int .u32 xk, .int .u8 xf, .int .u16 xn, .int .u16 xm, .int .u16 xg, .slice A1 i c1, .slice A2 j c2] 45)
    generalize w1.alloc (.cells #[.int .u16 xa, .int .u16 xb, .int .u32 xs, .int .u32 xk, .int .u8 xf, .int .u16 xn, .int .u16 xm, .int .u16 xg, .slice A1 i c1, .slice A2 j c2] 45) = W1 at *
    generalize w1.heap.size = g1 at *
    have HVa := hide hv1; have HUa := hide hu1; have HGa := hide hg1; have HB2 := Lib.hid hb1
    clear hv1 hu1 hg1 hb1 HV HU HB1
    refine ((HK.out W1 (HI.out.st HB2.out)).2).mono ?_
    rintro e w2 ⟨v', u', rfl, hb2, hv, hu⟩
    obtain ⟨A3, c3, rfl⟩ := hv.shape
    obtain ⟨A4, c4, rfl⟩ := hu.shape
    unfold sg6
    have HVc := hide hv; have HUc := hide hu; have HVb := hide (HVa.out.st hb2); have HUb := hide (HUa.out.st hb2); have HGb := hide (HGa.out.below hb2 HGa.out.lt); have HB3 := Lib.hid (HB2.out.trans (hb2.mono HB2.out.size))
    clear hv hu hb2 HVa HUa HGa HB2
    go_wp2_with fail
    have HB := Lib.hid (HB3.out.alloc HB3.out.size (.cells #[.int .u16 xa, .int .u16 xb, .int .u32 xs, .int .u32 xk, .int .u8 xf, .int .u16 xn, .int .u16 xm, .int .u16 xg, .slice A3 i c3, .slice A4 j c4] 48))
    have HV2 := hide (HVc.out.alloc (.cells #[.int .u16 xa, .int .u16 xb, .int .u32 xs, .int .u32 xk, .int .u8 xf, .int .u16 xn, .int .u16 xm, .int .u16 xg, .slice A3 i c3, .slice A4 j c4] 48))
    have HU2 := hide (HUc.out.alloc (.cells #[.int .u16 xa, .int .u16 xb, .int .u32 xs, .int .u32 xk, .int .u8 xf, .int .u16 xn, .int .u16 xm, .int .u16 xg, .slice A3 i c3, .slice A4 j c4] 48))
    have HV1 := hide (HVb.out.alloc (.cells #[.int .u16 xa, .int .u16 xb, .int .u32 xs, .int .u32 xk, .int .u8 xf, .int .u16 xn, .int .u16 xm, .int .u16 xg, .slice A3 i c3, .slice A4 j c4] 48))
    have HU1 := hide (HUb.out.alloc (.cells #[.int .u16 xa, .int .u16 xb, .int .u32 xs, .int .u32 xk, .int .u8 xf, .int .u16 xn, .int .u16 xm, .int .u16 xg, .slice A3 i c3, .slice A4 j c4] 48))
    have hg1 := HGb.out.alloc (.cells #[.int .u16 xa, .int .u16 xb, .int .u32 xs, .int .u32 xk, .int .u8 xf, .int .u16 xn, .int .u16 xm, .int .u16 xg, .slice A3 i c3, .slice A4 j c4] 48)
    have hg2 := Is.new w2 48 #[.int .u16 xa, .int .u16 xb, .int .u32 xs, .int .u32 xk, .int .u8 xf, .int .u16 xn, .int .u16 xm, .int .u16 xg, .slice A3 i c3, .slice A4 j c4]
    generalize w2.alloc (.cells #[.int .u16 xa, .int .u16 xb, .int .u32 xs, .int .u32 xk, .int .u8 xf, .int .u16 xn, .int .u16 xm, .int .u16 xg, .slice A3 i c3, .slice A4 j c4] 48) = W at *
    generalize w2.heap.size = g2 at *
    have HG1 := Lib.hid (show _ ∧ _ ∧ _ ∧ _ ∧ _ ∧ _ ∧ _ ∧ _ ∧ _ ∧ _ from ⟨hg1.cell 0, hg1.cell 1, hg1.cell 2, hg1.cell 3, hg1.cell 4, hg1.cell 5, hg1.cell 6, hg1.cell 7, hg1.cell 8, hg1.cell 9⟩)
    have HG2 := Lib.hid (show _ ∧ _ ∧ _ ∧ _ ∧ _ ∧ _ ∧ _ ∧ _ ∧ _ ∧ _ from ⟨hg2.cell 0, hg2.cell 1, hg2.cell 2, hg2.cell 3, hg2.cell 4, hg2.cell 5, hg2.cell 6, hg2.cell 7, hg2.cell 8, hg2.cell 9⟩)
    have HG1L := hg1.lt
    have HG2L := hg2.lt
    clear hg1 hg2 HVb HUb HVc HUc HGb HB3
    refine Lin.wp_region_lin Lin.keeps (n := 33)  (fun slotq => match slotq with | 21 => Lin.Spec.val (.agg #[.int .u16 xa, .int .u16 xb, .int .u32 xs, .int .u32 xk, .int .u8 xf, .int .u16 xn, .int .u16 xm, .int .u16 xg, .slice A1 i c1, .slice A2 j c2]) | 22 => specS xa xb xs xk xf xn xm xg o i L j | 23 => Lin.Spec.val (.agg #[.int .u16 xa, .int .u16 xb, .int .u32 xs, .int .u32 xk, .int .u8 xf, .int .u16 xn, .int .u16 xm, .int .u16 xg, .slice A3 i c3, .slice A4 j c4]) | 24 => Lin.Spec.val (.bool true) | 25 => Lin.Spec.val (.bool true) | 26 => Lin.Spec.val (.int .i64 x) | 27 => Lin.Spec.val (.int .i64 x) | 28 => Lin.Spec.val (.bool true) | 29 => Lin.Spec.val (.bool true) | 30 => Lin.Spec.val (.bool true) | 31 => Lin.Spec.val (.bool true) | 32 => Lin.Spec.val (.bool true) | 2 => Lin.Spec.val (.bool true) | _ => Lin.Spec.any) (by kernel_rfl) rfl (by kernel_rfl) ⟨?_, ?_, ?_, ?_, ?_, ?_, ?_, ?_, ?_, ?_, ?_, ?_, ?_, trivial⟩ ?_
    · intro ρ wq hb ho hc hd
      have hC : ∀ v, ρ (.const v) = v := fun v => hc _ (by intro t e; cases e)
      have hF : ∀ f, ρ (.func f) = .func (.func f) #[] #[] := fun f => hc _ (by intro t e; cases e)
      have h3 : ρ (.tmp 3) = .pointer (some ⟨g1, 0, none⟩) := ho 3 (by kernel_rfl)
      obtain ⟨G0, G1, G2, G3, G4, G5, G6, G7, G8, G9⟩ := HG1.out
      have q0 := (hb.cell (p := ⟨g1, 0, none⟩) HG1L).trans G0
      have q1 := (hb.cell (p := ⟨g1, 1, none⟩) HG1L).trans G1
      have q2 := (hb.cell (p := ⟨g1, 2, none⟩) HG1L).trans G2
      have q3 := (hb.cell (p := ⟨g1, 3, none⟩) HG1L).trans G3
      have q4 := (hb.cell (p := ⟨g1, 4, none⟩) HG1L).trans G4
      have q5 := (hb.cell (p := ⟨g1, 5, none⟩) HG1L).trans G5
      have q6 := (hb.cell (p := ⟨g1, 6, none⟩) HG1L).trans G6
      have q7 := (hb.cell (p := ⟨g1, 7, none⟩) HG1L).trans G7
      have q8 := (hb.cell (p := ⟨g1, 8, none⟩) HG1L).trans G8
      have q9 := (hb.cell (p := ⟨g1, 9, none⟩) HG1L).trans G9
      exact Lin.Runs.value Lin.keeps (v := .agg #[.int .u16 xa, .int .u16 xb, .int .u32 xs, .int .u32 xk, .int .u8 xf, .int .u16 xn, .int .u16 xm, .int .u16 xg, .slice A1 i c1, .slice A2 j c2]) (by simp [execOp, go_sem, hC, hF, h3, q0, q1, q2, q3, q4, q5, q6, q7, q8, q9]) rfl
    · intro ρ wq hb ho hc hd
      have hC : ∀ v, ρ (.const v) = v := fun v => hc _ (by intro t e; cases e)
      have hF : ∀ f, ρ (.func f) = .func (.func f) #[] #[] := fun f => hc _ (by intro t e; cases e)
      have h21 : ρ (.tmp 21) = .agg #[.int .u16 xa, .int .u16 xb, .int .u32 xs, .int .u32 xk, .int .u8 xf, .int .u16 xn, .int .u16 xm, .int .u16 xg, .slice A1 i c1, .slice A2 j c2] := hd 21 (by kernel_rfl)
      refine Lin.Runs.call Lin.keeps (f := 31) (args := #[.agg #[.int .u16 xa, .int .u16 xb, .int .u32 xs, .int .u32 xk, .int .u8 xf, .int .u16 xn, .int .u16 xm, .int .u16 xg, .slice A1 i c1, .slice A2 j c2]]) (by simp [execOp, go_sem, hC, hF, h21]) ?_
      exact (of6 xa xb xs xk xf xn xm xg o L i j (.slice A1 i c1) (.slice A2 j c2) wq (HV1.out.st hb) (HU1.out.st hb)).mono fun e w9 ⟨v, u, he, hb9, hv, hu⟩ => ⟨_, he, hb9, v, u, rfl, hv, hu⟩
    · intro ρ wq hb ho hc hd
      have hC : ∀ v, ρ (.const v) = v := fun v => hc _ (by intro t e; cases e)
      have hF : ∀ f, ρ (.func f) = .func (.func f) #[] #[] := fun f => hc _ (by intro t e; cases e)
      have h5 : ρ (.tmp 5) = .pointer (some ⟨g2, 0, none⟩) := ho 5 (by kernel_rfl)
      obtain ⟨G0, G1, G2, G3, G4, G5, G6, G7, G8, G9⟩ := HG2.out
      have q0 := (hb.cell (p := ⟨g2, 0, none⟩) HG2L).trans G0
      have q1 := (hb.cell (p := ⟨g2, 1, none⟩) HG2L).trans G1
      have q2 := (hb.cell (p := ⟨g2, 2, none⟩) HG2L).trans G2
      have q3 := (hb.cell (p := ⟨g2, 3, none⟩) HG2L).trans G3
      have q4 := (hb.cell (p := ⟨g2, 4, none⟩) HG2L).trans G4
      have q5 := (hb.cell (p := ⟨g2, 5, none⟩) HG2L).trans G5
      have q6 := (hb.cell (p := ⟨g2, 6, none⟩) HG2L).trans G6
      have q7 := (hb.cell (p := ⟨g2, 7, none⟩) HG2L).trans G7
      have q8 := (hb.cell (p := ⟨g2, 8, none⟩) HG2L).trans G8
      have q9 := (hb.cell (p := ⟨g2, 9, none⟩) HG2L).trans G9
      exact Lin.Runs.value Lin.keeps (v := .agg #[.int .u16 xa, .int .u16 xb, .int .u32 xs, .int .u32 xk, .int .u8 xf, .int .u16 xn, .int .u16 xm, .int .u16 xg, .slice A3 i c3, .slice A4 j c4]) (by simp [execOp, go_sem, hC, hF, h5, q0, q1, q2, q3, q4, q5, q6, q7, q8, q9]) rfl
    · intro ρ wq hb ho hc hd
      have hC : ∀ v, ρ (.const v) = v := fun v => hc _ (by intro t e; cases e)
      have hF : ∀ f, ρ (.func f) = .func (.func f) #[] #[] := fun f => hc _ (by intro t e; cases e)
      have h22 := hd 22 (by kernel_rfl)
      have h23 : ρ (.tmp 23) = .agg #[.int .u16 xa, .int .u16 xb, .int .u32 xs, .int .u32 xk, .int .u8 xf, .int .u16 xn, .int .u16 xm, .int .u16 xg, .slice A3 i c3, .slice A4 j c4] := hd 23 (by kernel_rfl)
      obtain ⟨v, u, e22, hv, hu⟩ := h22
      refine Lin.Runs.call Lin.keeps (f := 30) (args := #[sg6 xa xb xs xk xf xn xm xg v u, .agg #[.int .u16 xa, .int .u16 xb, .int .u32 xs, .int .u32 xk, .int .u8 xf, .int .u16 xn, .int .u16 xm, .int .u16 xg, .slice A3 i c3, .slice A4 j c4]]) (by simp [execOp, go_sem, hC, hF, e22, h23]) ?_
      exact (same6 xa xb xs xk xf xn xm xg o L i j i j v u (.slice A3 i c3) (.slice A4 j c4) wq hv hu (HV2.out.st hb) (HU2.out.st hb)).mono fun e w9 ⟨he, hb9⟩ => ⟨_, he, hb9, rfl⟩
    · intro ρ wq hb ho hc hd
      have hC : ∀ v, ρ (.const v) = v := fun v => hc _ (by intro t e; cases e)
      have hF : ∀ f, ρ (.func f) = .func (.func f) #[] #[] := fun f => hc _ (by intro t e; cases e)
      have h24 : ρ (.tmp 24) = .bool true := hd 24 (by kernel_rfl)
      exact Lin.Runs.value Lin.keeps (Lin.exec_move rfl) h24
    · intro ρ wq hb ho hc hd
      have hC : ∀ v, ρ (.const v) = v := fun v => hc _ (by intro t e; cases e)
      have hF : ∀ f, ρ (.func f) = .func (.func f) #[] #[] := fun f => hc _ (by intro t e; cases e)
      intro t ht; cases (show some 25 = some t from ht)
      refine ⟨fun _ => ?_, fun hn => absurd (hd 25 (by kernel_rfl)) hn⟩
      have h4 : ρ (.tmp 4) = .int .i64 x := ho 4 (by kernel_rfl)
      exact Lin.Runs.value Lin.keeps (Lin.exec_move rfl) h4
    · intro ρ wq hb ho hc hd
      have hC : ∀ v, ρ (.const v) = v := fun v => hc _ (by intro t e; cases e)
      have hF : ∀ f, ρ (.func f) = .func (.func f) #[] #[] := fun f => hc _ (by intro t e; cases e)
      intro t ht; cases (show some 25 = some t from ht)
      refine ⟨fun _ => ?_, fun hn => absurd (hd 25 (by kernel_rfl)) hn⟩
      have h6 : ρ (.tmp 6) = .int .i64 x := ho 6 (by kernel_rfl)
      exact Lin.Runs.value Lin.keeps (Lin.exec_move rfl) h6
    · intro ρ wq hb ho hc hd
      have hC : ∀ v, ρ (.const v) = v := fun v => hc _ (by intro t e; cases e)
      have hF : ∀ f, ρ (.func f) = .func (.func f) #[] #[] := fun f => hc _ (by intro t e; cases e)
      intro t ht; cases (show some 25 = some t from ht)
      refine ⟨fun _ => ?_, fun hn => absurd (hd 25 (by kernel_rfl)) hn⟩
      have h26 : ρ (.tmp 26) = .int .i64 x := hd 26 (by kernel_rfl)
      have h27 : ρ (.tmp 27) = .int .i64 x := hd 27 (by kernel_rfl)
      exact Lin.Runs.value Lin.keeps (v := .bool true) (by simp [execOp, go_sem, hC, hF, h26, h27]) rfl
    · intro ρ wq hb ho hc hd
      have hC : ∀ v, ρ (.const v) = v := fun v => hc _ (by intro t e; cases e)
      have hF : ∀ f, ρ (.func f) = .func (.func f) #[] #[] := fun f => hc _ (by intro t e; cases e)
      have h25 : ρ (.tmp 25) = .bool true := hd 25 (by kernel_rfl)
      have h28 : ρ (.tmp 28) = .bool true := hd 28 (by kernel_rfl)
      exact Lin.Runs.value Lin.keeps (v := .bool true) (by simp [execOp, go_sem, hC, hF, h25, h28]) rfl
    · intro ρ wq hb ho hc hd
      have hC : ∀ v, ρ (.const v) = v := fun v => hc _ (by intro t e; cases e)
      have hF : ∀ f, ρ (.func f) = .func (.func f) #[] #[] := fun f => hc _ (by intro t e; cases e)
      have h29 : ρ (.tmp 29) = .bool true := hd 29 (by kernel_rfl)
      exact Lin.Runs.value Lin.keeps (Lin.exec_move rfl) h29
    · intro ρ wq hb ho hc hd
      have hC : ∀ v, ρ (.const v) = v := fun v => hc _ (by intro t e; cases e)
      have hF : ∀ f, ρ (.func f) = .func (.func f) #[] #[] := fun f => hc _ (by intro t e; cases e)
      intro t ht; cases (show some 30 = some t from ht)
      refine ⟨fun _ => ?_, fun hn => absurd (hd 30 (by kernel_rfl)) hn⟩
      refine Lin.Runs.call Lin.keeps (f := 27) (args := #[]) (by simp [execOp, go_sem, hC, hF]) ?_
      exact (awake06 wq).mono fun e w9 ⟨he, hb9⟩ => ⟨_, he, hb9, rfl⟩
    · intro ρ wq hb ho hc hd
      have hC : ∀ v, ρ (.const v) = v := fun v => hc _ (by intro t e; cases e)
      have hF : ∀ f, ρ (.func f) = .func (.func f) #[] #[] := fun f => hc _ (by intro t e; cases e)
      have h30 : ρ (.tmp 30) = .bool true := hd 30 (by kernel_rfl)
      have h31 : ρ (.tmp 31) = .bool true := hd 31 (by kernel_rfl)
      exact Lin.Runs.value Lin.keeps (v := .bool true) (by simp [execOp, go_sem, hC, hF, h30, h31]) rfl
    · intro ρ wq hb ho hc hd
      have hC : ∀ v, ρ (.const v) = v := fun v => hc _ (by intro t e; cases e)
      have hF : ∀ f, ρ (.func f) = .func (.func f) #[] #[] := fun f => hc _ (by intro t e; cases e)
      have h32 : ρ (.tmp 32) = .bool true := hd 32 (by kernel_rfl)
      exact Lin.Runs.value Lin.keeps (Lin.exec_assign rfl) h32
    · intro vals w9 hb9 hv
      have e2 : vals 2 = .bool true := hv 2 (by kernel_rfl)
      simp only [Lin.putAll, Option.getD_some]
      rw [e2]
      have HB9 := Lib.hid (HB.out.trans (hb9.mono HB.out.size))
      clear hv hb9
      go_simp
      generalize vals = vv
      go_wp2_with fail
      go_ret
      exact ⟨rfl, HB9.out⟩

/-! ### The step from the walk to the row -/
set_option maxRecDepth 100000 in
theorem lifted (os : Os) (started : os.Started) (H : Type) (enc : TypeId × Value → H) :
    ReturnsInHanded {} Try.checked os 5 .any (Rows.tcpReadsSpec.pre6 enc Try.prog Try.f5 Rows.tcpReadsRow.domain false) (Rows.tcpReadsSpec.post enc Try.prog Try.f5 false true false false) := by
  refine returnsInHanded_of_change (C := Try.checked) own started (by kernel_rfl) Try.func5
    (ChangeSpec.witness6 (enc := enc) (C := Try.checked) false ⟨#[], #[.slice none 0 0], []⟩ 8 (by kernel_rfl) (by kernel_rfl) (by kernel_rfl) (by kernel_rfl)) ?_
  intro W base args ds gs before hval0 hW hcnd _
  have hval : ∀ (j : Nat) t v, Try.f5.params[j]? = some t → args[j]? = some v → Value.okWide Try.prog W .any base t v := hval0
  have hW' := hW
  obtain ⟨p, q, hA0, hV, rfl, hfz, hnd⟩ := hW
  have hA : DataW.TrodAll enc Try.prog W 0 (fun _ => true) true Try.f5.params.toList args.toList ds p := hA0
  rw [Try.params5] at hA hval
  obtain ⟨v0, vs0, d0, ds0, p0, q0, hargs, rfl, rfl, h0, r0⟩ := trodAll_cons hA
  obtain ⟨rfl, rfl, rfl⟩ := trodAll_nil r0
  obtain rfl : args = #[v0] := by cases args; simp_all
  obtain ⟨rfl, rfl⟩ := trodVars_none hV
  have k0 := h0
  have lt0 : ∀ x ∈ p0, x.block < W.heap.size := by obtain ⟨m, hm⟩ := k0; exact DataW.trod_lt m _ _ _ hm
  have ok0 := hval 0 22 v0 rfl rfl
  clear hA0 hval0
  obtain ⟨A, na, c, rfl⟩ := okWide_slice Try.underlying22 ok0
  obtain ⟨l, rfl, ob, ha, hba⟩ := open_isb (e := 5) Try.underlying22 Try.underlying5 (by kernel_rfl) h0
  have m0 := ha.maxlen
  refine (walk A c l W ha ob m0).mono fun e W' ⟨he, bel⟩ => ?_
  subst he
  exact ⟨_, rfl, _, _, _, [], _, [], hW', trodAll_mk1 (shut_bool Try.underlying4 _), (trodAll_cons_mk (Below.trod laidOut (by kernel_rfl) (of_decide_eq_true (by kernel_rfl)) k0 bel lt0) trodAll_mk0), rfl, bel.frame _, fun h => by cases h⟩

theorem over : Rows.tcpReadsRow.holds Try.pinned (OpenSpec.ofChange Rows.tcpReadsSpec) :=
  OpenClaim.holds_of_wide 5 Try.f5 rfl rfl rfl rfl rfl rfl rfl ⟨rfl, rfl, rfl, rfl, rfl⟩ rfl rfl rfl rfl rfl (by kernel_rfl) Try.func5 (by kernel_rfl)
    (of_decide_eq_true (by kernel_rfl)) (by unfold Func.isWrapper; first | (rw [if_pos (by decide +kernel)]; kernel_rfl) | (rw [if_neg (by decide +kernel)]; exact ⟨rfl, rfl⟩))
    (fun os started H enc _ => lifted os started H enc)

theorem proved : Rows.TcpReadsSaid := over
#print axioms proved
end Go.Proofs.Ytkdcaipadejchaa.tcpReads
