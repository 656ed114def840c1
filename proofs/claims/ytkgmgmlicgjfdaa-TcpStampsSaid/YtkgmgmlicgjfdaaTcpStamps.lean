/-
  TcpStamps (P6.4) answers true and leaves its argument as it was, for every segment: the time stamps stand where the document says. No condition.
-/
import Derived.Test.YtkgmgmlicgjfdaaRows
import Derived.WalkKit
import Derived.ProofKit
import Derived.OpenShut
import Derived.ShutString
import Derived.ChangeOld
import Derived.Below
import Derived.Test.YtkgmgmlicgjfdaaStpS
import Derived.Test.YtkgmgmlicgjfdaaLin
namespace Go.Proofs.Ytkgmgmlicgjfdaa.tcpStamps
open Go.ChangeShapes Go.WideShapes Go.ChangeAt Go.RowKit
open Go.ChangeMaps (open_string shut_string)
open Go.Proofs.Ytkgmgmlicgjfdaa
set_option maxRecDepth 100000
set_option linter.unusedVariables false

theorem own : ownKnob Try.prog.godebug = none := by kernel_rfl
theorem laidOut : laidOutB Try.prog = true := by kernel_rfl

theorem nw_u32 {l : List Int} {i : Nat} (ho : Octets l) : 0 ≤ nw l i 4 ∧ nw l i 4 < 4294967296 := by
  have h1 := numW_bd ((l.drop i).take 4)
  have h2 := numW_le ((l.drop i).take 4) ((ho.drop i).take 4) 4 (by omega) (by rw [List.length_take]; omega)
  exact ⟨h1.1, h2⟩
set_option maxHeartbeats 2000000 in
/-- A segment that is too heavy. -/
theorem walk_no (xa xb xs xk xf xn xm xg : Int) (A1 A2 : Option Addr) (c1 c2 : Nat) (o l : List Int) (w : World) (hv : IsB o o.length (.slice A1 o.length c1) w) (hu : IsB l l.length (.slice A2 l.length c2) w) (ho : Octets o) (h8 : ¬ (o.length ≤ 200 ∧ l.length ≤ 2000)) :
    Calls Try.prog 4 #[sg6 xa xb xs xk xf xn xm xg (.slice A1 o.length c1) (.slice A2 l.length c2)] w fun e w' => e = .returned (.bool true) ∧ Below w.heap.size w w' := by
  unfold sg6
  go_enter Try.func4, Try.ntmps4
  go_wp2_with fail
  have hg0 := Is.new w 35 #[.int .u16 xa, .int .u16 xb, .int .u32 xs, .int .u32 xk, .int .u8 xf, .int .u16 xn, .int .u16 xm, .int .u16 xg, .slice A1 o.length c1, .slice A2 l.length c2]
  have hb0 : Below w.heap.size w (w.alloc (.cells #[.int .u16 xa, .int .u16 xb, .int .u32 xs, .int .u32 xk, .int .u8 xf, .int .u16 xn, .int .u16 xm, .int .u16 xg, .slice A1 o.length c1, .slice A2 l.length c2] 35)) := (Below.refl _ _).alloc (Nat.le_refl _) _
  have hv0 := hv.st hb0; have hu0 := hu.st hb0
  clear hv hu
  generalize w.alloc (.cells #[.int .u16 xa, .int .u16 xb, .int .u32 xs, .int .u32 xk, .int .u8 xf, .int .u16 xn, .int .u16 xm, .int .u16 xg, .slice A1 o.length c1, .slice A2 l.length c2] 35) = W at *
  have a0 := hg0.cell 0
  have a1 := hg0.cell 1
  have a2 := hg0.cell 2
  have a3 := hg0.cell 3
  have a4 := hg0.cell 4
  have a5 := hg0.cell 5
  have a6 := hg0.cell 6
  have a7 := hg0.cell 7
  have a8 := hg0.cell 8
  have a9 := hg0.cell 9
  have fa := hg0.lt
  simp at a0 a1 a2 a3 a4 a5 a6 a7 a8 a9
  have HG := hide hg0; have HV := hide hv0; have HU := hide hu0; have HB := Lib.hid hb0
  clear hg0 hv0 hu0 hb0
  refine (light_no xa xb xs xk xf xn xm xg A1 o.length c1 A2 l.length c2 _ h8).mono ?_
  rintro e w1 ⟨rfl, hb⟩
  have hg9 := HG.out.below hb HG.out.lt
  have hv9 := HV.out.st hb; have hu9 := HU.out.st hb
  have hb9 := HB.out.trans (hb.mono HB.out.size)
  clear a0 a1 a2 a3 a4 a5 a6 a7 a8 a9 fa hb HG HV HU HB
  have a0 := hg9.cell 0
  have a1 := hg9.cell 1
  have a2 := hg9.cell 2
  have a3 := hg9.cell 3
  have a4 := hg9.cell 4
  have a5 := hg9.cell 5
  have a6 := hg9.cell 6
  have a7 := hg9.cell 7
  have a8 := hg9.cell 8
  have a9 := hg9.cell 9
  have fa := hg9.lt
  simp at a0 a1 a2 a3 a4 a5 a6 a7 a8 a9
  have HG := hide hg9; have HV := hide hv9; have HU := hide hu9; have HB := Lib.hid hb9
  clear hg9 hv9 hu9 hb9
  go_wp2_with fail
  refine (awake06 _).mono ?_
  rintro e w2 ⟨rfl, hb⟩
  have hg9 := HG.out.below hb HG.out.lt
  have hv9 := HV.out.st hb; have hu9 := HU.out.st hb
  have hb9 := HB.out.trans (hb.mono HB.out.size)
  clear a0 a1 a2 a3 a4 a5 a6 a7 a8 a9 fa hb HG HV HU HB
  have a0 := hg9.cell 0
  have a1 := hg9.cell 1
  have a2 := hg9.cell 2
  have a3 := hg9.cell 3
  have a4 := hg9.cell 4
  have a5 := hg9.cell 5
  have a6 := hg9.cell 6
  have a7 := hg9.cell 7
  have a8 := hg9.cell 8
  have a9 := hg9.cell 9
  have fa := hg9.lt
  simp at a0 a1 a2 a3 a4 a5 a6 a7 a8 a9
  have HG := hide hg9; have HV := hide hv9; have HU := hide hu9; have HB := Lib.hid hb9
  clear hg9 hv9 hu9 hb9
  go_wp2_with fail
  go_ret
  exact ⟨rfl, HB.out⟩
set_option maxHeartbeats 4000000 in
theorem walk_yes (xa xb xs xk xf xn xm xg : Int) (A1 A2 : Option Addr) (c1 c2 : Nat) (o l : List Int) (w : World) (hv : IsB o o.length (.slice A1 o.length c1) w) (hu : IsB l l.length (.slice A2 l.length c2) w) (ho : Octets o) (h8 : o.length ≤ 200) (h9 : l.length ≤ 2000) :
    Calls Try.prog 4 #[sg6 xa xb xs xk xf xn xm xg (.slice A1 o.length c1) (.slice A2 l.length c2)] w fun e w' => e = .returned (.bool true) ∧ Below w.heap.size w w' := by
  have HO := hide ho
  clear ho
  unfold sg6
  go_enter Try.func4, Try.ntmps4
  go_wp2_with fail
  have hg0 := Is.new w 35 #[.int .u16 xa, .int .u16 xb, .int .u32 xs, .int .u32 xk, .int .u8 xf, .int .u16 xn, .int .u16 xm, .int .u16 xg, .slice A1 o.length c1, .slice A2 l.length c2]
  have hb0 : Below w.heap.size w (w.alloc (.cells #[.int .u16 xa, .int .u16 xb, .int .u32 xs, .int .u32 xk, .int .u8 xf, .int .u16 xn, .int .u16 xm, .int .u16 xg, .slice A1 o.length c1, .slice A2 l.length c2] 35)) := (Below.refl _ _).alloc (Nat.le_refl _) _
  have hv0 := hv.st hb0; have hu0 := hu.st hb0
  clear hv hu
  generalize w.alloc (.cells #[.int .u16 xa, .int .u16 xb, .int .u32 xs, .int .u32 xk, .int .u8 xf, .int .u16 xn, .int .u16 xm, .int .u16 xg, .slice A1 o.length c1, .slice A2 l.length c2] 35) = W at *
  have a0 := hg0.cell 0
  have a1 := hg0.cell 1
  have a2 := hg0.cell 2
  have a3 := hg0.cell 3
  have a4 := hg0.cell 4
  have a5 := hg0.cell 5
  have a6 := hg0.cell 6
  have a7 := hg0.cell 7
  have a8 := hg0.cell 8
  have a9 := hg0.cell 9
  have fa := hg0.lt
  simp at a0 a1 a2 a3 a4 a5 a6 a7 a8 a9
  have HG := hide hg0; have HV := hide hv0; have HU := hide hu0; have HB := Lib.hid hb0
  clear hg0 hv0 hu0 hb0
  refine (light_yes xa xb xs xk xf xn xm xg A1 o.length c1 A2 l.length c2 _ h8 h9).mono ?_
  rintro e w1 ⟨rfl, hb⟩
  have hg9 := HG.out.below hb HG.out.lt
  have hv9 := HV.out.st hb; have hu9 := HU.out.st hb
  have hb9 := HB.out.trans (hb.mono HB.out.size)
  clear a0 a1 a2 a3 a4 a5 a6 a7 a8 a9 fa hb HG HV HU HB
  have a0 := hg9.cell 0
  have a1 := hg9.cell 1
  have a2 := hg9.cell 2
  have a3 := hg9.cell 3
  have a4 := hg9.cell 4
  have a5 := hg9.cell 5
  have a6 := hg9.cell 6
  have a7 := hg9.cell 7
  have a8 := hg9.cell 8
  have a9 := hg9.cell 9
  have fa := hg9.lt
  simp at a0 a1 a2 a3 a4 a5 a6 a7 a8 a9
  have HG := hide hg9; have HV := hide hv9; have HU := hide hu9; have HB := Lib.hid hb9
  clear hg9 hv9 hu9 hb9
  go_wp2_with fail
  refine (stamps_q HV.out HO.out (by omega)).mono ?_
  rintro e w2 ⟨r, hr, rfl, rfl, hk⟩
  have HR := Lib.hid hr
  clear hr
  cases r with
  | none =>
    simp only [Option.isSome_none]
    clear hk
    go_wp2_with fail
    refine (rstamps_q HV.out HO.out (by omega)).mono ?_
    rintro e w3 ⟨r2, hr2, rfl, rfl⟩
    obtain rfl : r2 = none := hr2.same HR.out
    clear hr2
    simp only
    go_wp2_with fail
    refine (to6 xa xb xs xk xf xn xm xg o l o.length l.length _ _ _ HV.out HU.out).mono ?_
    rintro e w4 ⟨rfl, hb⟩
    have hg9 := HG.out.below hb HG.out.lt
    have hv9 := HV.out.st hb; have hu9 := HU.out.st hb
    have hb9 := HB.out.trans (hb.mono HB.out.size)
    clear a0 a1 a2 a3 a4 a5 a6 a7 a8 a9 fa hb HG HV HU HB
    have a0 := hg9.cell 0
    have a1 := hg9.cell 1
    have a2 := hg9.cell 2
    have a3 := hg9.cell 3
    have a4 := hg9.cell 4
    have a5 := hg9.cell 5
    have a6 := hg9.cell 6
    have a7 := hg9.cell 7
    have a8 := hg9.cell 8
    have a9 := hg9.cell 9
    have fa := hg9.lt
    simp at a0 a1 a2 a3 a4 a5 a6 a7 a8 a9
    have HG := hide hg9; have HV := hide hv9; have HU := hide hu9; have HB := Lib.hid hb9
    clear hg9 hv9 hu9 hb9
    go_wp2_with fail
    refine (stamp_any xa xb xs xk xf xn xm xg o l o.length l.length _ _ _ HV.out HU.out HO.out (by omega)).mono ?_
    rintro e w5 ⟨r3, hr3, rfl, hb⟩
    obtain rfl : r3 = none := hr3.same HR.out
    clear hr3
    simp only [Option.isSome_none]
    have hg9 := HG.out.below hb HG.out.lt
    have hv9 := HV.out.st hb; have hu9 := HU.out.st hb
    have hb9 := HB.out.trans (hb.mono HB.out.size)
    clear a0 a1 a2 a3 a4 a5 a6 a7 a8 a9 fa hb HG HV HU HB
    have a0 := hg9.cell 0
    have a1 := hg9.cell 1
    have a2 := hg9.cell 2
    have a3 := hg9.cell 3
    have a4 := hg9.cell 4
    have a5 := hg9.cell 5
    have a6 := hg9.cell 6
    have a7 := hg9.cell 7
    have a8 := hg9.cell 8
    have a9 := hg9.cell 9
    have fa := hg9.lt
    simp at a0 a1 a2 a3 a4 a5 a6 a7 a8 a9
    have HG := hide hg9; have HV := hide hv9; have HU := hide hu9; have HB := Lib.hid hb9
    clear hg9 hv9 hu9 hb9
    go_wp2_with fail
    refine Lin.wp_region_lin Lin.keeps (n := 95)  (fun slotq => match slotq with | 29 => Lin.Spec.val (.bool false) | 30 => Lin.Spec.val (.int .i64 (-1)) | 31 => Lin.Spec.val (.bool false) | 32 => Lin.Spec.val (.bool false) | 33 => Lin.Spec.val (.bool false) | 34 => Lin.Spec.val (.bool false) | 35 => Lin.Spec.val (.bool false) | 36 => Lin.Spec.val (.bool false) | 37 => Lin.Spec.val (.bool false) | 38 => Lin.Spec.val (.bool false) | 39 => Lin.Spec.val (.bool false) | 40 => Lin.Spec.val (.bool false) | 41 => Lin.Spec.val (undef) | 42 => Lin.Spec.val (undef) | 43 => Lin.Spec.val (undef) | 44 => Lin.Spec.val (.bool false) | 45 => Lin.Spec.val (.bool false) | 46 => Lin.Spec.val (.bool false) | 47 => Lin.Spec.val (.bool false) | 48 => Lin.Spec.val (.bool true) | 49 => Lin.Spec.val (.bool true) | 50 => Lin.Spec.val (.int .i64 0) | 51 => Lin.Spec.val (.bool false) | 52 => Lin.Spec.val (.bool false) | 53 => Lin.Spec.val (.bool false) | 54 => Lin.Spec.val (.bool false) | 55 => Lin.Spec.val (.agg #[.int .u16 xa, .int .u16 xb, .int .u32 xs, .int .u32 xk, .int .u8 xf, .int .u16 xn, .int .u16 xm, .int .u16 xg, .slice A1 o.length c1, .slice A2 l.length c2]) | 56 => Lin.Spec.val (.agg #[.int .u16 xa, .int .u16 xb, .int .u32 xs, .int .u32 xk, .int .u8 xf, .int .u16 xn, .int .u16 xm, .int .u16 xg, .slice A1 o.length c1, .slice A2 l.length c2]) | 57 => Lin.Spec.val (.bool (first6 xf)) | 58 => Lin.Spec.val (.pointer (some ⟨w.heap.size, 4, none⟩)) | 59 => Lin.Spec.val (.int .u8 xf) | 60 => Lin.Spec.val (.int .u8 (bits .and .u8 xf 23)) | 61 => Lin.Spec.val (.bool (first6 xf)) | 62 => Lin.Spec.val (.bool false) | 63 => Lin.Spec.val (.bool false) | _ => Lin.Spec.any) (by kernel_rfl) rfl (by kernel_rfl) ⟨?_, ?_, ?_, ?_, ?_, ?_, ?_, ?_, ?_, ?_, ?_, ?_, ?_, ?_, ?_, ?_, ?_, ?_, ?_, ?_, ?_, ?_, ?_, ?_, ?_, ?_, ?_, ?_, ?_, ?_, ?_, ?_, ?_, ?_, ?_, trivial⟩ ?_
    · intro ρ wq hb ho hc hd
      have hC : ∀ v, ρ (.const v) = v := fun v => hc _ (by intro t e; cases e)
      have hF : ∀ f, ρ (.func f) = .func (.func f) #[] #[] := fun f => hc _ (by intro t e; cases e)
      have h4 : ρ (.tmp 4) = .bool false := ho 4 (by kernel_rfl)
      exact Lin.Runs.value Lin.keeps (Lin.exec_move rfl) h4
    · intro ρ wq hb ho hc hd
      have hC : ∀ v, ρ (.const v) = v := fun v => hc _ (by intro t e; cases e)
      have hF : ∀ f, ρ (.func f) = .func (.func f) #[] #[] := fun f => hc _ (by intro t e; cases e)
      have h5 : ρ (.tmp 5) = .int .i64 (-1) := ho 5 (by kernel_rfl)
      exact Lin.Runs.value Lin.keeps (Lin.exec_move rfl) h5
    · intro ρ wq hb ho hc hd
      have hC : ∀ v, ρ (.const v) = v := fun v => hc _ (by intro t e; cases e)
      have hF : ∀ f, ρ (.func f) = .func (.func f) #[] #[] := fun f => hc _ (by intro t e; cases e)
      have h30 : ρ (.tmp 30) = .int .i64 (-1) := hd 30 (by kernel_rfl)
      exact Lin.Runs.value Lin.keeps (v := .bool false) (by simp [execOp, go_sem, hC, hF, h30]) rfl
    · intro ρ wq hb ho hc hd
      have hC : ∀ v, ρ (.const v) = v := fun v => hc _ (by intro t e; cases e)
      have hF : ∀ f, ρ (.func f) = .func (.func f) #[] #[] := fun f => hc _ (by intro t e; cases e)
      have h29 : ρ (.tmp 29) = .bool false := hd 29 (by kernel_rfl)
      have h31 : ρ (.tmp 31) = .bool false := hd 31 (by kernel_rfl)
      exact Lin.Runs.value Lin.keeps (v := .bool false) (by simp [execOp, go_sem, hC, hF, h29, h31]) rfl
    · intro ρ wq hb ho hc hd
      have hC : ∀ v, ρ (.const v) = v := fun v => hc _ (by intro t e; cases e)
      have hF : ∀ f, ρ (.func f) = .func (.func f) #[] #[] := fun f => hc _ (by intro t e; cases e)
      have h32 : ρ (.tmp 32) = .bool false := hd 32 (by kernel_rfl)
      exact Lin.Runs.value Lin.keeps (Lin.exec_move rfl) h32
    · intro ρ wq hb ho hc hd
      have hC : ∀ v, ρ (.const v) = v := fun v => hc _ (by intro t e; cases e)
      have hF : ∀ f, ρ (.func f) = .func (.func f) #[] #[] := fun f => hc _ (by intro t e; cases e)
      intro t ht; cases (show some 33 = some t from ht)
      refine ⟨fun _ => ?_, fun hn => absurd (hd 33 (by kernel_rfl)) hn⟩
      have h8 : ρ (.tmp 8) = .bool false := ho 8 (by kernel_rfl)
      exact Lin.Runs.value Lin.keeps (Lin.exec_move rfl) h8
    · intro ρ wq hb ho hc hd
      have hC : ∀ v, ρ (.const v) = v := fun v => hc _ (by intro t e; cases e)
      have hF : ∀ f, ρ (.func f) = .func (.func f) #[] #[] := fun f => hc _ (by intro t e; cases e)
      intro t ht; cases (show some 33 = some t from ht)
      refine ⟨fun _ => ?_, fun hn => absurd (hd 33 (by kernel_rfl)) hn⟩
      have h4 : ρ (.tmp 4) = .bool false := ho 4 (by kernel_rfl)
      exact Lin.Runs.value Lin.keeps (Lin.exec_move rfl) h4
    · intro ρ wq hb ho hc hd
      have hC : ∀ v, ρ (.const v) = v := fun v => hc _ (by intro t e; cases e)
      have hF : ∀ f, ρ (.func f) = .func (.func f) #[] #[] := fun f => hc _ (by intro t e; cases e)
      intro t ht; cases (show some 33 = some t from ht)
      refine ⟨fun _ => ?_, fun hn => absurd (hd 33 (by kernel_rfl)) hn⟩
      have h34 : ρ (.tmp 34) = .bool false := hd 34 (by kernel_rfl)
      have h35 : ρ (.tmp 35) = .bool false := hd 35 (by kernel_rfl)
      exact Lin.Runs.value Lin.keeps (v := .bool false) (by simp [execOp, go_sem, hC, hF, h34, h35]) rfl
    · intro ρ wq hb ho hc hd
      have hC : ∀ v, ρ (.const v) = v := fun v => hc _ (by intro t e; cases e)
      have hF : ∀ f, ρ (.func f) = .func (.func f) #[] #[] := fun f => hc _ (by intro t e; cases e)
      have h33 : ρ (.tmp 33) = .bool false := hd 33 (by kernel_rfl)
      have h36 : ρ (.tmp 36) = .bool false := hd 36 (by kernel_rfl)
      exact Lin.Runs.value Lin.keeps (v := .bool false) (by simp [execOp, go_sem, hC, hF, h33, h36]) rfl
    · intro ρ wq hb ho hc hd
      have hC : ∀ v, ρ (.const v) = v := fun v => hc _ (by intro t e; cases e)
      have hF : ∀ f, ρ (.func f) = .func (.func f) #[] #[] := fun f => hc _ (by intro t e; cases e)
      have h37 : ρ (.tmp 37) = .bool false := hd 37 (by kernel_rfl)
      exact Lin.Runs.value Lin.keeps (Lin.exec_move rfl) h37
    · intro ρ wq hb ho hc hd
      have hC : ∀ v, ρ (.const v) = v := fun v => hc _ (by intro t e; cases e)
      have hF : ∀ f, ρ (.func f) = .func (.func f) #[] #[] := fun f => hc _ (by intro t e; cases e)
      intro t ht; cases (show some 38 = some t from ht)
      refine ⟨fun _ => ?_, fun hn => absurd (hd 38 (by kernel_rfl)) hn⟩
      have h4 : ρ (.tmp 4) = .bool false := ho 4 (by kernel_rfl)
      exact Lin.Runs.value Lin.keeps (Lin.exec_move rfl) h4
    · intro ρ wq hb ho hc hd
      have hC : ∀ v, ρ (.const v) = v := fun v => hc _ (by intro t e; cases e)
      have hF : ∀ f, ρ (.func f) = .func (.func f) #[] #[] := fun f => hc _ (by intro t e; cases e)
      intro t ht; cases (show some 38 = some t from ht)
      refine ⟨fun _ => ?_, fun hn => absurd (hd 38 (by kernel_rfl)) hn⟩
      have h39 : ρ (.tmp 39) = .bool false := hd 39 (by kernel_rfl)
      exact Lin.Runs.value Lin.keeps (Lin.exec_move rfl) h39
    · intro ρ wq hb ho hc hd
      have hC : ∀ v, ρ (.const v) = v := fun v => hc _ (by intro t e; cases e)
      have hF : ∀ f, ρ (.func f) = .func (.func f) #[] #[] := fun f => hc _ (by intro t e; cases e)
      intro t ht; cases (show some 40 = some t from ht)
      exact ⟨fun he => absurd (he.symm.trans (hd 40 (by kernel_rfl))) (by simp), fun _ => rfl⟩
    · intro ρ wq hb ho hc hd
      have hC : ∀ v, ρ (.const v) = v := fun v => hc _ (by intro t e; cases e)
      have hF : ∀ f, ρ (.func f) = .func (.func f) #[] #[] := fun f => hc _ (by intro t e; cases e)
      intro t ht; cases (show some 40 = some t from ht)
      exact ⟨fun he => absurd (he.symm.trans (hd 40 (by kernel_rfl))) (by simp), fun _ => rfl⟩
    · intro ρ wq hb ho hc hd
      have hC : ∀ v, ρ (.const v) = v := fun v => hc _ (by intro t e; cases e)
      have hF : ∀ f, ρ (.func f) = .func (.func f) #[] #[] := fun f => hc _ (by intro t e; cases e)
      intro t ht; cases (show some 40 = some t from ht)
      exact ⟨fun he => absurd (he.symm.trans (hd 40 (by kernel_rfl))) (by simp), fun _ => rfl⟩
    · intro ρ wq hb ho hc hd
      have hC : ∀ v, ρ (.const v) = v := fun v => hc _ (by intro t e; cases e)
      have hF : ∀ f, ρ (.func f) = .func (.func f) #[] #[] := fun f => hc _ (by intro t e; cases e)
      intro t ht; cases (show some 38 = some t from ht)
      refine ⟨fun _ => ?_, fun hn => absurd (hd 38 (by kernel_rfl)) hn⟩
      have h40 : ρ (.tmp 40) = .bool false := hd 40 (by kernel_rfl)
      have h43 : ρ (.tmp 43) = undef := hd 43 (by kernel_rfl)
      exact Lin.Runs.value Lin.keeps (v := .bool false) (by simp [execOp, go_sem, hC, hF, h40, h43]) rfl
    · intro ρ wq hb ho hc hd
      have hC : ∀ v, ρ (.const v) = v := fun v => hc _ (by intro t e; cases e)
      have hF : ∀ f, ρ (.func f) = .func (.func f) #[] #[] := fun f => hc _ (by intro t e; cases e)
      have h38 : ρ (.tmp 38) = .bool false := hd 38 (by kernel_rfl)
      have h44 : ρ (.tmp 44) = .bool false := hd 44 (by kernel_rfl)
      exact Lin.Runs.value Lin.keeps (v := .bool false) (by simp [execOp, go_sem, hC, hF, h38, h44]) rfl
    · intro ρ wq hb ho hc hd
      have hC : ∀ v, ρ (.const v) = v := fun v => hc _ (by intro t e; cases e)
      have hF : ∀ f, ρ (.func f) = .func (.func f) #[] #[] := fun f => hc _ (by intro t e; cases e)
      have h45 : ρ (.tmp 45) = .bool false := hd 45 (by kernel_rfl)
      exact Lin.Runs.value Lin.keeps (Lin.exec_move rfl) h45
    · intro ρ wq hb ho hc hd
      have hC : ∀ v, ρ (.const v) = v := fun v => hc _ (by intro t e; cases e)
      have hF : ∀ f, ρ (.func f) = .func (.func f) #[] #[] := fun f => hc _ (by intro t e; cases e)
      intro t ht; cases (show some 46 = some t from ht)
      refine ⟨fun _ => ?_, fun hn => absurd (hd 46 (by kernel_rfl)) hn⟩
      have h4 : ρ (.tmp 4) = .bool false := ho 4 (by kernel_rfl)
      exact Lin.Runs.value Lin.keeps (Lin.exec_move rfl) h4
    · intro ρ wq hb ho hc hd
      have hC : ∀ v, ρ (.const v) = v := fun v => hc _ (by intro t e; cases e)
      have hF : ∀ f, ρ (.func f) = .func (.func f) #[] #[] := fun f => hc _ (by intro t e; cases e)
      intro t ht; cases (show some 46 = some t from ht)
      refine ⟨fun _ => ?_, fun hn => absurd (hd 46 (by kernel_rfl)) hn⟩
      have h47 : ρ (.tmp 47) = .bool false := hd 47 (by kernel_rfl)
      exact Lin.Runs.value Lin.keeps (v := .bool true) (by simp [execOp, go_sem, hC, hF, h47]) rfl
    · intro ρ wq hb ho hc hd
      have hC : ∀ v, ρ (.const v) = v := fun v => hc _ (by intro t e; cases e)
      have hF : ∀ f, ρ (.func f) = .func (.func f) #[] #[] := fun f => hc _ (by intro t e; cases e)
      intro t ht; cases (show some 46 = some t from ht)
      refine ⟨fun _ => ?_, fun hn => absurd (hd 46 (by kernel_rfl)) hn⟩
      have h48 : ρ (.tmp 48) = .bool true := hd 48 (by kernel_rfl)
      exact Lin.Runs.value Lin.keeps (Lin.exec_move rfl) h48
    · intro ρ wq hb ho hc hd
      have hC : ∀ v, ρ (.const v) = v := fun v => hc _ (by intro t e; cases e)
      have hF : ∀ f, ρ (.func f) = .func (.func f) #[] #[] := fun f => hc _ (by intro t e; cases e)
      intro t ht; cases (show some 49 = some t from ht)
      refine ⟨fun _ => ?_, fun hn => absurd (hd 49 (by kernel_rfl)) hn⟩
      have h3 : ρ (.tmp 3) = .int .i64 0 := ho 3 (by kernel_rfl)
      exact Lin.Runs.value Lin.keeps (Lin.exec_move rfl) h3
    · intro ρ wq hb ho hc hd
      have hC : ∀ v, ρ (.const v) = v := fun v => hc _ (by intro t e; cases e)
      have hF : ∀ f, ρ (.func f) = .func (.func f) #[] #[] := fun f => hc _ (by intro t e; cases e)
      intro t ht; cases (show some 49 = some t from ht)
      refine ⟨fun _ => ?_, fun hn => absurd (hd 49 (by kernel_rfl)) hn⟩
      have h50 : ρ (.tmp 50) = .int .i64 0 := hd 50 (by kernel_rfl)
      exact Lin.Runs.value Lin.keeps (v := .bool false) (by simp [execOp, go_sem, hC, hF, h50]) rfl
    · intro ρ wq hb ho hc hd
      have hC : ∀ v, ρ (.const v) = v := fun v => hc _ (by intro t e; cases e)
      have hF : ∀ f, ρ (.func f) = .func (.func f) #[] #[] := fun f => hc _ (by intro t e; cases e)
      intro t ht; cases (show some 46 = some t from ht)
      refine ⟨fun _ => ?_, fun hn => absurd (hd 46 (by kernel_rfl)) hn⟩
      have h49 : ρ (.tmp 49) = .bool true := hd 49 (by kernel_rfl)
      have h51 : ρ (.tmp 51) = .bool false := hd 51 (by kernel_rfl)
      exact Lin.Runs.value Lin.keeps (v := .bool false) (by simp [execOp, go_sem, hC, hF, h49, h51]) rfl
    · intro ρ wq hb ho hc hd
      have hC : ∀ v, ρ (.const v) = v := fun v => hc _ (by intro t e; cases e)
      have hF : ∀ f, ρ (.func f) = .func (.func f) #[] #[] := fun f => hc _ (by intro t e; cases e)
      have h46 : ρ (.tmp 46) = .bool false := hd 46 (by kernel_rfl)
      have h52 : ρ (.tmp 52) = .bool false := hd 52 (by kernel_rfl)
      exact Lin.Runs.value Lin.keeps (v := .bool false) (by simp [execOp, go_sem, hC, hF, h46, h52]) rfl
    · intro ρ wq hb ho hc hd
      have hC : ∀ v, ρ (.const v) = v := fun v => hc _ (by intro t e; cases e)
      have hF : ∀ f, ρ (.func f) = .func (.func f) #[] #[] := fun f => hc _ (by intro t e; cases e)
      have h53 : ρ (.tmp 53) = .bool false := hd 53 (by kernel_rfl)
      exact Lin.Runs.value Lin.keeps (Lin.exec_move rfl) h53
    · intro ρ wq hb ho hc hd
      have hC : ∀ v, ρ (.const v) = v := fun v => hc _ (by intro t e; cases e)
      have hF : ∀ f, ρ (.func f) = .func (.func f) #[] #[] := fun f => hc _ (by intro t e; cases e)
      intro t ht; cases (show some 54 = some t from ht)
      refine ⟨fun _ => ?_, fun hn => absurd (hd 54 (by kernel_rfl)) hn⟩
      have h1 : ρ (.tmp 1) = .pointer (some ⟨w.heap.size, 0, none⟩) := ho 1 (by kernel_rfl)
      have hg8 := HG.out.below hb HG.out.lt
      have m0 := hg8.cell 0
      have m1 := hg8.cell 1
      have m2 := hg8.cell 2
      have m3 := hg8.cell 3
      have m4 := hg8.cell 4
      have m5 := hg8.cell 5
      have m6 := hg8.cell 6
      have m7 := hg8.cell 7
      have m8 := hg8.cell 8
      have m9 := hg8.cell 9
      simp at m0 m1 m2 m3 m4 m5 m6 m7 m8 m9
      exact Lin.Runs.value Lin.keeps (v := .agg #[.int .u16 xa, .int .u16 xb, .int .u32 xs, .int .u32 xk, .int .u8 xf, .int .u16 xn, .int .u16 xm, .int .u16 xg, .slice A1 o.length c1, .slice A2 l.length c2]) (by simp [execOp, go_sem, hC, hF, h1, m0, m1, m2, m3, m4, m5, m6, m7, m8, m9]) rfl
    · intro ρ wq hb ho hc hd
      have hC : ∀ v, ρ (.const v) = v := fun v => hc _ (by intro t e; cases e)
      have hF : ∀ f, ρ (.func f) = .func (.func f) #[] #[] := fun f => hc _ (by intro t e; cases e)
      intro t ht; cases (show some 54 = some t from ht)
      refine ⟨fun _ => ?_, fun hn => absurd (hd 54 (by kernel_rfl)) hn⟩
      have h55 : ρ (.tmp 55) = .agg #[.int .u16 xa, .int .u16 xb, .int .u32 xs, .int .u32 xk, .int .u8 xf, .int .u16 xn, .int .u16 xm, .int .u16 xg, .slice A1 o.length c1, .slice A2 l.length c2] := hd 55 (by kernel_rfl)
      refine Lin.Runs.call Lin.keeps (f := 23) (args := #[.agg #[.int .u16 xa, .int .u16 xb, .int .u32 xs, .int .u32 xk, .int .u8 xf, .int .u16 xn, .int .u16 xm, .int .u16 xg, .slice A1 o.length c1, .slice A2 l.length c2]]) (by simp [execOp, go_sem, hC, hF, h55]) ?_
      exact (to6 xa xb xs xk xf xn xm xg o l o.length l.length _ _ wq (HV.out.st hb) (HU.out.st hb)).mono fun e w9 ⟨h1, h2⟩ => ⟨_, h1, h2, rfl⟩
    · intro ρ wq hb ho hc hd
      have hC : ∀ v, ρ (.const v) = v := fun v => hc _ (by intro t e; cases e)
      have hF : ∀ f, ρ (.func f) = .func (.func f) #[] #[] := fun f => hc _ (by intro t e; cases e)
      intro t ht; cases (show some 54 = some t from ht)
      refine ⟨fun _ => ?_, fun hn => absurd (hd 54 (by kernel_rfl)) hn⟩
      have h56 : ρ (.tmp 56) = .agg #[.int .u16 xa, .int .u16 xb, .int .u32 xs, .int .u32 xk, .int .u8 xf, .int .u16 xn, .int .u16 xm, .int .u16 xg, .slice A1 o.length c1, .slice A2 l.length c2] := hd 56 (by kernel_rfl)
      refine Lin.Runs.call Lin.keeps (f := 25) (args := #[.agg #[.int .u16 xa, .int .u16 xb, .int .u32 xs, .int .u32 xk, .int .u8 xf, .int .u16 xn, .int .u16 xm, .int .u16 xg, .slice A1 o.length c1, .slice A2 l.length c2]]) (by simp [execOp, go_sem, hC, hF, h56]) ?_
      exact (first_any xa xb xs xk xf xn xm xg o l o.length l.length _ _ wq (HV.out.st hb) (HU.out.st hb)).mono fun e w9 ⟨h1, h2⟩ => ⟨_, h1, h2, rfl⟩
    · intro ρ wq hb ho hc hd
      have hC : ∀ v, ρ (.const v) = v := fun v => hc _ (by intro t e; cases e)
      have hF : ∀ f, ρ (.func f) = .func (.func f) #[] #[] := fun f => hc _ (by intro t e; cases e)
      intro t ht; cases (show some 54 = some t from ht)
      refine ⟨fun _ => ?_, fun hn => absurd (hd 54 (by kernel_rfl)) hn⟩
      have h1 : ρ (.tmp 1) = .pointer (some ⟨w.heap.size, 0, none⟩) := ho 1 (by kernel_rfl)
      exact Lin.Runs.value Lin.keeps (v := .pointer (some ⟨w.heap.size, 4, none⟩)) (by simp [execOp, go_sem, hC, hF, h1]) rfl
    · intro ρ wq hb ho hc hd
      have hC : ∀ v, ρ (.const v) = v := fun v => hc _ (by intro t e; cases e)
      have hF : ∀ f, ρ (.func f) = .func (.func f) #[] #[] := fun f => hc _ (by intro t e; cases e)
      intro t ht; cases (show some 54 = some t from ht)
      refine ⟨fun _ => ?_, fun hn => absurd (hd 54 (by kernel_rfl)) hn⟩
      have h58 : ρ (.tmp 58) = .pointer (some ⟨w.heap.size, 4, none⟩) := hd 58 (by kernel_rfl)
      have hg8 := HG.out.below hb HG.out.lt
      have m4 := hg8.cell 4
      simp at m4
      exact Lin.Runs.value Lin.keeps (v := .int .u8 xf) (by simp [execOp, go_sem, hC, hF, h58, m4]) rfl
    · intro ρ wq hb ho hc hd
      have hC : ∀ v, ρ (.const v) = v := fun v => hc _ (by intro t e; cases e)
      have hF : ∀ f, ρ (.func f) = .func (.func f) #[] #[] := fun f => hc _ (by intro t e; cases e)
      intro t ht; cases (show some 54 = some t from ht)
      refine ⟨fun _ => ?_, fun hn => absurd (hd 54 (by kernel_rfl)) hn⟩
      have h59 : ρ (.tmp 59) = .int .u8 xf := hd 59 (by kernel_rfl)
      exact Lin.Runs.value Lin.keeps (v := .int .u8 (bits .and .u8 xf 23)) (by simp [execOp, go_sem, hC, hF, h59]) rfl
    · intro ρ wq hb ho hc hd
      have hC : ∀ v, ρ (.const v) = v := fun v => hc _ (by intro t e; cases e)
      have hF : ∀ f, ρ (.func f) = .func (.func f) #[] #[] := fun f => hc _ (by intro t e; cases e)
      intro t ht; cases (show some 54 = some t from ht)
      refine ⟨fun _ => ?_, fun hn => absurd (hd 54 (by kernel_rfl)) hn⟩
      have h60 : ρ (.tmp 60) = .int .u8 (bits .and .u8 xf 23) := hd 60 (by kernel_rfl)
      exact Lin.Runs.value Lin.keeps (v := .bool (first6 xf)) (by simp [execOp, go_sem, hC, hF, h60, first6]) rfl
    · intro ρ wq hb ho hc hd
      have hC : ∀ v, ρ (.const v) = v := fun v => hc _ (by intro t e; cases e)
      have hF : ∀ f, ρ (.func f) = .func (.func f) #[] #[] := fun f => hc _ (by intro t e; cases e)
      intro t ht; cases (show some 54 = some t from ht)
      refine ⟨fun _ => ?_, fun hn => absurd (hd 54 (by kernel_rfl)) hn⟩
      have h57 : ρ (.tmp 57) = .bool (first6 xf) := hd 57 (by kernel_rfl)
      have h61 : ρ (.tmp 61) = .bool (first6 xf) := hd 61 (by kernel_rfl)
      exact Lin.Runs.value Lin.keeps (v := .bool false) (by simp [execOp, go_sem, hC, hF, h57, h61]) rfl
    · intro ρ wq hb ho hc hd
      have hC : ∀ v, ρ (.const v) = v := fun v => hc _ (by intro t e; cases e)
      have hF : ∀ f, ρ (.func f) = .func (.func f) #[] #[] := fun f => hc _ (by intro t e; cases e)
      have h54 : ρ (.tmp 54) = .bool false := hd 54 (by kernel_rfl)
      have h62 : ρ (.tmp 62) = .bool false := hd 62 (by kernel_rfl)
      exact Lin.Runs.value Lin.keeps (v := .bool false) (by simp [execOp, go_sem, hC, hF, h54, h62]) rfl
    · intro vals w9 hb hv9
      have e63 : vals 63 = .bool false := hv9 63 (by kernel_rfl)
      simp only [Lin.putAll, Option.getD_some]
      rw [e63]
      clear hv9 e63
      have hg9 := HG.out.below hb HG.out.lt
      have hv9 := HV.out.st hb; have hu9 := HU.out.st hb
      have hb9 := HB.out.trans (hb.mono HB.out.size)
      clear a0 a1 a2 a3 a4 a5 a6 a7 a8 a9 fa hb HG HV HU HB
      have a0 := hg9.cell 0
      have a1 := hg9.cell 1
      have a2 := hg9.cell 2
      have a3 := hg9.cell 3
      have a4 := hg9.cell 4
      have a5 := hg9.cell 5
      have a6 := hg9.cell 6
      have a7 := hg9.cell 7
      have a8 := hg9.cell 8
      have a9 := hg9.cell 9
      have fa := hg9.lt
      simp at a0 a1 a2 a3 a4 a5 a6 a7 a8 a9
      have HG := hide hg9; have HV := hide hv9; have HU := hide hu9; have HB := Lib.hid hb9
      clear hg9 hv9 hu9 hb9
      go_simp
      generalize vals = vv
      go_wp2_with fail
      refine (awake06 _).mono ?_
      rintro e w11 ⟨rfl, hb⟩
      have HB9 := Lib.hid (HB.out.trans (hb.mono HB.out.size))
      clear hb
      go_wp2_with fail
      go_ret
      exact ⟨rfl, HB9.out⟩
  | some k =>
    simp only [Option.isSome_some]
    have hk8 := hk k rfl
    have hk0 : (0 : Int) ≤ (k : Int) := by omega
    have ek4 : ((k : Int) + 4) = ((k + 4 : Nat) : Int) := by omega
    obtain ⟨x, hx⟩ : ∃ x, nw o k 4 = x := ⟨_, rfl⟩
    obtain ⟨y, hy⟩ : ∃ y, nw o (k + 4) 4 = y := ⟨_, rfl⟩
    have bx := nw_u32 (i := k) HO.out
    have bz := nw_u32 (i := k + 4) HO.out
    rw [hx] at bx; rw [hy] at bz
    obtain ⟨bx1, bx2⟩ := bx
    obtain ⟨by1, by2⟩ := bz
    have HX := Lib.hid hx; have HY := Lib.hid hy; have EK := Lib.hid ek4
    clear hx hy ek4
    clear hk
    go_wp2_with fail
    refine (rstamps_q HV.out HO.out (by omega)).mono ?_
    rintro e w3 ⟨r2, hr2, rfl, rfl⟩
    obtain rfl : r2 = some k := hr2.same HR.out
    clear hr2
    simp only
    go_wp2_with fail
    refine (to6 xa xb xs xk xf xn xm xg o l o.length l.length _ _ _ HV.out HU.out).mono ?_
    rintro e w4 ⟨rfl, hb⟩
    have hg9 := HG.out.below hb HG.out.lt
    have hv9 := HV.out.st hb; have hu9 := HU.out.st hb
    have hb9 := HB.out.trans (hb.mono HB.out.size)
    clear a0 a1 a2 a3 a4 a5 a6 a7 a8 a9 fa hb HG HV HU HB
    have a0 := hg9.cell 0
    have a1 := hg9.cell 1
    have a2 := hg9.cell 2
    have a3 := hg9.cell 3
    have a4 := hg9.cell 4
    have a5 := hg9.cell 5
    have a6 := hg9.cell 6
    have a7 := hg9.cell 7
    have a8 := hg9.cell 8
    have a9 := hg9.cell 9
    have fa := hg9.lt
    simp at a0 a1 a2 a3 a4 a5 a6 a7 a8 a9
    have HG := hide hg9; have HV := hide hv9; have HU := hide hu9; have HB := Lib.hid hb9
    clear hg9 hv9 hu9 hb9
    go_wp2_with fail
    refine (stamp_any xa xb xs xk xf xn xm xg o l o.length l.length _ _ _ HV.out HU.out HO.out (by omega)).mono ?_
    rintro e w5 ⟨r3, hr3, rfl, hb⟩
    obtain rfl : r3 = some k := hr3.same HR.out
    clear hr3
    simp only [Option.isSome_some, HX.out, HY.out]
    have hg9 := HG.out.below hb HG.out.lt
    have hv9 := HV.out.st hb; have hu9 := HU.out.st hb
    have hb9 := HB.out.trans (hb.mono HB.out.size)
    clear a0 a1 a2 a3 a4 a5 a6 a7 a8 a9 fa hb HG HV HU HB
    have a0 := hg9.cell 0
    have a1 := hg9.cell 1
    have a2 := hg9.cell 2
    have a3 := hg9.cell 3
    have a4 := hg9.cell 4
    have a5 := hg9.cell 5
    have a6 := hg9.cell 6
    have a7 := hg9.cell 7
    have a8 := hg9.cell 8
    have a9 := hg9.cell 9
    have fa := hg9.lt
    simp at a0 a1 a2 a3 a4 a5 a6 a7 a8 a9
    have HG := hide hg9; have HV := hide hv9; have HU := hide hu9; have HB := Lib.hid hb9
    clear hg9 hv9 hu9 hb9
    go_wp2_with fail
    refine Lin.wp_region_lin Lin.keeps (n := 95)  (fun slotq => match slotq with | 29 => Lin.Spec.val (.bool true) | 30 => Lin.Spec.val (.int .i64 (k : Int)) | 31 => Lin.Spec.val (.bool true) | 32 => Lin.Spec.val (.bool false) | 33 => Lin.Spec.val (.bool false) | 34 => Lin.Spec.val (.bool true) | 35 => Lin.Spec.val (.bool true) | 36 => Lin.Spec.val (.bool false) | 37 => Lin.Spec.val (.bool false) | 38 => Lin.Spec.val (.bool false) | 39 => Lin.Spec.val (.bool true) | 40 => Lin.Spec.val (.bool true) | 41 => Lin.Spec.val (.int .i64 (k : Int)) | 42 => Lin.Spec.val (.int .i64 (k : Int)) | 43 => Lin.Spec.val (.bool false) | 44 => Lin.Spec.val (.bool false) | 45 => Lin.Spec.val (.bool false) | 46 => Lin.Spec.val (.bool false) | 47 => Lin.Spec.val (.bool true) | 48 => Lin.Spec.val (.bool false) | 49 => Lin.Spec.val (.bool false) | 50 => Lin.Spec.val (undef) | 51 => Lin.Spec.val (undef) | 52 => Lin.Spec.val (.bool false) | 53 => Lin.Spec.val (.bool false) | 54 => Lin.Spec.val (.bool false) | 55 => Lin.Spec.val (.agg #[.int .u16 xa, .int .u16 xb, .int .u32 xs, .int .u32 xk, .int .u8 xf, .int .u16 xn, .int .u16 xm, .int .u16 xg, .slice A1 o.length c1, .slice A2 l.length c2]) | 56 => Lin.Spec.val (.agg #[.int .u16 xa, .int .u16 xb, .int .u32 xs, .int .u32 xk, .int .u8 xf, .int .u16 xn, .int .u16 xm, .int .u16 xg, .slice A1 o.length c1, .slice A2 l.length c2]) | 57 => Lin.Spec.val (.bool (first6 xf)) | 58 => Lin.Spec.val (.pointer (some ⟨w.heap.size, 4, none⟩)) | 59 => Lin.Spec.val (.int .u8 xf) | 60 => Lin.Spec.val (.int .u8 (bits .and .u8 xf 23)) | 61 => Lin.Spec.val (.bool (first6 xf)) | 62 => Lin.Spec.val (.bool false) | 63 => Lin.Spec.val (.bool false) | _ => Lin.Spec.any) (by kernel_rfl) rfl (by kernel_rfl) ⟨?_, ?_, ?_, ?_, ?_, ?_, ?_, ?_, ?_, ?_, ?_, ?_, ?_, ?_, ?_, ?_, ?_, ?_, ?_, ?_, ?_, ?_, ?_, ?_, ?_, ?_, ?_, ?_, ?_, ?_, ?_, ?_, ?_, ?_, ?_, trivial⟩ ?_
    · intro ρ wq hb ho hc hd
      have hC : ∀ v, ρ (.const v) = v := fun v => hc _ (by intro t e; cases e)
      have hF : ∀ f, ρ (.func f) = .func (.func f) #[] #[] := fun f => hc _ (by intro t e; cases e)
      have h4 : ρ (.tmp 4) = .bool true := ho 4 (by kernel_rfl)
      exact Lin.Runs.value Lin.keeps (Lin.exec_move rfl) h4
    · intro ρ wq hb ho hc hd
      have hC : ∀ v, ρ (.const v) = v := fun v => hc _ (by intro t e; cases e)
      have hF : ∀ f, ρ (.func f) = .func (.func f) #[] #[] := fun f => hc _ (by intro t e; cases e)
      have h5 : ρ (.tmp 5) = .int .i64 (k : Int) := ho 5 (by kernel_rfl)
      exact Lin.Runs.value Lin.keeps (Lin.exec_move rfl) h5
    · intro ρ wq hb ho hc hd
      have hC : ∀ v, ρ (.const v) = v := fun v => hc _ (by intro t e; cases e)
      have hF : ∀ f, ρ (.func f) = .func (.func f) #[] #[] := fun f => hc _ (by intro t e; cases e)
      have h30 : ρ (.tmp 30) = .int .i64 (k : Int) := hd 30 (by kernel_rfl)
      exact Lin.Runs.value Lin.keeps (v := .bool true) (by simp [execOp, go_sem, hC, hF, h30, hk0]) rfl
    · intro ρ wq hb ho hc hd
      have hC : ∀ v, ρ (.const v) = v := fun v => hc _ (by intro t e; cases e)
      have hF : ∀ f, ρ (.func f) = .func (.func f) #[] #[] := fun f => hc _ (by intro t e; cases e)
      have h29 : ρ (.tmp 29) = .bool true := hd 29 (by kernel_rfl)
      have h31 : ρ (.tmp 31) = .bool true := hd 31 (by kernel_rfl)
      exact Lin.Runs.value Lin.keeps (v := .bool false) (by simp [execOp, go_sem, hC, hF, h29, h31]) rfl
    · intro ρ wq hb ho hc hd
      have hC : ∀ v, ρ (.const v) = v := fun v => hc _ (by intro t e; cases e)
      have hF : ∀ f, ρ (.func f) = .func (.func f) #[] #[] := fun f => hc _ (by intro t e; cases e)
      have h32 : ρ (.tmp 32) = .bool false := hd 32 (by kernel_rfl)
      exact Lin.Runs.value Lin.keeps (Lin.exec_move rfl) h32
    · intro ρ wq hb ho hc hd
      have hC : ∀ v, ρ (.const v) = v := fun v => hc _ (by intro t e; cases e)
      have hF : ∀ f, ρ (.func f) = .func (.func f) #[] #[] := fun f => hc _ (by intro t e; cases e)
      intro t ht; cases (show some 33 = some t from ht)
      refine ⟨fun _ => ?_, fun hn => absurd (hd 33 (by kernel_rfl)) hn⟩
      have h8 : ρ (.tmp 8) = .bool true := ho 8 (by kernel_rfl)
      exact Lin.Runs.value Lin.keeps (Lin.exec_move rfl) h8
    · intro ρ wq hb ho hc hd
      have hC : ∀ v, ρ (.const v) = v := fun v => hc _ (by intro t e; cases e)
      have hF : ∀ f, ρ (.func f) = .func (.func f) #[] #[] := fun f => hc _ (by intro t e; cases e)
      intro t ht; cases (show some 33 = some t from ht)
      refine ⟨fun _ => ?_, fun hn => absurd (hd 33 (by kernel_rfl)) hn⟩
      have h4 : ρ (.tmp 4) = .bool true := ho 4 (by kernel_rfl)
      exact Lin.Runs.value Lin.keeps (Lin.exec_move rfl) h4
    · intro ρ wq hb ho hc hd
      have hC : ∀ v, ρ (.const v) = v := fun v => hc _ (by intro t e; cases e)
      have hF : ∀ f, ρ (.func f) = .func (.func f) #[] #[] := fun f => hc _ (by intro t e; cases e)
      intro t ht; cases (show some 33 = some t from ht)
      refine ⟨fun _ => ?_, fun hn => absurd (hd 33 (by kernel_rfl)) hn⟩
      have h34 : ρ (.tmp 34) = .bool true := hd 34 (by kernel_rfl)
      have h35 : ρ (.tmp 35) = .bool true := hd 35 (by kernel_rfl)
      exact Lin.Runs.value Lin.keeps (v := .bool false) (by simp [execOp, go_sem, hC, hF, h34, h35]) rfl
    · intro ρ wq hb ho hc hd
      have hC : ∀ v, ρ (.const v) = v := fun v => hc _ (by intro t e; cases e)
      have hF : ∀ f, ρ (.func f) = .func (.func f) #[] #[] := fun f => hc _ (by intro t e; cases e)
      have h33 : ρ (.tmp 33) = .bool false := hd 33 (by kernel_rfl)
      have h36 : ρ (.tmp 36) = .bool false := hd 36 (by kernel_rfl)
      exact Lin.Runs.value Lin.keeps (v := .bool false) (by simp [execOp, go_sem, hC, hF, h33, h36]) rfl
    · intro ρ wq hb ho hc hd
      have hC : ∀ v, ρ (.const v) = v := fun v => hc _ (by intro t e; cases e)
      have hF : ∀ f, ρ (.func f) = .func (.func f) #[] #[] := fun f => hc _ (by intro t e; cases e)
      have h37 : ρ (.tmp 37) = .bool false := hd 37 (by kernel_rfl)
      exact Lin.Runs.value Lin.keeps (Lin.exec_move rfl) h37
    · intro ρ wq hb ho hc hd
      have hC : ∀ v, ρ (.const v) = v := fun v => hc _ (by intro t e; cases e)
      have hF : ∀ f, ρ (.func f) = .func (.func f) #[] #[] := fun f => hc _ (by intro t e; cases e)
      intro t ht; cases (show some 38 = some t from ht)
      refine ⟨fun _ => ?_, fun hn => absurd (hd 38 (by kernel_rfl)) hn⟩
      have h4 : ρ (.tmp 4) = .bool true := ho 4 (by kernel_rfl)
      exact Lin.Runs.value Lin.keeps (Lin.exec_move rfl) h4
    · intro ρ wq hb ho hc hd
      have hC : ∀ v, ρ (.const v) = v := fun v => hc _ (by intro t e; cases e)
      have hF : ∀ f, ρ (.func f) = .func (.func f) #[] #[] := fun f => hc _ (by intro t e; cases e)
      intro t ht; cases (show some 38 = some t from ht)
      refine ⟨fun _ => ?_, fun hn => absurd (hd 38 (by kernel_rfl)) hn⟩
      have h39 : ρ (.tmp 39) = .bool true := hd 39 (by kernel_rfl)
      exact Lin.Runs.value Lin.keeps (Lin.exec_move rfl) h39
    · intro ρ wq hb ho hc hd
      have hC : ∀ v, ρ (.const v) = v := fun v => hc _ (by intro t e; cases e)
      have hF : ∀ f, ρ (.func f) = .func (.func f) #[] #[] := fun f => hc _ (by intro t e; cases e)
      intro t ht; cases (show some 40 = some t from ht)
      refine ⟨fun _ => ?_, fun hn => absurd (hd 40 (by kernel_rfl)) hn⟩
      have h3 : ρ (.tmp 3) = .int .i64 (k : Int) := ho 3 (by kernel_rfl)
      exact Lin.Runs.value Lin.keeps (Lin.exec_move rfl) h3
    · intro ρ wq hb ho hc hd
      have hC : ∀ v, ρ (.const v) = v := fun v => hc _ (by intro t e; cases e)
      have hF : ∀ f, ρ (.func f) = .func (.func f) #[] #[] := fun f => hc _ (by intro t e; cases e)
      intro t ht; cases (show some 40 = some t from ht)
      refine ⟨fun _ => ?_, fun hn => absurd (hd 40 (by kernel_rfl)) hn⟩
      have h5 : ρ (.tmp 5) = .int .i64 (k : Int) := ho 5 (by kernel_rfl)
      exact Lin.Runs.value Lin.keeps (Lin.exec_move rfl) h5
    · intro ρ wq hb ho hc hd
      have hC : ∀ v, ρ (.const v) = v := fun v => hc _ (by intro t e; cases e)
      have hF : ∀ f, ρ (.func f) = .func (.func f) #[] #[] := fun f => hc _ (by intro t e; cases e)
      intro t ht; cases (show some 40 = some t from ht)
      refine ⟨fun _ => ?_, fun hn => absurd (hd 40 (by kernel_rfl)) hn⟩
      have h41 : ρ (.tmp 41) = .int .i64 (k : Int) := hd 41 (by kernel_rfl)
      have h42 : ρ (.tmp 42) = .int .i64 (k : Int) := hd 42 (by kernel_rfl)
      exact Lin.Runs.value Lin.keeps (v := .bool false) (by simp [execOp, go_sem, hC, hF, h41, h42]) rfl
    · intro ρ wq hb ho hc hd
      have hC : ∀ v, ρ (.const v) = v := fun v => hc _ (by intro t e; cases e)
      have hF : ∀ f, ρ (.func f) = .func (.func f) #[] #[] := fun f => hc _ (by intro t e; cases e)
      intro t ht; cases (show some 38 = some t from ht)
      refine ⟨fun _ => ?_, fun hn => absurd (hd 38 (by kernel_rfl)) hn⟩
      have h40 : ρ (.tmp 40) = .bool true := hd 40 (by kernel_rfl)
      have h43 : ρ (.tmp 43) = .bool false := hd 43 (by kernel_rfl)
      exact Lin.Runs.value Lin.keeps (v := .bool false) (by simp [execOp, go_sem, hC, hF, h40, h43]) rfl
    · intro ρ wq hb ho hc hd
      have hC : ∀ v, ρ (.const v) = v := fun v => hc _ (by intro t e; cases e)
      have hF : ∀ f, ρ (.func f) = .func (.func f) #[] #[] := fun f => hc _ (by intro t e; cases e)
      have h38 : ρ (.tmp 38) = .bool false := hd 38 (by kernel_rfl)
      have h44 : ρ (.tmp 44) = .bool false := hd 44 (by kernel_rfl)
      exact Lin.Runs.value Lin.keeps (v := .bool false) (by simp [execOp, go_sem, hC, hF, h38, h44]) rfl
    · intro ρ wq hb ho hc hd
      have hC : ∀ v, ρ (.const v) = v := fun v => hc _ (by intro t e; cases e)
      have hF : ∀ f, ρ (.func f) = .func (.func f) #[] #[] := fun f => hc _ (by intro t e; cases e)
      have h45 : ρ (.tmp 45) = .bool false := hd 45 (by kernel_rfl)
      exact Lin.Runs.value Lin.keeps (Lin.exec_move rfl) h45
    · intro ρ wq hb ho hc hd
      have hC : ∀ v, ρ (.const v) = v := fun v => hc _ (by intro t e; cases e)
      have hF : ∀ f, ρ (.func f) = .func (.func f) #[] #[] := fun f => hc _ (by intro t e; cases e)
      intro t ht; cases (show some 46 = some t from ht)
      refine ⟨fun _ => ?_, fun hn => absurd (hd 46 (by kernel_rfl)) hn⟩
      have h4 : ρ (.tmp 4) = .bool true := ho 4 (by kernel_rfl)
      exact Lin.Runs.value Lin.keeps (Lin.exec_move rfl) h4
    · intro ρ wq hb ho hc hd
      have hC : ∀ v, ρ (.const v) = v := fun v => hc _ (by intro t e; cases e)
      have hF : ∀ f, ρ (.func f) = .func (.func f) #[] #[] := fun f => hc _ (by intro t e; cases e)
      intro t ht; cases (show some 46 = some t from ht)
      refine ⟨fun _ => ?_, fun hn => absurd (hd 46 (by kernel_rfl)) hn⟩
      have h47 : ρ (.tmp 47) = .bool true := hd 47 (by kernel_rfl)
      exact Lin.Runs.value Lin.keeps (v := .bool false) (by simp [execOp, go_sem, hC, hF, h47]) rfl
    · intro ρ wq hb ho hc hd
      have hC : ∀ v, ρ (.const v) = v := fun v => hc _ (by intro t e; cases e)
      have hF : ∀ f, ρ (.func f) = .func (.func f) #[] #[] := fun f => hc _ (by intro t e; cases e)
      intro t ht; cases (show some 46 = some t from ht)
      refine ⟨fun _ => ?_, fun hn => absurd (hd 46 (by kernel_rfl)) hn⟩
      have h48 : ρ (.tmp 48) = .bool false := hd 48 (by kernel_rfl)
      exact Lin.Runs.value Lin.keeps (Lin.exec_move rfl) h48
    · intro ρ wq hb ho hc hd
      have hC : ∀ v, ρ (.const v) = v := fun v => hc _ (by intro t e; cases e)
      have hF : ∀ f, ρ (.func f) = .func (.func f) #[] #[] := fun f => hc _ (by intro t e; cases e)
      intro t ht; cases (show some 49 = some t from ht)
      exact ⟨fun he => absurd (he.symm.trans (hd 49 (by kernel_rfl))) (by simp), fun _ => rfl⟩
    · intro ρ wq hb ho hc hd
      have hC : ∀ v, ρ (.const v) = v := fun v => hc _ (by intro t e; cases e)
      have hF : ∀ f, ρ (.func f) = .func (.func f) #[] #[] := fun f => hc _ (by intro t e; cases e)
      intro t ht; cases (show some 49 = some t from ht)
      exact ⟨fun he => absurd (he.symm.trans (hd 49 (by kernel_rfl))) (by simp), fun _ => rfl⟩
    · intro ρ wq hb ho hc hd
      have hC : ∀ v, ρ (.const v) = v := fun v => hc _ (by intro t e; cases e)
      have hF : ∀ f, ρ (.func f) = .func (.func f) #[] #[] := fun f => hc _ (by intro t e; cases e)
      intro t ht; cases (show some 46 = some t from ht)
      refine ⟨fun _ => ?_, fun hn => absurd (hd 46 (by kernel_rfl)) hn⟩
      have h49 : ρ (.tmp 49) = .bool false := hd 49 (by kernel_rfl)
      have h51 : ρ (.tmp 51) = undef := hd 51 (by kernel_rfl)
      exact Lin.Runs.value Lin.keeps (v := .bool false) (by simp [execOp, go_sem, hC, hF, h49, h51]) rfl
    · intro ρ wq hb ho hc hd
      have hC : ∀ v, ρ (.const v) = v := fun v => hc _ (by intro t e; cases e)
      have hF : ∀ f, ρ (.func f) = .func (.func f) #[] #[] := fun f => hc _ (by intro t e; cases e)
      have h46 : ρ (.tmp 46) = .bool false := hd 46 (by kernel_rfl)
      have h52 : ρ (.tmp 52) = .bool false := hd 52 (by kernel_rfl)
      exact Lin.Runs.value Lin.keeps (v := .bool false) (by simp [execOp, go_sem, hC, hF, h46, h52]) rfl
    · intro ρ wq hb ho hc hd
      have hC : ∀ v, ρ (.const v) = v := fun v => hc _ (by intro t e; cases e)
      have hF : ∀ f, ρ (.func f) = .func (.func f) #[] #[] := fun f => hc _ (by intro t e; cases e)
      have h53 : ρ (.tmp 53) = .bool false := hd 53 (by kernel_rfl)
      exact Lin.Runs.value Lin.keeps (Lin.exec_move rfl) h53
    · intro ρ wq hb ho hc hd
      have hC : ∀ v, ρ (.const v) = v := fun v => hc _ (by intro t e; cases e)
      have hF : ∀ f, ρ (.func f) = .func (.func f) #[] #[] := fun f => hc _ (by intro t e; cases e)
      intro t ht; cases (show some 54 = some t from ht)
      refine ⟨fun _ => ?_, fun hn => absurd (hd 54 (by kernel_rfl)) hn⟩
      have h1 : ρ (.tmp 1) = .pointer (some ⟨w.heap.size, 0, none⟩) := ho 1 (by kernel_rfl)
      have hg8 := HG.out.below hb HG.out.lt
      have m0 := hg8.cell 0
      have m1 := hg8.cell 1
      have m2 := hg8.cell 2
      have m3 := hg8.cell 3
      have m4 := hg8.cell 4
      have m5 := hg8.cell 5
      have m6 := hg8.cell 6
      have m7 := hg8.cell 7
      have m8 := hg8.cell 8
      have m9 := hg8.cell 9
      simp at m0 m1 m2 m3 m4 m5 m6 m7 m8 m9
      exact Lin.Runs.value Lin.keeps (v := .agg #[.int .u16 xa, .int .u16 xb, .int .u32 xs, .int .u32 xk, .int .u8 xf, .int .u16 xn, .int .u16 xm, .int .u16 xg, .slice A1 o.length c1, .slice A2 l.length c2]) (by simp [execOp, go_sem, hC, hF, h1, m0, m1, m2, m3, m4, m5, m6, m7, m8, m9]) rfl
    · intro ρ wq hb ho hc hd
      have hC : ∀ v, ρ (.const v) = v := fun v => hc _ (by intro t e; cases e)
      have hF : ∀ f, ρ (.func f) = .func (.func f) #[] #[] := fun f => hc _ (by intro t e; cases e)
      intro t ht; cases (show some 54 = some t from ht)
      refine ⟨fun _ => ?_, fun hn => absurd (hd 54 (by kernel_rfl)) hn⟩
      have h55 : ρ (.tmp 55) = .agg #[.int .u16 xa, .int .u16 xb, .int .u32 xs, .int .u32 xk, .int .u8 xf, .int .u16 xn, .int .u16 xm, .int .u16 xg, .slice A1 o.length c1, .slice A2 l.length c2] := hd 55 (by kernel_rfl)
      refine Lin.Runs.call Lin.keeps (f := 23) (args := #[.agg #[.int .u16 xa, .int .u16 xb, .int .u32 xs, .int .u32 xk, .int .u8 xf, .int .u16 xn, .int .u16 xm, .int .u16 xg, .slice A1 o.length c1, .slice A2 l.length c2]]) (by simp [execOp, go_sem, hC, hF, h55]) ?_
      exact (to6 xa xb xs xk xf xn xm xg o l o.length l.length _ _ wq (HV.out.st hb) (HU.out.st hb)).mono fun e w9 ⟨h1, h2⟩ => ⟨_, h1, h2, rfl⟩
    · intro ρ wq hb ho hc hd
      have hC : ∀ v, ρ (.const v) = v := fun v => hc _ (by intro t e; cases e)
      have hF : ∀ f, ρ (.func f) = .func (.func f) #[] #[] := fun f => hc _ (by intro t e; cases e)
      intro t ht; cases (show some 54 = some t from ht)
      refine ⟨fun _ => ?_, fun hn => absurd (hd 54 (by kernel_rfl)) hn⟩
      have h56 : ρ (.tmp 56) = .agg #[.int .u16 xa, .int .u16 xb, .int .u32 xs, .int .u32 xk, .int .u8 xf, .int .u16 xn, .int .u16 xm, .int .u16 xg, .slice A1 o.length c1, .slice A2 l.length c2] := hd 56 (by kernel_rfl)
      refine Lin.Runs.call Lin.keeps (f := 25) (args := #[.agg #[.int .u16 xa, .int .u16 xb, .int .u32 xs, .int .u32 xk, .int .u8 xf, .int .u16 xn, .int .u16 xm, .int .u16 xg, .slice A1 o.length c1, .slice A2 l.length c2]]) (by simp [execOp, go_sem, hC, hF, h56]) ?_
      exact (first_any xa xb xs xk xf xn xm xg o l o.length l.length _ _ wq (HV.out.st hb) (HU.out.st hb)).mono fun e w9 ⟨h1, h2⟩ => ⟨_, h1, h2, rfl⟩
    · intro ρ wq hb ho hc hd
      have hC : ∀ v, ρ (.const v) = v := fun v => hc _ (by intro t e; cases e)
      have hF : ∀ f, ρ (.func f) = .func (.func f) #[] #[] := fun f => hc _ (by intro t e; cases e)
      intro t ht; cases (show some 54 = some t from ht)
      refine ⟨fun _ => ?_, fun hn => absurd (hd 54 (by kernel_rfl)) hn⟩
      have h1 : ρ (.tmp 1) = .pointer (some ⟨w.heap.size, 0, none⟩) := ho 1 (by kernel_rfl)
      exact Lin.Runs.value Lin.keeps (v := .pointer (some ⟨w.heap.size, 4, none⟩)) (by simp [execOp, go_sem, hC, hF, h1]) rfl
    · intro ρ wq hb ho hc hd
      have hC : ∀ v, ρ (.const v) = v := fun v => hc _ (by intro t e; cases e)
      have hF : ∀ f, ρ (.func f) = .func (.func f) #[] #[] := fun f => hc _ (by intro t e; cases e)
      intro t ht; cases (show some 54 = some t from ht)
      refine ⟨fun _ => ?_, fun hn => absurd (hd 54 (by kernel_rfl)) hn⟩
      have h58 : ρ (.tmp 58) = .pointer (some ⟨w.heap.size, 4, none⟩) := hd 58 (by kernel_rfl)
      have hg8 := HG.out.below hb HG.out.lt
      have m4 := hg8.cell 4
      simp at m4
      exact Lin.Runs.value Lin.keeps (v := .int .u8 xf) (by simp [execOp, go_sem, hC, hF, h58, m4]) rfl
    · intro ρ wq hb ho hc hd
      have hC : ∀ v, ρ (.const v) = v := fun v => hc _ (by intro t e; cases e)
      have hF : ∀ f, ρ (.func f) = .func (.func f) #[] #[] := fun f => hc _ (by intro t e; cases e)
      intro t ht; cases (show some 54 = some t from ht)
      refine ⟨fun _ => ?_, fun hn => absurd (hd 54 (by kernel_rfl)) hn⟩
      have h59 : ρ (.tmp 59) = .int .u8 xf := hd 59 (by kernel_rfl)
      exact Lin.Runs.value Lin.keeps (v := .int .u8 (bits .and .u8 xf 23)) (by simp [execOp, go_sem, hC, hF, h59]) rfl
    · intro ρ wq hb ho hc hd
      have hC : ∀ v, ρ (.const v) = v := fun v => hc _ (by intro t e; cases e)
      have hF : ∀ f, ρ (.func f) = .func (.func f) #[] #[] := fun f => hc _ (by intro t e; cases e)
      intro t ht; cases (show some 54 = some t from ht)
      refine ⟨fun _ => ?_, fun hn => absurd (hd 54 (by kernel_rfl)) hn⟩
      have h60 : ρ (.tmp 60) = .int .u8 (bits .and .u8 xf 23) := hd 60 (by kernel_rfl)
      exact Lin.Runs.value Lin.keeps (v := .bool (first6 xf)) (by simp [execOp, go_sem, hC, hF, h60, first6]) rfl
    · intro ρ wq hb ho hc hd
      have hC : ∀ v, ρ (.const v) = v := fun v => hc _ (by intro t e; cases e)
      have hF : ∀ f, ρ (.func f) = .func (.func f) #[] #[] := fun f => hc _ (by intro t e; cases e)
      intro t ht; cases (show some 54 = some t from ht)
      refine ⟨fun _ => ?_, fun hn => absurd (hd 54 (by kernel_rfl)) hn⟩
      have h57 : ρ (.tmp 57) = .bool (first6 xf) := hd 57 (by kernel_rfl)
      have h61 : ρ (.tmp 61) = .bool (first6 xf) := hd 61 (by kernel_rfl)
      exact Lin.Runs.value Lin.keeps (v := .bool false) (by simp [execOp, go_sem, hC, hF, h57, h61]) rfl
    · intro ρ wq hb ho hc hd
      have hC : ∀ v, ρ (.const v) = v := fun v => hc _ (by intro t e; cases e)
      have hF : ∀ f, ρ (.func f) = .func (.func f) #[] #[] := fun f => hc _ (by intro t e; cases e)
      have h54 : ρ (.tmp 54) = .bool false := hd 54 (by kernel_rfl)
      have h62 : ρ (.tmp 62) = .bool false := hd 62 (by kernel_rfl)
      exact Lin.Runs.value Lin.keeps (v := .bool false) (by simp [execOp, go_sem, hC, hF, h54, h62]) rfl
    · intro vals w9 hb hv9
      have e63 : vals 63 = .bool false := hv9 63 (by kernel_rfl)
      simp only [Lin.putAll, Option.getD_some]
      rw [e63]
      clear hv9 e63
      have hg9 := HG.out.below hb HG.out.lt
      have hv9 := HV.out.st hb; have hu9 := HU.out.st hb
      have hb9 := HB.out.trans (hb.mono HB.out.size)
      clear a0 a1 a2 a3 a4 a5 a6 a7 a8 a9 fa hb HG HV HU HB
      have a0 := hg9.cell 0
      have a1 := hg9.cell 1
      have a2 := hg9.cell 2
      have a3 := hg9.cell 3
      have a4 := hg9.cell 4
      have a5 := hg9.cell 5
      have a6 := hg9.cell 6
      have a7 := hg9.cell 7
      have a8 := hg9.cell 8
      have a9 := hg9.cell 9
      have fa := hg9.lt
      simp at a0 a1 a2 a3 a4 a5 a6 a7 a8 a9
      have HG := hide hg9; have HV := hide hv9; have HU := hide hu9; have HB := Lib.hid hb9
      clear hg9 hv9 hu9 hb9
      go_simp
      generalize vals = vv
      go_wp2_with fail
      refine (get_q k 4 x HV.out HO.out (by omega) (by omega) HX.out).mono ?_
      rintro e w10 ⟨rfl, rfl⟩
      go_wp2_with fail
      rw [EK.out]
      refine (get_q (k + 4) 4 y HV.out HO.out (by omega) (by omega) HY.out).mono ?_
      rintro e w10 ⟨rfl, rfl⟩
      go_wp2_with fail
      refine (awake06 _).mono ?_
      rintro e w11 ⟨rfl, hb⟩
      have HB9 := Lib.hid (HB.out.trans (hb.mono HB.out.size))
      clear hb
      go_wp2_with fail
      go_ret
      exact ⟨rfl, HB9.out⟩
theorem walk (xa xb xs xk xf xn xm xg : Int) (A1 A2 : Option Addr) (c1 c2 : Nat) (o l : List Int) (w : World) (hv : IsB o o.length (.slice A1 o.length c1) w) (hu : IsB l l.length (.slice A2 l.length c2) w) (ho : Octets o) : Calls Try.prog 4 #[sg6 xa xb xs xk xf xn xm xg (.slice A1 o.length c1) (.slice A2 l.length c2)] w fun e w' => e = .returned (.bool true) ∧ Below w.heap.size w w' := by
  by_cases h : o.length ≤ 200 ∧ l.length ≤ 2000
  · exact walk_yes xa xb xs xk xf xn xm xg A1 A2 c1 c2 o l w hv hu ho h.1 h.2
  · exact walk_no xa xb xs xk xf xn xm xg A1 A2 c1 c2 o l w hv hu ho h

/-! ### The step from the walk to the row -/
set_option maxRecDepth 100000 in
theorem lifted (os : Os) (started : os.Started) (H : Type) (enc : TypeId × Value → H) :
    ReturnsInHanded {} Try.checked os 4 .any (Rows.tcpStampsSpec.pre6 enc Try.prog Try.f4 Rows.tcpStampsRow.domain false) (Rows.tcpStampsSpec.post enc Try.prog Try.f4 false true false false) := by
  refine returnsInHanded_of_change (C := Try.checked) own started (by kernel_rfl) Try.func4
    (ChangeSpec.witness6 (enc := enc) (C := Try.checked) false ⟨#[], #[.agg #[.int .u16 0, .int .u16 0, .int .u32 0, .int .u32 0, .int .u8 0, .int .u16 0, .int .u16 0, .int .u16 0, .slice none 0 0, .slice none 0 0]], []⟩ 8 (by kernel_rfl) (by kernel_rfl) (by kernel_rfl) (by kernel_rfl)) ?_
  intro W base args ds gs before hval0 hW hcnd _
  have hval : ∀ (j : Nat) t v, Try.f4.params[j]? = some t → args[j]? = some v → Value.okWide Try.prog W .any base t v := hval0
  have hW' := hW
  obtain ⟨p, q, hA0, hV, rfl, hfz, hnd⟩ := hW
  have hA : DataW.TrodAll enc Try.prog W 0 (fun _ => true) true Try.f4.params.toList args.toList ds p := hA0
  rw [Try.params4] at hA hval
  obtain ⟨v0, vs0, d0, ds0, p0, q0, hargs, rfl, rfl, h0, r0⟩ := trodAll_cons hA
  obtain ⟨rfl, rfl, rfl⟩ := trodAll_nil r0
  obtain rfl : args = #[v0] := by cases args; simp_all
  obtain ⟨rfl, rfl⟩ := trodVars_none hV
  have k0 := h0
  have lt0 : ∀ x ∈ p0, x.block < W.heap.size := by obtain ⟨m, hm⟩ := k0; exact DataW.trod_lt m _ _ _ hm
  have ok0 := hval 0 35 v0 rfl rfl
  clear hA0 hval0
  obtain ⟨xa, xb, xs, xk, xf, xn, xm, xg, A1, n1, c1, A2, n2, c2, rfl, _, ⟨d8, p8, t8⟩, d9, p9, t9⟩ := open_seg ok0 h0
  obtain ⟨o, rfl, oo, io, _⟩ := open_isb (e := 5) Try.underlying22 Try.underlying5 (by kernel_rfl) t8
  obtain ⟨l, rfl, ol, il, _⟩ := open_isb (e := 5) Try.underlying22 Try.underlying5 (by kernel_rfl) t9
  refine (walk xa xb xs xk xf xn xm xg A1 A2 c1 c2 o l W io il oo).mono fun e W' ⟨he, bel⟩ => ?_
  subst he
  exact ⟨_, rfl, _, _, _, [], _, [], hW', trodAll_mk1 (shut_bool Try.underlying4 _), (trodAll_cons_mk (Below.trod laidOut (by kernel_rfl) (of_decide_eq_true (by kernel_rfl)) k0 bel lt0) trodAll_mk0), rfl, bel.frame _, fun h => by cases h⟩

theorem over : Rows.tcpStampsRow.holds Try.pinned (OpenSpec.ofChange Rows.tcpStampsSpec) :=
  OpenClaim.holds_of_wide 4 Try.f4 rfl rfl rfl rfl rfl rfl rfl ⟨rfl, rfl, rfl, rfl, rfl⟩ rfl rfl rfl rfl rfl (by kernel_rfl) Try.func4 (by kernel_rfl)
    (of_decide_eq_true (by kernel_rfl)) (by unfold Func.isWrapper; first | (rw [if_pos (by decide +kernel)]; kernel_rfl) | (rw [if_neg (by decide +kernel)]; exact ⟨rfl, rfl⟩))
    (fun os started H enc _ => lifted os started H enc)

theorem proved : Rows.TcpStampsSaid := over
#print axioms proved
end Go.Proofs.Ytkgmgmlicgjfdaa.tcpStamps
