/-
  DiskKeeps (P24.3) answers true and leaves its arguments as they were, for all bytes and any crash: durable bytes stay as they are. No condition.
-/
import Derived.Test.YtkebgkjopfdafaaRows
import Derived.WalkKit
import Derived.ProofKit
import Derived.OpenShut
import Derived.ShutString
import Derived.ChangeOld
import Derived.Below
import Derived.Test.YtkebgkjopfdafaaDisk
import Derived.Test.YtkebgkjopfdafaaLin
namespace Go.Proofs.Ytkebgkjopfdafaa.diskKeeps
open Go.ChangeShapes Go.WideShapes Go.ChangeAt Go.RowKit
open Go.ChangeMaps (open_string shut_string)
open Go.Proofs.Ytkebgkjopfdafaa
set_option maxRecDepth 100000
set_option linter.unusedVariables false

theorem own : ownKnob Try.prog.godebug = none := by kernel_rfl
theorem laidOut : laidOutB Try.prog = true := by kernel_rfl


set_option maxHeartbeats 4000000 in
theorem walk_ok (A X : Option Addr) (c d : Nat) (a b : List Int) (keep bits : Int) (w : World) (ha : IsB a a.length (.slice A a.length c) w) (hb : IsB b b.length (.slice X b.length d) w) (la : a.length ≤ 500) (lb : b.length ≤ 500) :
    Calls Try.prog 11 #[.slice A a.length c, .slice X b.length d, .int .i64 keep, .int .u8 bits] w fun e w' => e = .returned (.bool true) ∧ Below w.heap.size w w' := by
  have HA := hide ha; have HX := hide hb
  clear ha hb
  go_enter Try.func11, Try.ntmps11
  go_wp2_with fail
  refine (awake24 _).mono ?_
  rintro e w0 ⟨rfl, hb0⟩
  have HB0 := Lib.hid hb0
  clear hb0
  go_wp2_with fail
  refine (new_any 1000 w0 (by decide) (by decide)).mono ?_
  rintro e w1 ⟨rfl, hd, hb1⟩
  have HD1 := hide hd; have HB1 := Lib.hid (HB0.out.trans (hb1.mono HB0.out.size))
  have hg : w.heap.size ≤ w0.heap.size := HB0.out.size
  generalize w0.heap.size = g at *
  clear hd hb1 HB0
  go_wp2_with fail
  refine (append_ok g 1000 0 0 [] a a.length _ w1 HD1.out (HA.out.st HB1.out) (by simp; omega) (by decide)).mono ?_
  rintro e w2 ⟨rfl, hd, hb2⟩
  have HD2 := hide hd; have HB2 := Lib.hid (HB1.out.trans (hb2.mono hg))
  clear hd hb2 HD1 HB1
  go_wp2_with fail
  refine (sync_any g 1000 0 0 ([] ++ a) w2 HD2.out (by decide) (by decide) (by simp; omega)).mono ?_
  rintro e w3 ⟨rfl, hd, hb3⟩
  have HD3 := hide hd; have HB3 := Lib.hid (HB2.out.trans (hb3.mono hg))
  clear hd hb3 HD2 HB2
  go_wp2_with fail
  refine (append_ok g 1000 _ 1 ([] ++ a) b b.length _ w3 HD3.out (HX.out.st HB3.out) (by simp; omega) (by decide)).mono ?_
  rintro e w4 ⟨rfl, hd, hb4⟩
  have HD4 := hide hd; have HB4 := Lib.hid (HB3.out.trans (hb4.mono hg))
  clear hd hb4 HD3 HB3
  go_wp2_with fail
  obtain ⟨k, hk, hcr⟩ := crash_any g a.length b.length 1000 1 ([] ++ a ++ b) keep bits w4 (by simpa using HD4.out) (by simp) (by simp; omega)
  refine hcr.mono ?_
  rintro e w5 ⟨l', rfl, hl', ht', hd, hb5⟩
  have HD5 := hide hd; have HB5 := Lib.hid (HB4.out.trans (hb5.mono hg)); have HL := Lib.hid hl'
  have ht : l'.take a.length = a := by rw [ht']; simp
  have HT := Lib.hid ht
  have hll : l'.length ≤ 1000 := by omega
  rw [show (((([] : List Int) ++ a ++ b).length : Nat) : Int) - (a.length : Int) - (k : Int) = (b.length : Int) - (k : Int) from by simp; omega]
  clear hd hb5 HD4 HB4 hl' ht ht' hcr
  go_wp2_with fail
  refine (dread_any g 1000 _ 1 l' w5 HD5.out (by omega)).mono ?_
  rintro e w6 ⟨v, rfl, hv, hb6⟩
  have HB := Lib.hid (HB5.out.trans (hb6.mono HB5.out.size)); have HD := hide (HD5.out.below hb6)
  have hv' : IsB l' (a.length + k) v w6 := by rw [HL.out] at hv; exact hv
  obtain ⟨A9, c9, rfl⟩ := hv'.shape
  obtain ⟨q1, q2⟩ : a.length + k ≤ c9 ∧ c9 ≤ maxLen := by
    obtain ⟨A', c', e, _, _, h3, h4, _⟩ := hv'; injection e with _ _ e; subst e; exact ⟨h3, h4⟩
  unfold maxLen at q2
  have HALL : Hid (IsB a a.length (.slice A9 a.length c9) w6) := by
    obtain ⟨A', c', e, h1, h2, h3, h4, h5⟩ := hv'
    injection e with e1 e2 e3; subst e1; subst e3
    have h9 := bytes_take h2 a.length
    rw [HT.out] at h9
    exact hide ⟨A9, c9, rfl, rfl, h9, by omega, h4, h5⟩
  have W1 := Lib.hid (show IntKind.i64.wrap ((a.length : Int) + (b.length : Int)) = (a.length : Int) + (b.length : Int) from IntWalk.i64_in _ (by omega))
  have W2 := Lib.hid (show IntKind.i64.wrap ((a.length : Int) + (b.length : Int) - ((b.length : Int) - (k : Int))) = ((a.length + k : Nat) : Int) from by rw [IntWalk.i64_in _ (by omega)]; omega)
  have s1 : (0 : Int) ≤ (a.length : Int) := by omega
  have s2 : a.length ≤ c9 := by omega
  clear hv hv' hb6 HD5 HB5
  go_wp2_with fail
  refine Lin.wp_region_lin Lin.keeps (n := 83)  (fun slotq => match slotq with | 41 => Lin.Spec.val (.int .i64 0) | 42 => Lin.Spec.val (.bool true) | 43 => Lin.Spec.val (.bool true) | 44 => Lin.Spec.val (.int .i64 0) | 45 => Lin.Spec.val (.bool true) | 46 => Lin.Spec.val (.bool true) | 47 => Lin.Spec.val (.bool true) | 48 => Lin.Spec.val (.int .i64 0) | 49 => Lin.Spec.val (.bool true) | 50 => Lin.Spec.val (.bool true) | 51 => Lin.Spec.val (.bool true) | 52 => Lin.Spec.val (.slice A9 (a.length + k) c9) | 53 => Lin.Spec.val (.int .i64 ((a.length + k : Nat) : Int)) | 54 => Lin.Spec.val (.slice A a.length c) | 55 => Lin.Spec.val (.int .i64 (a.length : Int)) | 56 => Lin.Spec.val (.slice X b.length d) | 57 => Lin.Spec.val (.int .i64 (b.length : Int)) | 58 => Lin.Spec.val (.int .i64 ((a.length : Int) + (b.length : Int))) | 59 => Lin.Spec.val (.int .i64 ((b.length : Int) - (k : Int))) | 60 => Lin.Spec.val (.int .i64 ((a.length + k : Nat) : Int)) | 61 => Lin.Spec.val (.bool true) | 62 => Lin.Spec.val (.bool true) | 63 => Lin.Spec.val (.bool true) | 64 => Lin.Spec.val (.slice A9 (a.length + k) c9) | 65 => Lin.Spec.val (.slice A a.length c) | 66 => Lin.Spec.val (.int .i64 (a.length : Int)) | 67 => Lin.Spec.val (.slice A9 a.length c9) | 68 => Lin.Spec.val (.string (strOfNums a)) | 69 => Lin.Spec.val (.slice A a.length c) | 70 => Lin.Spec.val (.string (strOfNums a)) | 71 => Lin.Spec.val (.bool true) | 72 => Lin.Spec.val (.bool true) | 73 => Lin.Spec.val (.bool true) | 74 => Lin.Spec.val (.pointer (some ⟨g, 0, none⟩)) | 75 => Lin.Spec.val (.int .i64 ((a.length + k : Nat) : Int)) | 76 => Lin.Spec.val (.slice A9 (a.length + k) c9) | 77 => Lin.Spec.val (.int .i64 ((a.length + k : Nat) : Int)) | 78 => Lin.Spec.val (.bool true) | 79 => Lin.Spec.val (.bool true) | 80 => Lin.Spec.val (.bool true) | 81 => Lin.Spec.val (.bool true) | 82 => Lin.Spec.val (.bool true) | 8 => Lin.Spec.val (.bool true) | _ => Lin.Spec.any) (by kernel_rfl) rfl (by kernel_rfl) ⟨?_, ?_, ?_, ?_, ?_, ?_, ?_, ?_, ?_, ?_, ?_, ?_, ?_, ?_, ?_, ?_, ?_, ?_, ?_, ?_, ?_, ?_, ?_, ?_, ?_, ?_, ?_, ?_, ?_, ?_, ?_, ?_, ?_, ?_, ?_, ?_, ?_, ?_, ?_, ?_, ?_, ?_, ?_, trivial⟩ ?_
  · intro ρ wq hb ho hc hd
    have hC : ∀ v, ρ (.const v) = v := fun v => hc _ (by intro t e; cases e)
    have hF : ∀ f, ρ (.func f) = .func (.func f) #[] #[] := fun f => hc _ (by intro t e; cases e)
    have h10 : ρ (.tmp 10) = .int .i64 0 := ho 10 (by kernel_rfl)
    exact Lin.Runs.value Lin.keeps (Lin.exec_move rfl) h10
  · intro ρ wq hb ho hc hd
    have hC : ∀ v, ρ (.const v) = v := fun v => hc _ (by intro t e; cases e)
    have hF : ∀ f, ρ (.func f) = .func (.func f) #[] #[] := fun f => hc _ (by intro t e; cases e)
    have h41 : ρ (.tmp 41) = .int .i64 0 := hd 41 (by kernel_rfl)
    exact Lin.Runs.value Lin.keeps (v := .bool true) (by simp [execOp, go_sem, hC, hF, h41]) rfl
  · intro ρ wq hb ho hc hd
    have hC : ∀ v, ρ (.const v) = v := fun v => hc _ (by intro t e; cases e)
    have hF : ∀ f, ρ (.func f) = .func (.func f) #[] #[] := fun f => hc _ (by intro t e; cases e)
    have h42 : ρ (.tmp 42) = .bool true := hd 42 (by kernel_rfl)
    exact Lin.Runs.value Lin.keeps (Lin.exec_move rfl) h42
  · intro ρ wq hb ho hc hd
    have hC : ∀ v, ρ (.const v) = v := fun v => hc _ (by intro t e; cases e)
    have hF : ∀ f, ρ (.func f) = .func (.func f) #[] #[] := fun f => hc _ (by intro t e; cases e)
    intro t ht; cases (show some 43 = some t from ht)
    refine ⟨fun _ => ?_, fun hn => absurd (hd 43 (by kernel_rfl)) hn⟩
    have h11 : ρ (.tmp 11) = .int .i64 0 := ho 11 (by kernel_rfl)
    exact Lin.Runs.value Lin.keeps (Lin.exec_move rfl) h11
  · intro ρ wq hb ho hc hd
    have hC : ∀ v, ρ (.const v) = v := fun v => hc _ (by intro t e; cases e)
    have hF : ∀ f, ρ (.func f) = .func (.func f) #[] #[] := fun f => hc _ (by intro t e; cases e)
    intro t ht; cases (show some 43 = some t from ht)
    refine ⟨fun _ => ?_, fun hn => absurd (hd 43 (by kernel_rfl)) hn⟩
    have h44 : ρ (.tmp 44) = .int .i64 0 := hd 44 (by kernel_rfl)
    exact Lin.Runs.value Lin.keeps (v := .bool true) (by simp [execOp, go_sem, hC, hF, h44]) rfl
  · intro ρ wq hb ho hc hd
    have hC : ∀ v, ρ (.const v) = v := fun v => hc _ (by intro t e; cases e)
    have hF : ∀ f, ρ (.func f) = .func (.func f) #[] #[] := fun f => hc _ (by intro t e; cases e)
    have h43 : ρ (.tmp 43) = .bool true := hd 43 (by kernel_rfl)
    have h45 : ρ (.tmp 45) = .bool true := hd 45 (by kernel_rfl)
    exact Lin.Runs.value Lin.keeps (v := .bool true) (by simp [execOp, go_sem, hC, hF, h43, h45]) rfl
  · intro ρ wq hb ho hc hd
    have hC : ∀ v, ρ (.const v) = v := fun v => hc _ (by intro t e; cases e)
    have hF : ∀ f, ρ (.func f) = .func (.func f) #[] #[] := fun f => hc _ (by intro t e; cases e)
    have h46 : ρ (.tmp 46) = .bool true := hd 46 (by kernel_rfl)
    exact Lin.Runs.value Lin.keeps (Lin.exec_move rfl) h46
  · intro ρ wq hb ho hc hd
    have hC : ∀ v, ρ (.const v) = v := fun v => hc _ (by intro t e; cases e)
    have hF : ∀ f, ρ (.func f) = .func (.func f) #[] #[] := fun f => hc _ (by intro t e; cases e)
    intro t ht; cases (show some 47 = some t from ht)
    refine ⟨fun _ => ?_, fun hn => absurd (hd 47 (by kernel_rfl)) hn⟩
    have h12 : ρ (.tmp 12) = .int .i64 0 := ho 12 (by kernel_rfl)
    exact Lin.Runs.value Lin.keeps (Lin.exec_move rfl) h12
  · intro ρ wq hb ho hc hd
    have hC : ∀ v, ρ (.const v) = v := fun v => hc _ (by intro t e; cases e)
    have hF : ∀ f, ρ (.func f) = .func (.func f) #[] #[] := fun f => hc _ (by intro t e; cases e)
    intro t ht; cases (show some 47 = some t from ht)
    refine ⟨fun _ => ?_, fun hn => absurd (hd 47 (by kernel_rfl)) hn⟩
    have h48 : ρ (.tmp 48) = .int .i64 0 := hd 48 (by kernel_rfl)
    exact Lin.Runs.value Lin.keeps (v := .bool true) (by simp [execOp, go_sem, hC, hF, h48]) rfl
  · intro ρ wq hb ho hc hd
    have hC : ∀ v, ρ (.const v) = v := fun v => hc _ (by intro t e; cases e)
    have hF : ∀ f, ρ (.func f) = .func (.func f) #[] #[] := fun f => hc _ (by intro t e; cases e)
    have h47 : ρ (.tmp 47) = .bool true := hd 47 (by kernel_rfl)
    have h49 : ρ (.tmp 49) = .bool true := hd 49 (by kernel_rfl)
    exact Lin.Runs.value Lin.keeps (v := .bool true) (by simp [execOp, go_sem, hC, hF, h47, h49]) rfl
  · intro ρ wq hb ho hc hd
    have hC : ∀ v, ρ (.const v) = v := fun v => hc _ (by intro t e; cases e)
    have hF : ∀ f, ρ (.func f) = .func (.func f) #[] #[] := fun f => hc _ (by intro t e; cases e)
    have h50 : ρ (.tmp 50) = .bool true := hd 50 (by kernel_rfl)
    exact Lin.Runs.value Lin.keeps (Lin.exec_move rfl) h50
  · intro ρ wq hb ho hc hd
    have hC : ∀ v, ρ (.const v) = v := fun v => hc _ (by intro t e; cases e)
    have hF : ∀ f, ρ (.func f) = .func (.func f) #[] #[] := fun f => hc _ (by intro t e; cases e)
    intro t ht; cases (show some 51 = some t from ht)
    refine ⟨fun _ => ?_, fun hn => absurd (hd 51 (by kernel_rfl)) hn⟩
    have h14 : ρ (.tmp 14) = .slice A9 (a.length + k) c9 := ho 14 (by kernel_rfl)
    exact Lin.Runs.value Lin.keeps (Lin.exec_move rfl) h14
  · intro ρ wq hb ho hc hd
    have hC : ∀ v, ρ (.const v) = v := fun v => hc _ (by intro t e; cases e)
    have hF : ∀ f, ρ (.func f) = .func (.func f) #[] #[] := fun f => hc _ (by intro t e; cases e)
    intro t ht; cases (show some 51 = some t from ht)
    refine ⟨fun _ => ?_, fun hn => absurd (hd 51 (by kernel_rfl)) hn⟩
    have h52 : ρ (.tmp 52) = .slice A9 (a.length + k) c9 := hd 52 (by kernel_rfl)
    exact Lin.Runs.value Lin.keeps (v := .int .i64 ((a.length + k : Nat) : Int)) (by simp [execOp, go_sem, hC, hF, h52]) rfl
  · intro ρ wq hb ho hc hd
    have hC : ∀ v, ρ (.const v) = v := fun v => hc _ (by intro t e; cases e)
    have hF : ∀ f, ρ (.func f) = .func (.func f) #[] #[] := fun f => hc _ (by intro t e; cases e)
    intro t ht; cases (show some 51 = some t from ht)
    refine ⟨fun _ => ?_, fun hn => absurd (hd 51 (by kernel_rfl)) hn⟩
    have h0 : ρ (.tmp 0) = .slice A a.length c := ho 0 (by kernel_rfl)
    exact Lin.Runs.value Lin.keeps (Lin.exec_move rfl) h0
  · intro ρ wq hb ho hc hd
    have hC : ∀ v, ρ (.const v) = v := fun v => hc _ (by intro t e; cases e)
    have hF : ∀ f, ρ (.func f) = .func (.func f) #[] #[] := fun f => hc _ (by intro t e; cases e)
    intro t ht; cases (show some 51 = some t from ht)
    refine ⟨fun _ => ?_, fun hn => absurd (hd 51 (by kernel_rfl)) hn⟩
    have h54 : ρ (.tmp 54) = .slice A a.length c := hd 54 (by kernel_rfl)
    exact Lin.Runs.value Lin.keeps (v := .int .i64 (a.length : Int)) (by simp [execOp, go_sem, hC, hF, h54]) rfl
  · intro ρ wq hb ho hc hd
    have hC : ∀ v, ρ (.const v) = v := fun v => hc _ (by intro t e; cases e)
    have hF : ∀ f, ρ (.func f) = .func (.func f) #[] #[] := fun f => hc _ (by intro t e; cases e)
    intro t ht; cases (show some 51 = some t from ht)
    refine ⟨fun _ => ?_, fun hn => absurd (hd 51 (by kernel_rfl)) hn⟩
    have h1 : ρ (.tmp 1) = .slice X b.length d := ho 1 (by kernel_rfl)
    exact Lin.Runs.value Lin.keeps (Lin.exec_move rfl) h1
  · intro ρ wq hb ho hc hd
    have hC : ∀ v, ρ (.const v) = v := fun v => hc _ (by intro t e; cases e)
    have hF : ∀ f, ρ (.func f) = .func (.func f) #[] #[] := fun f => hc _ (by intro t e; cases e)
    intro t ht; cases (show some 51 = some t from ht)
    refine ⟨fun _ => ?_, fun hn => absurd (hd 51 (by kernel_rfl)) hn⟩
    have h56 : ρ (.tmp 56) = .slice X b.length d := hd 56 (by kernel_rfl)
    exact Lin.Runs.value Lin.keeps (v := .int .i64 (b.length : Int)) (by simp [execOp, go_sem, hC, hF, h56]) rfl
  · intro ρ wq hb ho hc hd
    have hC : ∀ v, ρ (.const v) = v := fun v => hc _ (by intro t e; cases e)
    have hF : ∀ f, ρ (.func f) = .func (.func f) #[] #[] := fun f => hc _ (by intro t e; cases e)
    intro t ht; cases (show some 51 = some t from ht)
    refine ⟨fun _ => ?_, fun hn => absurd (hd 51 (by kernel_rfl)) hn⟩
    have h55 : ρ (.tmp 55) = .int .i64 (a.length : Int) := hd 55 (by kernel_rfl)
    have h57 : ρ (.tmp 57) = .int .i64 (b.length : Int) := hd 57 (by kernel_rfl)
    exact Lin.Runs.value Lin.keeps (v := .int .i64 ((a.length : Int) + (b.length : Int))) (by simp [execOp, go_sem, hC, hF, h55, h57, W1.out]) rfl
  · intro ρ wq hb ho hc hd
    have hC : ∀ v, ρ (.const v) = v := fun v => hc _ (by intro t e; cases e)
    have hF : ∀ f, ρ (.func f) = .func (.func f) #[] #[] := fun f => hc _ (by intro t e; cases e)
    intro t ht; cases (show some 51 = some t from ht)
    refine ⟨fun _ => ?_, fun hn => absurd (hd 51 (by kernel_rfl)) hn⟩
    have h13 : ρ (.tmp 13) = .int .i64 ((b.length : Int) - (k : Int)) := ho 13 (by kernel_rfl)
    exact Lin.Runs.value Lin.keeps (Lin.exec_move rfl) h13
  · intro ρ wq hb ho hc hd
    have hC : ∀ v, ρ (.const v) = v := fun v => hc _ (by intro t e; cases e)
    have hF : ∀ f, ρ (.func f) = .func (.func f) #[] #[] := fun f => hc _ (by intro t e; cases e)
    intro t ht; cases (show some 51 = some t from ht)
    refine ⟨fun _ => ?_, fun hn => absurd (hd 51 (by kernel_rfl)) hn⟩
    have h58 : ρ (.tmp 58) = .int .i64 ((a.length : Int) + (b.length : Int)) := hd 58 (by kernel_rfl)
    have h59 : ρ (.tmp 59) = .int .i64 ((b.length : Int) - (k : Int)) := hd 59 (by kernel_rfl)
    exact Lin.Runs.value Lin.keeps (v := .int .i64 ((a.length + k : Nat) : Int)) (by simp [execOp, go_sem, hC, hF, h58, h59, W2.out]) rfl
  · intro ρ wq hb ho hc hd
    have hC : ∀ v, ρ (.const v) = v := fun v => hc _ (by intro t e; cases e)
    have hF : ∀ f, ρ (.func f) = .func (.func f) #[] #[] := fun f => hc _ (by intro t e; cases e)
    intro t ht; cases (show some 51 = some t from ht)
    refine ⟨fun _ => ?_, fun hn => absurd (hd 51 (by kernel_rfl)) hn⟩
    have h53 : ρ (.tmp 53) = .int .i64 ((a.length + k : Nat) : Int) := hd 53 (by kernel_rfl)
    have h60 : ρ (.tmp 60) = .int .i64 ((a.length + k : Nat) : Int) := hd 60 (by kernel_rfl)
    exact Lin.Runs.value Lin.keeps (v := .bool true) (by simp [execOp, go_sem, hC, hF, h53, h60]) rfl
  · intro ρ wq hb ho hc hd
    have hC : ∀ v, ρ (.const v) = v := fun v => hc _ (by intro t e; cases e)
    have hF : ∀ f, ρ (.func f) = .func (.func f) #[] #[] := fun f => hc _ (by intro t e; cases e)
    have h51 : ρ (.tmp 51) = .bool true := hd 51 (by kernel_rfl)
    have h61 : ρ (.tmp 61) = .bool true := hd 61 (by kernel_rfl)
    exact Lin.Runs.value Lin.keeps (v := .bool true) (by simp [execOp, go_sem, hC, hF, h51, h61]) rfl
  · intro ρ wq hb ho hc hd
    have hC : ∀ v, ρ (.const v) = v := fun v => hc _ (by intro t e; cases e)
    have hF : ∀ f, ρ (.func f) = .func (.func f) #[] #[] := fun f => hc _ (by intro t e; cases e)
    have h62 : ρ (.tmp 62) = .bool true := hd 62 (by kernel_rfl)
    exact Lin.Runs.value Lin.keeps (Lin.exec_move rfl) h62
  · intro ρ wq hb ho hc hd
    have hC : ∀ v, ρ (.const v) = v := fun v => hc _ (by intro t e; cases e)
    have hF : ∀ f, ρ (.func f) = .func (.func f) #[] #[] := fun f => hc _ (by intro t e; cases e)
    intro t ht; cases (show some 63 = some t from ht)
    refine ⟨fun _ => ?_, fun hn => absurd (hd 63 (by kernel_rfl)) hn⟩
    have h14 : ρ (.tmp 14) = .slice A9 (a.length + k) c9 := ho 14 (by kernel_rfl)
    exact Lin.Runs.value Lin.keeps (Lin.exec_move rfl) h14
  · intro ρ wq hb ho hc hd
    have hC : ∀ v, ρ (.const v) = v := fun v => hc _ (by intro t e; cases e)
    have hF : ∀ f, ρ (.func f) = .func (.func f) #[] #[] := fun f => hc _ (by intro t e; cases e)
    intro t ht; cases (show some 63 = some t from ht)
    refine ⟨fun _ => ?_, fun hn => absurd (hd 63 (by kernel_rfl)) hn⟩
    have h0 : ρ (.tmp 0) = .slice A a.length c := ho 0 (by kernel_rfl)
    exact Lin.Runs.value Lin.keeps (Lin.exec_move rfl) h0
  · intro ρ wq hb ho hc hd
    have hC : ∀ v, ρ (.const v) = v := fun v => hc _ (by intro t e; cases e)
    have hF : ∀ f, ρ (.func f) = .func (.func f) #[] #[] := fun f => hc _ (by intro t e; cases e)
    intro t ht; cases (show some 63 = some t from ht)
    refine ⟨fun _ => ?_, fun hn => absurd (hd 63 (by kernel_rfl)) hn⟩
    have h65 : ρ (.tmp 65) = .slice A a.length c := hd 65 (by kernel_rfl)
    exact Lin.Runs.value Lin.keeps (v := .int .i64 (a.length : Int)) (by simp [execOp, go_sem, hC, hF, h65]) rfl
  · intro ρ wq hb ho hc hd
    have hC : ∀ v, ρ (.const v) = v := fun v => hc _ (by intro t e; cases e)
    have hF : ∀ f, ρ (.func f) = .func (.func f) #[] #[] := fun f => hc _ (by intro t e; cases e)
    intro t ht; cases (show some 63 = some t from ht)
    refine ⟨fun _ => ?_, fun hn => absurd (hd 63 (by kernel_rfl)) hn⟩
    have h64 : ρ (.tmp 64) = .slice A9 (a.length + k) c9 := hd 64 (by kernel_rfl)
    have h66 : ρ (.tmp 66) = .int .i64 (a.length : Int) := hd 66 (by kernel_rfl)
    exact Lin.Runs.value Lin.keeps (v := .slice A9 a.length c9) (by simp [execOp, go_sem, hC, hF, h64, h66, s1, s2]) rfl
  · intro ρ wq hb ho hc hd
    have hC : ∀ v, ρ (.const v) = v := fun v => hc _ (by intro t e; cases e)
    have hF : ∀ f, ρ (.func f) = .func (.func f) #[] #[] := fun f => hc _ (by intro t e; cases e)
    intro t ht; cases (show some 63 = some t from ht)
    refine ⟨fun _ => ?_, fun hn => absurd (hd 63 (by kernel_rfl)) hn⟩
    have h67 : ρ (.tmp 67) = .slice A9 a.length c9 := hd 67 (by kernel_rfl)
    exact Lin.Runs.value Lin.keeps (Lin.exec_convert rfl (by rw [h67]; exact (HALL.out.st hb).conv)) rfl
  · intro ρ wq hb ho hc hd
    have hC : ∀ v, ρ (.const v) = v := fun v => hc _ (by intro t e; cases e)
    have hF : ∀ f, ρ (.func f) = .func (.func f) #[] #[] := fun f => hc _ (by intro t e; cases e)
    intro t ht; cases (show some 63 = some t from ht)
    refine ⟨fun _ => ?_, fun hn => absurd (hd 63 (by kernel_rfl)) hn⟩
    have h0 : ρ (.tmp 0) = .slice A a.length c := ho 0 (by kernel_rfl)
    exact Lin.Runs.value Lin.keeps (Lin.exec_move rfl) h0
  · intro ρ wq hb ho hc hd
    have hC : ∀ v, ρ (.const v) = v := fun v => hc _ (by intro t e; cases e)
    have hF : ∀ f, ρ (.func f) = .func (.func f) #[] #[] := fun f => hc _ (by intro t e; cases e)
    intro t ht; cases (show some 63 = some t from ht)
    refine ⟨fun _ => ?_, fun hn => absurd (hd 63 (by kernel_rfl)) hn⟩
    have h69 : ρ (.tmp 69) = .slice A a.length c := hd 69 (by kernel_rfl)
    exact Lin.Runs.value Lin.keeps (Lin.exec_convert rfl (by rw [h69]; exact (HA.out.st (HB.out.trans (hb.mono HB.out.size))).conv)) rfl
  · intro ρ wq hb ho hc hd
    have hC : ∀ v, ρ (.const v) = v := fun v => hc _ (by intro t e; cases e)
    have hF : ∀ f, ρ (.func f) = .func (.func f) #[] #[] := fun f => hc _ (by intro t e; cases e)
    intro t ht; cases (show some 63 = some t from ht)
    refine ⟨fun _ => ?_, fun hn => absurd (hd 63 (by kernel_rfl)) hn⟩
    have h68 : ρ (.tmp 68) = .string (strOfNums a) := hd 68 (by kernel_rfl)
    have h70 : ρ (.tmp 70) = .string (strOfNums a) := hd 70 (by kernel_rfl)
    exact Lin.Runs.value Lin.keeps (v := .bool true) (by simp [execOp, go_sem, hC, hF, h68, h70]) rfl
  · intro ρ wq hb ho hc hd
    have hC : ∀ v, ρ (.const v) = v := fun v => hc _ (by intro t e; cases e)
    have hF : ∀ f, ρ (.func f) = .func (.func f) #[] #[] := fun f => hc _ (by intro t e; cases e)
    have h63 : ρ (.tmp 63) = .bool true := hd 63 (by kernel_rfl)
    have h71 : ρ (.tmp 71) = .bool true := hd 71 (by kernel_rfl)
    exact Lin.Runs.value Lin.keeps (v := .bool true) (by simp [execOp, go_sem, hC, hF, h63, h71]) rfl
  · intro ρ wq hb ho hc hd
    have hC : ∀ v, ρ (.const v) = v := fun v => hc _ (by intro t e; cases e)
    have hF : ∀ f, ρ (.func f) = .func (.func f) #[] #[] := fun f => hc _ (by intro t e; cases e)
    have h72 : ρ (.tmp 72) = .bool true := hd 72 (by kernel_rfl)
    exact Lin.Runs.value Lin.keeps (Lin.exec_move rfl) h72
  · intro ρ wq hb ho hc hd
    have hC : ∀ v, ρ (.const v) = v := fun v => hc _ (by intro t e; cases e)
    have hF : ∀ f, ρ (.func f) = .func (.func f) #[] #[] := fun f => hc _ (by intro t e; cases e)
    intro t ht; cases (show some 73 = some t from ht)
    refine ⟨fun _ => ?_, fun hn => absurd (hd 73 (by kernel_rfl)) hn⟩
    have h9 : ρ (.tmp 9) = .pointer (some ⟨g, 0, none⟩) := ho 9 (by kernel_rfl)
    exact Lin.Runs.value Lin.keeps (Lin.exec_move rfl) h9
  · intro ρ wq hb ho hc hd
    have hC : ∀ v, ρ (.const v) = v := fun v => hc _ (by intro t e; cases e)
    have hF : ∀ f, ρ (.func f) = .func (.func f) #[] #[] := fun f => hc _ (by intro t e; cases e)
    intro t ht; cases (show some 73 = some t from ht)
    refine ⟨fun _ => ?_, fun hn => absurd (hd 73 (by kernel_rfl)) hn⟩
    have h74 : ρ (.tmp 74) = .pointer (some ⟨g, 0, none⟩) := hd 74 (by kernel_rfl)
    refine Lin.Runs.call Lin.keeps (f := 57) (args := #[.pointer (some ⟨g, 0, none⟩)]) (by simp [execOp, go_sem, hC, hF, h74]) ?_
    exact (safe_any g 1000 _ 1 l' wq (HD.out.below hb)).mono fun e w9 ⟨he, hw⟩ => ⟨_, he, by subst hw; exact Below.refl _ _, rfl⟩
  · intro ρ wq hb ho hc hd
    have hC : ∀ v, ρ (.const v) = v := fun v => hc _ (by intro t e; cases e)
    have hF : ∀ f, ρ (.func f) = .func (.func f) #[] #[] := fun f => hc _ (by intro t e; cases e)
    intro t ht; cases (show some 73 = some t from ht)
    refine ⟨fun _ => ?_, fun hn => absurd (hd 73 (by kernel_rfl)) hn⟩
    have h14 : ρ (.tmp 14) = .slice A9 (a.length + k) c9 := ho 14 (by kernel_rfl)
    exact Lin.Runs.value Lin.keeps (Lin.exec_move rfl) h14
  · intro ρ wq hb ho hc hd
    have hC : ∀ v, ρ (.const v) = v := fun v => hc _ (by intro t e; cases e)
    have hF : ∀ f, ρ (.func f) = .func (.func f) #[] #[] := fun f => hc _ (by intro t e; cases e)
    intro t ht; cases (show some 73 = some t from ht)
    refine ⟨fun _ => ?_, fun hn => absurd (hd 73 (by kernel_rfl)) hn⟩
    have h76 : ρ (.tmp 76) = .slice A9 (a.length + k) c9 := hd 76 (by kernel_rfl)
    exact Lin.Runs.value Lin.keeps (v := .int .i64 ((a.length + k : Nat) : Int)) (by simp [execOp, go_sem, hC, hF, h76]) rfl
  · intro ρ wq hb ho hc hd
    have hC : ∀ v, ρ (.const v) = v := fun v => hc _ (by intro t e; cases e)
    have hF : ∀ f, ρ (.func f) = .func (.func f) #[] #[] := fun f => hc _ (by intro t e; cases e)
    intro t ht; cases (show some 73 = some t from ht)
    refine ⟨fun _ => ?_, fun hn => absurd (hd 73 (by kernel_rfl)) hn⟩
    have h75 : ρ (.tmp 75) = .int .i64 ((a.length + k : Nat) : Int) := hd 75 (by kernel_rfl)
    have h77 : ρ (.tmp 77) = .int .i64 ((a.length + k : Nat) : Int) := hd 77 (by kernel_rfl)
    exact Lin.Runs.value Lin.keeps (v := .bool true) (by simp [execOp, go_sem, hC, hF, h75, h77]) rfl
  · intro ρ wq hb ho hc hd
    have hC : ∀ v, ρ (.const v) = v := fun v => hc _ (by intro t e; cases e)
    have hF : ∀ f, ρ (.func f) = .func (.func f) #[] #[] := fun f => hc _ (by intro t e; cases e)
    have h73 : ρ (.tmp 73) = .bool true := hd 73 (by kernel_rfl)
    have h78 : ρ (.tmp 78) = .bool true := hd 78 (by kernel_rfl)
    exact Lin.Runs.value Lin.keeps (v := .bool true) (by simp [execOp, go_sem, hC, hF, h73, h78]) rfl
  · intro ρ wq hb ho hc hd
    have hC : ∀ v, ρ (.const v) = v := fun v => hc _ (by intro t e; cases e)
    have hF : ∀ f, ρ (.func f) = .func (.func f) #[] #[] := fun f => hc _ (by intro t e; cases e)
    have h79 : ρ (.tmp 79) = .bool true := hd 79 (by kernel_rfl)
    exact Lin.Runs.value Lin.keeps (Lin.exec_move rfl) h79
  · intro ρ wq hb ho hc hd
    have hC : ∀ v, ρ (.const v) = v := fun v => hc _ (by intro t e; cases e)
    have hF : ∀ f, ρ (.func f) = .func (.func f) #[] #[] := fun f => hc _ (by intro t e; cases e)
    intro t ht; cases (show some 80 = some t from ht)
    refine ⟨fun _ => ?_, fun hn => absurd (hd 80 (by kernel_rfl)) hn⟩
    refine Lin.Runs.call Lin.keeps (f := 51) (args := #[]) (by simp [execOp, go_sem, hC, hF]) ?_
    exact (awake24 wq).mono fun e w9 ⟨he, hb9⟩ => ⟨_, he, hb9, rfl⟩
  · intro ρ wq hb ho hc hd
    have hC : ∀ v, ρ (.const v) = v := fun v => hc _ (by intro t e; cases e)
    have hF : ∀ f, ρ (.func f) = .func (.func f) #[] #[] := fun f => hc _ (by intro t e; cases e)
    have h80 : ρ (.tmp 80) = .bool true := hd 80 (by kernel_rfl)
    have h81 : ρ (.tmp 81) = .bool true := hd 81 (by kernel_rfl)
    exact Lin.Runs.value Lin.keeps (v := .bool true) (by simp [execOp, go_sem, hC, hF, h80, h81]) rfl
  · intro ρ wq hb ho hc hd
    have hC : ∀ v, ρ (.const v) = v := fun v => hc _ (by intro t e; cases e)
    have hF : ∀ f, ρ (.func f) = .func (.func f) #[] #[] := fun f => hc _ (by intro t e; cases e)
    have h82 : ρ (.tmp 82) = .bool true := hd 82 (by kernel_rfl)
    exact Lin.Runs.value Lin.keeps (Lin.exec_assign rfl) h82
  · intro vals w9 hb9 hv
    have e8 : vals 8 = .bool true := hv 8 (by kernel_rfl)
    simp only [Lin.putAll, Option.getD_some]
    rw [e8]
    have HB9 := Lib.hid (HB.out.trans (hb9.mono HB.out.size))
    clear hv hb9
    go_simp
    generalize vals = vv
    go_wp2_with fail
    go_ret
    exact ⟨rfl, HB9.out⟩
set_option maxHeartbeats 1000000 in
theorem walk (A X : Option Addr) (c d : Nat) (a b : List Int) (keep bits : Int) (w : World) (ha : IsB a a.length (.slice A a.length c) w) (hb : IsB b b.length (.slice X b.length d) w) (ma : a.length ≤ maxLen) (mb : b.length ≤ maxLen) :
    Calls Try.prog 11 #[.slice A a.length c, .slice X b.length d, .int .i64 keep, .int .u8 bits] w fun e w' => e = .returned (.bool true) ∧ Below w.heap.size w w' := by
  unfold maxLen at ma mb
  by_cases h1 : a.length ≤ 500 ∧ b.length ≤ 500
  · exact walk_ok A X c d a b keep bits w ha hb h1.1 h1.2
  · clear ha hb
    by_cases h2 : 500 < a.length
    all_goals
      (try have h3 : 500 < b.length := by omega)
      clear h1
      go_enter Try.func11, Try.ntmps11
      go_wp2_with fail
      refine (awake24 _).mono ?_
      rintro e w0 ⟨rfl, hb0⟩
      have HB0 := Lib.hid hb0
      clear hb0
      go_wp2_with fail
      refine (awake24 _).mono ?_
      rintro e w1 ⟨rfl, hb1⟩
      have HB1 := Lib.hid (HB0.out.trans (hb1.mono HB0.out.size))
      clear hb1
      go_wp2_with fail
      go_ret
      exact ⟨rfl, HB1.out⟩

/-! ### The step from the walk to the row -/
set_option maxRecDepth 100000 in
theorem lifted (os : Os) (started : os.Started) (H : Type) (enc : TypeId × Value → H) :
    ReturnsInHanded {} Try.checked os 11 .any (Rows.diskKeepsSpec.pre6 enc Try.prog Try.f11 Rows.diskKeepsRow.domain false) (Rows.diskKeepsSpec.post enc Try.prog Try.f11 false true false false) := by
  refine returnsInHanded_of_change (C := Try.checked) own started (by kernel_rfl) Try.func11
    (ChangeSpec.witness6 (enc := enc) (C := Try.checked) false ⟨#[], #[.slice none 0 0, .slice none 0 0, .int .i64 0, .int .u8 0], []⟩ 8 (by kernel_rfl) (by kernel_rfl) (by kernel_rfl) (by kernel_rfl)) ?_
  intro W base args ds gs before hval0 hW hcnd _
  have hval : ∀ (j : Nat) t v, Try.f11.params[j]? = some t → args[j]? = some v → Value.okWide Try.prog W .any base t v := hval0
  have hW' := hW
  obtain ⟨p, q, hA0, hV, rfl, hfz, hnd⟩ := hW
  have hA : DataW.TrodAll enc Try.prog W 0 (fun _ => true) true Try.f11.params.toList args.toList ds p := hA0
  rw [Try.params11] at hA hval
  obtain ⟨v0, vs0, d0, ds0, p0, q0, hargs, rfl, rfl, h0, r0⟩ := trodAll_cons hA
  obtain ⟨v1, vs1, d1, ds1, p1, q1, rfl, rfl, rfl, h1, r1⟩ := trodAll_cons r0
  obtain ⟨v2, vs2, d2, ds2, p2, q2, rfl, rfl, rfl, h2, r2⟩ := trodAll_cons r1
  obtain ⟨v3, vs3, d3, ds3, p3, q3, rfl, rfl, rfl, h3, r3⟩ := trodAll_cons r2
  obtain ⟨rfl, rfl, rfl⟩ := trodAll_nil r3
  obtain rfl : args = #[v0, v1, v2, v3] := by cases args; simp_all
  obtain ⟨rfl, rfl⟩ := trodVars_none hV
  have k0 := h0
  have lt0 : ∀ x ∈ p0, x.block < W.heap.size := by obtain ⟨m, hm⟩ := k0; exact DataW.trod_lt m _ _ _ hm
  have ok0 := hval 0 81 v0 rfl rfl
  have k1 := h1
  have lt1 : ∀ x ∈ p1, x.block < W.heap.size := by obtain ⟨m, hm⟩ := k1; exact DataW.trod_lt m _ _ _ hm
  have ok1 := hval 1 81 v1 rfl rfl
  have k2 := h2
  have lt2 : ∀ x ∈ p2, x.block < W.heap.size := by obtain ⟨m, hm⟩ := k2; exact DataW.trod_lt m _ _ _ hm
  have ok2 := hval 2 3 v2 rfl rfl
  have k3 := h3
  have lt3 : ∀ x ∈ p3, x.block < W.heap.size := by obtain ⟨m, hm⟩ := k3; exact DataW.trod_lt m _ _ _ hm
  have ok3 := hval 3 5 v3 rfl rfl
  clear hA0 hval0
  obtain ⟨A, na, c, rfl⟩ := okWide_slice Try.underlying81 ok0
  obtain ⟨a, rfl, oa, ha, hba⟩ := open_isb (e := 5) Try.underlying81 Try.underlying5 (by kernel_rfl) h0
  obtain ⟨X, nx, d, rfl⟩ := okWide_slice Try.underlying81 ok1
  obtain ⟨b, rfl, ob, hx, hbx⟩ := open_isb (e := 5) Try.underlying81 Try.underlying5 (by kernel_rfl) h1
  obtain ⟨keep, rfl, rfl, rfl, w1⟩ := open_int Try.underlying3 ok2 h2
  obtain ⟨bits, rfl, rfl, rfl, w2⟩ := open_int Try.underlying5 ok3 h3
  have m0 := ha.maxlen
  have m1 := hx.maxlen
  refine (walk A X c d a b keep bits W ha hx m0 m1).mono fun e W' ⟨he, bel⟩ => ?_
  subst he
  exact ⟨_, rfl, _, _, _, [], _, [], hW', trodAll_mk1 (shut_bool Try.underlying4 _), (trodAll_cons_mk (Below.trod laidOut (by kernel_rfl) (of_decide_eq_true (by kernel_rfl)) k0 bel lt0) (trodAll_cons_mk (Below.trod laidOut (by kernel_rfl) (of_decide_eq_true (by kernel_rfl)) k1 bel lt1) (trodAll_cons_mk (Below.trod laidOut (by kernel_rfl) (of_decide_eq_true (by kernel_rfl)) k2 bel lt2) (trodAll_cons_mk (Below.trod laidOut (by kernel_rfl) (of_decide_eq_true (by kernel_rfl)) k3 bel lt3) trodAll_mk0)))), rfl, bel.frame _, fun h => by cases h⟩

theorem over : Rows.diskKeepsRow.holds Try.pinned (OpenSpec.ofChange Rows.diskKeepsSpec) :=
  OpenClaim.holds_of_wide 11 Try.f11 rfl rfl rfl rfl rfl rfl rfl ⟨rfl, rfl, rfl, rfl, rfl⟩ rfl rfl rfl rfl rfl (by kernel_rfl) Try.func11 (by kernel_rfl)
    (of_decide_eq_true (by kernel_rfl)) (by unfold Func.isWrapper; first | (rw [if_pos (by decide +kernel)]; kernel_rfl) | (rw [if_neg (by decide +kernel)]; exact ⟨rfl, rfl⟩))
    (fun os started H enc _ => lifted os started H enc)

theorem proved : Rows.DiskKeepsSaid := over
#print axioms proved
end Go.Proofs.Ytkebgkjopfdafaa.diskKeeps
