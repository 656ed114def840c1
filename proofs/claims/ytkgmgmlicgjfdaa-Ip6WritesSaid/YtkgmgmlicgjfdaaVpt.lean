/-
  Put of package varint. Helper of the claim VarintPuts. No condition.
-/
import Derived.Test.YtkgmgmlicgjfdaaVq
import Derived.Test.YtkgmgmlicgjfdaaRef01
import Derived.Test.YtkgmgmlicgjfdaaLin
import Derived.Test.YtkgmgmlicgjfdaaLinB
import Derived.Test.YtkgmgmlicgjfdaaIcmp
namespace Go.Proofs.Ytkgmgmlicgjfdaa
open Go.ChangeShapes Go.WideShapes Go.ChangeAt Go.RowKit
set_option linter.unusedVariables false
set_option maxRecDepth 100000
theorem or_join (i a n : Nat) (hi : n < 2 ^ i) (h : 2 ^ i * a + n < 18446744073709551616) : bits .or .u64 ((2 ^ i * a : Nat) : Int) (n : Int) = ((2 ^ i * a + n : Nat) : Int) := by
  rw [u64_or_nat _ _ (by omega) (by omega), Nat.two_pow_add_eq_or_of_lt hi]
set_option maxHeartbeats 4000000 in
theorem vput_0 (A : Option Addr) (c : Nat) (l : List Int) (n : Nat) (w : World) (hv : IsB l l.length (.slice A l.length c) w) (hm : l.length ≤ 80000000) (hlo : 0 ≤ n) (hhi : n < 64) :
    Calls Try.prog 50 #[.slice A l.length c, .int .u64 (n : Int)] w fun e w' => ∃ v, e = .returned (.tuple #[v, .int .i64 0]) ∧ Below w.heap.size w w' ∧ IsB (l ++ be (0 + n) 1) (l ++ be (0 + n) 1).length v w' := by
  have HV := hide hv
  clear hv
  have HJ := Lib.hid (show bits .or .u64 0 (n : Int) = ((0 + n : Nat) : Int) from or_join 6 0 n (by omega) (by omega))
  go_enter Try.func50, Try.ntmps50
  go_wp2_with fail
  refine (vpower n (by omega) _).mono ?_
  rintro e w1 ⟨rfl, ⟨k, hk, rfl, h1, h2⟩ | ⟨rfl, h1⟩⟩
  · obtain rfl : k = 0 := by
      have h : k = 0 ∨ k = 1 ∨ k = 2 ∨ k = 3 := by omega
      have g0 := h2 0; have g1 := h2 1; have g2 := h2 2
      rcases h with rfl | rfl | rfl | rfl <;> simp [vbd] at h1 g0 g1 g2 <;> omega
    clear h1 h2 hk
    go_wp2_with fail
    refine Lin.wp_region_lin Lin.keeps (n := 26)  (fun slotq => match slotq with | 15 => Lin.Spec.val (.slice A l.length c) | 16 => Lin.Spec.val (.int .i64 0) | 17 => Lin.Spec.val (.int .u64 0) | 18 => Lin.Spec.val (.int .i64 0) | 19 => Lin.Spec.val (.int .u64 64) | 20 => Lin.Spec.val (.int .u64 0) | 21 => Lin.Spec.val (.int .u64 (n : Int)) | 22 => Lin.Spec.val (.int .u64 ((0 + n : Nat) : Int)) | 23 => Lin.Spec.val (.int .i64 0) | 24 => Lin.Spec.val (.int .i64 1) | 25 => Lin.Spec.sl (l ++ be (0 + n) 1) (l ++ be (0 + n) 1).length | 4 => Lin.Spec.sl (l ++ be (0 + n) 1) (l ++ be (0 + n) 1).length | 5 => Lin.Spec.val (.int .i64 0) | _ => Lin.Spec.any) (by kernel_rfl) rfl (by kernel_rfl) ⟨?_, ?_, ?_, ?_, ?_, ?_, ?_, ?_, ?_, ?_, ?_, ?_, ?_, trivial⟩ ?_
    · intro ρ wq hb ho hc hd
      have hC : ∀ v, ρ (.const v) = v := fun v => hc _ (by intro t e; cases e)
      have hF : ∀ f, ρ (.func f) = .func (.func f) #[] #[] := fun f => hc _ (by intro t e; cases e)
      have h0 : ρ (.tmp 0) = .slice A l.length c := ho 0 (by kernel_rfl)
      exact Lin.Runs.value Lin.keeps (Lin.exec_move rfl) h0
    · intro ρ wq hb ho hc hd
      have hC : ∀ v, ρ (.const v) = v := fun v => hc _ (by intro t e; cases e)
      have hF : ∀ f, ρ (.func f) = .func (.func f) #[] #[] := fun f => hc _ (by intro t e; cases e)
      have h6 : ρ (.tmp 6) = .int .i64 0 := ho 6 (by kernel_rfl)
      exact Lin.Runs.value Lin.keeps (Lin.exec_move rfl) h6
    · intro ρ wq hb ho hc hd
      have hC : ∀ v, ρ (.const v) = v := fun v => hc _ (by intro t e; cases e)
      have hF : ∀ f, ρ (.func f) = .func (.func f) #[] #[] := fun f => hc _ (by intro t e; cases e)
      have h16 : ρ (.tmp 16) = .int .i64 0 := hd 16 (by kernel_rfl)
      exact Lin.Runs.value Lin.keeps (v := .int .u64 0) (by simp [execOp, go_sem, hC, hF, h16]; first | done | rfl | decide) rfl
    · intro ρ wq hb ho hc hd
      have hC : ∀ v, ρ (.const v) = v := fun v => hc _ (by intro t e; cases e)
      have hF : ∀ f, ρ (.func f) = .func (.func f) #[] #[] := fun f => hc _ (by intro t e; cases e)
      have h6 : ρ (.tmp 6) = .int .i64 0 := ho 6 (by kernel_rfl)
      exact Lin.Runs.value Lin.keeps (Lin.exec_move rfl) h6
    · intro ρ wq hb ho hc hd
      have hC : ∀ v, ρ (.const v) = v := fun v => hc _ (by intro t e; cases e)
      have hF : ∀ f, ρ (.func f) = .func (.func f) #[] #[] := fun f => hc _ (by intro t e; cases e)
      have h18 : ρ (.tmp 18) = .int .i64 0 := hd 18 (by kernel_rfl)
      refine Lin.Runs.call Lin.keeps (f := 111) (args := #[.int .i64 0]) (by simp [execOp, go_sem, hC, hF, h18]) ?_
      exact (vbound 0 (by omega) wq).mono fun e w9 ⟨he, hw⟩ => ⟨_, he, by subst hw; exact Below.refl _ _, rfl⟩
    · intro ρ wq hb ho hc hd
      have hC : ∀ v, ρ (.const v) = v := fun v => hc _ (by intro t e; cases e)
      have hF : ∀ f, ρ (.func f) = .func (.func f) #[] #[] := fun f => hc _ (by intro t e; cases e)
      have h17 : ρ (.tmp 17) = .int .u64 0 := hd 17 (by kernel_rfl)
      have h19 : ρ (.tmp 19) = .int .u64 64 := hd 19 (by kernel_rfl)
      exact Lin.Runs.value Lin.keeps (v := .int .u64 0) (by simp [execOp, go_sem, hC, hF, h17, h19]; first | done | rfl | decide) rfl
    · intro ρ wq hb ho hc hd
      have hC : ∀ v, ρ (.const v) = v := fun v => hc _ (by intro t e; cases e)
      have hF : ∀ f, ρ (.func f) = .func (.func f) #[] #[] := fun f => hc _ (by intro t e; cases e)
      have h1 : ρ (.tmp 1) = .int .u64 (n : Int) := ho 1 (by kernel_rfl)
      exact Lin.Runs.value Lin.keeps (Lin.exec_move rfl) h1
    · intro ρ wq hb ho hc hd
      have hC : ∀ v, ρ (.const v) = v := fun v => hc _ (by intro t e; cases e)
      have hF : ∀ f, ρ (.func f) = .func (.func f) #[] #[] := fun f => hc _ (by intro t e; cases e)
      have h20 : ρ (.tmp 20) = .int .u64 0 := hd 20 (by kernel_rfl)
      have h21 : ρ (.tmp 21) = .int .u64 (n : Int) := hd 21 (by kernel_rfl)
      exact Lin.Runs.value Lin.keeps (v := .int .u64 ((0 + n : Nat) : Int)) (by simp [execOp, go_sem, hC, hF, h20, h21]; first | done | exact HJ.out | simpa using HJ.out) rfl
    · intro ρ wq hb ho hc hd
      have hC : ∀ v, ρ (.const v) = v := fun v => hc _ (by intro t e; cases e)
      have hF : ∀ f, ρ (.func f) = .func (.func f) #[] #[] := fun f => hc _ (by intro t e; cases e)
      have h6 : ρ (.tmp 6) = .int .i64 0 := ho 6 (by kernel_rfl)
      exact Lin.Runs.value Lin.keeps (Lin.exec_move rfl) h6
    · intro ρ wq hb ho hc hd
      have hC : ∀ v, ρ (.const v) = v := fun v => hc _ (by intro t e; cases e)
      have hF : ∀ f, ρ (.func f) = .func (.func f) #[] #[] := fun f => hc _ (by intro t e; cases e)
      have h23 : ρ (.tmp 23) = .int .i64 0 := hd 23 (by kernel_rfl)
      exact Lin.Runs.value Lin.keeps (v := .int .i64 1) (by simp [execOp, go_sem, hC, hF, h23]; first | done | rfl | decide) rfl
    · intro ρ wq hb ho hc hd
      have hC : ∀ v, ρ (.const v) = v := fun v => hc _ (by intro t e; cases e)
      have hF : ∀ f, ρ (.func f) = .func (.func f) #[] #[] := fun f => hc _ (by intro t e; cases e)
      have h15 : ρ (.tmp 15) = .slice A l.length c := hd 15 (by kernel_rfl)
      have h22 : ρ (.tmp 22) = .int .u64 ((0 + n : Nat) : Int) := hd 22 (by kernel_rfl)
      have h24 : ρ (.tmp 24) = .int .i64 1 := hd 24 (by kernel_rfl)
      refine Lin.Runs.call Lin.keeps (f := 89) (args := #[.slice A l.length c, .int .u64 ((0 + n : Nat) : Int), .int .i64 1]) (by simp [execOp, go_sem, hC, hF, h15, h22, h24]) ?_
      exact put_p (0 + n) 1 (HV.out.st hb) hm (by omega) (by omega) (by omega)
    · intro ρ wq hb ho hc hd
      have hC : ∀ v, ρ (.const v) = v := fun v => hc _ (by intro t e; cases e)
      have hF : ∀ f, ρ (.func f) = .func (.func f) #[] #[] := fun f => hc _ (by intro t e; cases e)
      have h25 := hd 25 (by kernel_rfl)
      exact Lin.Runs.value Lin.keeps (Lin.exec_assign rfl) h25
    · intro ρ wq hb ho hc hd
      have hC : ∀ v, ρ (.const v) = v := fun v => hc _ (by intro t e; cases e)
      have hF : ∀ f, ρ (.func f) = .func (.func f) #[] #[] := fun f => hc _ (by intro t e; cases e)
      exact Lin.Runs.value Lin.keeps (Lin.exec_assign rfl) (hc _ (by intro t e; cases e))
    · intro vals w9 hb hv
      have e4 : IsB (l ++ be (0 + n) 1) (l ++ be (0 + n) 1).length (vals 4) w9 := hv 4 (by kernel_rfl)
      have e5 : vals 5 = .int .i64 0 := hv 5 (by kernel_rfl)
      simp only [Lin.putAll, Option.getD_some]
      rw [e5]
      generalize vals 4 = v4 at *
      obtain ⟨A9, c9, rfl⟩ := e4.shape
      have E4 := hide e4
      clear hv e4
      have HB9 := Lib.hid hb
      clear hb
      go_simp
      generalize vals = vv
      go_wp2_with fail
      go_ret2
      exact ⟨.slice A9 (l ++ be (0 + n) 1).length c9, by simp, HB9.out, E4.out⟩
  · omega
set_option maxHeartbeats 4000000 in
theorem vput_1 (A : Option Addr) (c : Nat) (l : List Int) (n : Nat) (w : World) (hv : IsB l l.length (.slice A l.length c) w) (hm : l.length ≤ 80000000) (hlo : 64 ≤ n) (hhi : n < 16384) :
    Calls Try.prog 50 #[.slice A l.length c, .int .u64 (n : Int)] w fun e w' => ∃ v, e = .returned (.tuple #[v, .int .i64 0]) ∧ Below w.heap.size w w' ∧ IsB (l ++ be (16384 + n) 2) (l ++ be (16384 + n) 2).length v w' := by
  have HV := hide hv
  clear hv
  have HJ := Lib.hid (show bits .or .u64 16384 (n : Int) = ((16384 + n : Nat) : Int) from or_join 14 1 n (by omega) (by omega))
  go_enter Try.func50, Try.ntmps50
  go_wp2_with fail
  refine (vpower n (by omega) _).mono ?_
  rintro e w1 ⟨rfl, ⟨k, hk, rfl, h1, h2⟩ | ⟨rfl, h1⟩⟩
  · obtain rfl : k = 1 := by
      have h : k = 0 ∨ k = 1 ∨ k = 2 ∨ k = 3 := by omega
      have g0 := h2 0; have g1 := h2 1; have g2 := h2 2
      rcases h with rfl | rfl | rfl | rfl <;> simp [vbd] at h1 g0 g1 g2 <;> omega
    clear h1 h2 hk
    go_wp2_with fail
    refine Lin.wp_region_lin Lin.keeps (n := 26)  (fun slotq => match slotq with | 15 => Lin.Spec.val (.slice A l.length c) | 16 => Lin.Spec.val (.int .i64 1) | 17 => Lin.Spec.val (.int .u64 1) | 18 => Lin.Spec.val (.int .i64 1) | 19 => Lin.Spec.val (.int .u64 16384) | 20 => Lin.Spec.val (.int .u64 16384) | 21 => Lin.Spec.val (.int .u64 (n : Int)) | 22 => Lin.Spec.val (.int .u64 ((16384 + n : Nat) : Int)) | 23 => Lin.Spec.val (.int .i64 1) | 24 => Lin.Spec.val (.int .i64 2) | 25 => Lin.Spec.sl (l ++ be (16384 + n) 2) (l ++ be (16384 + n) 2).length | 4 => Lin.Spec.sl (l ++ be (16384 + n) 2) (l ++ be (16384 + n) 2).length | 5 => Lin.Spec.val (.int .i64 0) | _ => Lin.Spec.any) (by kernel_rfl) rfl (by kernel_rfl) ⟨?_, ?_, ?_, ?_, ?_, ?_, ?_, ?_, ?_, ?_, ?_, ?_, ?_, trivial⟩ ?_
    · intro ρ wq hb ho hc hd
      have hC : ∀ v, ρ (.const v) = v := fun v => hc _ (by intro t e; cases e)
      have hF : ∀ f, ρ (.func f) = .func (.func f) #[] #[] := fun f => hc _ (by intro t e; cases e)
      have h0 : ρ (.tmp 0) = .slice A l.length c := ho 0 (by kernel_rfl)
      exact Lin.Runs.value Lin.keeps (Lin.exec_move rfl) h0
    · intro ρ wq hb ho hc hd
      have hC : ∀ v, ρ (.const v) = v := fun v => hc _ (by intro t e; cases e)
      have hF : ∀ f, ρ (.func f) = .func (.func f) #[] #[] := fun f => hc _ (by intro t e; cases e)
      have h6 : ρ (.tmp 6) = .int .i64 1 := ho 6 (by kernel_rfl)
      exact Lin.Runs.value Lin.keeps (Lin.exec_move rfl) h6
    · intro ρ wq hb ho hc hd
      have hC : ∀ v, ρ (.const v) = v := fun v => hc _ (by intro t e; cases e)
      have hF : ∀ f, ρ (.func f) = .func (.func f) #[] #[] := fun f => hc _ (by intro t e; cases e)
      have h16 : ρ (.tmp 16) = .int .i64 1 := hd 16 (by kernel_rfl)
      exact Lin.Runs.value Lin.keeps (v := .int .u64 1) (by simp [execOp, go_sem, hC, hF, h16]; first | done | rfl | decide) rfl
    · intro ρ wq hb ho hc hd
      have hC : ∀ v, ρ (.const v) = v := fun v => hc _ (by intro t e; cases e)
      have hF : ∀ f, ρ (.func f) = .func (.func f) #[] #[] := fun f => hc _ (by intro t e; cases e)
      have h6 : ρ (.tmp 6) = .int .i64 1 := ho 6 (by kernel_rfl)
      exact Lin.Runs.value Lin.keeps (Lin.exec_move rfl) h6
    · intro ρ wq hb ho hc hd
      have hC : ∀ v, ρ (.const v) = v := fun v => hc _ (by intro t e; cases e)
      have hF : ∀ f, ρ (.func f) = .func (.func f) #[] #[] := fun f => hc _ (by intro t e; cases e)
      have h18 : ρ (.tmp 18) = .int .i64 1 := hd 18 (by kernel_rfl)
      refine Lin.Runs.call Lin.keeps (f := 111) (args := #[.int .i64 1]) (by simp [execOp, go_sem, hC, hF, h18]) ?_
      exact (vbound 1 (by omega) wq).mono fun e w9 ⟨he, hw⟩ => ⟨_, he, by subst hw; exact Below.refl _ _, rfl⟩
    · intro ρ wq hb ho hc hd
      have hC : ∀ v, ρ (.const v) = v := fun v => hc _ (by intro t e; cases e)
      have hF : ∀ f, ρ (.func f) = .func (.func f) #[] #[] := fun f => hc _ (by intro t e; cases e)
      have h17 : ρ (.tmp 17) = .int .u64 1 := hd 17 (by kernel_rfl)
      have h19 : ρ (.tmp 19) = .int .u64 16384 := hd 19 (by kernel_rfl)
      exact Lin.Runs.value Lin.keeps (v := .int .u64 16384) (by simp [execOp, go_sem, hC, hF, h17, h19]; first | done | rfl | decide) rfl
    · intro ρ wq hb ho hc hd
      have hC : ∀ v, ρ (.const v) = v := fun v => hc _ (by intro t e; cases e)
      have hF : ∀ f, ρ (.func f) = .func (.func f) #[] #[] := fun f => hc _ (by intro t e; cases e)
      have h1 : ρ (.tmp 1) = .int .u64 (n : Int) := ho 1 (by kernel_rfl)
      exact Lin.Runs.value Lin.keeps (Lin.exec_move rfl) h1
    · intro ρ wq hb ho hc hd
      have hC : ∀ v, ρ (.const v) = v := fun v => hc _ (by intro t e; cases e)
      have hF : ∀ f, ρ (.func f) = .func (.func f) #[] #[] := fun f => hc _ (by intro t e; cases e)
      have h20 : ρ (.tmp 20) = .int .u64 16384 := hd 20 (by kernel_rfl)
      have h21 : ρ (.tmp 21) = .int .u64 (n : Int) := hd 21 (by kernel_rfl)
      exact Lin.Runs.value Lin.keeps (v := .int .u64 ((16384 + n : Nat) : Int)) (by simp [execOp, go_sem, hC, hF, h20, h21]; first | done | exact HJ.out | simpa using HJ.out) rfl
    · intro ρ wq hb ho hc hd
      have hC : ∀ v, ρ (.const v) = v := fun v => hc _ (by intro t e; cases e)
      have hF : ∀ f, ρ (.func f) = .func (.func f) #[] #[] := fun f => hc _ (by intro t e; cases e)
      have h6 : ρ (.tmp 6) = .int .i64 1 := ho 6 (by kernel_rfl)
      exact Lin.Runs.value Lin.keeps (Lin.exec_move rfl) h6
    · intro ρ wq hb ho hc hd
      have hC : ∀ v, ρ (.const v) = v := fun v => hc _ (by intro t e; cases e)
      have hF : ∀ f, ρ (.func f) = .func (.func f) #[] #[] := fun f => hc _ (by intro t e; cases e)
      have h23 : ρ (.tmp 23) = .int .i64 1 := hd 23 (by kernel_rfl)
      exact Lin.Runs.value Lin.keeps (v := .int .i64 2) (by simp [execOp, go_sem, hC, hF, h23]; first | done | rfl | decide) rfl
    · intro ρ wq hb ho hc hd
      have hC : ∀ v, ρ (.const v) = v := fun v => hc _ (by intro t e; cases e)
      have hF : ∀ f, ρ (.func f) = .func (.func f) #[] #[] := fun f => hc _ (by intro t e; cases e)
      have h15 : ρ (.tmp 15) = .slice A l.length c := hd 15 (by kernel_rfl)
      have h22 : ρ (.tmp 22) = .int .u64 ((16384 + n : Nat) : Int) := hd 22 (by kernel_rfl)
      have h24 : ρ (.tmp 24) = .int .i64 2 := hd 24 (by kernel_rfl)
      refine Lin.Runs.call Lin.keeps (f := 89) (args := #[.slice A l.length c, .int .u64 ((16384 + n : Nat) : Int), .int .i64 2]) (by simp [execOp, go_sem, hC, hF, h15, h22, h24]) ?_
      exact put_p (16384 + n) 2 (HV.out.st hb) hm (by omega) (by omega) (by omega)
    · intro ρ wq hb ho hc hd
      have hC : ∀ v, ρ (.const v) = v := fun v => hc _ (by intro t e; cases e)
      have hF : ∀ f, ρ (.func f) = .func (.func f) #[] #[] := fun f => hc _ (by intro t e; cases e)
      have h25 := hd 25 (by kernel_rfl)
      exact Lin.Runs.value Lin.keeps (Lin.exec_assign rfl) h25
    · intro ρ wq hb ho hc hd
      have hC : ∀ v, ρ (.const v) = v := fun v => hc _ (by intro t e; cases e)
      have hF : ∀ f, ρ (.func f) = .func (.func f) #[] #[] := fun f => hc _ (by intro t e; cases e)
      exact Lin.Runs.value Lin.keeps (Lin.exec_assign rfl) (hc _ (by intro t e; cases e))
    · intro vals w9 hb hv
      have e4 : IsB (l ++ be (16384 + n) 2) (l ++ be (16384 + n) 2).length (vals 4) w9 := hv 4 (by kernel_rfl)
      have e5 : vals 5 = .int .i64 0 := hv 5 (by kernel_rfl)
      simp only [Lin.putAll, Option.getD_some]
      rw [e5]
      generalize vals 4 = v4 at *
      obtain ⟨A9, c9, rfl⟩ := e4.shape
      have E4 := hide e4
      clear hv e4
      have HB9 := Lib.hid hb
      clear hb
      go_simp
      generalize vals = vv
      go_wp2_with fail
      go_ret2
      exact ⟨.slice A9 (l ++ be (16384 + n) 2).length c9, by simp, HB9.out, E4.out⟩
  · omega
set_option maxHeartbeats 4000000 in
theorem vput_2 (A : Option Addr) (c : Nat) (l : List Int) (n : Nat) (w : World) (hv : IsB l l.length (.slice A l.length c) w) (hm : l.length ≤ 80000000) (hlo : 16384 ≤ n) (hhi : n < 1073741824) :
    Calls Try.prog 50 #[.slice A l.length c, .int .u64 (n : Int)] w fun e w' => ∃ v, e = .returned (.tuple #[v, .int .i64 0]) ∧ Below w.heap.size w w' ∧ IsB (l ++ be (2147483648 + n) 4) (l ++ be (2147483648 + n) 4).length v w' := by
  have HV := hide hv
  clear hv
  have HJ := Lib.hid (show bits .or .u64 2147483648 (n : Int) = ((2147483648 + n : Nat) : Int) from or_join 30 2 n (by omega) (by omega))
  go_enter Try.func50, Try.ntmps50
  go_wp2_with fail
  refine (vpower n (by omega) _).mono ?_
  rintro e w1 ⟨rfl, ⟨k, hk, rfl, h1, h2⟩ | ⟨rfl, h1⟩⟩
  · obtain rfl : k = 2 := by
      have h : k = 0 ∨ k = 1 ∨ k = 2 ∨ k = 3 := by omega
      have g0 := h2 0; have g1 := h2 1; have g2 := h2 2
      rcases h with rfl | rfl | rfl | rfl <;> simp [vbd] at h1 g0 g1 g2 <;> omega
    clear h1 h2 hk
    go_wp2_with fail
    refine Lin.wp_region_lin Lin.keeps (n := 26)  (fun slotq => match slotq with | 15 => Lin.Spec.val (.slice A l.length c) | 16 => Lin.Spec.val (.int .i64 2) | 17 => Lin.Spec.val (.int .u64 2) | 18 => Lin.Spec.val (.int .i64 2) | 19 => Lin.Spec.val (.int .u64 1073741824) | 20 => Lin.Spec.val (.int .u64 2147483648) | 21 => Lin.Spec.val (.int .u64 (n : Int)) | 22 => Lin.Spec.val (.int .u64 ((2147483648 + n : Nat) : Int)) | 23 => Lin.Spec.val (.int .i64 2) | 24 => Lin.Spec.val (.int .i64 4) | 25 => Lin.Spec.sl (l ++ be (2147483648 + n) 4) (l ++ be (2147483648 + n) 4).length | 4 => Lin.Spec.sl (l ++ be (2147483648 + n) 4) (l ++ be (2147483648 + n) 4).length | 5 => Lin.Spec.val (.int .i64 0) | _ => Lin.Spec.any) (by kernel_rfl) rfl (by kernel_rfl) ⟨?_, ?_, ?_, ?_, ?_, ?_, ?_, ?_, ?_, ?_, ?_, ?_, ?_, trivial⟩ ?_
    · intro ρ wq hb ho hc hd
      have hC : ∀ v, ρ (.const v) = v := fun v => hc _ (by intro t e; cases e)
      have hF : ∀ f, ρ (.func f) = .func (.func f) #[] #[] := fun f => hc _ (by intro t e; cases e)
      have h0 : ρ (.tmp 0) = .slice A l.length c := ho 0 (by kernel_rfl)
      exact Lin.Runs.value Lin.keeps (Lin.exec_move rfl) h0
    · intro ρ wq hb ho hc hd
      have hC : ∀ v, ρ (.const v) = v := fun v => hc _ (by intro t e; cases e)
      have hF : ∀ f, ρ (.func f) = .func (.func f) #[] #[] := fun f => hc _ (by intro t e; cases e)
      have h6 : ρ (.tmp 6) = .int .i64 2 := ho 6 (by kernel_rfl)
      exact Lin.Runs.value Lin.keeps (Lin.exec_move rfl) h6
    · intro ρ wq hb ho hc hd
      have hC : ∀ v, ρ (.const v) = v := fun v => hc _ (by intro t e; cases e)
      have hF : ∀ f, ρ (.func f) = .func (.func f) #[] #[] := fun f => hc _ (by intro t e; cases e)
      have h16 : ρ (.tmp 16) = .int .i64 2 := hd 16 (by kernel_rfl)
      exact Lin.Runs.value Lin.keeps (v := .int .u64 2) (by simp [execOp, go_sem, hC, hF, h16]; first | done | rfl | decide) rfl
    · intro ρ wq hb ho hc hd
      have hC : ∀ v, ρ (.const v) = v := fun v => hc _ (by intro t e; cases e)
      have hF : ∀ f, ρ (.func f) = .func (.func f) #[] #[] := fun f => hc _ (by intro t e; cases e)
      have h6 : ρ (.tmp 6) = .int .i64 2 := ho 6 (by kernel_rfl)
      exact Lin.Runs.value Lin.keeps (Lin.exec_move rfl) h6
    · intro ρ wq hb ho hc hd
      have hC : ∀ v, ρ (.const v) = v := fun v => hc _ (by intro t e; cases e)
      have hF : ∀ f, ρ (.func f) = .func (.func f) #[] #[] := fun f => hc _ (by intro t e; cases e)
      have h18 : ρ (.tmp 18) = .int .i64 2 := hd 18 (by kernel_rfl)
      refine Lin.Runs.call Lin.keeps (f := 111) (args := #[.int .i64 2]) (by simp [execOp, go_sem, hC, hF, h18]) ?_
      exact (vbound 2 (by omega) wq).mono fun e w9 ⟨he, hw⟩ => ⟨_, he, by subst hw; exact Below.refl _ _, rfl⟩
    · intro ρ wq hb ho hc hd
      have hC : ∀ v, ρ (.const v) = v := fun v => hc _ (by intro t e; cases e)
      have hF : ∀ f, ρ (.func f) = .func (.func f) #[] #[] := fun f => hc _ (by intro t e; cases e)
      have h17 : ρ (.tmp 17) = .int .u64 2 := hd 17 (by kernel_rfl)
      have h19 : ρ (.tmp 19) = .int .u64 1073741824 := hd 19 (by kernel_rfl)
      exact Lin.Runs.value Lin.keeps (v := .int .u64 2147483648) (by simp [execOp, go_sem, hC, hF, h17, h19]; first | done | rfl | decide) rfl
    · intro ρ wq hb ho hc hd
      have hC : ∀ v, ρ (.const v) = v := fun v => hc _ (by intro t e; cases e)
      have hF : ∀ f, ρ (.func f) = .func (.func f) #[] #[] := fun f => hc _ (by intro t e; cases e)
      have h1 : ρ (.tmp 1) = .int .u64 (n : Int) := ho 1 (by kernel_rfl)
      exact Lin.Runs.value Lin.keeps (Lin.exec_move rfl) h1
    · intro ρ wq hb ho hc hd
      have hC : ∀ v, ρ (.const v) = v := fun v => hc _ (by intro t e; cases e)
      have hF : ∀ f, ρ (.func f) = .func (.func f) #[] #[] := fun f => hc _ (by intro t e; cases e)
      have h20 : ρ (.tmp 20) = .int .u64 2147483648 := hd 20 (by kernel_rfl)
      have h21 : ρ (.tmp 21) = .int .u64 (n : Int) := hd 21 (by kernel_rfl)
      exact Lin.Runs.value Lin.keeps (v := .int .u64 ((2147483648 + n : Nat) : Int)) (by simp [execOp, go_sem, hC, hF, h20, h21]; first | done | exact HJ.out | simpa using HJ.out) rfl
    · intro ρ wq hb ho hc hd
      have hC : ∀ v, ρ (.const v) = v := fun v => hc _ (by intro t e; cases e)
      have hF : ∀ f, ρ (.func f) = .func (.func f) #[] #[] := fun f => hc _ (by intro t e; cases e)
      have h6 : ρ (.tmp 6) = .int .i64 2 := ho 6 (by kernel_rfl)
      exact Lin.Runs.value Lin.keeps (Lin.exec_move rfl) h6
    · intro ρ wq hb ho hc hd
      have hC : ∀ v, ρ (.const v) = v := fun v => hc _ (by intro t e; cases e)
      have hF : ∀ f, ρ (.func f) = .func (.func f) #[] #[] := fun f => hc _ (by intro t e; cases e)
      have h23 : ρ (.tmp 23) = .int .i64 2 := hd 23 (by kernel_rfl)
      exact Lin.Runs.value Lin.keeps (v := .int .i64 4) (by simp [execOp, go_sem, hC, hF, h23]; first | done | rfl | decide) rfl
    · intro ρ wq hb ho hc hd
      have hC : ∀ v, ρ (.const v) = v := fun v => hc _ (by intro t e; cases e)
      have hF : ∀ f, ρ (.func f) = .func (.func f) #[] #[] := fun f => hc _ (by intro t e; cases e)
      have h15 : ρ (.tmp 15) = .slice A l.length c := hd 15 (by kernel_rfl)
      have h22 : ρ (.tmp 22) = .int .u64 ((2147483648 + n : Nat) : Int) := hd 22 (by kernel_rfl)
      have h24 : ρ (.tmp 24) = .int .i64 4 := hd 24 (by kernel_rfl)
      refine Lin.Runs.call Lin.keeps (f := 89) (args := #[.slice A l.length c, .int .u64 ((2147483648 + n : Nat) : Int), .int .i64 4]) (by simp [execOp, go_sem, hC, hF, h15, h22, h24]) ?_
      exact put_p (2147483648 + n) 4 (HV.out.st hb) hm (by omega) (by omega) (by omega)
    · intro ρ wq hb ho hc hd
      have hC : ∀ v, ρ (.const v) = v := fun v => hc _ (by intro t e; cases e)
      have hF : ∀ f, ρ (.func f) = .func (.func f) #[] #[] := fun f => hc _ (by intro t e; cases e)
      have h25 := hd 25 (by kernel_rfl)
      exact Lin.Runs.value Lin.keeps (Lin.exec_assign rfl) h25
    · intro ρ wq hb ho hc hd
      have hC : ∀ v, ρ (.const v) = v := fun v => hc _ (by intro t e; cases e)
      have hF : ∀ f, ρ (.func f) = .func (.func f) #[] #[] := fun f => hc _ (by intro t e; cases e)
      exact Lin.Runs.value Lin.keeps (Lin.exec_assign rfl) (hc _ (by intro t e; cases e))
    · intro vals w9 hb hv
      have e4 : IsB (l ++ be (2147483648 + n) 4) (l ++ be (2147483648 + n) 4).length (vals 4) w9 := hv 4 (by kernel_rfl)
      have e5 : vals 5 = .int .i64 0 := hv 5 (by kernel_rfl)
      simp only [Lin.putAll, Option.getD_some]
      rw [e5]
      generalize vals 4 = v4 at *
      obtain ⟨A9, c9, rfl⟩ := e4.shape
      have E4 := hide e4
      clear hv e4
      have HB9 := Lib.hid hb
      clear hb
      go_simp
      generalize vals = vv
      go_wp2_with fail
      go_ret2
      exact ⟨.slice A9 (l ++ be (2147483648 + n) 4).length c9, by simp, HB9.out, E4.out⟩
  · omega
set_option maxHeartbeats 4000000 in
theorem vput_3 (A : Option Addr) (c : Nat) (l : List Int) (n : Nat) (w : World) (hv : IsB l l.length (.slice A l.length c) w) (hm : l.length ≤ 80000000) (hlo : 1073741824 ≤ n) (hhi : n < 4611686018427387904) :
    Calls Try.prog 50 #[.slice A l.length c, .int .u64 (n : Int)] w fun e w' => ∃ v, e = .returned (.tuple #[v, .int .i64 0]) ∧ Below w.heap.size w w' ∧ IsB (l ++ be (13835058055282163712 + n) 8) (l ++ be (13835058055282163712 + n) 8).length v w' := by
  have HV := hide hv
  clear hv
  have HJ := Lib.hid (show bits .or .u64 13835058055282163712 (n : Int) = ((13835058055282163712 + n : Nat) : Int) from or_join 62 3 n (by omega) (by omega))
  go_enter Try.func50, Try.ntmps50
  go_wp2_with fail
  refine (vpower n (by omega) _).mono ?_
  rintro e w1 ⟨rfl, ⟨k, hk, rfl, h1, h2⟩ | ⟨rfl, h1⟩⟩
  · obtain rfl : k = 3 := by
      have h : k = 0 ∨ k = 1 ∨ k = 2 ∨ k = 3 := by omega
      have g0 := h2 0; have g1 := h2 1; have g2 := h2 2
      rcases h with rfl | rfl | rfl | rfl <;> simp [vbd] at h1 g0 g1 g2 <;> omega
    clear h1 h2 hk
    go_wp2_with fail
    refine Lin.wp_region_lin Lin.keeps (n := 26)  (fun slotq => match slotq with | 15 => Lin.Spec.val (.slice A l.length c) | 16 => Lin.Spec.val (.int .i64 3) | 17 => Lin.Spec.val (.int .u64 3) | 18 => Lin.Spec.val (.int .i64 3) | 19 => Lin.Spec.val (.int .u64 4611686018427387904) | 20 => Lin.Spec.val (.int .u64 13835058055282163712) | 21 => Lin.Spec.val (.int .u64 (n : Int)) | 22 => Lin.Spec.val (.int .u64 ((13835058055282163712 + n : Nat) : Int)) | 23 => Lin.Spec.val (.int .i64 3) | 24 => Lin.Spec.val (.int .i64 8) | 25 => Lin.Spec.sl (l ++ be (13835058055282163712 + n) 8) (l ++ be (13835058055282163712 + n) 8).length | 4 => Lin.Spec.sl (l ++ be (13835058055282163712 + n) 8) (l ++ be (13835058055282163712 + n) 8).length | 5 => Lin.Spec.val (.int .i64 0) | _ => Lin.Spec.any) (by kernel_rfl) rfl (by kernel_rfl) ⟨?_, ?_, ?_, ?_, ?_, ?_, ?_, ?_, ?_, ?_, ?_, ?_, ?_, trivial⟩ ?_
    · intro ρ wq hb ho hc hd
      have hC : ∀ v, ρ (.const v) = v := fun v => hc _ (by intro t e; cases e)
      have hF : ∀ f, ρ (.func f) = .func (.func f) #[] #[] := fun f => hc _ (by intro t e; cases e)
      have h0 : ρ (.tmp 0) = .slice A l.length c := ho 0 (by kernel_rfl)
      exact Lin.Runs.value Lin.keeps (Lin.exec_move rfl) h0
    · intro ρ wq hb ho hc hd
      have hC : ∀ v, ρ (.const v) = v := fun v => hc _ (by intro t e; cases e)
      have hF : ∀ f, ρ (.func f) = .func (.func f) #[] #[] := fun f => hc _ (by intro t e; cases e)
      have h6 : ρ (.tmp 6) = .int .i64 3 := ho 6 (by kernel_rfl)
      exact Lin.Runs.value Lin.keeps (Lin.exec_move rfl) h6
    · intro ρ wq hb ho hc hd
      have hC : ∀ v, ρ (.const v) = v := fun v => hc _ (by intro t e; cases e)
      have hF : ∀ f, ρ (.func f) = .func (.func f) #[] #[] := fun f => hc _ (by intro t e; cases e)
      have h16 : ρ (.tmp 16) = .int .i64 3 := hd 16 (by kernel_rfl)
      exact Lin.Runs.value Lin.keeps (v := .int .u64 3) (by simp [execOp, go_sem, hC, hF, h16]; first | done | rfl | decide) rfl
    · intro ρ wq hb ho hc hd
      have hC : ∀ v, ρ (.const v) = v := fun v => hc _ (by intro t e; cases e)
      have hF : ∀ f, ρ (.func f) = .func (.func f) #[] #[] := fun f => hc _ (by intro t e; cases e)
      have h6 : ρ (.tmp 6) = .int .i64 3 := ho 6 (by kernel_rfl)
      exact Lin.Runs.value Lin.keeps (Lin.exec_move rfl) h6
    · intro ρ wq hb ho hc hd
      have hC : ∀ v, ρ (.const v) = v := fun v => hc _ (by intro t e; cases e)
      have hF : ∀ f, ρ (.func f) = .func (.func f) #[] #[] := fun f => hc _ (by intro t e; cases e)
      have h18 : ρ (.tmp 18) = .int .i64 3 := hd 18 (by kernel_rfl)
      refine Lin.Runs.call Lin.keeps (f := 111) (args := #[.int .i64 3]) (by simp [execOp, go_sem, hC, hF, h18]) ?_
      exact (vbound 3 (by omega) wq).mono fun e w9 ⟨he, hw⟩ => ⟨_, he, by subst hw; exact Below.refl _ _, rfl⟩
    · intro ρ wq hb ho hc hd
      have hC : ∀ v, ρ (.const v) = v := fun v => hc _ (by intro t e; cases e)
      have hF : ∀ f, ρ (.func f) = .func (.func f) #[] #[] := fun f => hc _ (by intro t e; cases e)
      have h17 : ρ (.tmp 17) = .int .u64 3 := hd 17 (by kernel_rfl)
      have h19 : ρ (.tmp 19) = .int .u64 4611686018427387904 := hd 19 (by kernel_rfl)
      exact Lin.Runs.value Lin.keeps (v := .int .u64 13835058055282163712) (by simp [execOp, go_sem, hC, hF, h17, h19]; first | done | rfl | decide) rfl
    · intro ρ wq hb ho hc hd
      have hC : ∀ v, ρ (.const v) = v := fun v => hc _ (by intro t e; cases e)
      have hF : ∀ f, ρ (.func f) = .func (.func f) #[] #[] := fun f => hc _ (by intro t e; cases e)
      have h1 : ρ (.tmp 1) = .int .u64 (n : Int) := ho 1 (by kernel_rfl)
      exact Lin.Runs.value Lin.keeps (Lin.exec_move rfl) h1
    · intro ρ wq hb ho hc hd
      have hC : ∀ v, ρ (.const v) = v := fun v => hc _ (by intro t e; cases e)
      have hF : ∀ f, ρ (.func f) = .func (.func f) #[] #[] := fun f => hc _ (by intro t e; cases e)
      have h20 : ρ (.tmp 20) = .int .u64 13835058055282163712 := hd 20 (by kernel_rfl)
      have h21 : ρ (.tmp 21) = .int .u64 (n : Int) := hd 21 (by kernel_rfl)
      exact Lin.Runs.value Lin.keeps (v := .int .u64 ((13835058055282163712 + n : Nat) : Int)) (by simp [execOp, go_sem, hC, hF, h20, h21]; first | done | exact HJ.out | simpa using HJ.out) rfl
    · intro ρ wq hb ho hc hd
      have hC : ∀ v, ρ (.const v) = v := fun v => hc _ (by intro t e; cases e)
      have hF : ∀ f, ρ (.func f) = .func (.func f) #[] #[] := fun f => hc _ (by intro t e; cases e)
      have h6 : ρ (.tmp 6) = .int .i64 3 := ho 6 (by kernel_rfl)
      exact Lin.Runs.value Lin.keeps (Lin.exec_move rfl) h6
    · intro ρ wq hb ho hc hd
      have hC : ∀ v, ρ (.const v) = v := fun v => hc _ (by intro t e; cases e)
      have hF : ∀ f, ρ (.func f) = .func (.func f) #[] #[] := fun f => hc _ (by intro t e; cases e)
      have h23 : ρ (.tmp 23) = .int .i64 3 := hd 23 (by kernel_rfl)
      exact Lin.Runs.value Lin.keeps (v := .int .i64 8) (by simp [execOp, go_sem, hC, hF, h23]; first | done | rfl | decide) rfl
    · intro ρ wq hb ho hc hd
      have hC : ∀ v, ρ (.const v) = v := fun v => hc _ (by intro t e; cases e)
      have hF : ∀ f, ρ (.func f) = .func (.func f) #[] #[] := fun f => hc _ (by intro t e; cases e)
      have h15 : ρ (.tmp 15) = .slice A l.length c := hd 15 (by kernel_rfl)
      have h22 : ρ (.tmp 22) = .int .u64 ((13835058055282163712 + n : Nat) : Int) := hd 22 (by kernel_rfl)
      have h24 : ρ (.tmp 24) = .int .i64 8 := hd 24 (by kernel_rfl)
      refine Lin.Runs.call Lin.keeps (f := 89) (args := #[.slice A l.length c, .int .u64 ((13835058055282163712 + n : Nat) : Int), .int .i64 8]) (by simp [execOp, go_sem, hC, hF, h15, h22, h24]) ?_
      exact put_p (13835058055282163712 + n) 8 (HV.out.st hb) hm (by omega) (by omega) (by omega)
    · intro ρ wq hb ho hc hd
      have hC : ∀ v, ρ (.const v) = v := fun v => hc _ (by intro t e; cases e)
      have hF : ∀ f, ρ (.func f) = .func (.func f) #[] #[] := fun f => hc _ (by intro t e; cases e)
      have h25 := hd 25 (by kernel_rfl)
      exact Lin.Runs.value Lin.keeps (Lin.exec_assign rfl) h25
    · intro ρ wq hb ho hc hd
      have hC : ∀ v, ρ (.const v) = v := fun v => hc _ (by intro t e; cases e)
      have hF : ∀ f, ρ (.func f) = .func (.func f) #[] #[] := fun f => hc _ (by intro t e; cases e)
      exact Lin.Runs.value Lin.keeps (Lin.exec_assign rfl) (hc _ (by intro t e; cases e))
    · intro vals w9 hb hv
      have e4 : IsB (l ++ be (13835058055282163712 + n) 8) (l ++ be (13835058055282163712 + n) 8).length (vals 4) w9 := hv 4 (by kernel_rfl)
      have e5 : vals 5 = .int .i64 0 := hv 5 (by kernel_rfl)
      simp only [Lin.putAll, Option.getD_some]
      rw [e5]
      generalize vals 4 = v4 at *
      obtain ⟨A9, c9, rfl⟩ := e4.shape
      have E4 := hide e4
      clear hv e4
      have HB9 := Lib.hid hb
      clear hb
      go_simp
      generalize vals = vv
      go_wp2_with fail
      go_ret2
      exact ⟨.slice A9 (l ++ be (13835058055282163712 + n) 8).length c9, by simp, HB9.out, E4.out⟩
  · omega
end Go.Proofs.Ytkgmgmlicgjfdaa
