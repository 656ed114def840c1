/-
  The reference of layer 10: Round: what a call returns. Helper of the claims on layers 10 and 11.
-/
import Derived.Test.YthjkjohmaemmiaaRf1
namespace Go.Proofs.Ythjkjohmaemmiaa
open Go.ChangeShapes Go.WideShapes Go.ChangeAt Go.RowKit
set_option linter.unusedSimpArgs false
set_option linter.unusedVariables false
set_option maxRecDepth 100000 in
set_option maxHeartbeats 8000000 in
theorem rround_any (a b c d : Nat) (w : World) (h : St.ok ⟨a, b, c, d⟩) :
    Calls Try.prog 104 #[St.val ⟨a, b, c, d⟩] w fun e w' => e = .returned (rnd ⟨a, b, c, d⟩).val ∧ Below w.heap.size w w' := by
  obtain ⟨ha, hb, hc, hd⟩ := h
  simp only at ha hb hc hd
  have E0 : rnd ⟨a, b, c, d⟩ = ⟨add64 (rotl (add64 a b) 32) (rotl d 16 ^^^ add64 c d), rotl (rotl b 13 ^^^ add64 a b) 17 ^^^ add64 (add64 c d) (rotl b 13 ^^^ add64 a b), rotl (add64 (add64 c d) (rotl b 13 ^^^ add64 a b)) 32, rotl (rotl d 16 ^^^ add64 c d) 21 ^^^ add64 (rotl (add64 a b) 32) (rotl d 16 ^^^ add64 c d)⟩ := rfl
  have fa1 := add_wrap64 a b
  have ha1 := add64_lt a b
  generalize add64 a b = a1 at *
  have hp1 := rotl_lt hb (show 13 ≤ 64 by omega)
  have Rp1 := fun W => hide (turn13_any b W hb)
  generalize rotl b 13 = p1 at *
  have fb1 := u64_xor_nat p1 a1 hp1 ha1
  have hb1 := xor_lt64 hp1 ha1
  generalize p1 ^^^ a1 = b1 at *
  have ha2 := rotl_lt ha1 (show 32 ≤ 64 by omega)
  have Ra2 := fun W => hide (turn32_any a1 W ha1)
  generalize rotl a1 32 = a2 at *
  have fc1 := add_wrap64 c d
  have hc1 := add64_lt c d
  generalize add64 c d = c1 at *
  have hp2 := rotl_lt hd (show 16 ≤ 64 by omega)
  have Rp2 := fun W => hide (turn16_any d W hd)
  generalize rotl d 16 = p2 at *
  have fd1 := u64_xor_nat p2 c1 hp2 hc1
  have hd1 := xor_lt64 hp2 hc1
  generalize p2 ^^^ c1 = d1 at *
  have fa3 := add_wrap64 a2 d1
  have ha3 := add64_lt a2 d1
  generalize add64 a2 d1 = a3 at *
  have hp3 := rotl_lt hd1 (show 21 ≤ 64 by omega)
  have Rp3 := fun W => hide (turn21_any d1 W hd1)
  generalize rotl d1 21 = p3 at *
  have fd2 := u64_xor_nat p3 a3 hp3 ha3
  have hd2 := xor_lt64 hp3 ha3
  generalize p3 ^^^ a3 = d2 at *
  have fc2 := add_wrap64 c1 b1
  have hc2 := add64_lt c1 b1
  generalize add64 c1 b1 = c2 at *
  have hp4 := rotl_lt hb1 (show 17 ≤ 64 by omega)
  have Rp4 := fun W => hide (turn17_any b1 W hb1)
  generalize rotl b1 17 = p4 at *
  have fb2 := u64_xor_nat p4 c2 hp4 hc2
  have hb2 := xor_lt64 hp4 hc2
  generalize p4 ^^^ c2 = b2 at *
  have hc3 := rotl_lt hc2 (show 32 ≤ 64 by omega)
  have Rc3 := fun W => hide (turn32_any c2 W hc2)
  generalize rotl c2 32 = c3 at *
  have HE := Lib.hid E0
  clear E0 ha1 hp1 hb1 ha2 hc1 hp2 hd1 ha3 hp3 hd2 hc2 hp4 hb2 hc3 ha hb hc hd
  have HRp1 := fun W => unhide (Rp1 W)
  have HRp1 := hide HRp1
  clear Rp1
  have HRa2 := fun W => unhide (Ra2 W)
  have HRa2 := hide HRa2
  clear Ra2
  have HRp2 := fun W => unhide (Rp2 W)
  have HRp2 := hide HRp2
  clear Rp2
  have HRp3 := fun W => unhide (Rp3 W)
  have HRp3 := hide HRp3
  clear Rp3
  have HRp4 := fun W => unhide (Rp4 W)
  have HRp4 := hide HRp4
  clear Rp4
  have HRc3 := fun W => unhide (Rc3 W)
  have HRc3 := hide HRc3
  clear Rc3
  unfold St.val
  go_enter Try.func104, Try.ntmps104
  go_wp2_with fail
  refine Lin.wp_region_lin_tail Lin.keeps (n := 64) 7 (fun slotq => match slotq with | 9 => Lin.Spec.val (.pointer (some ⟨w.heap.size, 1, none⟩)) | 10 => Lin.Spec.val (.int .u64 (b : Int)) | 11 => Lin.Spec.val (.int .u64 (p1 : Int)) | 12 => Lin.Spec.val (.pointer (some ⟨w.heap.size, 0, none⟩)) | 13 => Lin.Spec.val (.int .u64 (a1 : Int)) | 14 => Lin.Spec.val (.int .u64 (b1 : Int)) | 15 => Lin.Spec.val (.pointer (some ⟨w.heap.size, 1, none⟩)) | _ => Lin.Spec.any) (by kernel_rfl) rfl (by kernel_rfl) ⟨?_, ?_, ?_, ?_, ?_, ?_, ?_, trivial⟩ ?_
  · intro ρ wq hb ho hc hd
    have hC : ∀ v, ρ (.const v) = v := fun v => hc _ (by intro t e; cases e)
    have hF : ∀ f, ρ (.func f) = .func (.func f) #[] #[] := fun f => hc _ (by intro t e; cases e)
    have h1 : ρ (.tmp 1) = .pointer (some ⟨w.heap.size, 0, none⟩) := ho 1 (by kernel_rfl)
    exact Lin.Runs.value Lin.keeps (v := .pointer (some ⟨w.heap.size, 1, none⟩)) (by simp [execOp, go_sem, hC, hF, h1]) rfl
  · intro ρ wq hb ho hc hd
    have hC : ∀ v, ρ (.const v) = v := fun v => hc _ (by intro t e; cases e)
    have hF : ∀ f, ρ (.func f) = .func (.func f) #[] #[] := fun f => hc _ (by intro t e; cases e)
    have h9 : ρ (.tmp 9) = .pointer (some ⟨w.heap.size, 1, none⟩) := hd 9 (by kernel_rfl)
    have dl := (hb.cell (p := ⟨w.heap.size, 1, none⟩) ((Is.new w 167 #[.int .u64 (a1 : Int), .int .u64 (b : Int), .int .u64 (c : Int), .int .u64 (d : Int)]).alloc (.cells #[.int .u64 0, .int .u64 0, .int .u64 0, .int .u64 0] 167)).lt).trans (((Is.new w 167 #[.int .u64 (a1 : Int), .int .u64 (b : Int), .int .u64 (c : Int), .int .u64 (d : Int)]).alloc (.cells #[.int .u64 0, .int .u64 0, .int .u64 0, .int .u64 0] 167)).cell 1)
    simp at dl
    exact Lin.Runs.value Lin.keeps (v := .int .u64 (b : Int)) (by simp [execOp, go_sem, hC, hF, h9, dl]) rfl
  · intro ρ wq hb ho hc hd
    have hC : ∀ v, ρ (.const v) = v := fun v => hc _ (by intro t e; cases e)
    have hF : ∀ f, ρ (.func f) = .func (.func f) #[] #[] := fun f => hc _ (by intro t e; cases e)
    have h10 : ρ (.tmp 10) = .int .u64 (b : Int) := hd 10 (by kernel_rfl)
    refine Lin.Runs.call Lin.keeps (f := 127) (args := #[.int .u64 (b : Int), .int .u64 13]) (by simp [execOp, go_sem, hC, hF, h10]) ((unhide HRp1 wq).mono ?_)
    rintro e w2 ⟨rfl, rfl⟩
    exact ⟨_, rfl, Below.refl _ _, rfl⟩
  · intro ρ wq hb ho hc hd
    have hC : ∀ v, ρ (.const v) = v := fun v => hc _ (by intro t e; cases e)
    have hF : ∀ f, ρ (.func f) = .func (.func f) #[] #[] := fun f => hc _ (by intro t e; cases e)
    have h1 : ρ (.tmp 1) = .pointer (some ⟨w.heap.size, 0, none⟩) := ho 1 (by kernel_rfl)
    exact Lin.Runs.value Lin.keeps (v := .pointer (some ⟨w.heap.size, 0, none⟩)) (by simp [execOp, go_sem, hC, hF, h1]) rfl
  · intro ρ wq hb ho hc hd
    have hC : ∀ v, ρ (.const v) = v := fun v => hc _ (by intro t e; cases e)
    have hF : ∀ f, ρ (.func f) = .func (.func f) #[] #[] := fun f => hc _ (by intro t e; cases e)
    have h12 : ρ (.tmp 12) = .pointer (some ⟨w.heap.size, 0, none⟩) := hd 12 (by kernel_rfl)
    have dl := (hb.cell (p := ⟨w.heap.size, 0, none⟩) ((Is.new w 167 #[.int .u64 (a1 : Int), .int .u64 (b : Int), .int .u64 (c : Int), .int .u64 (d : Int)]).alloc (.cells #[.int .u64 0, .int .u64 0, .int .u64 0, .int .u64 0] 167)).lt).trans (((Is.new w 167 #[.int .u64 (a1 : Int), .int .u64 (b : Int), .int .u64 (c : Int), .int .u64 (d : Int)]).alloc (.cells #[.int .u64 0, .int .u64 0, .int .u64 0, .int .u64 0] 167)).cell 0)
    simp at dl
    exact Lin.Runs.value Lin.keeps (v := .int .u64 (a1 : Int)) (by simp [execOp, go_sem, hC, hF, h12, dl]) rfl
  · intro ρ wq hb ho hc hd
    have hC : ∀ v, ρ (.const v) = v := fun v => hc _ (by intro t e; cases e)
    have hF : ∀ f, ρ (.func f) = .func (.func f) #[] #[] := fun f => hc _ (by intro t e; cases e)
    have h11 : ρ (.tmp 11) = .int .u64 (p1 : Int) := hd 11 (by kernel_rfl)
    have h13 : ρ (.tmp 13) = .int .u64 (a1 : Int) := hd 13 (by kernel_rfl)
    exact Lin.Runs.value Lin.keeps (v := .int .u64 (b1 : Int)) (by simp [execOp, go_sem, hC, hF, h11, h13, fb1]) rfl
  · intro ρ wq hb ho hc hd
    have hC : ∀ v, ρ (.const v) = v := fun v => hc _ (by intro t e; cases e)
    have hF : ∀ f, ρ (.func f) = .func (.func f) #[] #[] := fun f => hc _ (by intro t e; cases e)
    have h1 : ρ (.tmp 1) = .pointer (some ⟨w.heap.size, 0, none⟩) := ho 1 (by kernel_rfl)
    exact Lin.Runs.value Lin.keeps (v := .pointer (some ⟨w.heap.size, 1, none⟩)) (by simp [execOp, go_sem, hC, hF, h1]) rfl
  · intro vals w2 hb2 hv
    have e1 : vals 14 = .int .u64 (b1 : Int) := hv 14 (by kernel_rfl)
    have e2 : vals 15 = .pointer (some ⟨w.heap.size, 1, none⟩) := hv 15 (by kernel_rfl)
    change wpList _ _ _ [_] _ _
    simp only [Lin.putAll, Option.getD_some, List.take_succ_cons, List.take_zero, List.drop_succ_cons, List.drop_zero]
    rw [e1, e2]
    have HI_w2 : Hid (Is w2 w.heap.size 167 #[.int .u64 (a1 : Int), .int .u64 (b : Int), .int .u64 (c : Int), .int .u64 (d : Int)]) := hide (((Is.new w 167 #[.int .u64 (a1 : Int), .int .u64 (b : Int), .int .u64 (c : Int), .int .u64 (d : Int)]).alloc (.cells #[.int .u64 0, .int .u64 0, .int .u64 0, .int .u64 0] 167)).below hb2 ((Is.new w 167 #[.int .u64 (a1 : Int), .int .u64 (b : Int), .int .u64 (c : Int), .int .u64 (d : Int)]).alloc (.cells #[.int .u64 0, .int .u64 0, .int .u64 0, .int .u64 0] 167)).lt)
    have HZ_w2 : Hid (Is w2 (w.heap.size + 1) 167 #[.int .u64 0, .int .u64 0, .int .u64 0, .int .u64 0]) := hide ((show Is ((w.alloc (.cells #[.int .u64 (a1 : Int), .int .u64 (b : Int), .int .u64 (c : Int), .int .u64 (d : Int)] 167)).alloc (.cells #[.int .u64 0, .int .u64 0, .int .u64 0, .int .u64 0] 167)) (w.heap.size + 1) 167 #[.int .u64 0, .int .u64 0, .int .u64 0, .int .u64 0] from by have := Is.new (w.alloc (.cells #[.int .u64 (a1 : Int), .int .u64 (b : Int), .int .u64 (c : Int), .int .u64 (d : Int)] 167)) 167 #[.int .u64 0, .int .u64 0, .int .u64 0, .int .u64 0]; rwa [show (w.alloc (.cells #[.int .u64 (a1 : Int), .int .u64 (b : Int), .int .u64 (c : Int), .int .u64 (d : Int)] 167)).heap.size = w.heap.size + 1 from by simp] at this).below hb2 (show Is ((w.alloc (.cells #[.int .u64 (a1 : Int), .int .u64 (b : Int), .int .u64 (c : Int), .int .u64 (d : Int)] 167)).alloc (.cells #[.int .u64 0, .int .u64 0, .int .u64 0, .int .u64 0] 167)) (w.heap.size + 1) 167 #[.int .u64 0, .int .u64 0, .int .u64 0, .int .u64 0] from by have := Is.new (w.alloc (.cells #[.int .u64 (a1 : Int), .int .u64 (b : Int), .int .u64 (c : Int), .int .u64 (d : Int)] 167)) 167 #[.int .u64 0, .int .u64 0, .int .u64 0, .int .u64 0]; rwa [show (w.alloc (.cells #[.int .u64 (a1 : Int), .int .u64 (b : Int), .int .u64 (c : Int), .int .u64 (d : Int)] 167)).heap.size = w.heap.size + 1 from by simp] at this).lt)
    have HB_w2 : Hid (Below w.heap.size w w2) := hide ((((Below.refl w.heap.size w).alloc (Nat.le_refl _) (.cells #[.int .u64 (a1 : Int), .int .u64 (b : Int), .int .u64 (c : Int), .int .u64 (d : Int)] 167)).alloc (by simp) (.cells #[.int .u64 0, .int .u64 0, .int .u64 0, .int .u64 0] 167)).trans (hb2.mono (((Below.refl w.heap.size w).alloc (Nat.le_refl _) (.cells #[.int .u64 (a1 : Int), .int .u64 (b : Int), .int .u64 (c : Int), .int .u64 (d : Int)] 167)).alloc (by simp) (.cells #[.int .u64 0, .int .u64 0, .int .u64 0, .int .u64 0] 167)).size))
    have z_w2 : w.heap.size + 1 < w2.heap.size := HZ_w2.out.lt
    have c0_w2 := HI_w2.out.cell 0
    have c1_w2 := HI_w2.out.cell 1
    have c2_w2 := HI_w2.out.cell 2
    have c3_w2 := HI_w2.out.cell 3
    have f0_w2 := HI_w2.out.free 0
    have f1_w2 := HI_w2.out.free 1
    have f2_w2 := HI_w2.out.free 2
    have f3_w2 := HI_w2.out.free 3
    have d0_w2 := HZ_w2.out.cell 0
    have d1_w2 := HZ_w2.out.cell 1
    have d2_w2 := HZ_w2.out.cell 2
    have d3_w2 := HZ_w2.out.cell 3
    have g0_w2 := HZ_w2.out.free 0
    have g1_w2 := HZ_w2.out.free 1
    have g2_w2 := HZ_w2.out.free 2
    have g3_w2 := HZ_w2.out.free 3
    simp at c0_w2 c1_w2 c2_w2 c3_w2 d0_w2 d1_w2 d2_w2 d3_w2
    clear hb2 hv
    go_wp2_with fail
    refine (unhide HRa2 _).mono ?_
    rintro e w3 ⟨rfl, rfl⟩
    go_wp2_with fail
    clear c0_w2 c1_w2 c2_w2 c3_w2 f0_w2 f1_w2 f2_w2 f3_w2 d0_w2 d1_w2 d2_w2 d3_w2 g0_w2 g1_w2 g2_w2 g3_w2
    refine Lin.wp_region_lin_tail Lin.keeps (n := 64) 7 (fun slotq => match slotq with | 26 => Lin.Spec.val (.pointer (some ⟨w.heap.size, 3, none⟩)) | 27 => Lin.Spec.val (.int .u64 (d : Int)) | 28 => Lin.Spec.val (.int .u64 (p2 : Int)) | 29 => Lin.Spec.val (.pointer (some ⟨w.heap.size, 2, none⟩)) | 30 => Lin.Spec.val (.int .u64 (c1 : Int)) | 31 => Lin.Spec.val (.int .u64 (d1 : Int)) | 32 => Lin.Spec.val (.pointer (some ⟨w.heap.size, 3, none⟩)) | _ => Lin.Spec.any) (by kernel_rfl) rfl (by kernel_rfl) ⟨?_, ?_, ?_, ?_, ?_, ?_, ?_, trivial⟩ ?_
    · intro ρ wq hb ho hc hd
      have hC : ∀ v, ρ (.const v) = v := fun v => hc _ (by intro t e; cases e)
      have hF : ∀ f, ρ (.func f) = .func (.func f) #[] #[] := fun f => hc _ (by intro t e; cases e)
      have h1 : ρ (.tmp 1) = .pointer (some ⟨w.heap.size, 0, none⟩) := ho 1 (by kernel_rfl)
      exact Lin.Runs.value Lin.keeps (v := .pointer (some ⟨w.heap.size, 3, none⟩)) (by simp [execOp, go_sem, hC, hF, h1]) rfl
    · intro ρ wq hb ho hc hd
      have hC : ∀ v, ρ (.const v) = v := fun v => hc _ (by intro t e; cases e)
      have hF : ∀ f, ρ (.func f) = .func (.func f) #[] #[] := fun f => hc _ (by intro t e; cases e)
      have h26 : ρ (.tmp 26) = .pointer (some ⟨w.heap.size, 3, none⟩) := hd 26 (by kernel_rfl)
      have dl := (hb.cell (p := ⟨w.heap.size, 3, none⟩) (((HI_w2.out.put 1 (.int .u64 (b1 : Int))).put 0 (.int .u64 (a2 : Int))).put 2 (.int .u64 (c1 : Int))).lt).trans ((((HI_w2.out.put 1 (.int .u64 (b1 : Int))).put 0 (.int .u64 (a2 : Int))).put 2 (.int .u64 (c1 : Int))).cell 3)
      simp at dl
      exact Lin.Runs.value Lin.keeps (v := .int .u64 (d : Int)) (by simp [execOp, go_sem, hC, hF, h26, dl]) rfl
    · intro ρ wq hb ho hc hd
      have hC : ∀ v, ρ (.const v) = v := fun v => hc _ (by intro t e; cases e)
      have hF : ∀ f, ρ (.func f) = .func (.func f) #[] #[] := fun f => hc _ (by intro t e; cases e)
      have h27 : ρ (.tmp 27) = .int .u64 (d : Int) := hd 27 (by kernel_rfl)
      refine Lin.Runs.call Lin.keeps (f := 127) (args := #[.int .u64 (d : Int), .int .u64 16]) (by simp [execOp, go_sem, hC, hF, h27]) ((unhide HRp2 wq).mono ?_)
      rintro e w2 ⟨rfl, rfl⟩
      exact ⟨_, rfl, Below.refl _ _, rfl⟩
    · intro ρ wq hb ho hc hd
      have hC : ∀ v, ρ (.const v) = v := fun v => hc _ (by intro t e; cases e)
      have hF : ∀ f, ρ (.func f) = .func (.func f) #[] #[] := fun f => hc _ (by intro t e; cases e)
      have h1 : ρ (.tmp 1) = .pointer (some ⟨w.heap.size, 0, none⟩) := ho 1 (by kernel_rfl)
      exact Lin.Runs.value Lin.keeps (v := .pointer (some ⟨w.heap.size, 2, none⟩)) (by simp [execOp, go_sem, hC, hF, h1]) rfl
    · intro ρ wq hb ho hc hd
      have hC : ∀ v, ρ (.const v) = v := fun v => hc _ (by intro t e; cases e)
      have hF : ∀ f, ρ (.func f) = .func (.func f) #[] #[] := fun f => hc _ (by intro t e; cases e)
      have h29 : ρ (.tmp 29) = .pointer (some ⟨w.heap.size, 2, none⟩) := hd 29 (by kernel_rfl)
      have dl := (hb.cell (p := ⟨w.heap.size, 2, none⟩) (((HI_w2.out.put 1 (.int .u64 (b1 : Int))).put 0 (.int .u64 (a2 : Int))).put 2 (.int .u64 (c1 : Int))).lt).trans ((((HI_w2.out.put 1 (.int .u64 (b1 : Int))).put 0 (.int .u64 (a2 : Int))).put 2 (.int .u64 (c1 : Int))).cell 2)
      simp at dl
      exact Lin.Runs.value Lin.keeps (v := .int .u64 (c1 : Int)) (by simp [execOp, go_sem, hC, hF, h29, dl]) rfl
    · intro ρ wq hb ho hc hd
      have hC : ∀ v, ρ (.const v) = v := fun v => hc _ (by intro t e; cases e)
      have hF : ∀ f, ρ (.func f) = .func (.func f) #[] #[] := fun f => hc _ (by intro t e; cases e)
      have h28 : ρ (.tmp 28) = .int .u64 (p2 : Int) := hd 28 (by kernel_rfl)
      have h30 : ρ (.tmp 30) = .int .u64 (c1 : Int) := hd 30 (by kernel_rfl)
      exact Lin.Runs.value Lin.keeps (v := .int .u64 (d1 : Int)) (by simp [execOp, go_sem, hC, hF, h28, h30, fd1]) rfl
    · intro ρ wq hb ho hc hd
      have hC : ∀ v, ρ (.const v) = v := fun v => hc _ (by intro t e; cases e)
      have hF : ∀ f, ρ (.func f) = .func (.func f) #[] #[] := fun f => hc _ (by intro t e; cases e)
      have h1 : ρ (.tmp 1) = .pointer (some ⟨w.heap.size, 0, none⟩) := ho 1 (by kernel_rfl)
      exact Lin.Runs.value Lin.keeps (v := .pointer (some ⟨w.heap.size, 3, none⟩)) (by simp [execOp, go_sem, hC, hF, h1]) rfl
    · intro vals w4 hb2 hv
      have e1 : vals 31 = .int .u64 (d1 : Int) := hv 31 (by kernel_rfl)
      have e2 : vals 32 = .pointer (some ⟨w.heap.size, 3, none⟩) := hv 32 (by kernel_rfl)
      change wpList _ _ _ [_] _ _
      simp only [Lin.putAll, Option.getD_some, List.take_succ_cons, List.take_zero, List.drop_succ_cons, List.drop_zero]
      rw [e1, e2]
      have HI_w4 : Hid (Is w4 w.heap.size 167 #[.int .u64 (a2 : Int), .int .u64 (b1 : Int), .int .u64 (c1 : Int), .int .u64 (d : Int)]) := hide ((((HI_w2.out.put 1 (.int .u64 (b1 : Int))).put 0 (.int .u64 (a2 : Int))).put 2 (.int .u64 (c1 : Int))).below hb2 (((HI_w2.out.put 1 (.int .u64 (b1 : Int))).put 0 (.int .u64 (a2 : Int))).put 2 (.int .u64 (c1 : Int))).lt)
      have HZ_w4 : Hid (Is w4 (w.heap.size + 1) 167 #[.int .u64 0, .int .u64 0, .int .u64 0, .int .u64 0]) := hide ((((HZ_w2.out.other (p := ⟨w.heap.size, 1, none⟩) (by simp) (.int .u64 (b1 : Int))).other (p := ⟨w.heap.size, 0, none⟩) (by simp) (.int .u64 (a2 : Int))).other (p := ⟨w.heap.size, 2, none⟩) (by simp) (.int .u64 (c1 : Int))).below hb2 (((HZ_w2.out.other (p := ⟨w.heap.size, 1, none⟩) (by simp) (.int .u64 (b1 : Int))).other (p := ⟨w.heap.size, 0, none⟩) (by simp) (.int .u64 (a2 : Int))).other (p := ⟨w.heap.size, 2, none⟩) (by simp) (.int .u64 (c1 : Int))).lt)
      have HB_w4 : Hid (Below w.heap.size w w4) := hide ((((HB_w2.out.setCell (p := ⟨w.heap.size, 1, none⟩) (Nat.le_refl _) (.int .u64 (b1 : Int))).setCell (p := ⟨w.heap.size, 0, none⟩) (Nat.le_refl _) (.int .u64 (a2 : Int))).setCell (p := ⟨w.heap.size, 2, none⟩) (Nat.le_refl _) (.int .u64 (c1 : Int))).trans (hb2.mono (((HB_w2.out.setCell (p := ⟨w.heap.size, 1, none⟩) (Nat.le_refl _) (.int .u64 (b1 : Int))).setCell (p := ⟨w.heap.size, 0, none⟩) (Nat.le_refl _) (.int .u64 (a2 : Int))).setCell (p := ⟨w.heap.size, 2, none⟩) (Nat.le_refl _) (.int .u64 (c1 : Int))).size))
      have z_w4 : w.heap.size + 1 < w4.heap.size := HZ_w4.out.lt
      have c0_w4 := HI_w4.out.cell 0
      have c1_w4 := HI_w4.out.cell 1
      have c2_w4 := HI_w4.out.cell 2
      have c3_w4 := HI_w4.out.cell 3
      have f0_w4 := HI_w4.out.free 0
      have f1_w4 := HI_w4.out.free 1
      have f2_w4 := HI_w4.out.free 2
      have f3_w4 := HI_w4.out.free 3
      have d0_w4 := HZ_w4.out.cell 0
      have d1_w4 := HZ_w4.out.cell 1
      have d2_w4 := HZ_w4.out.cell 2
      have d3_w4 := HZ_w4.out.cell 3
      have g0_w4 := HZ_w4.out.free 0
      have g1_w4 := HZ_w4.out.free 1
      have g2_w4 := HZ_w4.out.free 2
      have g3_w4 := HZ_w4.out.free 3
      simp at c0_w4 c1_w4 c2_w4 c3_w4 d0_w4 d1_w4 d2_w4 d3_w4
      clear hb2 hv
      go_wp2_with fail
      clear c0_w4 c1_w4 c2_w4 c3_w4 f0_w4 f1_w4 f2_w4 f3_w4 d0_w4 d1_w4 d2_w4 d3_w4 g0_w4 g1_w4 g2_w4 g3_w4
      refine Lin.wp_region_lin_tail Lin.keeps (n := 64) 7 (fun slotq => match slotq with | 39 => Lin.Spec.val (.pointer (some ⟨w.heap.size, 3, none⟩)) | 40 => Lin.Spec.val (.int .u64 (d1 : Int)) | 41 => Lin.Spec.val (.int .u64 (p3 : Int)) | 42 => Lin.Spec.val (.pointer (some ⟨w.heap.size, 0, none⟩)) | 43 => Lin.Spec.val (.int .u64 (a3 : Int)) | 44 => Lin.Spec.val (.int .u64 (d2 : Int)) | 45 => Lin.Spec.val (.pointer (some ⟨w.heap.size, 3, none⟩)) | _ => Lin.Spec.any) (by kernel_rfl) rfl (by kernel_rfl) ⟨?_, ?_, ?_, ?_, ?_, ?_, ?_, trivial⟩ ?_
      · intro ρ wq hb ho hc hd
        have hC : ∀ v, ρ (.const v) = v := fun v => hc _ (by intro t e; cases e)
        have hF : ∀ f, ρ (.func f) = .func (.func f) #[] #[] := fun f => hc _ (by intro t e; cases e)
        have h1 : ρ (.tmp 1) = .pointer (some ⟨w.heap.size, 0, none⟩) := ho 1 (by kernel_rfl)
        exact Lin.Runs.value Lin.keeps (v := .pointer (some ⟨w.heap.size, 3, none⟩)) (by simp [execOp, go_sem, hC, hF, h1]) rfl
      · intro ρ wq hb ho hc hd
        have hC : ∀ v, ρ (.const v) = v := fun v => hc _ (by intro t e; cases e)
        have hF : ∀ f, ρ (.func f) = .func (.func f) #[] #[] := fun f => hc _ (by intro t e; cases e)
        have h39 : ρ (.tmp 39) = .pointer (some ⟨w.heap.size, 3, none⟩) := hd 39 (by kernel_rfl)
        have dl := (hb.cell (p := ⟨w.heap.size, 3, none⟩) ((HI_w4.out.put 3 (.int .u64 (d1 : Int))).put 0 (.int .u64 (a3 : Int))).lt).trans (((HI_w4.out.put 3 (.int .u64 (d1 : Int))).put 0 (.int .u64 (a3 : Int))).cell 3)
        simp at dl
        exact Lin.Runs.value Lin.keeps (v := .int .u64 (d1 : Int)) (by simp [execOp, go_sem, hC, hF, h39, dl]) rfl
      · intro ρ wq hb ho hc hd
        have hC : ∀ v, ρ (.const v) = v := fun v => hc _ (by intro t e; cases e)
        have hF : ∀ f, ρ (.func f) = .func (.func f) #[] #[] := fun f => hc _ (by intro t e; cases e)
        have h40 : ρ (.tmp 40) = .int .u64 (d1 : Int) := hd 40 (by kernel_rfl)
        refine Lin.Runs.call Lin.keeps (f := 127) (args := #[.int .u64 (d1 : Int), .int .u64 21]) (by simp [execOp, go_sem, hC, hF, h40]) ((unhide HRp3 wq).mono ?_)
        rintro e w2 ⟨rfl, rfl⟩
        exact ⟨_, rfl, Below.refl _ _, rfl⟩
      · intro ρ wq hb ho hc hd
        have hC : ∀ v, ρ (.const v) = v := fun v => hc _ (by intro t e; cases e)
        have hF : ∀ f, ρ (.func f) = .func (.func f) #[] #[] := fun f => hc _ (by intro t e; cases e)
        have h1 : ρ (.tmp 1) = .pointer (some ⟨w.heap.size, 0, none⟩) := ho 1 (by kernel_rfl)
        exact Lin.Runs.value Lin.keeps (v := .pointer (some ⟨w.heap.size, 0, none⟩)) (by simp [execOp, go_sem, hC, hF, h1]) rfl
      · intro ρ wq hb ho hc hd
        have hC : ∀ v, ρ (.const v) = v := fun v => hc _ (by intro t e; cases e)
        have hF : ∀ f, ρ (.func f) = .func (.func f) #[] #[] := fun f => hc _ (by intro t e; cases e)
        have h42 : ρ (.tmp 42) = .pointer (some ⟨w.heap.size, 0, none⟩) := hd 42 (by kernel_rfl)
        have dl := (hb.cell (p := ⟨w.heap.size, 0, none⟩) ((HI_w4.out.put 3 (.int .u64 (d1 : Int))).put 0 (.int .u64 (a3 : Int))).lt).trans (((HI_w4.out.put 3 (.int .u64 (d1 : Int))).put 0 (.int .u64 (a3 : Int))).cell 0)
        simp at dl
        exact Lin.Runs.value Lin.keeps (v := .int .u64 (a3 : Int)) (by simp [execOp, go_sem, hC, hF, h42, dl]) rfl
      · intro ρ wq hb ho hc hd
        have hC : ∀ v, ρ (.const v) = v := fun v => hc _ (by intro t e; cases e)
        have hF : ∀ f, ρ (.func f) = .func (.func f) #[] #[] := fun f => hc _ (by intro t e; cases e)
        have h41 : ρ (.tmp 41) = .int .u64 (p3 : Int) := hd 41 (by kernel_rfl)
        have h43 : ρ (.tmp 43) = .int .u64 (a3 : Int) := hd 43 (by kernel_rfl)
        exact Lin.Runs.value Lin.keeps (v := .int .u64 (d2 : Int)) (by simp [execOp, go_sem, hC, hF, h41, h43, fd2]) rfl
      · intro ρ wq hb ho hc hd
        have hC : ∀ v, ρ (.const v) = v := fun v => hc _ (by intro t e; cases e)
        have hF : ∀ f, ρ (.func f) = .func (.func f) #[] #[] := fun f => hc _ (by intro t e; cases e)
        have h1 : ρ (.tmp 1) = .pointer (some ⟨w.heap.size, 0, none⟩) := ho 1 (by kernel_rfl)
        exact Lin.Runs.value Lin.keeps (v := .pointer (some ⟨w.heap.size, 3, none⟩)) (by simp [execOp, go_sem, hC, hF, h1]) rfl
      · intro vals w6 hb2 hv
        have e1 : vals 44 = .int .u64 (d2 : Int) := hv 44 (by kernel_rfl)
        have e2 : vals 45 = .pointer (some ⟨w.heap.size, 3, none⟩) := hv 45 (by kernel_rfl)
        change wpList _ _ _ [_] _ _
        simp only [Lin.putAll, Option.getD_some, List.take_succ_cons, List.take_zero, List.drop_succ_cons, List.drop_zero]
        rw [e1, e2]
        have HI_w6 : Hid (Is w6 w.heap.size 167 #[.int .u64 (a3 : Int), .int .u64 (b1 : Int), .int .u64 (c1 : Int), .int .u64 (d1 : Int)]) := hide (((HI_w4.out.put 3 (.int .u64 (d1 : Int))).put 0 (.int .u64 (a3 : Int))).below hb2 ((HI_w4.out.put 3 (.int .u64 (d1 : Int))).put 0 (.int .u64 (a3 : Int))).lt)
        have HZ_w6 : Hid (Is w6 (w.heap.size + 1) 167 #[.int .u64 0, .int .u64 0, .int .u64 0, .int .u64 0]) := hide (((HZ_w4.out.other (p := ⟨w.heap.size, 3, none⟩) (by simp) (.int .u64 (d1 : Int))).other (p := ⟨w.heap.size, 0, none⟩) (by simp) (.int .u64 (a3 : Int))).below hb2 ((HZ_w4.out.other (p := ⟨w.heap.size, 3, none⟩) (by simp) (.int .u64 (d1 : Int))).other (p := ⟨w.heap.size, 0, none⟩) (by simp) (.int .u64 (a3 : Int))).lt)
        have HB_w6 : Hid (Below w.heap.size w w6) := hide (((HB_w4.out.setCell (p := ⟨w.heap.size, 3, none⟩) (Nat.le_refl _) (.int .u64 (d1 : Int))).setCell (p := ⟨w.heap.size, 0, none⟩) (Nat.le_refl _) (.int .u64 (a3 : Int))).trans (hb2.mono ((HB_w4.out.setCell (p := ⟨w.heap.size, 3, none⟩) (Nat.le_refl _) (.int .u64 (d1 : Int))).setCell (p := ⟨w.heap.size, 0, none⟩) (Nat.le_refl _) (.int .u64 (a3 : Int))).size))
        have z_w6 : w.heap.size + 1 < w6.heap.size := HZ_w6.out.lt
        have c0_w6 := HI_w6.out.cell 0
        have c1_w6 := HI_w6.out.cell 1
        have c2_w6 := HI_w6.out.cell 2
        have c3_w6 := HI_w6.out.cell 3
        have f0_w6 := HI_w6.out.free 0
        have f1_w6 := HI_w6.out.free 1
        have f2_w6 := HI_w6.out.free 2
        have f3_w6 := HI_w6.out.free 3
        have d0_w6 := HZ_w6.out.cell 0
        have d1_w6 := HZ_w6.out.cell 1
        have d2_w6 := HZ_w6.out.cell 2
        have d3_w6 := HZ_w6.out.cell 3
        have g0_w6 := HZ_w6.out.free 0
        have g1_w6 := HZ_w6.out.free 1
        have g2_w6 := HZ_w6.out.free 2
        have g3_w6 := HZ_w6.out.free 3
        simp at c0_w6 c1_w6 c2_w6 c3_w6 d0_w6 d1_w6 d2_w6 d3_w6
        clear hb2 hv
        go_wp2_with fail
        clear c0_w6 c1_w6 c2_w6 c3_w6 f0_w6 f1_w6 f2_w6 f3_w6 d0_w6 d1_w6 d2_w6 d3_w6 g0_w6 g1_w6 g2_w6 g3_w6
        refine Lin.wp_region_lin_tail Lin.keeps (n := 64) 7 (fun slotq => match slotq with | 52 => Lin.Spec.val (.pointer (some ⟨w.heap.size, 1, none⟩)) | 53 => Lin.Spec.val (.int .u64 (b1 : Int)) | 54 => Lin.Spec.val (.int .u64 (p4 : Int)) | 55 => Lin.Spec.val (.pointer (some ⟨w.heap.size, 2, none⟩)) | 56 => Lin.Spec.val (.int .u64 (c2 : Int)) | 57 => Lin.Spec.val (.int .u64 (b2 : Int)) | 58 => Lin.Spec.val (.pointer (some ⟨w.heap.size, 1, none⟩)) | _ => Lin.Spec.any) (by kernel_rfl) rfl (by kernel_rfl) ⟨?_, ?_, ?_, ?_, ?_, ?_, ?_, trivial⟩ ?_
        · intro ρ wq hb ho hc hd
          have hC : ∀ v, ρ (.const v) = v := fun v => hc _ (by intro t e; cases e)
          have hF : ∀ f, ρ (.func f) = .func (.func f) #[] #[] := fun f => hc _ (by intro t e; cases e)
          have h1 : ρ (.tmp 1) = .pointer (some ⟨w.heap.size, 0, none⟩) := ho 1 (by kernel_rfl)
          exact Lin.Runs.value Lin.keeps (v := .pointer (some ⟨w.heap.size, 1, none⟩)) (by simp [execOp, go_sem, hC, hF, h1]) rfl
        · intro ρ wq hb ho hc hd
          have hC : ∀ v, ρ (.const v) = v := fun v => hc _ (by intro t e; cases e)
          have hF : ∀ f, ρ (.func f) = .func (.func f) #[] #[] := fun f => hc _ (by intro t e; cases e)
          have h52 : ρ (.tmp 52) = .pointer (some ⟨w.heap.size, 1, none⟩) := hd 52 (by kernel_rfl)
          have dl := (hb.cell (p := ⟨w.heap.size, 1, none⟩) ((HI_w6.out.put 3 (.int .u64 (d2 : Int))).put 2 (.int .u64 (c2 : Int))).lt).trans (((HI_w6.out.put 3 (.int .u64 (d2 : Int))).put 2 (.int .u64 (c2 : Int))).cell 1)
          simp at dl
          exact Lin.Runs.value Lin.keeps (v := .int .u64 (b1 : Int)) (by simp [execOp, go_sem, hC, hF, h52, dl]) rfl
        · intro ρ wq hb ho hc hd
          have hC : ∀ v, ρ (.const v) = v := fun v => hc _ (by intro t e; cases e)
          have hF : ∀ f, ρ (.func f) = .func (.func f) #[] #[] := fun f => hc _ (by intro t e; cases e)
          have h53 : ρ (.tmp 53) = .int .u64 (b1 : Int) := hd 53 (by kernel_rfl)
          refine Lin.Runs.call Lin.keeps (f := 127) (args := #[.int .u64 (b1 : Int), .int .u64 17]) (by simp [execOp, go_sem, hC, hF, h53]) ((unhide HRp4 wq).mono ?_)
          rintro e w2 ⟨rfl, rfl⟩
          exact ⟨_, rfl, Below.refl _ _, rfl⟩
        · intro ρ wq hb ho hc hd
          have hC : ∀ v, ρ (.const v) = v := fun v => hc _ (by intro t e; cases e)
          have hF : ∀ f, ρ (.func f) = .func (.func f) #[] #[] := fun f => hc _ (by intro t e; cases e)
          have h1 : ρ (.tmp 1) = .pointer (some ⟨w.heap.size, 0, none⟩) := ho 1 (by kernel_rfl)
          exact Lin.Runs.value Lin.keeps (v := .pointer (some ⟨w.heap.size, 2, none⟩)) (by simp [execOp, go_sem, hC, hF, h1]) rfl
        · intro ρ wq hb ho hc hd
          have hC : ∀ v, ρ (.const v) = v := fun v => hc _ (by intro t e; cases e)
          have hF : ∀ f, ρ (.func f) = .func (.func f) #[] #[] := fun f => hc _ (by intro t e; cases e)
          have h55 : ρ (.tmp 55) = .pointer (some ⟨w.heap.size, 2, none⟩) := hd 55 (by kernel_rfl)
          have dl := (hb.cell (p := ⟨w.heap.size, 2, none⟩) ((HI_w6.out.put 3 (.int .u64 (d2 : Int))).put 2 (.int .u64 (c2 : Int))).lt).trans (((HI_w6.out.put 3 (.int .u64 (d2 : Int))).put 2 (.int .u64 (c2 : Int))).cell 2)
          simp at dl
          exact Lin.Runs.value Lin.keeps (v := .int .u64 (c2 : Int)) (by simp [execOp, go_sem, hC, hF, h55, dl]) rfl
        · intro ρ wq hb ho hc hd
          have hC : ∀ v, ρ (.const v) = v := fun v => hc _ (by intro t e; cases e)
          have hF : ∀ f, ρ (.func f) = .func (.func f) #[] #[] := fun f => hc _ (by intro t e; cases e)
          have h54 : ρ (.tmp 54) = .int .u64 (p4 : Int) := hd 54 (by kernel_rfl)
          have h56 : ρ (.tmp 56) = .int .u64 (c2 : Int) := hd 56 (by kernel_rfl)
          exact Lin.Runs.value Lin.keeps (v := .int .u64 (b2 : Int)) (by simp [execOp, go_sem, hC, hF, h54, h56, fb2]) rfl
        · intro ρ wq hb ho hc hd
          have hC : ∀ v, ρ (.const v) = v := fun v => hc _ (by intro t e; cases e)
          have hF : ∀ f, ρ (.func f) = .func (.func f) #[] #[] := fun f => hc _ (by intro t e; cases e)
          have h1 : ρ (.tmp 1) = .pointer (some ⟨w.heap.size, 0, none⟩) := ho 1 (by kernel_rfl)
          exact Lin.Runs.value Lin.keeps (v := .pointer (some ⟨w.heap.size, 1, none⟩)) (by simp [execOp, go_sem, hC, hF, h1]) rfl
        · intro vals w8 hb2 hv
          have e1 : vals 57 = .int .u64 (b2 : Int) := hv 57 (by kernel_rfl)
          have e2 : vals 58 = .pointer (some ⟨w.heap.size, 1, none⟩) := hv 58 (by kernel_rfl)
          change wpList _ _ _ [_] _ _
          simp only [Lin.putAll, Option.getD_some, List.take_succ_cons, List.take_zero, List.drop_succ_cons, List.drop_zero]
          rw [e1, e2]
          have HI_w8 : Hid (Is w8 w.heap.size 167 #[.int .u64 (a3 : Int), .int .u64 (b1 : Int), .int .u64 (c2 : Int), .int .u64 (d2 : Int)]) := hide (((HI_w6.out.put 3 (.int .u64 (d2 : Int))).put 2 (.int .u64 (c2 : Int))).below hb2 ((HI_w6.out.put 3 (.int .u64 (d2 : Int))).put 2 (.int .u64 (c2 : Int))).lt)
          have HZ_w8 : Hid (Is w8 (w.heap.size + 1) 167 #[.int .u64 0, .int .u64 0, .int .u64 0, .int .u64 0]) := hide (((HZ_w6.out.other (p := ⟨w.heap.size, 3, none⟩) (by simp) (.int .u64 (d2 : Int))).other (p := ⟨w.heap.size, 2, none⟩) (by simp) (.int .u64 (c2 : Int))).below hb2 ((HZ_w6.out.other (p := ⟨w.heap.size, 3, none⟩) (by simp) (.int .u64 (d2 : Int))).other (p := ⟨w.heap.size, 2, none⟩) (by simp) (.int .u64 (c2 : Int))).lt)
          have HB_w8 : Hid (Below w.heap.size w w8) := hide (((HB_w6.out.setCell (p := ⟨w.heap.size, 3, none⟩) (Nat.le_refl _) (.int .u64 (d2 : Int))).setCell (p := ⟨w.heap.size, 2, none⟩) (Nat.le_refl _) (.int .u64 (c2 : Int))).trans (hb2.mono ((HB_w6.out.setCell (p := ⟨w.heap.size, 3, none⟩) (Nat.le_refl _) (.int .u64 (d2 : Int))).setCell (p := ⟨w.heap.size, 2, none⟩) (Nat.le_refl _) (.int .u64 (c2 : Int))).size))
          have z_w8 : w.heap.size + 1 < w8.heap.size := HZ_w8.out.lt
          have c0_w8 := HI_w8.out.cell 0
          have c1_w8 := HI_w8.out.cell 1
          have c2_w8 := HI_w8.out.cell 2
          have c3_w8 := HI_w8.out.cell 3
          have f0_w8 := HI_w8.out.free 0
          have f1_w8 := HI_w8.out.free 1
          have f2_w8 := HI_w8.out.free 2
          have f3_w8 := HI_w8.out.free 3
          have d0_w8 := HZ_w8.out.cell 0
          have d1_w8 := HZ_w8.out.cell 1
          have d2_w8 := HZ_w8.out.cell 2
          have d3_w8 := HZ_w8.out.cell 3
          have g0_w8 := HZ_w8.out.free 0
          have g1_w8 := HZ_w8.out.free 1
          have g2_w8 := HZ_w8.out.free 2
          have g3_w8 := HZ_w8.out.free 3
          simp at c0_w8 c1_w8 c2_w8 c3_w8 d0_w8 d1_w8 d2_w8 d3_w8
          clear hb2 hv
          go_wp2_with fail
          refine (unhide HRc3 _).mono ?_
          rintro e w9 ⟨rfl, rfl⟩
          go_wp2_with fail
          rw [HE.out]
          refine bodyPost_ret (v := St.val ⟨a3, b2, c3, d2⟩) (by simp [results, Try.results104, go_sem, St.val, c0_w8, c1_w8, c2_w8, c3_w8, d0_w8, d1_w8, d2_w8, d3_w8]) rfl ⟨rfl, ?_⟩
          exact (((((HB_w8.out.setCell (p := ⟨w.heap.size, 1, none⟩) (Nat.le_refl _) _).setCell (p := ⟨w.heap.size, 2, none⟩) (Nat.le_refl _) _).setCell (p := ⟨w.heap.size + 1, 0, none⟩) (Nat.le_succ _) _).setCell (p := ⟨w.heap.size + 1, 1, none⟩) (Nat.le_succ _) _).setCell (p := ⟨w.heap.size + 1, 2, none⟩) (Nat.le_succ _) _).setCell (p := ⟨w.heap.size + 1, 3, none⟩) (Nat.le_succ _) _
theorem rround_lit {a b c d a1 b1 c1 d1 : Nat} (h : St.ok ⟨a, b, c, d⟩) (e : rnd ⟨a, b, c, d⟩ = ⟨a1, b1, c1, d1⟩) (w : World) :
    Calls Try.prog 104 #[.agg #[.int .u64 (a : Int), .int .u64 (b : Int), .int .u64 (c : Int), .int .u64 (d : Int)]] w fun e w' => e = .returned (.agg #[.int .u64 (a1 : Int), .int .u64 (b1 : Int), .int .u64 (c1 : Int), .int .u64 (d1 : Int)]) ∧ Below w.heap.size w w' := by
  have := rround_any a b c d w h
  rw [e] at this; exact this
end Go.Proofs.Ythjkjohmaemmiaa
