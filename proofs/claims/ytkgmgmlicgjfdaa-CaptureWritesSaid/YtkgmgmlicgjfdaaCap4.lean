/-
  Head and Write of the reference, Write of package capture, and the chapter's example: what a call returns. Helper of the claims of layer 45. No condition.
-/
import Derived.Test.YtkgmgmlicgjfdaaCap3
namespace Go.Proofs.Ytkgmgmlicgjfdaa
open Go.ChangeShapes Go.WideShapes Go.ChangeAt Go.RowKit
set_option linter.unusedVariables false
set_option maxRecDepth 100000
set_option maxHeartbeats 4000000 in
theorem rhead_false (sm : Bool) (mo li : Nat) (hmo : mo < 4294967296) (hli : li < 4294967296) (w : World) : Calls Try.prog 60 #[fileV sm false (mo : Int) (li : Int)] w fun e w' => ∃ v, e = .returned v ∧ Below w.heap.size w w' ∧ IsB (headF sm false mo li) 24 v w' := by
  have LL := Lib.hid (headF_len sm false mo li)
  unfold fileV
  have hb0 : Below w.heap.size w (w.alloc (.cells #[.bool sm, .bool false, .int .u32 (mo : Int), .int .u32 (li : Int)] 82)) := (Below.refl _ _).alloc (Nat.le_refl _) _
  have hg0 := Is.new w 82 #[.bool sm, .bool false, .int .u32 (mo : Int), .int .u32 (li : Int)]
  go_enter Try.func60, Try.ntmps60
  go_wp2_with fail
  generalize w.alloc (.cells #[.bool sm, .bool false, .int .u32 (mo : Int), .int .u32 (li : Int)] 82) = W at *
  have HB := Lib.hid hb0; have HG := hide hg0
  clear hb0 hg0
  refine Lin.wp_region_lin Lin.keeps (n := 27)  (fun slotq => match slotq with | 6 => Lin.Spec.val (fileV sm false (mo : Int) (li : Int)) | 7 => Lin.Spec.val (.int .u32 2712847316) | 8 => Lin.Spec.sl (numF sm 2712847316 4) 4 | 9 => Lin.Spec.val (fileV sm false (mo : Int) (li : Int)) | 10 => Lin.Spec.sl (numF sm 2 2) 2 | 11 => Lin.Spec.val (fileV sm false (mo : Int) (li : Int)) | 12 => Lin.Spec.sl (numF sm 4 2) 2 | 13 => Lin.Spec.val (fileV sm false (mo : Int) (li : Int)) | 14 => Lin.Spec.sl (numF sm 0 4) 4 | 15 => Lin.Spec.val (fileV sm false (mo : Int) (li : Int)) | 16 => Lin.Spec.sl (numF sm 0 4) 4 | 17 => Lin.Spec.val (fileV sm false (mo : Int) (li : Int)) | 18 => Lin.Spec.val (.pointer (some ⟨w.heap.size, 2, none⟩)) | 19 => Lin.Spec.val (.int .u32 (mo : Int)) | 20 => Lin.Spec.sl (numF sm mo 4) 4 | 21 => Lin.Spec.val (fileV sm false (mo : Int) (li : Int)) | 22 => Lin.Spec.val (.pointer (some ⟨w.heap.size, 3, none⟩)) | 23 => Lin.Spec.val (.int .u32 (li : Int)) | 24 => Lin.Spec.sl (numF sm li 4) 4 | 25 => Lin.Spec.parts [numF sm 2712847316 4, numF sm 2 2, numF sm 4 2, numF sm 0 4, numF sm 0 4, numF sm mo 4, numF sm li 4] | 26 => Lin.Spec.sl (headF sm false mo li) (24) | 2 => Lin.Spec.sl (headF sm false mo li) (24) | _ => Lin.Spec.any) (by kernel_rfl) rfl (by kernel_rfl) ⟨?_, ?_, ?_, ?_, ?_, ?_, ?_, ?_, ?_, ?_, ?_, ?_, ?_, ?_, ?_, ?_, ?_, ?_, ?_, ?_, ?_, ?_, trivial⟩ ?_
  · intro ρ wq hb ho hc hd
    have hC : ∀ v, ρ (.const v) = v := fun v => hc _ (by intro t e; cases e)
    have hF : ∀ f, ρ (.func f) = .func (.func f) #[] #[] := fun f => hc _ (by intro t e; cases e)
    have h1 : ρ (.tmp 1) = .pointer (some ⟨w.heap.size, 0, none⟩) := ho 1 (by kernel_rfl)
    have hg8 := HG.out.below hb HG.out.lt
    have m0 := hg8.cell 0
    have m1 := hg8.cell 1
    have m2 := hg8.cell 2
    have m3 := hg8.cell 3
    simp at m0 m1 m2 m3
    exact Lin.Runs.value Lin.keeps (v := fileV sm false (mo : Int) (li : Int)) (by simp [fileV, execOp, go_sem, h1, m0, m1, m2, m3]) rfl
  · intro ρ wq hb ho hc hd
    have hC : ∀ v, ρ (.const v) = v := fun v => hc _ (by intro t e; cases e)
    have hF : ∀ f, ρ (.func f) = .func (.func f) #[] #[] := fun f => hc _ (by intro t e; cases e)
    have h3 : ρ (.tmp 3) = .int .u32 2712847316 := ho 3 (by kernel_rfl)
    exact Lin.Runs.value Lin.keeps (Lin.exec_move rfl) h3
  · intro ρ wq hb ho hc hd
    have hC : ∀ v, ρ (.const v) = v := fun v => hc _ (by intro t e; cases e)
    have hF : ∀ f, ρ (.func f) = .func (.func f) #[] #[] := fun f => hc _ (by intro t e; cases e)
    have h6 : ρ (.tmp 6) = fileV sm false (mo : Int) (li : Int) := hd 6 (by kernel_rfl)
    have h7 : ρ (.tmp 7) = .int .u32 2712847316 := hd 7 (by kernel_rfl)
    exact Lin.Runs.call Lin.keeps (f := 115) (args := #[fileV sm false (mo : Int) (li : Int), .int .u32 (2712847316 : Int), .int .i64 4]) (by simp [fileV, execOp, go_sem, hC, hF, h6, h7]) (rnum_4 sm false (mo : Int) (li : Int) 2712847316 (by omega) wq)
  · intro ρ wq hb ho hc hd
    have hC : ∀ v, ρ (.const v) = v := fun v => hc _ (by intro t e; cases e)
    have hF : ∀ f, ρ (.func f) = .func (.func f) #[] #[] := fun f => hc _ (by intro t e; cases e)
    have h1 : ρ (.tmp 1) = .pointer (some ⟨w.heap.size, 0, none⟩) := ho 1 (by kernel_rfl)
    have hg8 := HG.out.below hb HG.out.lt
    have m0 := hg8.cell 0
    have m1 := hg8.cell 1
    have m2 := hg8.cell 2
    have m3 := hg8.cell 3
    simp at m0 m1 m2 m3
    exact Lin.Runs.value Lin.keeps (v := fileV sm false (mo : Int) (li : Int)) (by simp [fileV, execOp, go_sem, h1, m0, m1, m2, m3]) rfl
  · intro ρ wq hb ho hc hd
    have hC : ∀ v, ρ (.const v) = v := fun v => hc _ (by intro t e; cases e)
    have hF : ∀ f, ρ (.func f) = .func (.func f) #[] #[] := fun f => hc _ (by intro t e; cases e)
    have h9 : ρ (.tmp 9) = fileV sm false (mo : Int) (li : Int) := hd 9 (by kernel_rfl)
    exact Lin.Runs.call Lin.keeps (f := 115) (args := #[fileV sm false (mo : Int) (li : Int), .int .u32 (2 : Int), .int .i64 2]) (by simp [fileV, execOp, go_sem, hC, hF, h9]) (rnum_2 sm false (mo : Int) (li : Int) 2 (by omega) wq)
  · intro ρ wq hb ho hc hd
    have hC : ∀ v, ρ (.const v) = v := fun v => hc _ (by intro t e; cases e)
    have hF : ∀ f, ρ (.func f) = .func (.func f) #[] #[] := fun f => hc _ (by intro t e; cases e)
    have h1 : ρ (.tmp 1) = .pointer (some ⟨w.heap.size, 0, none⟩) := ho 1 (by kernel_rfl)
    have hg8 := HG.out.below hb HG.out.lt
    have m0 := hg8.cell 0
    have m1 := hg8.cell 1
    have m2 := hg8.cell 2
    have m3 := hg8.cell 3
    simp at m0 m1 m2 m3
    exact Lin.Runs.value Lin.keeps (v := fileV sm false (mo : Int) (li : Int)) (by simp [fileV, execOp, go_sem, h1, m0, m1, m2, m3]) rfl
  · intro ρ wq hb ho hc hd
    have hC : ∀ v, ρ (.const v) = v := fun v => hc _ (by intro t e; cases e)
    have hF : ∀ f, ρ (.func f) = .func (.func f) #[] #[] := fun f => hc _ (by intro t e; cases e)
    have h11 : ρ (.tmp 11) = fileV sm false (mo : Int) (li : Int) := hd 11 (by kernel_rfl)
    exact Lin.Runs.call Lin.keeps (f := 115) (args := #[fileV sm false (mo : Int) (li : Int), .int .u32 (4 : Int), .int .i64 2]) (by simp [fileV, execOp, go_sem, hC, hF, h11]) (rnum_2 sm false (mo : Int) (li : Int) 4 (by omega) wq)
  · intro ρ wq hb ho hc hd
    have hC : ∀ v, ρ (.const v) = v := fun v => hc _ (by intro t e; cases e)
    have hF : ∀ f, ρ (.func f) = .func (.func f) #[] #[] := fun f => hc _ (by intro t e; cases e)
    have h1 : ρ (.tmp 1) = .pointer (some ⟨w.heap.size, 0, none⟩) := ho 1 (by kernel_rfl)
    have hg8 := HG.out.below hb HG.out.lt
    have m0 := hg8.cell 0
    have m1 := hg8.cell 1
    have m2 := hg8.cell 2
    have m3 := hg8.cell 3
    simp at m0 m1 m2 m3
    exact Lin.Runs.value Lin.keeps (v := fileV sm false (mo : Int) (li : Int)) (by simp [fileV, execOp, go_sem, h1, m0, m1, m2, m3]) rfl
  · intro ρ wq hb ho hc hd
    have hC : ∀ v, ρ (.const v) = v := fun v => hc _ (by intro t e; cases e)
    have hF : ∀ f, ρ (.func f) = .func (.func f) #[] #[] := fun f => hc _ (by intro t e; cases e)
    have h13 : ρ (.tmp 13) = fileV sm false (mo : Int) (li : Int) := hd 13 (by kernel_rfl)
    exact Lin.Runs.call Lin.keeps (f := 115) (args := #[fileV sm false (mo : Int) (li : Int), .int .u32 (0 : Int), .int .i64 4]) (by simp [fileV, execOp, go_sem, hC, hF, h13]) (rnum_4 sm false (mo : Int) (li : Int) 0 (by omega) wq)
  · intro ρ wq hb ho hc hd
    have hC : ∀ v, ρ (.const v) = v := fun v => hc _ (by intro t e; cases e)
    have hF : ∀ f, ρ (.func f) = .func (.func f) #[] #[] := fun f => hc _ (by intro t e; cases e)
    have h1 : ρ (.tmp 1) = .pointer (some ⟨w.heap.size, 0, none⟩) := ho 1 (by kernel_rfl)
    have hg8 := HG.out.below hb HG.out.lt
    have m0 := hg8.cell 0
    have m1 := hg8.cell 1
    have m2 := hg8.cell 2
    have m3 := hg8.cell 3
    simp at m0 m1 m2 m3
    exact Lin.Runs.value Lin.keeps (v := fileV sm false (mo : Int) (li : Int)) (by simp [fileV, execOp, go_sem, h1, m0, m1, m2, m3]) rfl
  · intro ρ wq hb ho hc hd
    have hC : ∀ v, ρ (.const v) = v := fun v => hc _ (by intro t e; cases e)
    have hF : ∀ f, ρ (.func f) = .func (.func f) #[] #[] := fun f => hc _ (by intro t e; cases e)
    have h15 : ρ (.tmp 15) = fileV sm false (mo : Int) (li : Int) := hd 15 (by kernel_rfl)
    exact Lin.Runs.call Lin.keeps (f := 115) (args := #[fileV sm false (mo : Int) (li : Int), .int .u32 (0 : Int), .int .i64 4]) (by simp [fileV, execOp, go_sem, hC, hF, h15]) (rnum_4 sm false (mo : Int) (li : Int) 0 (by omega) wq)
  · intro ρ wq hb ho hc hd
    have hC : ∀ v, ρ (.const v) = v := fun v => hc _ (by intro t e; cases e)
    have hF : ∀ f, ρ (.func f) = .func (.func f) #[] #[] := fun f => hc _ (by intro t e; cases e)
    have h1 : ρ (.tmp 1) = .pointer (some ⟨w.heap.size, 0, none⟩) := ho 1 (by kernel_rfl)
    have hg8 := HG.out.below hb HG.out.lt
    have m0 := hg8.cell 0
    have m1 := hg8.cell 1
    have m2 := hg8.cell 2
    have m3 := hg8.cell 3
    simp at m0 m1 m2 m3
    exact Lin.Runs.value Lin.keeps (v := fileV sm false (mo : Int) (li : Int)) (by simp [fileV, execOp, go_sem, h1, m0, m1, m2, m3]) rfl
  · intro ρ wq hb ho hc hd
    have hC : ∀ v, ρ (.const v) = v := fun v => hc _ (by intro t e; cases e)
    have hF : ∀ f, ρ (.func f) = .func (.func f) #[] #[] := fun f => hc _ (by intro t e; cases e)
    have h1 : ρ (.tmp 1) = .pointer (some ⟨w.heap.size, 0, none⟩) := ho 1 (by kernel_rfl)
    exact Lin.Runs.value Lin.keeps (v := .pointer (some ⟨w.heap.size, 2, none⟩)) (by simp [execOp, go_sem, h1]) rfl
  · intro ρ wq hb ho hc hd
    have hC : ∀ v, ρ (.const v) = v := fun v => hc _ (by intro t e; cases e)
    have hF : ∀ f, ρ (.func f) = .func (.func f) #[] #[] := fun f => hc _ (by intro t e; cases e)
    have h18 : ρ (.tmp 18) = .pointer (some ⟨w.heap.size, 2, none⟩) := hd 18 (by kernel_rfl)
    have hg8 := HG.out.below hb HG.out.lt
    have m2 := hg8.cell 2
    simp at m2
    exact Lin.Runs.value Lin.keeps (v := .int .u32 (mo : Int)) (by simp [execOp, go_sem, h18, m2]) rfl
  · intro ρ wq hb ho hc hd
    have hC : ∀ v, ρ (.const v) = v := fun v => hc _ (by intro t e; cases e)
    have hF : ∀ f, ρ (.func f) = .func (.func f) #[] #[] := fun f => hc _ (by intro t e; cases e)
    have h17 : ρ (.tmp 17) = fileV sm false (mo : Int) (li : Int) := hd 17 (by kernel_rfl)
    have h19 : ρ (.tmp 19) = .int .u32 (mo : Int) := hd 19 (by kernel_rfl)
    exact Lin.Runs.call Lin.keeps (f := 115) (args := #[fileV sm false (mo : Int) (li : Int), .int .u32 (mo : Int), .int .i64 4]) (by simp [fileV, execOp, go_sem, hC, hF, h17, h19]) (rnum_4 sm false (mo : Int) (li : Int) mo (by omega) wq)
  · intro ρ wq hb ho hc hd
    have hC : ∀ v, ρ (.const v) = v := fun v => hc _ (by intro t e; cases e)
    have hF : ∀ f, ρ (.func f) = .func (.func f) #[] #[] := fun f => hc _ (by intro t e; cases e)
    have h1 : ρ (.tmp 1) = .pointer (some ⟨w.heap.size, 0, none⟩) := ho 1 (by kernel_rfl)
    have hg8 := HG.out.below hb HG.out.lt
    have m0 := hg8.cell 0
    have m1 := hg8.cell 1
    have m2 := hg8.cell 2
    have m3 := hg8.cell 3
    simp at m0 m1 m2 m3
    exact Lin.Runs.value Lin.keeps (v := fileV sm false (mo : Int) (li : Int)) (by simp [fileV, execOp, go_sem, h1, m0, m1, m2, m3]) rfl
  · intro ρ wq hb ho hc hd
    have hC : ∀ v, ρ (.const v) = v := fun v => hc _ (by intro t e; cases e)
    have hF : ∀ f, ρ (.func f) = .func (.func f) #[] #[] := fun f => hc _ (by intro t e; cases e)
    have h1 : ρ (.tmp 1) = .pointer (some ⟨w.heap.size, 0, none⟩) := ho 1 (by kernel_rfl)
    exact Lin.Runs.value Lin.keeps (v := .pointer (some ⟨w.heap.size, 3, none⟩)) (by simp [execOp, go_sem, h1]) rfl
  · intro ρ wq hb ho hc hd
    have hC : ∀ v, ρ (.const v) = v := fun v => hc _ (by intro t e; cases e)
    have hF : ∀ f, ρ (.func f) = .func (.func f) #[] #[] := fun f => hc _ (by intro t e; cases e)
    have h22 : ρ (.tmp 22) = .pointer (some ⟨w.heap.size, 3, none⟩) := hd 22 (by kernel_rfl)
    have hg8 := HG.out.below hb HG.out.lt
    have m3 := hg8.cell 3
    simp at m3
    exact Lin.Runs.value Lin.keeps (v := .int .u32 (li : Int)) (by simp [execOp, go_sem, h22, m3]) rfl
  · intro ρ wq hb ho hc hd
    have hC : ∀ v, ρ (.const v) = v := fun v => hc _ (by intro t e; cases e)
    have hF : ∀ f, ρ (.func f) = .func (.func f) #[] #[] := fun f => hc _ (by intro t e; cases e)
    have h21 : ρ (.tmp 21) = fileV sm false (mo : Int) (li : Int) := hd 21 (by kernel_rfl)
    have h23 : ρ (.tmp 23) = .int .u32 (li : Int) := hd 23 (by kernel_rfl)
    exact Lin.Runs.call Lin.keeps (f := 115) (args := #[fileV sm false (mo : Int) (li : Int), .int .u32 (li : Int), .int .i64 4]) (by simp [fileV, execOp, go_sem, hC, hF, h21, h23]) (rnum_4 sm false (mo : Int) (li : Int) li (by omega) wq)
  · intro ρ wq hb ho hc hd
    have hC : ∀ v, ρ (.const v) = v := fun v => hc _ (by intro t e; cases e)
    have hF : ∀ f, ρ (.func f) = .func (.func f) #[] #[] := fun f => hc _ (by intro t e; cases e)
    have h8 := hd 8 (by kernel_rfl)
    have h10 := hd 10 (by kernel_rfl)
    have h12 := hd 12 (by kernel_rfl)
    have h14 := hd 14 (by kernel_rfl)
    have h16 := hd 16 (by kernel_rfl)
    have h20 := hd 20 (by kernel_rfl)
    have h24 := hd 24 (by kernel_rfl)
    have s8 := h8.shape
    generalize hv8 : ρ (.tmp 8) = v8 at *
    obtain ⟨D8, e8, rfl⟩ := s8
    have s10 := h10.shape
    generalize hv10 : ρ (.tmp 10) = v10 at *
    obtain ⟨D10, e10, rfl⟩ := s10
    have s12 := h12.shape
    generalize hv12 : ρ (.tmp 12) = v12 at *
    obtain ⟨D12, e12, rfl⟩ := s12
    have s14 := h14.shape
    generalize hv14 : ρ (.tmp 14) = v14 at *
    obtain ⟨D14, e14, rfl⟩ := s14
    have s16 := h16.shape
    generalize hv16 : ρ (.tmp 16) = v16 at *
    obtain ⟨D16, e16, rfl⟩ := s16
    have s20 := h20.shape
    generalize hv20 : ρ (.tmp 20) = v20 at *
    obtain ⟨D20, e20, rfl⟩ := s20
    have s24 := h24.shape
    generalize hv24 : ρ (.tmp 24) = v24 at *
    obtain ⟨D24, e24, rfl⟩ := s24
    refine Lin.Runs.made (v := .slice (some ⟨wq.heap.size, 0, none⟩) 7 7) (w' := wq.alloc (.cells #[.slice D8 4 e8, .slice D10 2 e10, .slice D12 2 e12, .slice D14 4 e14, .slice D16 4 e16, .slice D20 4 e20, .slice D24 4 e24] 22)) (by simp [execOp, go_sem, hv8, hv10, hv12, hv14, hv16, hv20, hv24]) ((Below.refl _ _).alloc (Nat.le_refl _) _) ?_
    exact IsP.lit wq [(.slice D8 4 e8, numF sm 2712847316 4), (.slice D10 2 e10, numF sm 2 2), (.slice D12 2 e12, numF sm 4 2), (.slice D14 4 e14, numF sm 0 4), (.slice D16 4 e16, numF sm 0 4), (.slice D20 4 e20, numF sm mo 4), (.slice D24 4 e24, numF sm li 4)] 22 (by
      intro p hp
      simp only [List.mem_cons, List.not_mem_nil, or_false] at hp
      rcases hp with rfl | rfl | rfl | rfl | rfl | rfl | rfl
      · exact ⟨_, h8⟩
      · exact ⟨_, h10⟩
      · exact ⟨_, h12⟩
      · exact ⟨_, h14⟩
      · exact ⟨_, h16⟩
      · exact ⟨_, h20⟩
      · exact ⟨_, h24⟩)
  · intro ρ wq hb ho hc hd
    have hC : ∀ v, ρ (.const v) = v := fun v => hc _ (by intro t e; cases e)
    have hF : ∀ f, ρ (.func f) = .func (.func f) #[] #[] := fun f => hc _ (by intro t e; cases e)
    have h25 := hd 25 (by kernel_rfl)
    refine Lin.Runs.call Lin.keeps (f := 101) (args := #[ρ (.tmp 25)]) (by simp [execOp, go_sem, hF]) ?_
    have hh := join_p h25 (L := headF sm false mo li) (by simp [headF, markF]) (by rw [LL.out]; omega) (by simp)
    rw [LL.out] at hh
    exact hh
  · intro ρ wq hb ho hc hd
    have hC : ∀ v, ρ (.const v) = v := fun v => hc _ (by intro t e; cases e)
    have hF : ∀ f, ρ (.func f) = .func (.func f) #[] #[] := fun f => hc _ (by intro t e; cases e)
    have h26 := hd 26 (by kernel_rfl)
    exact Lin.Runs.value Lin.keeps (Lin.exec_assign rfl) h26
  · intro vals w9 hb hv
    have e2 := hv 2 (by kernel_rfl)
    simp only [Lin.putAll, Option.getD_some]
    generalize vals 2 = v2 at *
    obtain ⟨A9, c9, rfl⟩ := e2.shape
    have E2 := hide e2
    clear hv e2
    have HB9 := Lib.hid (HB.out.trans (hb.mono HB.out.size))
    clear hb
    go_simp
    generalize vals = vv
    go_wp2_with fail
    go_ret
    exact ⟨_, rfl, HB9.out, E2.out⟩
set_option maxHeartbeats 4000000 in
theorem rhead_true (sm : Bool) (mo li : Nat) (hmo : mo < 4294967296) (hli : li < 4294967296) (w : World) : Calls Try.prog 60 #[fileV sm true (mo : Int) (li : Int)] w fun e w' => ∃ v, e = .returned v ∧ Below w.heap.size w w' ∧ IsB (headF sm true mo li) 24 v w' := by
  have LL := Lib.hid (headF_len sm true mo li)
  unfold fileV
  have hb0 : Below w.heap.size w (w.alloc (.cells #[.bool sm, .bool true, .int .u32 (mo : Int), .int .u32 (li : Int)] 82)) := (Below.refl _ _).alloc (Nat.le_refl _) _
  have hg0 := Is.new w 82 #[.bool sm, .bool true, .int .u32 (mo : Int), .int .u32 (li : Int)]
  go_enter Try.func60, Try.ntmps60
  go_wp2_with fail
  generalize w.alloc (.cells #[.bool sm, .bool true, .int .u32 (mo : Int), .int .u32 (li : Int)] 82) = W at *
  have HB := Lib.hid hb0; have HG := hide hg0
  clear hb0 hg0
  refine Lin.wp_region_lin Lin.keeps (n := 27)  (fun slotq => match slotq with | 6 => Lin.Spec.val (fileV sm true (mo : Int) (li : Int)) | 7 => Lin.Spec.val (.int .u32 2712812621) | 8 => Lin.Spec.sl (numF sm 2712812621 4) 4 | 9 => Lin.Spec.val (fileV sm true (mo : Int) (li : Int)) | 10 => Lin.Spec.sl (numF sm 2 2) 2 | 11 => Lin.Spec.val (fileV sm true (mo : Int) (li : Int)) | 12 => Lin.Spec.sl (numF sm 4 2) 2 | 13 => Lin.Spec.val (fileV sm true (mo : Int) (li : Int)) | 14 => Lin.Spec.sl (numF sm 0 4) 4 | 15 => Lin.Spec.val (fileV sm true (mo : Int) (li : Int)) | 16 => Lin.Spec.sl (numF sm 0 4) 4 | 17 => Lin.Spec.val (fileV sm true (mo : Int) (li : Int)) | 18 => Lin.Spec.val (.pointer (some ⟨w.heap.size, 2, none⟩)) | 19 => Lin.Spec.val (.int .u32 (mo : Int)) | 20 => Lin.Spec.sl (numF sm mo 4) 4 | 21 => Lin.Spec.val (fileV sm true (mo : Int) (li : Int)) | 22 => Lin.Spec.val (.pointer (some ⟨w.heap.size, 3, none⟩)) | 23 => Lin.Spec.val (.int .u32 (li : Int)) | 24 => Lin.Spec.sl (numF sm li 4) 4 | 25 => Lin.Spec.parts [numF sm 2712812621 4, numF sm 2 2, numF sm 4 2, numF sm 0 4, numF sm 0 4, numF sm mo 4, numF sm li 4] | 26 => Lin.Spec.sl (headF sm true mo li) (24) | 2 => Lin.Spec.sl (headF sm true mo li) (24) | _ => Lin.Spec.any) (by kernel_rfl) rfl (by kernel_rfl) ⟨?_, ?_, ?_, ?_, ?_, ?_, ?_, ?_, ?_, ?_, ?_, ?_, ?_, ?_, ?_, ?_, ?_, ?_, ?_, ?_, ?_, ?_, trivial⟩ ?_
  · intro ρ wq hb ho hc hd
    have hC : ∀ v, ρ (.const v) = v := fun v => hc _ (by intro t e; cases e)
    have hF : ∀ f, ρ (.func f) = .func (.func f) #[] #[] := fun f => hc _ (by intro t e; cases e)
    have h1 : ρ (.tmp 1) = .pointer (some ⟨w.heap.size, 0, none⟩) := ho 1 (by kernel_rfl)
    have hg8 := HG.out.below hb HG.out.lt
    have m0 := hg8.cell 0
    have m1 := hg8.cell 1
    have m2 := hg8.cell 2
    have m3 := hg8.cell 3
    simp at m0 m1 m2 m3
    exact Lin.Runs.value Lin.keeps (v := fileV sm true (mo : Int) (li : Int)) (by simp [fileV, execOp, go_sem, h1, m0, m1, m2, m3]) rfl
  · intro ρ wq hb ho hc hd
    have hC : ∀ v, ρ (.const v) = v := fun v => hc _ (by intro t e; cases e)
    have hF : ∀ f, ρ (.func f) = .func (.func f) #[] #[] := fun f => hc _ (by intro t e; cases e)
    have h3 : ρ (.tmp 3) = .int .u32 2712812621 := ho 3 (by kernel_rfl)
    exact Lin.Runs.value Lin.keeps (Lin.exec_move rfl) h3
  · intro ρ wq hb ho hc hd
    have hC : ∀ v, ρ (.const v) = v := fun v => hc _ (by intro t e; cases e)
    have hF : ∀ f, ρ (.func f) = .func (.func f) #[] #[] := fun f => hc _ (by intro t e; cases e)
    have h6 : ρ (.tmp 6) = fileV sm true (mo : Int) (li : Int) := hd 6 (by kernel_rfl)
    have h7 : ρ (.tmp 7) = .int .u32 2712812621 := hd 7 (by kernel_rfl)
    exact Lin.Runs.call Lin.keeps (f := 115) (args := #[fileV sm true (mo : Int) (li : Int), .int .u32 (2712812621 : Int), .int .i64 4]) (by simp [fileV, execOp, go_sem, hC, hF, h6, h7]) (rnum_4 sm true (mo : Int) (li : Int) 2712812621 (by omega) wq)
  · intro ρ wq hb ho hc hd
    have hC : ∀ v, ρ (.const v) = v := fun v => hc _ (by intro t e; cases e)
    have hF : ∀ f, ρ (.func f) = .func (.func f) #[] #[] := fun f => hc _ (by intro t e; cases e)
    have h1 : ρ (.tmp 1) = .pointer (some ⟨w.heap.size, 0, none⟩) := ho 1 (by kernel_rfl)
    have hg8 := HG.out.below hb HG.out.lt
    have m0 := hg8.cell 0
    have m1 := hg8.cell 1
    have m2 := hg8.cell 2
    have m3 := hg8.cell 3
    simp at m0 m1 m2 m3
    exact Lin.Runs.value Lin.keeps (v := fileV sm true (mo : Int) (li : Int)) (by simp [fileV, execOp, go_sem, h1, m0, m1, m2, m3]) rfl
  · intro ρ wq hb ho hc hd
    have hC : ∀ v, ρ (.const v) = v := fun v => hc _ (by intro t e; cases e)
    have hF : ∀ f, ρ (.func f) = .func (.func f) #[] #[] := fun f => hc _ (by intro t e; cases e)
    have h9 : ρ (.tmp 9) = fileV sm true (mo : Int) (li : Int) := hd 9 (by kernel_rfl)
    exact Lin.Runs.call Lin.keeps (f := 115) (args := #[fileV sm true (mo : Int) (li : Int), .int .u32 (2 : Int), .int .i64 2]) (by simp [fileV, execOp, go_sem, hC, hF, h9]) (rnum_2 sm true (mo : Int) (li : Int) 2 (by omega) wq)
  · intro ρ wq hb ho hc hd
    have hC : ∀ v, ρ (.const v) = v := fun v => hc _ (by intro t e; cases e)
    have hF : ∀ f, ρ (.func f) = .func (.func f) #[] #[] := fun f => hc _ (by intro t e; cases e)
    have h1 : ρ (.tmp 1) = .pointer (some ⟨w.heap.size, 0, none⟩) := ho 1 (by kernel_rfl)
    have hg8 := HG.out.below hb HG.out.lt
    have m0 := hg8.cell 0
    have m1 := hg8.cell 1
    have m2 := hg8.cell 2
    have m3 := hg8.cell 3
    simp at m0 m1 m2 m3
    exact Lin.Runs.value Lin.keeps (v := fileV sm true (mo : Int) (li : Int)) (by simp [fileV, execOp, go_sem, h1, m0, m1, m2, m3]) rfl
  · intro ρ wq hb ho hc hd
    have hC : ∀ v, ρ (.const v) = v := fun v => hc _ (by intro t e; cases e)
    have hF : ∀ f, ρ (.func f) = .func (.func f) #[] #[] := fun f => hc _ (by intro t e; cases e)
    have h11 : ρ (.tmp 11) = fileV sm true (mo : Int) (li : Int) := hd 11 (by kernel_rfl)
    exact Lin.Runs.call Lin.keeps (f := 115) (args := #[fileV sm true (mo : Int) (li : Int), .int .u32 (4 : Int), .int .i64 2]) (by simp [fileV, execOp, go_sem, hC, hF, h11]) (rnum_2 sm true (mo : Int) (li : Int) 4 (by omega) wq)
  · intro ρ wq hb ho hc hd
    have hC : ∀ v, ρ (.const v) = v := fun v => hc _ (by intro t e; cases e)
    have hF : ∀ f, ρ (.func f) = .func (.func f) #[] #[] := fun f => hc _ (by intro t e; cases e)
    have h1 : ρ (.tmp 1) = .pointer (some ⟨w.heap.size, 0, none⟩) := ho 1 (by kernel_rfl)
    have hg8 := HG.out.below hb HG.out.lt
    have m0 := hg8.cell 0
    have m1 := hg8.cell 1
    have m2 := hg8.cell 2
    have m3 := hg8.cell 3
    simp at m0 m1 m2 m3
    exact Lin.Runs.value Lin.keeps (v := fileV sm true (mo : Int) (li : Int)) (by simp [fileV, execOp, go_sem, h1, m0, m1, m2, m3]) rfl
  · intro ρ wq hb ho hc hd
    have hC : ∀ v, ρ (.const v) = v := fun v => hc _ (by intro t e; cases e)
    have hF : ∀ f, ρ (.func f) = .func (.func f) #[] #[] := fun f => hc _ (by intro t e; cases e)
    have h13 : ρ (.tmp 13) = fileV sm true (mo : Int) (li : Int) := hd 13 (by kernel_rfl)
    exact Lin.Runs.call Lin.keeps (f := 115) (args := #[fileV sm true (mo : Int) (li : Int), .int .u32 (0 : Int), .int .i64 4]) (by simp [fileV, execOp, go_sem, hC, hF, h13]) (rnum_4 sm true (mo : Int) (li : Int) 0 (by omega) wq)
  · intro ρ wq hb ho hc hd
    have hC : ∀ v, ρ (.const v) = v := fun v => hc _ (by intro t e; cases e)
    have hF : ∀ f, ρ (.func f) = .func (.func f) #[] #[] := fun f => hc _ (by intro t e; cases e)
    have h1 : ρ (.tmp 1) = .pointer (some ⟨w.heap.size, 0, none⟩) := ho 1 (by kernel_rfl)
    have hg8 := HG.out.below hb HG.out.lt
    have m0 := hg8.cell 0
    have m1 := hg8.cell 1
    have m2 := hg8.cell 2
    have m3 := hg8.cell 3
    simp at m0 m1 m2 m3
    exact Lin.Runs.value Lin.keeps (v := fileV sm true (mo : Int) (li : Int)) (by simp [fileV, execOp, go_sem, h1, m0, m1, m2, m3]) rfl
  · intro ρ wq hb ho hc hd
    have hC : ∀ v, ρ (.const v) = v := fun v => hc _ (by intro t e; cases e)
    have hF : ∀ f, ρ (.func f) = .func (.func f) #[] #[] := fun f => hc _ (by intro t e; cases e)
    have h15 : ρ (.tmp 15) = fileV sm true (mo : Int) (li : Int) := hd 15 (by kernel_rfl)
    exact Lin.Runs.call Lin.keeps (f := 115) (args := #[fileV sm true (mo : Int) (li : Int), .int .u32 (0 : Int), .int .i64 4]) (by simp [fileV, execOp, go_sem, hC, hF, h15]) (rnum_4 sm true (mo : Int) (li : Int) 0 (by omega) wq)
  · intro ρ wq hb ho hc hd
    have hC : ∀ v, ρ (.const v) = v := fun v => hc _ (by intro t e; cases e)
    have hF : ∀ f, ρ (.func f) = .func (.func f) #[] #[] := fun f => hc _ (by intro t e; cases e)
    have h1 : ρ (.tmp 1) = .pointer (some ⟨w.heap.size, 0, none⟩) := ho 1 (by kernel_rfl)
    have hg8 := HG.out.below hb HG.out.lt
    have m0 := hg8.cell 0
    have m1 := hg8.cell 1
    have m2 := hg8.cell 2
    have m3 := hg8.cell 3
    simp at m0 m1 m2 m3
    exact Lin.Runs.value Lin.keeps (v := fileV sm true (mo : Int) (li : Int)) (by simp [fileV, execOp, go_sem, h1, m0, m1, m2, m3]) rfl
  · intro ρ wq hb ho hc hd
    have hC : ∀ v, ρ (.const v) = v := fun v => hc _ (by intro t e; cases e)
    have hF : ∀ f, ρ (.func f) = .func (.func f) #[] #[] := fun f => hc _ (by intro t e; cases e)
    have h1 : ρ (.tmp 1) = .pointer (some ⟨w.heap.size, 0, none⟩) := ho 1 (by kernel_rfl)
    exact Lin.Runs.value Lin.keeps (v := .pointer (some ⟨w.heap.size, 2, none⟩)) (by simp [execOp, go_sem, h1]) rfl
  · intro ρ wq hb ho hc hd
    have hC : ∀ v, ρ (.const v) = v := fun v => hc _ (by intro t e; cases e)
    have hF : ∀ f, ρ (.func f) = .func (.func f) #[] #[] := fun f => hc _ (by intro t e; cases e)
    have h18 : ρ (.tmp 18) = .pointer (some ⟨w.heap.size, 2, none⟩) := hd 18 (by kernel_rfl)
    have hg8 := HG.out.below hb HG.out.lt
    have m2 := hg8.cell 2
    simp at m2
    exact Lin.Runs.value Lin.keeps (v := .int .u32 (mo : Int)) (by simp [execOp, go_sem, h18, m2]) rfl
  · intro ρ wq hb ho hc hd
    have hC : ∀ v, ρ (.const v) = v := fun v => hc _ (by intro t e; cases e)
    have hF : ∀ f, ρ (.func f) = .func (.func f) #[] #[] := fun f => hc _ (by intro t e; cases e)
    have h17 : ρ (.tmp 17) = fileV sm true (mo : Int) (li : Int) := hd 17 (by kernel_rfl)
    have h19 : ρ (.tmp 19) = .int .u32 (mo : Int) := hd 19 (by kernel_rfl)
    exact Lin.Runs.call Lin.keeps (f := 115) (args := #[fileV sm true (mo : Int) (li : Int), .int .u32 (mo : Int), .int .i64 4]) (by simp [fileV, execOp, go_sem, hC, hF, h17, h19]) (rnum_4 sm true (mo : Int) (li : Int) mo (by omega) wq)
  · intro ρ wq hb ho hc hd
    have hC : ∀ v, ρ (.const v) = v := fun v => hc _ (by intro t e; cases e)
    have hF : ∀ f, ρ (.func f) = .func (.func f) #[] #[] := fun f => hc _ (by intro t e; cases e)
    have h1 : ρ (.tmp 1) = .pointer (some ⟨w.heap.size, 0, none⟩) := ho 1 (by kernel_rfl)
    have hg8 := HG.out.below hb HG.out.lt
    have m0 := hg8.cell 0
    have m1 := hg8.cell 1
    have m2 := hg8.cell 2
    have m3 := hg8.cell 3
    simp at m0 m1 m2 m3
    exact Lin.Runs.value Lin.keeps (v := fileV sm true (mo : Int) (li : Int)) (by simp [fileV, execOp, go_sem, h1, m0, m1, m2, m3]) rfl
  · intro ρ wq hb ho hc hd
    have hC : ∀ v, ρ (.const v) = v := fun v => hc _ (by intro t e; cases e)
    have hF : ∀ f, ρ (.func f) = .func (.func f) #[] #[] := fun f => hc _ (by intro t e; cases e)
    have h1 : ρ (.tmp 1) = .pointer (some ⟨w.heap.size, 0, none⟩) := ho 1 (by kernel_rfl)
    exact Lin.Runs.value Lin.keeps (v := .pointer (some ⟨w.heap.size, 3, none⟩)) (by simp [execOp, go_sem, h1]) rfl
  · intro ρ wq hb ho hc hd
    have hC : ∀ v, ρ (.const v) = v := fun v => hc _ (by intro t e; cases e)
    have hF : ∀ f, ρ (.func f) = .func (.func f) #[] #[] := fun f => hc _ (by intro t e; cases e)
    have h22 : ρ (.tmp 22) = .pointer (some ⟨w.heap.size, 3, none⟩) := hd 22 (by kernel_rfl)
    have hg8 := HG.out.below hb HG.out.lt
    have m3 := hg8.cell 3
    simp at m3
    exact Lin.Runs.value Lin.keeps (v := .int .u32 (li : Int)) (by simp [execOp, go_sem, h22, m3]) rfl
  · intro ρ wq hb ho hc hd
    have hC : ∀ v, ρ (.const v) = v := fun v => hc _ (by intro t e; cases e)
    have hF : ∀ f, ρ (.func f) = .func (.func f) #[] #[] := fun f => hc _ (by intro t e; cases e)
    have h21 : ρ (.tmp 21) = fileV sm true (mo : Int) (li : Int) := hd 21 (by kernel_rfl)
    have h23 : ρ (.tmp 23) = .int .u32 (li : Int) := hd 23 (by kernel_rfl)
    exact Lin.Runs.call Lin.keeps (f := 115) (args := #[fileV sm true (mo : Int) (li : Int), .int .u32 (li : Int), .int .i64 4]) (by simp [fileV, execOp, go_sem, hC, hF, h21, h23]) (rnum_4 sm true (mo : Int) (li : Int) li (by omega) wq)
  · intro ρ wq hb ho hc hd
    have hC : ∀ v, ρ (.const v) = v := fun v => hc _ (by intro t e; cases e)
    have hF : ∀ f, ρ (.func f) = .func (.func f) #[] #[] := fun f => hc _ (by intro t e; cases e)
    have h8 := hd 8 (by kernel_rfl)
    have h10 := hd 10 (by kernel_rfl)
    have h12 := hd 12 (by kernel_rfl)
    have h14 := hd 14 (by kernel_rfl)
    have h16 := hd 16 (by kernel_rfl)
    have h20 := hd 20 (by kernel_rfl)
    have h24 := hd 24 (by kernel_rfl)
    have s8 := h8.shape
    generalize hv8 : ρ (.tmp 8) = v8 at *
    obtain ⟨D8, e8, rfl⟩ := s8
    have s10 := h10.shape
    generalize hv10 : ρ (.tmp 10) = v10 at *
    obtain ⟨D10, e10, rfl⟩ := s10
    have s12 := h12.shape
    generalize hv12 : ρ (.tmp 12) = v12 at *
    obtain ⟨D12, e12, rfl⟩ := s12
    have s14 := h14.shape
    generalize hv14 : ρ (.tmp 14) = v14 at *
    obtain ⟨D14, e14, rfl⟩ := s14
    have s16 := h16.shape
    generalize hv16 : ρ (.tmp 16) = v16 at *
    obtain ⟨D16, e16, rfl⟩ := s16
    have s20 := h20.shape
    generalize hv20 : ρ (.tmp 20) = v20 at *
    obtain ⟨D20, e20, rfl⟩ := s20
    have s24 := h24.shape
    generalize hv24 : ρ (.tmp 24) = v24 at *
    obtain ⟨D24, e24, rfl⟩ := s24
    refine Lin.Runs.made (v := .slice (some ⟨wq.heap.size, 0, none⟩) 7 7) (w' := wq.alloc (.cells #[.slice D8 4 e8, .slice D10 2 e10, .slice D12 2 e12, .slice D14 4 e14, .slice D16 4 e16, .slice D20 4 e20, .slice D24 4 e24] 22)) (by simp [execOp, go_sem, hv8, hv10, hv12, hv14, hv16, hv20, hv24]) ((Below.refl _ _).alloc (Nat.le_refl _) _) ?_
    exact IsP.lit wq [(.slice D8 4 e8, numF sm 2712812621 4), (.slice D10 2 e10, numF sm 2 2), (.slice D12 2 e12, numF sm 4 2), (.slice D14 4 e14, numF sm 0 4), (.slice D16 4 e16, numF sm 0 4), (.slice D20 4 e20, numF sm mo 4), (.slice D24 4 e24, numF sm li 4)] 22 (by
      intro p hp
      simp only [List.mem_cons, List.not_mem_nil, or_false] at hp
      rcases hp with rfl | rfl | rfl | rfl | rfl | rfl | rfl
      · exact ⟨_, h8⟩
      · exact ⟨_, h10⟩
      · exact ⟨_, h12⟩
      · exact ⟨_, h14⟩
      · exact ⟨_, h16⟩
      · exact ⟨_, h20⟩
      · exact ⟨_, h24⟩)
  · intro ρ wq hb ho hc hd
    have hC : ∀ v, ρ (.const v) = v := fun v => hc _ (by intro t e; cases e)
    have hF : ∀ f, ρ (.func f) = .func (.func f) #[] #[] := fun f => hc _ (by intro t e; cases e)
    have h25 := hd 25 (by kernel_rfl)
    refine Lin.Runs.call Lin.keeps (f := 101) (args := #[ρ (.tmp 25)]) (by simp [execOp, go_sem, hF]) ?_
    have hh := join_p h25 (L := headF sm true mo li) (by simp [headF, markF]) (by rw [LL.out]; omega) (by simp)
    rw [LL.out] at hh
    exact hh
  · intro ρ wq hb ho hc hd
    have hC : ∀ v, ρ (.const v) = v := fun v => hc _ (by intro t e; cases e)
    have hF : ∀ f, ρ (.func f) = .func (.func f) #[] #[] := fun f => hc _ (by intro t e; cases e)
    have h26 := hd 26 (by kernel_rfl)
    exact Lin.Runs.value Lin.keeps (Lin.exec_assign rfl) h26
  · intro vals w9 hb hv
    have e2 := hv 2 (by kernel_rfl)
    simp only [Lin.putAll, Option.getD_some]
    generalize vals 2 = v2 at *
    obtain ⟨A9, c9, rfl⟩ := e2.shape
    have E2 := hide e2
    clear hv e2
    have HB9 := Lib.hid (HB.out.trans (hb.mono HB.out.size))
    clear hb
    go_simp
    generalize vals = vv
    go_wp2_with fail
    go_ret
    exact ⟨_, rfl, HB9.out, E2.out⟩
theorem rhead (sm na : Bool) (mo li : Nat) (hmo : mo < 4294967296) (hli : li < 4294967296) (w : World) : Calls Try.prog 60 #[fileV sm na (mo : Int) (li : Int)] w fun e w' => ∃ v, e = .returned v ∧ Below w.heap.size w w' ∧ IsB (headF sm na mo li) 24 v w' := by
  cases na
  · exact rhead_false sm mo li hmo hli w
  · exact rhead_true sm mo li hmo hli w
set_option maxHeartbeats 4000000 in
theorem rwrite (sm na : Bool) (mo li ps pp pl : Nat) (A : Option Addr) (n c : Nat) (l : List Int) (hmo : mo < 4294967296) (hli : li < 4294967296) (hps : ps < 4294967296) (hpp : pp < 4294967296) (hpl : pl < 4294967296) (hn : n ≤ 100000) (w : World) (hv : IsB l n (.slice A n c) w) : Calls Try.prog 65 #[fileV sm na (mo : Int) (li : Int), pktV (ps : Int) (pp : Int) (pl : Int) (.slice A n c)] w fun e w' => ∃ v, e = .returned v ∧ Below w.heap.size w w' ∧ IsB (pktF sm ps pp n pl l) (16 + n) v w' := by
  have LL := Lib.hid (show (pktF sm ps pp n pl l).length = 16 + n from by rw [pktF_len]; obtain ⟨_, _, _, e, _⟩ := hv; rw [e])
  unfold fileV pktV
  have hb0 : Below w.heap.size w ((w.alloc (.cells #[.bool sm, .bool na, .int .u32 (mo : Int), .int .u32 (li : Int)] 82)).alloc (.cells #[.int .u32 (ps : Int), .int .u32 (pp : Int), .int .u32 (pl : Int), .slice A n c] 84)) := ((Below.refl _ _).alloc (Nat.le_refl _) _).alloc (by simp) _
  have hg0 := (Is.new w 82 #[.bool sm, .bool na, .int .u32 (mo : Int), .int .u32 (li : Int)]).alloc (.cells #[.int .u32 (ps : Int), .int .u32 (pp : Int), .int .u32 (pl : Int), .slice A n c] 84)
  have hk0 := Is.new (w.alloc (.cells #[.bool sm, .bool na, .int .u32 (mo : Int), .int .u32 (li : Int)] 82)) 84 #[.int .u32 (ps : Int), .int .u32 (pp : Int), .int .u32 (pl : Int), .slice A n c]
  rw [show (w.alloc (.cells #[.bool sm, .bool na, .int .u32 (mo : Int), .int .u32 (li : Int)] 82)).heap.size = w.heap.size + 1 from by simp] at hk0
  have hs0 : w.heap.size + 2 ≤ ((w.alloc (.cells #[.bool sm, .bool na, .int .u32 (mo : Int), .int .u32 (li : Int)] 82)).alloc (.cells #[.int .u32 (ps : Int), .int .u32 (pp : Int), .int .u32 (pl : Int), .slice A n c] 84)).heap.size := by simp
  go_enter Try.func65, Try.ntmps65
  go_wp2_with fail
  generalize (w.alloc (.cells #[.bool sm, .bool na, .int .u32 (mo : Int), .int .u32 (li : Int)] 82)).alloc (.cells #[.int .u32 (ps : Int), .int .u32 (pp : Int), .int .u32 (pl : Int), .slice A n c] 84) = W at *
  have HB := Lib.hid hb0; have HG := hide hg0; have HK := hide hk0; have HV := hide (hv.st hb0)
  clear hb0 hg0 hk0 hv
  refine Lin.wp_region_lin Lin.keeps (n := 27)  (fun slotq => match slotq with | 5 => Lin.Spec.val (fileV sm na (mo : Int) (li : Int)) | 6 => Lin.Spec.val (.pointer (some ⟨(w.heap.size + 1), 0, none⟩)) | 7 => Lin.Spec.val (.int .u32 (ps : Int)) | 8 => Lin.Spec.sl (numF sm ps 4) 4 | 9 => Lin.Spec.val (fileV sm na (mo : Int) (li : Int)) | 10 => Lin.Spec.val (.pointer (some ⟨(w.heap.size + 1), 1, none⟩)) | 11 => Lin.Spec.val (.int .u32 (pp : Int)) | 12 => Lin.Spec.sl (numF sm pp 4) 4 | 13 => Lin.Spec.val (fileV sm na (mo : Int) (li : Int)) | 14 => Lin.Spec.val (.pointer (some ⟨(w.heap.size + 1), 3, none⟩)) | 15 => Lin.Spec.val (.slice A n c) | 16 => Lin.Spec.val (.int .i64 (n : Int)) | 17 => Lin.Spec.val (.int .u32 (n : Int)) | 18 => Lin.Spec.sl (numF sm n 4) 4 | 19 => Lin.Spec.val (fileV sm na (mo : Int) (li : Int)) | 20 => Lin.Spec.val (.pointer (some ⟨(w.heap.size + 1), 2, none⟩)) | 21 => Lin.Spec.val (.int .u32 (pl : Int)) | 22 => Lin.Spec.sl (numF sm pl 4) 4 | 23 => Lin.Spec.val (.pointer (some ⟨(w.heap.size + 1), 3, none⟩)) | 24 => Lin.Spec.val (.slice A n c) | 25 => Lin.Spec.parts [numF sm ps 4, numF sm pp 4, numF sm n 4, numF sm pl 4, l] | 26 => Lin.Spec.sl (pktF sm ps pp n pl l) (16 + n) | 4 => Lin.Spec.sl (pktF sm ps pp n pl l) (16 + n) | _ => Lin.Spec.any) (by kernel_rfl) rfl (by kernel_rfl) ⟨?_, ?_, ?_, ?_, ?_, ?_, ?_, ?_, ?_, ?_, ?_, ?_, ?_, ?_, ?_, ?_, ?_, ?_, ?_, ?_, ?_, ?_, ?_, trivial⟩ ?_
  · intro ρ wq hb ho hc hd
    have hC : ∀ v, ρ (.const v) = v := fun v => hc _ (by intro t e; cases e)
    have hF : ∀ f, ρ (.func f) = .func (.func f) #[] #[] := fun f => hc _ (by intro t e; cases e)
    have h2 : ρ (.tmp 2) = .pointer (some ⟨w.heap.size, 0, none⟩) := ho 2 (by kernel_rfl)
    have hg8 := HG.out.below hb HG.out.lt
    have m0 := hg8.cell 0
    have m1 := hg8.cell 1
    have m2 := hg8.cell 2
    have m3 := hg8.cell 3
    simp at m0 m1 m2 m3
    exact Lin.Runs.value Lin.keeps (v := fileV sm na (mo : Int) (li : Int)) (by simp [fileV, execOp, go_sem, h2, m0, m1, m2, m3]) rfl
  · intro ρ wq hb ho hc hd
    have hC : ∀ v, ρ (.const v) = v := fun v => hc _ (by intro t e; cases e)
    have hF : ∀ f, ρ (.func f) = .func (.func f) #[] #[] := fun f => hc _ (by intro t e; cases e)
    have h3 : ρ (.tmp 3) = .pointer (some ⟨w.heap.size + 1, 0, none⟩) := ho 3 (by kernel_rfl)
    exact Lin.Runs.value Lin.keeps (v := .pointer (some ⟨(w.heap.size + 1), 0, none⟩)) (by simp [execOp, go_sem, h3]) rfl
  · intro ρ wq hb ho hc hd
    have hC : ∀ v, ρ (.const v) = v := fun v => hc _ (by intro t e; cases e)
    have hF : ∀ f, ρ (.func f) = .func (.func f) #[] #[] := fun f => hc _ (by intro t e; cases e)
    have h6 : ρ (.tmp 6) = .pointer (some ⟨(w.heap.size + 1), 0, none⟩) := hd 6 (by kernel_rfl)
    have hg8 := HK.out.below hb HK.out.lt
    have m0 := hg8.cell 0
    simp at m0
    exact Lin.Runs.value Lin.keeps (v := .int .u32 (ps : Int)) (by simp [execOp, go_sem, h6, m0]) rfl
  · intro ρ wq hb ho hc hd
    have hC : ∀ v, ρ (.const v) = v := fun v => hc _ (by intro t e; cases e)
    have hF : ∀ f, ρ (.func f) = .func (.func f) #[] #[] := fun f => hc _ (by intro t e; cases e)
    have h5 : ρ (.tmp 5) = fileV sm na (mo : Int) (li : Int) := hd 5 (by kernel_rfl)
    have h7 : ρ (.tmp 7) = .int .u32 (ps : Int) := hd 7 (by kernel_rfl)
    exact Lin.Runs.call Lin.keeps (f := 115) (args := #[fileV sm na (mo : Int) (li : Int), .int .u32 (ps : Int), .int .i64 4]) (by simp [fileV, execOp, go_sem, hC, hF, h5, h7]) (rnum_4 sm na (mo : Int) (li : Int) ps (by omega) wq)
  · intro ρ wq hb ho hc hd
    have hC : ∀ v, ρ (.const v) = v := fun v => hc _ (by intro t e; cases e)
    have hF : ∀ f, ρ (.func f) = .func (.func f) #[] #[] := fun f => hc _ (by intro t e; cases e)
    have h2 : ρ (.tmp 2) = .pointer (some ⟨w.heap.size, 0, none⟩) := ho 2 (by kernel_rfl)
    have hg8 := HG.out.below hb HG.out.lt
    have m0 := hg8.cell 0
    have m1 := hg8.cell 1
    have m2 := hg8.cell 2
    have m3 := hg8.cell 3
    simp at m0 m1 m2 m3
    exact Lin.Runs.value Lin.keeps (v := fileV sm na (mo : Int) (li : Int)) (by simp [fileV, execOp, go_sem, h2, m0, m1, m2, m3]) rfl
  · intro ρ wq hb ho hc hd
    have hC : ∀ v, ρ (.const v) = v := fun v => hc _ (by intro t e; cases e)
    have hF : ∀ f, ρ (.func f) = .func (.func f) #[] #[] := fun f => hc _ (by intro t e; cases e)
    have h3 : ρ (.tmp 3) = .pointer (some ⟨w.heap.size + 1, 0, none⟩) := ho 3 (by kernel_rfl)
    exact Lin.Runs.value Lin.keeps (v := .pointer (some ⟨(w.heap.size + 1), 1, none⟩)) (by simp [execOp, go_sem, h3]) rfl
  · intro ρ wq hb ho hc hd
    have hC : ∀ v, ρ (.const v) = v := fun v => hc _ (by intro t e; cases e)
    have hF : ∀ f, ρ (.func f) = .func (.func f) #[] #[] := fun f => hc _ (by intro t e; cases e)
    have h10 : ρ (.tmp 10) = .pointer (some ⟨(w.heap.size + 1), 1, none⟩) := hd 10 (by kernel_rfl)
    have hg8 := HK.out.below hb HK.out.lt
    have m1 := hg8.cell 1
    simp at m1
    exact Lin.Runs.value Lin.keeps (v := .int .u32 (pp : Int)) (by simp [execOp, go_sem, h10, m1]) rfl
  · intro ρ wq hb ho hc hd
    have hC : ∀ v, ρ (.const v) = v := fun v => hc _ (by intro t e; cases e)
    have hF : ∀ f, ρ (.func f) = .func (.func f) #[] #[] := fun f => hc _ (by intro t e; cases e)
    have h9 : ρ (.tmp 9) = fileV sm na (mo : Int) (li : Int) := hd 9 (by kernel_rfl)
    have h11 : ρ (.tmp 11) = .int .u32 (pp : Int) := hd 11 (by kernel_rfl)
    exact Lin.Runs.call Lin.keeps (f := 115) (args := #[fileV sm na (mo : Int) (li : Int), .int .u32 (pp : Int), .int .i64 4]) (by simp [fileV, execOp, go_sem, hC, hF, h9, h11]) (rnum_4 sm na (mo : Int) (li : Int) pp (by omega) wq)
  · intro ρ wq hb ho hc hd
    have hC : ∀ v, ρ (.const v) = v := fun v => hc _ (by intro t e; cases e)
    have hF : ∀ f, ρ (.func f) = .func (.func f) #[] #[] := fun f => hc _ (by intro t e; cases e)
    have h2 : ρ (.tmp 2) = .pointer (some ⟨w.heap.size, 0, none⟩) := ho 2 (by kernel_rfl)
    have hg8 := HG.out.below hb HG.out.lt
    have m0 := hg8.cell 0
    have m1 := hg8.cell 1
    have m2 := hg8.cell 2
    have m3 := hg8.cell 3
    simp at m0 m1 m2 m3
    exact Lin.Runs.value Lin.keeps (v := fileV sm na (mo : Int) (li : Int)) (by simp [fileV, execOp, go_sem, h2, m0, m1, m2, m3]) rfl
  · intro ρ wq hb ho hc hd
    have hC : ∀ v, ρ (.const v) = v := fun v => hc _ (by intro t e; cases e)
    have hF : ∀ f, ρ (.func f) = .func (.func f) #[] #[] := fun f => hc _ (by intro t e; cases e)
    have h3 : ρ (.tmp 3) = .pointer (some ⟨w.heap.size + 1, 0, none⟩) := ho 3 (by kernel_rfl)
    exact Lin.Runs.value Lin.keeps (v := .pointer (some ⟨(w.heap.size + 1), 3, none⟩)) (by simp [execOp, go_sem, h3]) rfl
  · intro ρ wq hb ho hc hd
    have hC : ∀ v, ρ (.const v) = v := fun v => hc _ (by intro t e; cases e)
    have hF : ∀ f, ρ (.func f) = .func (.func f) #[] #[] := fun f => hc _ (by intro t e; cases e)
    have h14 : ρ (.tmp 14) = .pointer (some ⟨(w.heap.size + 1), 3, none⟩) := hd 14 (by kernel_rfl)
    have hg8 := HK.out.below hb HK.out.lt
    have m3 := hg8.cell 3
    simp at m3
    exact Lin.Runs.value Lin.keeps (v := .slice A n c) (by simp [execOp, go_sem, h14, m3]) rfl
  · intro ρ wq hb ho hc hd
    have hC : ∀ v, ρ (.const v) = v := fun v => hc _ (by intro t e; cases e)
    have hF : ∀ f, ρ (.func f) = .func (.func f) #[] #[] := fun f => hc _ (by intro t e; cases e)
    have h15 : ρ (.tmp 15) = .slice A n c := hd 15 (by kernel_rfl)
    exact Lin.Runs.value Lin.keeps (v := .int .i64 (n : Int)) (by simp [execOp, go_sem, h15]) rfl
  · intro ρ wq hb ho hc hd
    have hC : ∀ v, ρ (.const v) = v := fun v => hc _ (by intro t e; cases e)
    have hF : ∀ f, ρ (.func f) = .func (.func f) #[] #[] := fun f => hc _ (by intro t e; cases e)
    have h16 : ρ (.tmp 16) = .int .i64 (n : Int) := hd 16 (by kernel_rfl)
    exact Lin.Runs.value Lin.keeps (v := .int .u32 (n : Int)) (by simp [execOp, go_sem, h16]; first | done | exact IntWalk.u32_in _ (by omega)) rfl
  · intro ρ wq hb ho hc hd
    have hC : ∀ v, ρ (.const v) = v := fun v => hc _ (by intro t e; cases e)
    have hF : ∀ f, ρ (.func f) = .func (.func f) #[] #[] := fun f => hc _ (by intro t e; cases e)
    have h13 : ρ (.tmp 13) = fileV sm na (mo : Int) (li : Int) := hd 13 (by kernel_rfl)
    have h17 : ρ (.tmp 17) = .int .u32 (n : Int) := hd 17 (by kernel_rfl)
    exact Lin.Runs.call Lin.keeps (f := 115) (args := #[fileV sm na (mo : Int) (li : Int), .int .u32 (n : Int), .int .i64 4]) (by simp [fileV, execOp, go_sem, hC, hF, h13, h17]) (rnum_4 sm na (mo : Int) (li : Int) n (by omega) wq)
  · intro ρ wq hb ho hc hd
    have hC : ∀ v, ρ (.const v) = v := fun v => hc _ (by intro t e; cases e)
    have hF : ∀ f, ρ (.func f) = .func (.func f) #[] #[] := fun f => hc _ (by intro t e; cases e)
    have h2 : ρ (.tmp 2) = .pointer (some ⟨w.heap.size, 0, none⟩) := ho 2 (by kernel_rfl)
    have hg8 := HG.out.below hb HG.out.lt
    have m0 := hg8.cell 0
    have m1 := hg8.cell 1
    have m2 := hg8.cell 2
    have m3 := hg8.cell 3
    simp at m0 m1 m2 m3
    exact Lin.Runs.value Lin.keeps (v := fileV sm na (mo : Int) (li : Int)) (by simp [fileV, execOp, go_sem, h2, m0, m1, m2, m3]) rfl
  · intro ρ wq hb ho hc hd
    have hC : ∀ v, ρ (.const v) = v := fun v => hc _ (by intro t e; cases e)
    have hF : ∀ f, ρ (.func f) = .func (.func f) #[] #[] := fun f => hc _ (by intro t e; cases e)
    have h3 : ρ (.tmp 3) = .pointer (some ⟨w.heap.size + 1, 0, none⟩) := ho 3 (by kernel_rfl)
    exact Lin.Runs.value Lin.keeps (v := .pointer (some ⟨(w.heap.size + 1), 2, none⟩)) (by simp [execOp, go_sem, h3]) rfl
  · intro ρ wq hb ho hc hd
    have hC : ∀ v, ρ (.const v) = v := fun v => hc _ (by intro t e; cases e)
    have hF : ∀ f, ρ (.func f) = .func (.func f) #[] #[] := fun f => hc _ (by intro t e; cases e)
    have h20 : ρ (.tmp 20) = .pointer (some ⟨(w.heap.size + 1), 2, none⟩) := hd 20 (by kernel_rfl)
    have hg8 := HK.out.below hb HK.out.lt
    have m2 := hg8.cell 2
    simp at m2
    exact Lin.Runs.value Lin.keeps (v := .int .u32 (pl : Int)) (by simp [execOp, go_sem, h20, m2]) rfl
  · intro ρ wq hb ho hc hd
    have hC : ∀ v, ρ (.const v) = v := fun v => hc _ (by intro t e; cases e)
    have hF : ∀ f, ρ (.func f) = .func (.func f) #[] #[] := fun f => hc _ (by intro t e; cases e)
    have h19 : ρ (.tmp 19) = fileV sm na (mo : Int) (li : Int) := hd 19 (by kernel_rfl)
    have h21 : ρ (.tmp 21) = .int .u32 (pl : Int) := hd 21 (by kernel_rfl)
    exact Lin.Runs.call Lin.keeps (f := 115) (args := #[fileV sm na (mo : Int) (li : Int), .int .u32 (pl : Int), .int .i64 4]) (by simp [fileV, execOp, go_sem, hC, hF, h19, h21]) (rnum_4 sm na (mo : Int) (li : Int) pl (by omega) wq)
  · intro ρ wq hb ho hc hd
    have hC : ∀ v, ρ (.const v) = v := fun v => hc _ (by intro t e; cases e)
    have hF : ∀ f, ρ (.func f) = .func (.func f) #[] #[] := fun f => hc _ (by intro t e; cases e)
    have h3 : ρ (.tmp 3) = .pointer (some ⟨w.heap.size + 1, 0, none⟩) := ho 3 (by kernel_rfl)
    exact Lin.Runs.value Lin.keeps (v := .pointer (some ⟨(w.heap.size + 1), 3, none⟩)) (by simp [execOp, go_sem, h3]) rfl
  · intro ρ wq hb ho hc hd
    have hC : ∀ v, ρ (.const v) = v := fun v => hc _ (by intro t e; cases e)
    have hF : ∀ f, ρ (.func f) = .func (.func f) #[] #[] := fun f => hc _ (by intro t e; cases e)
    have h23 : ρ (.tmp 23) = .pointer (some ⟨(w.heap.size + 1), 3, none⟩) := hd 23 (by kernel_rfl)
    have hg8 := HK.out.below hb HK.out.lt
    have m3 := hg8.cell 3
    simp at m3
    exact Lin.Runs.value Lin.keeps (v := .slice A n c) (by simp [execOp, go_sem, h23, m3]) rfl
  · intro ρ wq hb ho hc hd
    have hC : ∀ v, ρ (.const v) = v := fun v => hc _ (by intro t e; cases e)
    have hF : ∀ f, ρ (.func f) = .func (.func f) #[] #[] := fun f => hc _ (by intro t e; cases e)
    have h8 := hd 8 (by kernel_rfl)
    have h12 := hd 12 (by kernel_rfl)
    have h18 := hd 18 (by kernel_rfl)
    have h22 := hd 22 (by kernel_rfl)
    have h24 : ρ (.tmp 24) = .slice A n c := hd 24 (by kernel_rfl)
    have s8 := h8.shape
    generalize hv8 : ρ (.tmp 8) = v8 at *
    obtain ⟨D8, e8, rfl⟩ := s8
    have s12 := h12.shape
    generalize hv12 : ρ (.tmp 12) = v12 at *
    obtain ⟨D12, e12, rfl⟩ := s12
    have s18 := h18.shape
    generalize hv18 : ρ (.tmp 18) = v18 at *
    obtain ⟨D18, e18, rfl⟩ := s18
    have s22 := h22.shape
    generalize hv22 : ρ (.tmp 22) = v22 at *
    obtain ⟨D22, e22, rfl⟩ := s22
    refine Lin.Runs.made (v := .slice (some ⟨wq.heap.size, 0, none⟩) 5 5) (w' := wq.alloc (.cells #[.slice D8 4 e8, .slice D12 4 e12, .slice D18 4 e18, .slice D22 4 e22, .slice A n c] 22)) (by simp [execOp, go_sem, hv8, hv12, hv18, hv22, h24]) ((Below.refl _ _).alloc (Nat.le_refl _) _) ?_
    exact IsP.lit wq [(.slice D8 4 e8, numF sm ps 4), (.slice D12 4 e12, numF sm pp 4), (.slice D18 4 e18, numF sm n 4), (.slice D22 4 e22, numF sm pl 4), (.slice A n c, l)] 22 (by
      intro p hp
      simp only [List.mem_cons, List.not_mem_nil, or_false] at hp
      rcases hp with rfl | rfl | rfl | rfl | rfl
      · exact ⟨_, h8⟩
      · exact ⟨_, h12⟩
      · exact ⟨_, h18⟩
      · exact ⟨_, h22⟩
      · exact ⟨_, HV.out.st hb⟩)
  · intro ρ wq hb ho hc hd
    have hC : ∀ v, ρ (.const v) = v := fun v => hc _ (by intro t e; cases e)
    have hF : ∀ f, ρ (.func f) = .func (.func f) #[] #[] := fun f => hc _ (by intro t e; cases e)
    have h25 := hd 25 (by kernel_rfl)
    refine Lin.Runs.call Lin.keeps (f := 101) (args := #[ρ (.tmp 25)]) (by simp [execOp, go_sem, hF]) ?_
    have hh := join_p h25 (L := pktF sm ps pp n pl l) (by simp [pktF]) (by rw [LL.out]; omega) (by simp)
    rw [LL.out] at hh
    exact hh
  · intro ρ wq hb ho hc hd
    have hC : ∀ v, ρ (.const v) = v := fun v => hc _ (by intro t e; cases e)
    have hF : ∀ f, ρ (.func f) = .func (.func f) #[] #[] := fun f => hc _ (by intro t e; cases e)
    have h26 := hd 26 (by kernel_rfl)
    exact Lin.Runs.value Lin.keeps (Lin.exec_assign rfl) h26
  · intro vals w9 hb hv
    have e2 := hv 4 (by kernel_rfl)
    simp only [Lin.putAll, Option.getD_some]
    generalize vals 4 = v2 at *
    obtain ⟨A9, c9, rfl⟩ := e2.shape
    have E2 := hide e2
    clear hv e2
    have HB9 := Lib.hid (HB.out.trans (hb.mono HB.out.size))
    clear hb
    go_simp
    generalize vals = vv
    go_wp2_with fail
    go_ret
    exact ⟨_, rfl, HB9.out, E2.out⟩
set_option maxHeartbeats 4000000 in
theorem cwrite_no (sm na : Bool) (mo li ps pp pl : Nat) (A : Option Addr) (n c : Nat) (hmo : mo < 4294967296) (hli : li < 4294967296) (hps : ps < 4294967296) (hpp : pp < 4294967296) (hpl : pl < 4294967296) (hn : n ≤ 100000) (w : World) (hr : rightF na mo pp pl n = false) : Calls Try.prog 64 #[fileV sm na (mo : Int) (li : Int), pktV (ps : Int) (pp : Int) (pl : Int) (.slice A n c)] w fun e w' => e = .returned (.slice none 0 0) ∧ Below w.heap.size w w' := by
  unfold fileV pktV
  have hb0 : Below w.heap.size w ((w.alloc (.cells #[.bool sm, .bool na, .int .u32 (mo : Int), .int .u32 (li : Int)] 85)).alloc (.cells #[.int .u32 (ps : Int), .int .u32 (pp : Int), .int .u32 (pl : Int), .slice A n c] 89)) := ((Below.refl _ _).alloc (Nat.le_refl _) _).alloc (by simp) _
  go_enter Try.func64, Try.ntmps64
  go_wp2_with fail
  refine (cright sm na mo li ps pp pl A n c hmo hpl hpp hn _).mono ?_
  rintro e w1 ⟨rfl, hb⟩
  rw [hr]
  have HB := Lib.hid (hb0.trans (hb.mono hb0.size))
  clear hb hb0
  go_wp2_with fail
  go_ret
  exact ⟨rfl, HB.out⟩
set_option maxHeartbeats 4000000 in
theorem cwrite_yes (sm na : Bool) (mo li ps pp pl : Nat) (A : Option Addr) (n c : Nat) (l : List Int) (hmo : mo < 4294967296) (hli : li < 4294967296) (hps : ps < 4294967296) (hpp : pp < 4294967296) (hpl : pl < 4294967296) (hn : n ≤ 100000) (w : World) (hv : IsB l n (.slice A n c) w) (hr : rightF na mo pp pl n = true) : Calls Try.prog 64 #[fileV sm na (mo : Int) (li : Int), pktV (ps : Int) (pp : Int) (pl : Int) (.slice A n c)] w fun e w' => ∃ v, e = .returned v ∧ Below w.heap.size w w' ∧ IsB (pktF sm ps pp n pl l) (16 + n) v w' := by
  unfold fileV pktV
  have hb0 : Below w.heap.size w ((w.alloc (.cells #[.bool sm, .bool na, .int .u32 (mo : Int), .int .u32 (li : Int)] 85)).alloc (.cells #[.int .u32 (ps : Int), .int .u32 (pp : Int), .int .u32 (pl : Int), .slice A n c] 89)) := ((Below.refl _ _).alloc (Nat.le_refl _) _).alloc (by simp) _
  have hg0 := (Is.new w 85 #[.bool sm, .bool na, .int .u32 (mo : Int), .int .u32 (li : Int)]).alloc (.cells #[.int .u32 (ps : Int), .int .u32 (pp : Int), .int .u32 (pl : Int), .slice A n c] 89)
  have hk0 := Is.new (w.alloc (.cells #[.bool sm, .bool na, .int .u32 (mo : Int), .int .u32 (li : Int)] 85)) 89 #[.int .u32 (ps : Int), .int .u32 (pp : Int), .int .u32 (pl : Int), .slice A n c]
  rw [show (w.alloc (.cells #[.bool sm, .bool na, .int .u32 (mo : Int), .int .u32 (li : Int)] 85)).heap.size = w.heap.size + 1 from by simp] at hk0
  have hs0 : w.heap.size + 2 ≤ ((w.alloc (.cells #[.bool sm, .bool na, .int .u32 (mo : Int), .int .u32 (li : Int)] 85)).alloc (.cells #[.int .u32 (ps : Int), .int .u32 (pp : Int), .int .u32 (pl : Int), .slice A n c] 89)).heap.size := by simp
  go_enter Try.func64, Try.ntmps64
  go_wp2_with fail
  generalize (w.alloc (.cells #[.bool sm, .bool na, .int .u32 (mo : Int), .int .u32 (li : Int)] 85)).alloc (.cells #[.int .u32 (ps : Int), .int .u32 (pp : Int), .int .u32 (pl : Int), .slice A n c] 89) = W at *
  refine (cright sm na mo li ps pp pl A n c hmo hpl hpp hn _).mono ?_
  rintro e w1 ⟨rfl, hb⟩
  rw [hr]
  have HB := Lib.hid (hb0.trans (hb.mono hb0.size)); have HG := hide (hg0.below hb (by omega)); have HK := hide (hk0.below hb (by omega)); have HZ := Lib.hid (Nat.le_trans hs0 hb.size); have HV := hide hv
  clear hb hb0 hg0 hk0 hs0 hv hr
  have gk := HK.out
  have a3 := HK.out.cell 3
  simp at a3
  clear gk
  go_wp2_with fail
  refine Lin.wp_region_lin4 (n := 33) (fun slotq => match slotq with | 10 => Lin.Spec.val (fileV sm na (mo : Int) (li : Int)) | 11 => Lin.Spec.val (fileV sm na (mo : Int) (li : Int)) | 12 => Lin.Spec.val (.pointer (some ⟨w.heap.size + 1, 0, none⟩)) | 13 => Lin.Spec.val (.int .u32 (ps : Int)) | 14 => Lin.Spec.own (w.heap.size + 2) (([]) ++ numF sm ps 4) 4 | 15 => Lin.Spec.val (.pointer (some ⟨w.heap.size + 1, 1, none⟩)) | 16 => Lin.Spec.val (.int .u32 (pp : Int)) | 17 => Lin.Spec.own (w.heap.size + 2) ((([]) ++ numF sm ps 4) ++ numF sm pp 4) 8 | 5 => Lin.Spec.own (w.heap.size + 2) ((([]) ++ numF sm ps 4) ++ numF sm pp 4) 8 | _ => Lin.Spec.any) (w.heap.size + 2) [(4, []), (7, [14])] (by kernel_rfl) rfl (by kernel_rfl) (by kernel_rfl) HZ.out ⟨.inr (Lin.firm_val _ _), .inr (Lin.firm_val _ _), .inr (Lin.firm_val _ _), .inr (Lin.firm_val _ _), .inl (by kernel_rfl), .inr (Lin.firm_val _ _), .inr (Lin.firm_val _ _), .inl (by kernel_rfl), .inl (by kernel_rfl), trivial⟩ ⟨?_, ?_, ?_, ?_, ?_, ?_, ?_, ?_, ?_, trivial⟩ ?_
  · refine Lin.stepR (by kernel_rfl) ?_
    intro ρ wq hb hk ho hc hd hs
    have hC : ∀ v, ρ (.const v) = v := fun v => hc _ (by intro t e; cases e)
    have hF : ∀ f, ρ (.func f) = .func (.func f) #[] #[] := fun f => hc _ (by intro t e; cases e)
    have h2 : ρ (.tmp 2) = .pointer (some ⟨w.heap.size, 0, none⟩) := ho 2 (by kernel_rfl)
    have hg8 := HG.out.below hb (by omega)
    have m0 := hg8.cell 0
    have m1 := hg8.cell 1
    have m2 := hg8.cell 2
    have m3 := hg8.cell 3
    simp at m0 m1 m2 m3
    exact Lin.Runs.value Lin.keeps (v := fileV sm na (mo : Int) (li : Int)) (by simp [fileV, execOp, go_sem, h2, m0, m1, m2, m3]) rfl
  · refine Lin.stepR (by kernel_rfl) ?_
    intro ρ wq hb hk ho hc hd hs
    have hC : ∀ v, ρ (.const v) = v := fun v => hc _ (by intro t e; cases e)
    have hF : ∀ f, ρ (.func f) = .func (.func f) #[] #[] := fun f => hc _ (by intro t e; cases e)
    have h2 : ρ (.tmp 2) = .pointer (some ⟨w.heap.size, 0, none⟩) := ho 2 (by kernel_rfl)
    have hg8 := HG.out.below hb (by omega)
    have m0 := hg8.cell 0
    have m1 := hg8.cell 1
    have m2 := hg8.cell 2
    have m3 := hg8.cell 3
    simp at m0 m1 m2 m3
    exact Lin.Runs.value Lin.keeps (v := fileV sm na (mo : Int) (li : Int)) (by simp [fileV, execOp, go_sem, h2, m0, m1, m2, m3]) rfl
  · refine Lin.stepR (by kernel_rfl) ?_
    intro ρ wq hb hk ho hc hd hs
    have hC : ∀ v, ρ (.const v) = v := fun v => hc _ (by intro t e; cases e)
    have hF : ∀ f, ρ (.func f) = .func (.func f) #[] #[] := fun f => hc _ (by intro t e; cases e)
    have h3 : ρ (.tmp 3) = .pointer (some ⟨w.heap.size + 1, 0, none⟩) := ho 3 (by kernel_rfl)
    exact Lin.Runs.value Lin.keeps (v := .pointer (some ⟨w.heap.size + 1, 0, none⟩)) (by simp [execOp, go_sem, h3]) rfl
  · refine Lin.stepR (by kernel_rfl) ?_
    intro ρ wq hb hk ho hc hd hs
    have hC : ∀ v, ρ (.const v) = v := fun v => hc _ (by intro t e; cases e)
    have hF : ∀ f, ρ (.func f) = .func (.func f) #[] #[] := fun f => hc _ (by intro t e; cases e)
    have h12 : ρ (.tmp 12) = .pointer (some ⟨w.heap.size + 1, 0, none⟩) := hd 12 (by kernel_rfl)
    have hg8 := HK.out.below hb (by omega)
    have m0 := hg8.cell 0
    simp at m0
    exact Lin.Runs.value Lin.keeps (v := .int .u32 (ps : Int)) (by simp [execOp, go_sem, h12, m0]) rfl
  · refine Lin.stepW (by kernel_rfl) ?_
    intro ρ wq hb hk ho hc hd hs
    have hC : ∀ v, ρ (.const v) = v := fun v => hc _ (by intro t e; cases e)
    have hF : ∀ f, ρ (.func f) = .func (.func f) #[] #[] := fun f => hc _ (by intro t e; cases e)
    have h11 : ρ (.tmp 11) = fileV sm na (mo : Int) (li : Int) := hd 11 (by kernel_rfl)
    have h13 : ρ (.tmp 13) = .int .u32 (ps : Int) := hd 13 (by kernel_rfl)
    refine Lin.RunsB.call (f := 114) (args := #[fileV sm na (mo : Int) (li : Int), .slice none 0 0, .int .u32 (ps : Int), .int .i64 4]) (by simp [fileV, execOp, go_sem, hC, hF, h11, h13]) ?_
    exact (cput_4 sm na (mo : Int) (li : Int) ps (by omega) none 0 0 (w.heap.size + 2) ([]) wq (OwnB.nil _ _) (by simp [numF_len]) (Nat.le_trans HZ.out hb.size) (by omega)).mono fun e w9 ⟨A9, c9, h1, h2, h3⟩ => ⟨_, h1, h3, A9, c9, rfl, h2⟩
  · refine Lin.stepR (by kernel_rfl) ?_
    intro ρ wq hb hk ho hc hd hs
    have hC : ∀ v, ρ (.const v) = v := fun v => hc _ (by intro t e; cases e)
    have hF : ∀ f, ρ (.func f) = .func (.func f) #[] #[] := fun f => hc _ (by intro t e; cases e)
    have h3 : ρ (.tmp 3) = .pointer (some ⟨w.heap.size + 1, 0, none⟩) := ho 3 (by kernel_rfl)
    exact Lin.Runs.value Lin.keeps (v := .pointer (some ⟨w.heap.size + 1, 1, none⟩)) (by simp [execOp, go_sem, h3]) rfl
  · refine Lin.stepR (by kernel_rfl) ?_
    intro ρ wq hb hk ho hc hd hs
    have hC : ∀ v, ρ (.const v) = v := fun v => hc _ (by intro t e; cases e)
    have hF : ∀ f, ρ (.func f) = .func (.func f) #[] #[] := fun f => hc _ (by intro t e; cases e)
    have h15 : ρ (.tmp 15) = .pointer (some ⟨w.heap.size + 1, 1, none⟩) := hd 15 (by kernel_rfl)
    have hg8 := HK.out.below hb (by omega)
    have m1 := hg8.cell 1
    simp at m1
    exact Lin.Runs.value Lin.keeps (v := .int .u32 (pp : Int)) (by simp [execOp, go_sem, h15, m1]) rfl
  · refine Lin.stepW (by kernel_rfl) ?_
    intro ρ wq hb hk ho hc hd hs
    have hC : ∀ v, ρ (.const v) = v := fun v => hc _ (by intro t e; cases e)
    have hF : ∀ f, ρ (.func f) = .func (.func f) #[] #[] := fun f => hc _ (by intro t e; cases e)
    have h10 : ρ (.tmp 10) = fileV sm na (mo : Int) (li : Int) := hd 10 (by kernel_rfl)
    have h14 := hd 14 (by kernel_rfl)
    have h16 : ρ (.tmp 16) = .int .u32 (pp : Int) := hd 16 (by kernel_rfl)
    obtain ⟨A7, c7, e7, o7⟩ := h14
    refine Lin.RunsB.call (f := 114) (args := #[fileV sm na (mo : Int) (li : Int), .slice A7 4 c7, .int .u32 (pp : Int), .int .i64 4]) (by simp [fileV, execOp, go_sem, hC, hF, h10, e7, h16]) ?_
    exact (cput_4 sm na (mo : Int) (li : Int) pp (by omega) A7 c7 4 (w.heap.size + 2) (([]) ++ numF sm ps 4) wq o7 (by simp [numF_len]) (Nat.le_trans HZ.out hb.size) (by omega)).mono fun e w9 ⟨A9, c9, h1, h2, h3⟩ => ⟨_, h1, h3, A9, c9, rfl, h2⟩
  · refine Lin.stepR (by kernel_rfl) ?_
    intro ρ wq hb hk ho hc hd hs
    have hC : ∀ v, ρ (.const v) = v := fun v => hc _ (by intro t e; cases e)
    have hF : ∀ f, ρ (.func f) = .func (.func f) #[] #[] := fun f => hc _ (by intro t e; cases e)
    have h17 := hd 17 (by kernel_rfl)
    exact Lin.Runs.value Lin.keeps (Lin.exec_assign rfl) h17
  · intro vals w3 hb2 hv hs
    obtain ⟨A3, c3, e5, o5⟩ := hv 5 (by kernel_rfl) (by kernel_rfl)
    have HB9 := Lib.hid (HB.out.trans (hb2.mono (Nat.le_add_right _ 2)))
    have HG9 := hide (HG.out.below hb2 (by omega))
    have hk9 := HK.out.below hb2 (by omega)
    have HZ9 := Lib.hid (Nat.le_trans HZ.out hb2.size)
    clear hv hs hb2 HB HG HK HZ a3
    have HO := hide o5; have HB := HB9; have HG := HG9; have HZ := HZ9; have HK := hide hk9
    have a3 := hk9.cell 3
    simp at a3
    clear o5 HB9 HG9 HZ9 hk9
    simp only [Lin.putAll, Option.getD_some]
    rw [e5]
    go_simp
    generalize vals = vv
    go_wp2_with fail
    refine Lin.wp_region_lin4 (n := 33) (fun slotq => match slotq with | 18 => Lin.Spec.val (fileV sm na (mo : Int) (li : Int)) | 19 => Lin.Spec.val (fileV sm na (mo : Int) (li : Int)) | 20 => Lin.Spec.own (w.heap.size + 2) ((([]) ++ numF sm ps 4) ++ numF sm pp 4) 8 | 21 => Lin.Spec.val (.pointer (some ⟨w.heap.size + 1, 3, none⟩)) | 22 => Lin.Spec.val (.slice A n c) | 23 => Lin.Spec.val (.int .i64 (n : Int)) | 24 => Lin.Spec.val (.int .u32 (n : Int)) | 25 => Lin.Spec.own (w.heap.size + 2) (((([]) ++ numF sm ps 4) ++ numF sm pp 4) ++ numF sm n 4) 12 | 26 => Lin.Spec.val (.pointer (some ⟨w.heap.size + 1, 2, none⟩)) | 27 => Lin.Spec.val (.int .u32 (pl : Int)) | 28 => Lin.Spec.own (w.heap.size + 2) ((((([]) ++ numF sm ps 4) ++ numF sm pp 4) ++ numF sm n 4) ++ numF sm pl 4) 16 | 5 => Lin.Spec.own (w.heap.size + 2) ((((([]) ++ numF sm ps 4) ++ numF sm pp 4) ++ numF sm n 4) ++ numF sm pl 4) 16 | _ => Lin.Spec.any) (w.heap.size + 2) [(7, [20]), (10, [20, 25])] (by kernel_rfl) rfl (by kernel_rfl) (by kernel_rfl) HZ.out ⟨.inr (Lin.firm_val _ _), .inr (Lin.firm_val _ _), .inl (by kernel_rfl), .inr (Lin.firm_val _ _), .inr (Lin.firm_val _ _), .inr (Lin.firm_val _ _), .inr (Lin.firm_val _ _), .inl (by kernel_rfl), .inr (Lin.firm_val _ _), .inr (Lin.firm_val _ _), .inl (by kernel_rfl), .inl (by kernel_rfl), trivial⟩ ⟨?_, ?_, ?_, ?_, ?_, ?_, ?_, ?_, ?_, ?_, ?_, ?_, trivial⟩ ?_
    · refine Lin.stepR (by kernel_rfl) ?_
      intro ρ wq hb hk ho hc hd hs
      have hC : ∀ v, ρ (.const v) = v := fun v => hc _ (by intro t e; cases e)
      have hF : ∀ f, ρ (.func f) = .func (.func f) #[] #[] := fun f => hc _ (by intro t e; cases e)
      have h2 : ρ (.tmp 2) = .pointer (some ⟨w.heap.size, 0, none⟩) := ho 2 (by kernel_rfl)
      have hg8 := HG.out.below hb (by omega)
      have m0 := hg8.cell 0
      have m1 := hg8.cell 1
      have m2 := hg8.cell 2
      have m3 := hg8.cell 3
      simp at m0 m1 m2 m3
      exact Lin.Runs.value Lin.keeps (v := fileV sm na (mo : Int) (li : Int)) (by simp [fileV, execOp, go_sem, h2, m0, m1, m2, m3]) rfl
    · refine Lin.stepR (by kernel_rfl) ?_
      intro ρ wq hb hk ho hc hd hs
      have hC : ∀ v, ρ (.const v) = v := fun v => hc _ (by intro t e; cases e)
      have hF : ∀ f, ρ (.func f) = .func (.func f) #[] #[] := fun f => hc _ (by intro t e; cases e)
      have h2 : ρ (.tmp 2) = .pointer (some ⟨w.heap.size, 0, none⟩) := ho 2 (by kernel_rfl)
      have hg8 := HG.out.below hb (by omega)
      have m0 := hg8.cell 0
      have m1 := hg8.cell 1
      have m2 := hg8.cell 2
      have m3 := hg8.cell 3
      simp at m0 m1 m2 m3
      exact Lin.Runs.value Lin.keeps (v := fileV sm na (mo : Int) (li : Int)) (by simp [fileV, execOp, go_sem, h2, m0, m1, m2, m3]) rfl
    · refine Lin.stepR (by kernel_rfl) ?_
      intro ρ wq hb hk ho hc hd hs
      have hC : ∀ v, ρ (.const v) = v := fun v => hc _ (by intro t e; cases e)
      have hF : ∀ f, ρ (.func f) = .func (.func f) #[] #[] := fun f => hc _ (by intro t e; cases e)
      have h5 : ρ (.tmp 5) = .slice A3 8 c3 := ho 5 (by kernel_rfl)
      exact Lin.Runs.value Lin.keeps (v := .slice A3 8 c3) ((Lin.exec_move rfl).trans (by rw [h5])) ⟨A3, c3, rfl, HO.out.below (hk (by kernel_rfl))⟩
    · refine Lin.stepR (by kernel_rfl) ?_
      intro ρ wq hb hk ho hc hd hs
      have hC : ∀ v, ρ (.const v) = v := fun v => hc _ (by intro t e; cases e)
      have hF : ∀ f, ρ (.func f) = .func (.func f) #[] #[] := fun f => hc _ (by intro t e; cases e)
      have h3 : ρ (.tmp 3) = .pointer (some ⟨w.heap.size + 1, 0, none⟩) := ho 3 (by kernel_rfl)
      exact Lin.Runs.value Lin.keeps (v := .pointer (some ⟨w.heap.size + 1, 3, none⟩)) (by simp [execOp, go_sem, h3]) rfl
    · refine Lin.stepR (by kernel_rfl) ?_
      intro ρ wq hb hk ho hc hd hs
      have hC : ∀ v, ρ (.const v) = v := fun v => hc _ (by intro t e; cases e)
      have hF : ∀ f, ρ (.func f) = .func (.func f) #[] #[] := fun f => hc _ (by intro t e; cases e)
      have h21 : ρ (.tmp 21) = .pointer (some ⟨w.heap.size + 1, 3, none⟩) := hd 21 (by kernel_rfl)
      have hg8 := HK.out.below hb (by omega)
      have m3 := hg8.cell 3
      simp at m3
      exact Lin.Runs.value Lin.keeps (v := .slice A n c) (by simp [execOp, go_sem, h21, m3]) rfl
    · refine Lin.stepR (by kernel_rfl) ?_
      intro ρ wq hb hk ho hc hd hs
      have hC : ∀ v, ρ (.const v) = v := fun v => hc _ (by intro t e; cases e)
      have hF : ∀ f, ρ (.func f) = .func (.func f) #[] #[] := fun f => hc _ (by intro t e; cases e)
      have h22 : ρ (.tmp 22) = .slice A n c := hd 22 (by kernel_rfl)
      exact Lin.Runs.value Lin.keeps (v := .int .i64 (n : Int)) (by simp [execOp, go_sem, h22]) rfl
    · refine Lin.stepR (by kernel_rfl) ?_
      intro ρ wq hb hk ho hc hd hs
      have hC : ∀ v, ρ (.const v) = v := fun v => hc _ (by intro t e; cases e)
      have hF : ∀ f, ρ (.func f) = .func (.func f) #[] #[] := fun f => hc _ (by intro t e; cases e)
      have h23 : ρ (.tmp 23) = .int .i64 (n : Int) := hd 23 (by kernel_rfl)
      exact Lin.Runs.value Lin.keeps (v := .int .u32 (n : Int)) (by simp [execOp, go_sem, h23]; first | done | exact IntWalk.u32_in _ (by omega)) rfl
    · refine Lin.stepW (by kernel_rfl) ?_
      intro ρ wq hb hk ho hc hd hs
      have hC : ∀ v, ρ (.const v) = v := fun v => hc _ (by intro t e; cases e)
      have hF : ∀ f, ρ (.func f) = .func (.func f) #[] #[] := fun f => hc _ (by intro t e; cases e)
      have h19 : ρ (.tmp 19) = fileV sm na (mo : Int) (li : Int) := hd 19 (by kernel_rfl)
      have h20 := hd 20 (by kernel_rfl)
      have h24 : ρ (.tmp 24) = .int .u32 (n : Int) := hd 24 (by kernel_rfl)
      obtain ⟨A7, c7, e7, o7⟩ := h20
      refine Lin.RunsB.call (f := 114) (args := #[fileV sm na (mo : Int) (li : Int), .slice A7 8 c7, .int .u32 (n : Int), .int .i64 4]) (by simp [fileV, execOp, go_sem, hC, hF, h19, e7, h24]) ?_
      exact (cput_4 sm na (mo : Int) (li : Int) n (by omega) A7 c7 8 (w.heap.size + 2) ((([]) ++ numF sm ps 4) ++ numF sm pp 4) wq o7 (by simp [numF_len]) (Nat.le_trans HZ.out hb.size) (by omega)).mono fun e w9 ⟨A9, c9, h1, h2, h3⟩ => ⟨_, h1, h3, A9, c9, rfl, h2⟩
    · refine Lin.stepR (by kernel_rfl) ?_
      intro ρ wq hb hk ho hc hd hs
      have hC : ∀ v, ρ (.const v) = v := fun v => hc _ (by intro t e; cases e)
      have hF : ∀ f, ρ (.func f) = .func (.func f) #[] #[] := fun f => hc _ (by intro t e; cases e)
      have h3 : ρ (.tmp 3) = .pointer (some ⟨w.heap.size + 1, 0, none⟩) := ho 3 (by kernel_rfl)
      exact Lin.Runs.value Lin.keeps (v := .pointer (some ⟨w.heap.size + 1, 2, none⟩)) (by simp [execOp, go_sem, h3]) rfl
    · refine Lin.stepR (by kernel_rfl) ?_
      intro ρ wq hb hk ho hc hd hs
      have hC : ∀ v, ρ (.const v) = v := fun v => hc _ (by intro t e; cases e)
      have hF : ∀ f, ρ (.func f) = .func (.func f) #[] #[] := fun f => hc _ (by intro t e; cases e)
      have h26 : ρ (.tmp 26) = .pointer (some ⟨w.heap.size + 1, 2, none⟩) := hd 26 (by kernel_rfl)
      have hg8 := HK.out.below hb (by omega)
      have m2 := hg8.cell 2
      simp at m2
      exact Lin.Runs.value Lin.keeps (v := .int .u32 (pl : Int)) (by simp [execOp, go_sem, h26, m2]) rfl
    · refine Lin.stepW (by kernel_rfl) ?_
      intro ρ wq hb hk ho hc hd hs
      have hC : ∀ v, ρ (.const v) = v := fun v => hc _ (by intro t e; cases e)
      have hF : ∀ f, ρ (.func f) = .func (.func f) #[] #[] := fun f => hc _ (by intro t e; cases e)
      have h18 : ρ (.tmp 18) = fileV sm na (mo : Int) (li : Int) := hd 18 (by kernel_rfl)
      have h25 := hd 25 (by kernel_rfl)
      have h27 : ρ (.tmp 27) = .int .u32 (pl : Int) := hd 27 (by kernel_rfl)
      obtain ⟨A7, c7, e7, o7⟩ := h25
      refine Lin.RunsB.call (f := 114) (args := #[fileV sm na (mo : Int) (li : Int), .slice A7 12 c7, .int .u32 (pl : Int), .int .i64 4]) (by simp [fileV, execOp, go_sem, hC, hF, h18, e7, h27]) ?_
      exact (cput_4 sm na (mo : Int) (li : Int) pl (by omega) A7 c7 12 (w.heap.size + 2) (((([]) ++ numF sm ps 4) ++ numF sm pp 4) ++ numF sm n 4) wq o7 (by simp [numF_len]) (Nat.le_trans HZ.out hb.size) (by omega)).mono fun e w9 ⟨A9, c9, h1, h2, h3⟩ => ⟨_, h1, h3, A9, c9, rfl, h2⟩
    · refine Lin.stepR (by kernel_rfl) ?_
      intro ρ wq hb hk ho hc hd hs
      have hC : ∀ v, ρ (.const v) = v := fun v => hc _ (by intro t e; cases e)
      have hF : ∀ f, ρ (.func f) = .func (.func f) #[] #[] := fun f => hc _ (by intro t e; cases e)
      have h28 := hd 28 (by kernel_rfl)
      exact Lin.Runs.value Lin.keeps (Lin.exec_assign rfl) h28
    · intro vals w4 hb2 hv hs
      obtain ⟨A4, c4, e5, o5⟩ := hv 5 (by kernel_rfl) (by kernel_rfl)
      have HB9 := Lib.hid (HB.out.trans (hb2.mono (Nat.le_add_right _ 2)))
      have HG9 := hide (HG.out.below hb2 (by omega))
      have hk9 := HK.out.below hb2 (by omega)
      have HZ9 := Lib.hid (Nat.le_trans HZ.out hb2.size)
      clear hv hs hb2 HO HB HG HK HZ a3
      have HO := hide o5; have HB := HB9; have HG := HG9; have HZ := HZ9; have HK := hide hk9
      have a3 := hk9.cell 3
      simp at a3
      clear o5 HB9 HG9 HZ9 hk9
      simp only [Lin.putAll, Option.getD_some]
      rw [e5]
      go_simp
      generalize vals = vv
      have hzz : w.heap.size + 2 ≤ w4.heap.size := HZ.out
      go_wp2_with (first
        | ((with_reducible show wpList _ _ _ (⟨some 32, _, _, _, _, _⟩ :: _) _ _)
           go_loud (refine app_k (.tmp 29) (.tmp 31) _ rfl rfl Try.underlying22 info8 (v := .slice A4 16 c4) (base := (w.heap.size + 2)) (xs := (((([]) ++ numF sm ps 4) ++ numF sm pp 4) ++ numF sm n 4) ++ numF sm pl 4) (k := 16) (k' := 16 + n) (l := l) (m := n) rfl HO.out (by simp [numF_len]) rfl (HV.out.st HB.out) rfl (by omega) hzz ?_)
           intro A8 c8 w8 ho8 hg8
           have hb8 : Below (w.heap.size + 2) w4 w8 := (Below.refl _ _).grown hg8 hzz (fun q hq => (World.ownsRow.lt HO.out q hq).1)
           have HB8 := Lib.hid (HB.out.trans (hb8.mono (Nat.le_add_right _ 2)))
           have HO8 := hide (IsB.own ho8)
           clear ho8 hg8 hb8))
      go_ret
      exact ⟨_, rfl, HB8.out, HO8.out⟩
set_option maxHeartbeats 1000000 in
theorem cto (sm na : Bool) (mo li : Nat) (w : World) : Calls Try.prog 58 #[fileV sm na (mo : Int) (li : Int)] w fun e w' => e = .returned (fileV sm na (mo : Int) (li : Int)) ∧ Below w.heap.size w w' := by
  unfold fileV
  go_enter Try.func58, Try.ntmps58
  go_wp2_with fail
  refine bodyPost_ret (v := .agg #[.bool sm, .bool na, .int .u32 (mo : Int), .int .u32 (li : Int)]) (by simp [results, Try.results58, go_sem]) rfl ⟨rfl, ?_⟩
  repeat' first | exact Below.refl _ _ | apply Below.set1 | apply Below.alloc
  all_goals simp
set_option maxHeartbeats 1000000 in
theorem cpacket (ps pp pl : Nat) (A : Option Addr) (n c : Nat) (w : World) : Calls Try.prog 62 #[pktV (ps : Int) (pp : Int) (pl : Int) (.slice A n c)] w fun e w' => e = .returned (pktV (ps : Int) (pp : Int) (pl : Int) (.slice A n c)) ∧ Below w.heap.size w w' := by
  unfold pktV
  go_enter Try.func62, Try.ntmps62
  go_wp2_with fail
  refine bodyPost_ret (v := .agg #[.int .u32 (ps : Int), .int .u32 (pp : Int), .int .u32 (pl : Int), .slice A n c]) (by simp [results, Try.results62, go_sem]) rfl ⟨rfl, ?_⟩
  repeat' first | exact Below.refl _ _ | apply Below.set1 | apply Below.alloc
  all_goals simp
set_option maxHeartbeats 1000000 in
theorem awake45 (w : World) : Calls Try.prog 57 #[] w fun e w' => e = .returned (.bool true) ∧ Below w.heap.size w w' := by
  go_enter Try.func57, Try.ntmps57
  go_wp2_with fail
  refine (chead false false 65535 101 (by omega) (by omega) _).mono ?_
  rintro e w1 ⟨v, rfl, hb, A, c, rfl, ho⟩
  obtain ⟨g, rfl, _, _⟩ := ho.blocks (by rw [headF_len]; omega)
  have d0 : w1.cell? ⟨g, 0, none⟩ = some (.int .u8 161) := ho.at (k := 0) (by rw [headF_len]; omega)
  have d1 : w1.cell? ⟨g, 1, none⟩ = some (.int .u8 178) := ho.at (k := 1) (by rw [headF_len]; omega)
  have d2 : w1.cell? ⟨g, 2, none⟩ = some (.int .u8 195) := ho.at (k := 2) (by rw [headF_len]; omega)
  have d3 : w1.cell? ⟨g, 3, none⟩ = some (.int .u8 212) := ho.at (k := 3) (by rw [headF_len]; omega)
  have HB := Lib.hid hb
  clear hb ho
  go_wp2_with fail
  go_ret
  exact ⟨rfl, HB.out⟩
end Go.Proofs.Ytkgmgmlicgjfdaa
