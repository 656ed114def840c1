/-
  Head and Write of package capture and of the reference: what a call returns. Helper of the claims of layer 45. No condition.
-/
import Derived.Test.YtkgmgmlicgjfdaaCap2
import Derived.Test.YtkgmgmlicgjfdaaLin4
import Derived.Test.YtkgmgmlicgjfdaaUdpA
import Derived.Test.YtkgmgmlicgjfdaaGrow
namespace Go.Proofs.Ytkgmgmlicgjfdaa
open Go.ChangeShapes Go.WideShapes Go.ChangeAt Go.RowKit
set_option linter.unusedVariables false
set_option maxRecDepth 100000
def pktV (ps pp pl : Int) (v : Value) : Value := .agg #[.int .u32 ps, .int .u32 pp, .int .u32 pl, v]
def markF (na : Bool) : Nat := if na then 2712812621 else 2712847316
def headF (sm na : Bool) (mo li : Nat) : List Int := numF sm (markF na) 4 ++ numF sm 2 2 ++ numF sm 4 2 ++ numF sm 0 4 ++ numF sm 0 4 ++ numF sm mo 4 ++ numF sm li 4
theorem headF_len (sm na : Bool) (mo li : Nat) : (headF sm na mo li).length = 24 := by simp [headF, numF_len]
def pktF (sm : Bool) (ps pp n pl : Nat) (l : List Int) : List Int := numF sm ps 4 ++ numF sm pp 4 ++ numF sm n 4 ++ numF sm pl 4 ++ l
theorem pktF_len (sm : Bool) (ps pp n pl : Nat) (l : List Int) : (pktF sm ps pp n pl l).length = 16 + l.length := by simp [pktF, numF_len]; omega
def limF (na : Bool) : Nat := if na then 1000000000 else 1000000
def rightF (na : Bool) (mo pp pl n : Nat) : Bool := decide (pp < limF na) && (decide (n ≤ mo) && decide (n ≤ pl))
theorem OwnP.lower {B B' : Nat} {l : List Int} {n : Nat} {v : Value} {w : World} (h : OwnP B l n v w) (hB : B' ≤ B) : OwnP B' l n v w := by
  obtain ⟨A, c, e, h1⟩ := h; exact ⟨A, c, e, h1.lower hB⟩
set_option maxHeartbeats 4000000 in
theorem chead_false (sm : Bool) (mo li : Nat) (hmo : mo < 4294967296) (hli : li < 4294967296) (w : World) : Calls Try.prog 59 #[fileV sm false (mo : Int) (li : Int)] w fun e w' => ∃ v, e = .returned v ∧ Below w.heap.size w w' ∧ OwnP w.heap.size (headF sm false mo li) 24 v w' := by
  unfold fileV
  have hb0 : Below w.heap.size w (w.alloc (.cells #[.bool sm, .bool false, .int .u32 (mo : Int), .int .u32 (li : Int)] 85)) := (Below.refl _ _).alloc (Nat.le_refl _) _
  have hg0 := Is.new w 85 #[.bool sm, .bool false, .int .u32 (mo : Int), .int .u32 (li : Int)]
  have hs0 : w.heap.size < (w.alloc (.cells #[.bool sm, .bool false, .int .u32 (mo : Int), .int .u32 (li : Int)] 85)).heap.size := by simp
  go_enter Try.func59, Try.ntmps59
  go_wp2_with fail
  generalize w.alloc (.cells #[.bool sm, .bool false, .int .u32 (mo : Int), .int .u32 (li : Int)] 85) = W at *
  have HZ0 := Lib.hid (show w.heap.size + 1 ≤ W.heap.size from hs0)
  refine (cput_4 sm false (mo : Int) (li : Int) 2712847316 (by omega) none 0 0 (w.heap.size + 1) [] _ (OwnB.nil _ _) rfl HZ0.out (by omega)).mono ?_
  rintro e w1 ⟨A4, c4, rfl, ho4, hb4⟩
  have HO := hide (show OwnB w1 (w.heap.size + 1) (.slice A4 4 c4) (numF sm 2712847316 4) from ho4)
  have HB := Lib.hid (hb0.trans (hb4.mono (Nat.le_succ _))); have HG := hide (hg0.below hb4 (Nat.lt_succ_self _)); have HZ := Lib.hid (Nat.le_trans HZ0.out hb4.size)
  clear ho4 hb4 hb0 hg0 HZ0
  go_wp2_with fail
  refine Lin.wp_region_lin4 (n := 29) (fun slotq => match slotq with | 10 => Lin.Spec.val (fileV sm false (mo : Int) (li : Int)) | 11 => Lin.Spec.val (fileV sm false (mo : Int) (li : Int)) | 12 => Lin.Spec.own (w.heap.size + 1) (numF sm 2712847316 4) 4 | 13 => Lin.Spec.own (w.heap.size + 1) ((numF sm 2712847316 4) ++ numF sm 2 2) 6 | 14 => Lin.Spec.own (w.heap.size + 1) (((numF sm 2712847316 4) ++ numF sm 2 2) ++ numF sm 4 2) 8 | 4 => Lin.Spec.own (w.heap.size + 1) (((numF sm 2712847316 4) ++ numF sm 2 2) ++ numF sm 4 2) 8 | _ => Lin.Spec.any) (w.heap.size + 1) [(3, [12]), (4, [12, 13])] (by kernel_rfl) rfl (by kernel_rfl) (by kernel_rfl) HZ.out ⟨.inr (Lin.firm_val _ _), .inr (Lin.firm_val _ _), .inl (by kernel_rfl), .inl (by kernel_rfl), .inl (by kernel_rfl), .inl (by kernel_rfl), trivial⟩ ⟨?_, ?_, ?_, ?_, ?_, ?_, trivial⟩ ?_
  · refine Lin.stepR (by kernel_rfl) ?_
    intro ρ wq hb hk ho hc hd hs
    have hC : ∀ v, ρ (.const v) = v := fun v => hc _ (by intro t e; cases e)
    have hF : ∀ f, ρ (.func f) = .func (.func f) #[] #[] := fun f => hc _ (by intro t e; cases e)
    have h1 : ρ (.tmp 1) = .pointer (some ⟨w.heap.size, 0, none⟩) := ho 1 (by kernel_rfl)
    have hg8 := HG.out.below hb (Nat.lt_succ_self _)
    have m0 := hg8.cell 0
    have m1 := hg8.cell 1
    have m2 := hg8.cell 2
    have m3 := hg8.cell 3
    simp at m0 m1 m2 m3
    exact Lin.Runs.value Lin.keeps (v := fileV sm false (mo : Int) (li : Int)) (by simp [fileV, execOp, go_sem, h1, m0, m1, m2, m3]) rfl
  · refine Lin.stepR (by kernel_rfl) ?_
    intro ρ wq hb hk ho hc hd hs
    have hC : ∀ v, ρ (.const v) = v := fun v => hc _ (by intro t e; cases e)
    have hF : ∀ f, ρ (.func f) = .func (.func f) #[] #[] := fun f => hc _ (by intro t e; cases e)
    have h1 : ρ (.tmp 1) = .pointer (some ⟨w.heap.size, 0, none⟩) := ho 1 (by kernel_rfl)
    have hg8 := HG.out.below hb (Nat.lt_succ_self _)
    have m0 := hg8.cell 0
    have m1 := hg8.cell 1
    have m2 := hg8.cell 2
    have m3 := hg8.cell 3
    simp at m0 m1 m2 m3
    exact Lin.Runs.value Lin.keeps (v := fileV sm false (mo : Int) (li : Int)) (by simp [fileV, execOp, go_sem, h1, m0, m1, m2, m3]) rfl
  · refine Lin.stepR (by kernel_rfl) ?_
    intro ρ wq hb hk ho hc hd hs
    have hC : ∀ v, ρ (.const v) = v := fun v => hc _ (by intro t e; cases e)
    have hF : ∀ f, ρ (.func f) = .func (.func f) #[] #[] := fun f => hc _ (by intro t e; cases e)
    have h4 : ρ (.tmp 4) = .slice A4 4 c4 := ho 4 (by kernel_rfl)
    exact Lin.Runs.value Lin.keeps (v := .slice A4 4 c4) ((Lin.exec_move rfl).trans (by rw [h4])) ⟨A4, c4, rfl, HO.out.below (hk (by kernel_rfl))⟩
  · refine Lin.stepW (by kernel_rfl) ?_
    intro ρ wq hb hk ho hc hd hs
    have hC : ∀ v, ρ (.const v) = v := fun v => hc _ (by intro t e; cases e)
    have hF : ∀ f, ρ (.func f) = .func (.func f) #[] #[] := fun f => hc _ (by intro t e; cases e)
    have h11 : ρ (.tmp 11) = fileV sm false (mo : Int) (li : Int) := hd 11 (by kernel_rfl)
    have h12 := hd 12 (by kernel_rfl)
    obtain ⟨A7, c7, e7, o7⟩ := h12
    refine Lin.RunsB.call (f := 114) (args := #[fileV sm false (mo : Int) (li : Int), .slice A7 4 c7, .int .u32 (2 : Int), .int .i64 2]) (by simp [fileV, execOp, go_sem, hC, hF, h11, e7]) ?_
    exact (cput_2 sm false (mo : Int) (li : Int) 2 (by omega) A7 c7 4 (w.heap.size + 1) (numF sm 2712847316 4) wq o7 (by simp [numF_len]) (Nat.le_trans HZ.out hb.size) (by omega)).mono fun e w9 ⟨A9, c9, h1, h2, h3⟩ => ⟨_, h1, h3, A9, c9, rfl, h2⟩
  · refine Lin.stepW (by kernel_rfl) ?_
    intro ρ wq hb hk ho hc hd hs
    have hC : ∀ v, ρ (.const v) = v := fun v => hc _ (by intro t e; cases e)
    have hF : ∀ f, ρ (.func f) = .func (.func f) #[] #[] := fun f => hc _ (by intro t e; cases e)
    have h10 : ρ (.tmp 10) = fileV sm false (mo : Int) (li : Int) := hd 10 (by kernel_rfl)
    have h13 := hd 13 (by kernel_rfl)
    obtain ⟨A7, c7, e7, o7⟩ := h13
    refine Lin.RunsB.call (f := 114) (args := #[fileV sm false (mo : Int) (li : Int), .slice A7 6 c7, .int .u32 (4 : Int), .int .i64 2]) (by simp [fileV, execOp, go_sem, hC, hF, h10, e7]) ?_
    exact (cput_2 sm false (mo : Int) (li : Int) 4 (by omega) A7 c7 6 (w.heap.size + 1) ((numF sm 2712847316 4) ++ numF sm 2 2) wq o7 (by simp [numF_len]) (Nat.le_trans HZ.out hb.size) (by omega)).mono fun e w9 ⟨A9, c9, h1, h2, h3⟩ => ⟨_, h1, h3, A9, c9, rfl, h2⟩
  · refine Lin.stepR (by kernel_rfl) ?_
    intro ρ wq hb hk ho hc hd hs
    have hC : ∀ v, ρ (.const v) = v := fun v => hc _ (by intro t e; cases e)
    have hF : ∀ f, ρ (.func f) = .func (.func f) #[] #[] := fun f => hc _ (by intro t e; cases e)
    have h14 := hd 14 (by kernel_rfl)
    exact Lin.Runs.value Lin.keeps (Lin.exec_assign rfl) h14
  · intro vals w5 hb2 hv hs
    obtain ⟨A5, c5, e5, o5⟩ := hv 4 (by kernel_rfl) (by kernel_rfl)
    have HB9 := Lib.hid (HB.out.trans (hb2.mono (Nat.le_succ _)))
    have HG9 := hide (HG.out.below hb2 (Nat.lt_succ_self _))
    have HZ9 := Lib.hid (Nat.le_trans HZ.out hb2.size)
    clear hv hs hb2 HO HB HG HZ
    have HO := hide o5; have HB := HB9; have HG := HG9; have HZ := HZ9
    clear o5 HB9 HG9 HZ9
    simp only [Lin.putAll, Option.getD_some]
    rw [e5]
    go_simp
    generalize vals = vv
    go_wp2_with fail
    refine Lin.wp_region_lin4 (n := 29) (fun slotq => match slotq with | 15 => Lin.Spec.val (fileV sm false (mo : Int) (li : Int)) | 16 => Lin.Spec.val (fileV sm false (mo : Int) (li : Int)) | 17 => Lin.Spec.own (w.heap.size + 1) (((numF sm 2712847316 4) ++ numF sm 2 2) ++ numF sm 4 2) 8 | 18 => Lin.Spec.own (w.heap.size + 1) ((((numF sm 2712847316 4) ++ numF sm 2 2) ++ numF sm 4 2) ++ numF sm 0 4) 12 | 19 => Lin.Spec.own (w.heap.size + 1) (((((numF sm 2712847316 4) ++ numF sm 2 2) ++ numF sm 4 2) ++ numF sm 0 4) ++ numF sm 0 4) 16 | 4 => Lin.Spec.own (w.heap.size + 1) (((((numF sm 2712847316 4) ++ numF sm 2 2) ++ numF sm 4 2) ++ numF sm 0 4) ++ numF sm 0 4) 16 | _ => Lin.Spec.any) (w.heap.size + 1) [(3, [17]), (4, [17, 18])] (by kernel_rfl) rfl (by kernel_rfl) (by kernel_rfl) HZ.out ⟨.inr (Lin.firm_val _ _), .inr (Lin.firm_val _ _), .inl (by kernel_rfl), .inl (by kernel_rfl), .inl (by kernel_rfl), .inl (by kernel_rfl), trivial⟩ ⟨?_, ?_, ?_, ?_, ?_, ?_, trivial⟩ ?_
    · refine Lin.stepR (by kernel_rfl) ?_
      intro ρ wq hb hk ho hc hd hs
      have hC : ∀ v, ρ (.const v) = v := fun v => hc _ (by intro t e; cases e)
      have hF : ∀ f, ρ (.func f) = .func (.func f) #[] #[] := fun f => hc _ (by intro t e; cases e)
      have h1 : ρ (.tmp 1) = .pointer (some ⟨w.heap.size, 0, none⟩) := ho 1 (by kernel_rfl)
      have hg8 := HG.out.below hb (Nat.lt_succ_self _)
      have m0 := hg8.cell 0
      have m1 := hg8.cell 1
      have m2 := hg8.cell 2
      have m3 := hg8.cell 3
      simp at m0 m1 m2 m3
      exact Lin.Runs.value Lin.keeps (v := fileV sm false (mo : Int) (li : Int)) (by simp [fileV, execOp, go_sem, h1, m0, m1, m2, m3]) rfl
    · refine Lin.stepR (by kernel_rfl) ?_
      intro ρ wq hb hk ho hc hd hs
      have hC : ∀ v, ρ (.const v) = v := fun v => hc _ (by intro t e; cases e)
      have hF : ∀ f, ρ (.func f) = .func (.func f) #[] #[] := fun f => hc _ (by intro t e; cases e)
      have h1 : ρ (.tmp 1) = .pointer (some ⟨w.heap.size, 0, none⟩) := ho 1 (by kernel_rfl)
      have hg8 := HG.out.below hb (Nat.lt_succ_self _)
      have m0 := hg8.cell 0
      have m1 := hg8.cell 1
      have m2 := hg8.cell 2
      have m3 := hg8.cell 3
      simp at m0 m1 m2 m3
      exact Lin.Runs.value Lin.keeps (v := fileV sm false (mo : Int) (li : Int)) (by simp [fileV, execOp, go_sem, h1, m0, m1, m2, m3]) rfl
    · refine Lin.stepR (by kernel_rfl) ?_
      intro ρ wq hb hk ho hc hd hs
      have hC : ∀ v, ρ (.const v) = v := fun v => hc _ (by intro t e; cases e)
      have hF : ∀ f, ρ (.func f) = .func (.func f) #[] #[] := fun f => hc _ (by intro t e; cases e)
      have h4 : ρ (.tmp 4) = .slice A5 8 c5 := ho 4 (by kernel_rfl)
      exact Lin.Runs.value Lin.keeps (v := .slice A5 8 c5) ((Lin.exec_move rfl).trans (by rw [h4])) ⟨A5, c5, rfl, HO.out.below (hk (by kernel_rfl))⟩
    · refine Lin.stepW (by kernel_rfl) ?_
      intro ρ wq hb hk ho hc hd hs
      have hC : ∀ v, ρ (.const v) = v := fun v => hc _ (by intro t e; cases e)
      have hF : ∀ f, ρ (.func f) = .func (.func f) #[] #[] := fun f => hc _ (by intro t e; cases e)
      have h16 : ρ (.tmp 16) = fileV sm false (mo : Int) (li : Int) := hd 16 (by kernel_rfl)
      have h17 := hd 17 (by kernel_rfl)
      obtain ⟨A7, c7, e7, o7⟩ := h17
      refine Lin.RunsB.call (f := 114) (args := #[fileV sm false (mo : Int) (li : Int), .slice A7 8 c7, .int .u32 (0 : Int), .int .i64 4]) (by simp [fileV, execOp, go_sem, hC, hF, h16, e7]) ?_
      exact (cput_4 sm false (mo : Int) (li : Int) 0 (by omega) A7 c7 8 (w.heap.size + 1) (((numF sm 2712847316 4) ++ numF sm 2 2) ++ numF sm 4 2) wq o7 (by simp [numF_len]) (Nat.le_trans HZ.out hb.size) (by omega)).mono fun e w9 ⟨A9, c9, h1, h2, h3⟩ => ⟨_, h1, h3, A9, c9, rfl, h2⟩
    · refine Lin.stepW (by kernel_rfl) ?_
      intro ρ wq hb hk ho hc hd hs
      have hC : ∀ v, ρ (.const v) = v := fun v => hc _ (by intro t e; cases e)
      have hF : ∀ f, ρ (.func f) = .func (.func f) #[] #[] := fun f => hc _ (by intro t e; cases e)
      have h15 : ρ (.tmp 15) = fileV sm false (mo : Int) (li : Int) := hd 15 (by kernel_rfl)
      have h18 := hd 18 (by kernel_rfl)
      obtain ⟨A7, c7, e7, o7⟩ := h18
      refine Lin.RunsB.call (f := 114) (args := #[fileV sm false (mo : Int) (li : Int), .slice A7 12 c7, .int .u32 (0 : Int), .int .i64 4]) (by simp [fileV, execOp, go_sem, hC, hF, h15, e7]) ?_
      exact (cput_4 sm false (mo : Int) (li : Int) 0 (by omega) A7 c7 12 (w.heap.size + 1) ((((numF sm 2712847316 4) ++ numF sm 2 2) ++ numF sm 4 2) ++ numF sm 0 4) wq o7 (by simp [numF_len]) (Nat.le_trans HZ.out hb.size) (by omega)).mono fun e w9 ⟨A9, c9, h1, h2, h3⟩ => ⟨_, h1, h3, A9, c9, rfl, h2⟩
    · refine Lin.stepR (by kernel_rfl) ?_
      intro ρ wq hb hk ho hc hd hs
      have hC : ∀ v, ρ (.const v) = v := fun v => hc _ (by intro t e; cases e)
      have hF : ∀ f, ρ (.func f) = .func (.func f) #[] #[] := fun f => hc _ (by intro t e; cases e)
      have h19 := hd 19 (by kernel_rfl)
      exact Lin.Runs.value Lin.keeps (Lin.exec_assign rfl) h19
    · intro vals w6 hb2 hv hs
      obtain ⟨A6, c6, e5, o5⟩ := hv 4 (by kernel_rfl) (by kernel_rfl)
      have HB9 := Lib.hid (HB.out.trans (hb2.mono (Nat.le_succ _)))
      have HG9 := hide (HG.out.below hb2 (Nat.lt_succ_self _))
      have HZ9 := Lib.hid (Nat.le_trans HZ.out hb2.size)
      clear hv hs hb2 HO HB HG HZ
      have HO := hide o5; have HB := HB9; have HG := HG9; have HZ := HZ9
      clear o5 HB9 HG9 HZ9
      simp only [Lin.putAll, Option.getD_some]
      rw [e5]
      go_simp
      generalize vals = vv
      go_wp2_with fail
      refine Lin.wp_region_lin4 (n := 29) (fun slotq => match slotq with | 20 => Lin.Spec.val (fileV sm false (mo : Int) (li : Int)) | 21 => Lin.Spec.val (fileV sm false (mo : Int) (li : Int)) | 22 => Lin.Spec.own (w.heap.size + 1) (((((numF sm 2712847316 4) ++ numF sm 2 2) ++ numF sm 4 2) ++ numF sm 0 4) ++ numF sm 0 4) 16 | 23 => Lin.Spec.val (.pointer (some ⟨w.heap.size, 2, none⟩)) | 24 => Lin.Spec.val (.int .u32 (mo : Int)) | 25 => Lin.Spec.own (w.heap.size + 1) ((((((numF sm 2712847316 4) ++ numF sm 2 2) ++ numF sm 4 2) ++ numF sm 0 4) ++ numF sm 0 4) ++ numF sm mo 4) 20 | 26 => Lin.Spec.val (.pointer (some ⟨w.heap.size, 3, none⟩)) | 27 => Lin.Spec.val (.int .u32 (li : Int)) | 28 => Lin.Spec.own (w.heap.size + 1) (((((((numF sm 2712847316 4) ++ numF sm 2 2) ++ numF sm 4 2) ++ numF sm 0 4) ++ numF sm 0 4) ++ numF sm mo 4) ++ numF sm li 4) 24 | 2 => Lin.Spec.own (w.heap.size + 1) (((((((numF sm 2712847316 4) ++ numF sm 2 2) ++ numF sm 4 2) ++ numF sm 0 4) ++ numF sm 0 4) ++ numF sm mo 4) ++ numF sm li 4) 24 | _ => Lin.Spec.any) (w.heap.size + 1) [(5, [22]), (8, [22, 25])] (by kernel_rfl) rfl (by kernel_rfl) (by kernel_rfl) HZ.out ⟨.inr (Lin.firm_val _ _), .inr (Lin.firm_val _ _), .inl (by kernel_rfl), .inr (Lin.firm_val _ _), .inr (Lin.firm_val _ _), .inl (by kernel_rfl), .inr (Lin.firm_val _ _), .inr (Lin.firm_val _ _), .inl (by kernel_rfl), .inl (by kernel_rfl), trivial⟩ ⟨?_, ?_, ?_, ?_, ?_, ?_, ?_, ?_, ?_, ?_, trivial⟩ ?_
      · refine Lin.stepR (by kernel_rfl) ?_
        intro ρ wq hb hk ho hc hd hs
        have hC : ∀ v, ρ (.const v) = v := fun v => hc _ (by intro t e; cases e)
        have hF : ∀ f, ρ (.func f) = .func (.func f) #[] #[] := fun f => hc _ (by intro t e; cases e)
        have h1 : ρ (.tmp 1) = .pointer (some ⟨w.heap.size, 0, none⟩) := ho 1 (by kernel_rfl)
        have hg8 := HG.out.below hb (Nat.lt_succ_self _)
        have m0 := hg8.cell 0
        have m1 := hg8.cell 1
        have m2 := hg8.cell 2
        have m3 := hg8.cell 3
        simp at m0 m1 m2 m3
        exact Lin.Runs.value Lin.keeps (v := fileV sm false (mo : Int) (li : Int)) (by simp [fileV, execOp, go_sem, h1, m0, m1, m2, m3]) rfl
      · refine Lin.stepR (by kernel_rfl) ?_
        intro ρ wq hb hk ho hc hd hs
        have hC : ∀ v, ρ (.const v) = v := fun v => hc _ (by intro t e; cases e)
        have hF : ∀ f, ρ (.func f) = .func (.func f) #[] #[] := fun f => hc _ (by intro t e; cases e)
        have h1 : ρ (.tmp 1) = .pointer (some ⟨w.heap.size, 0, none⟩) := ho 1 (by kernel_rfl)
        have hg8 := HG.out.below hb (Nat.lt_succ_self _)
        have m0 := hg8.cell 0
        have m1 := hg8.cell 1
        have m2 := hg8.cell 2
        have m3 := hg8.cell 3
        simp at m0 m1 m2 m3
        exact Lin.Runs.value Lin.keeps (v := fileV sm false (mo : Int) (li : Int)) (by simp [fileV, execOp, go_sem, h1, m0, m1, m2, m3]) rfl
      · refine Lin.stepR (by kernel_rfl) ?_
        intro ρ wq hb hk ho hc hd hs
        have hC : ∀ v, ρ (.const v) = v := fun v => hc _ (by intro t e; cases e)
        have hF : ∀ f, ρ (.func f) = .func (.func f) #[] #[] := fun f => hc _ (by intro t e; cases e)
        have h4 : ρ (.tmp 4) = .slice A6 16 c6 := ho 4 (by kernel_rfl)
        exact Lin.Runs.value Lin.keeps (v := .slice A6 16 c6) ((Lin.exec_move rfl).trans (by rw [h4])) ⟨A6, c6, rfl, HO.out.below (hk (by kernel_rfl))⟩
      · refine Lin.stepR (by kernel_rfl) ?_
        intro ρ wq hb hk ho hc hd hs
        have hC : ∀ v, ρ (.const v) = v := fun v => hc _ (by intro t e; cases e)
        have hF : ∀ f, ρ (.func f) = .func (.func f) #[] #[] := fun f => hc _ (by intro t e; cases e)
        have h1 : ρ (.tmp 1) = .pointer (some ⟨w.heap.size, 0, none⟩) := ho 1 (by kernel_rfl)
        exact Lin.Runs.value Lin.keeps (v := .pointer (some ⟨w.heap.size, 2, none⟩)) (by simp [execOp, go_sem, h1]) rfl
      · refine Lin.stepR (by kernel_rfl) ?_
        intro ρ wq hb hk ho hc hd hs
        have hC : ∀ v, ρ (.const v) = v := fun v => hc _ (by intro t e; cases e)
        have hF : ∀ f, ρ (.func f) = .func (.func f) #[] #[] := fun f => hc _ (by intro t e; cases e)
        have h23 : ρ (.tmp 23) = .pointer (some ⟨w.heap.size, 2, none⟩) := hd 23 (by kernel_rfl)
        have hg8 := HG.out.below hb (Nat.lt_succ_self _)
        have m2 := hg8.cell 2
        simp at m2
        exact Lin.Runs.value Lin.keeps (v := .int .u32 (mo : Int)) (by simp [execOp, go_sem, h23, m2]) rfl
      · refine Lin.stepW (by kernel_rfl) ?_
        intro ρ wq hb hk ho hc hd hs
        have hC : ∀ v, ρ (.const v) = v := fun v => hc _ (by intro t e; cases e)
        have hF : ∀ f, ρ (.func f) = .func (.func f) #[] #[] := fun f => hc _ (by intro t e; cases e)
        have h21 : ρ (.tmp 21) = fileV sm false (mo : Int) (li : Int) := hd 21 (by kernel_rfl)
        have h22 := hd 22 (by kernel_rfl)
        have h24 : ρ (.tmp 24) = .int .u32 (mo : Int) := hd 24 (by kernel_rfl)
        obtain ⟨A7, c7, e7, o7⟩ := h22
        refine Lin.RunsB.call (f := 114) (args := #[fileV sm false (mo : Int) (li : Int), .slice A7 16 c7, .int .u32 (mo : Int), .int .i64 4]) (by simp [fileV, execOp, go_sem, hC, hF, h21, e7, h24]) ?_
        exact (cput_4 sm false (mo : Int) (li : Int) mo (by omega) A7 c7 16 (w.heap.size + 1) (((((numF sm 2712847316 4) ++ numF sm 2 2) ++ numF sm 4 2) ++ numF sm 0 4) ++ numF sm 0 4) wq o7 (by simp [numF_len]) (Nat.le_trans HZ.out hb.size) (by omega)).mono fun e w9 ⟨A9, c9, h1, h2, h3⟩ => ⟨_, h1, h3, A9, c9, rfl, h2⟩
      · refine Lin.stepR (by kernel_rfl) ?_
        intro ρ wq hb hk ho hc hd hs
        have hC : ∀ v, ρ (.const v) = v := fun v => hc _ (by intro t e; cases e)
        have hF : ∀ f, ρ (.func f) = .func (.func f) #[] #[] := fun f => hc _ (by intro t e; cases e)
        have h1 : ρ (.tmp 1) = .pointer (some ⟨w.heap.size, 0, none⟩) := ho 1 (by kernel_rfl)
        exact Lin.Runs.value Lin.keeps (v := .pointer (some ⟨w.heap.size, 3, none⟩)) (by simp [execOp, go_sem, h1]) rfl
      · refine Lin.stepR (by kernel_rfl) ?_
        intro ρ wq hb hk ho hc hd hs
        have hC : ∀ v, ρ (.const v) = v := fun v => hc _ (by intro t e; cases e)
        have hF : ∀ f, ρ (.func f) = .func (.func f) #[] #[] := fun f => hc _ (by intro t e; cases e)
        have h26 : ρ (.tmp 26) = .pointer (some ⟨w.heap.size, 3, none⟩) := hd 26 (by kernel_rfl)
        have hg8 := HG.out.below hb (Nat.lt_succ_self _)
        have m3 := hg8.cell 3
        simp at m3
        exact Lin.Runs.value Lin.keeps (v := .int .u32 (li : Int)) (by simp [execOp, go_sem, h26, m3]) rfl
      · refine Lin.stepW (by kernel_rfl) ?_
        intro ρ wq hb hk ho hc hd hs
        have hC : ∀ v, ρ (.const v) = v := fun v => hc _ (by intro t e; cases e)
        have hF : ∀ f, ρ (.func f) = .func (.func f) #[] #[] := fun f => hc _ (by intro t e; cases e)
        have h20 : ρ (.tmp 20) = fileV sm false (mo : Int) (li : Int) := hd 20 (by kernel_rfl)
        have h25 := hd 25 (by kernel_rfl)
        have h27 : ρ (.tmp 27) = .int .u32 (li : Int) := hd 27 (by kernel_rfl)
        obtain ⟨A7, c7, e7, o7⟩ := h25
        refine Lin.RunsB.call (f := 114) (args := #[fileV sm false (mo : Int) (li : Int), .slice A7 20 c7, .int .u32 (li : Int), .int .i64 4]) (by simp [fileV, execOp, go_sem, hC, hF, h20, e7, h27]) ?_
        exact (cput_4 sm false (mo : Int) (li : Int) li (by omega) A7 c7 20 (w.heap.size + 1) ((((((numF sm 2712847316 4) ++ numF sm 2 2) ++ numF sm 4 2) ++ numF sm 0 4) ++ numF sm 0 4) ++ numF sm mo 4) wq o7 (by simp [numF_len]) (Nat.le_trans HZ.out hb.size) (by omega)).mono fun e w9 ⟨A9, c9, h1, h2, h3⟩ => ⟨_, h1, h3, A9, c9, rfl, h2⟩
      · refine Lin.stepR (by kernel_rfl) ?_
        intro ρ wq hb hk ho hc hd hs
        have hC : ∀ v, ρ (.const v) = v := fun v => hc _ (by intro t e; cases e)
        have hF : ∀ f, ρ (.func f) = .func (.func f) #[] #[] := fun f => hc _ (by intro t e; cases e)
        have h28 := hd 28 (by kernel_rfl)
        exact Lin.Runs.value Lin.keeps (Lin.exec_assign rfl) h28
      · intro vals w7 hb2 hv hs
        obtain ⟨A7, c7, e5, o5⟩ := hv 2 (by kernel_rfl) (by kernel_rfl)
        have HB9 := Lib.hid (HB.out.trans (hb2.mono (Nat.le_succ _)))
        have HG9 := hide (HG.out.below hb2 (Nat.lt_succ_self _))
        have HZ9 := Lib.hid (Nat.le_trans HZ.out hb2.size)
        clear hv hs hb2 HO HB HG HZ
        have HO := hide o5; have HB := HB9; have HG := HG9; have HZ := HZ9
        clear o5 HB9 HG9 HZ9
        simp only [Lin.putAll, Option.getD_some]
        rw [e5]
        go_simp
        generalize vals = vv
        go_wp2_with fail
        go_ret
        exact ⟨_, rfl, HB.out, OwnP.lower (B := w.heap.size + 1) ⟨A7, c7, rfl, HO.out⟩ (Nat.le_succ _)⟩
set_option maxHeartbeats 4000000 in
theorem chead_true (sm : Bool) (mo li : Nat) (hmo : mo < 4294967296) (hli : li < 4294967296) (w : World) : Calls Try.prog 59 #[fileV sm true (mo : Int) (li : Int)] w fun e w' => ∃ v, e = .returned v ∧ Below w.heap.size w w' ∧ OwnP w.heap.size (headF sm true mo li) 24 v w' := by
  unfold fileV
  have hb0 : Below w.heap.size w (w.alloc (.cells #[.bool sm, .bool true, .int .u32 (mo : Int), .int .u32 (li : Int)] 85)) := (Below.refl _ _).alloc (Nat.le_refl _) _
  have hg0 := Is.new w 85 #[.bool sm, .bool true, .int .u32 (mo : Int), .int .u32 (li : Int)]
  have hs0 : w.heap.size < (w.alloc (.cells #[.bool sm, .bool true, .int .u32 (mo : Int), .int .u32 (li : Int)] 85)).heap.size := by simp
  go_enter Try.func59, Try.ntmps59
  go_wp2_with fail
  generalize w.alloc (.cells #[.bool sm, .bool true, .int .u32 (mo : Int), .int .u32 (li : Int)] 85) = W at *
  have HZ0 := Lib.hid (show w.heap.size + 1 ≤ W.heap.size from hs0)
  refine (cput_4 sm true (mo : Int) (li : Int) 2712812621 (by omega) none 0 0 (w.heap.size + 1) [] _ (OwnB.nil _ _) rfl HZ0.out (by omega)).mono ?_
  rintro e w1 ⟨A4, c4, rfl, ho4, hb4⟩
  have HO := hide (show OwnB w1 (w.heap.size + 1) (.slice A4 4 c4) (numF sm 2712812621 4) from ho4)
  have HB := Lib.hid (hb0.trans (hb4.mono (Nat.le_succ _))); have HG := hide (hg0.below hb4 (Nat.lt_succ_self _)); have HZ := Lib.hid (Nat.le_trans HZ0.out hb4.size)
  clear ho4 hb4 hb0 hg0 HZ0
  go_wp2_with fail
  refine Lin.wp_region_lin4 (n := 29) (fun slotq => match slotq with | 10 => Lin.Spec.val (fileV sm true (mo : Int) (li : Int)) | 11 => Lin.Spec.val (fileV sm true (mo : Int) (li : Int)) | 12 => Lin.Spec.own (w.heap.size + 1) (numF sm 2712812621 4) 4 | 13 => Lin.Spec.own (w.heap.size + 1) ((numF sm 2712812621 4) ++ numF sm 2 2) 6 | 14 => Lin.Spec.own (w.heap.size + 1) (((numF sm 2712812621 4) ++ numF sm 2 2) ++ numF sm 4 2) 8 | 4 => Lin.Spec.own (w.heap.size + 1) (((numF sm 2712812621 4) ++ numF sm 2 2) ++ numF sm 4 2) 8 | _ => Lin.Spec.any) (w.heap.size + 1) [(3, [12]), (4, [12, 13])] (by kernel_rfl) rfl (by kernel_rfl) (by kernel_rfl) HZ.out ⟨.inr (Lin.firm_val _ _), .inr (Lin.firm_val _ _), .inl (by kernel_rfl), .inl (by kernel_rfl), .inl (by kernel_rfl), .inl (by kernel_rfl), trivial⟩ ⟨?_, ?_, ?_, ?_, ?_, ?_, trivial⟩ ?_
  · refine Lin.stepR (by kernel_rfl) ?_
    intro ρ wq hb hk ho hc hd hs
    have hC : ∀ v, ρ (.const v) = v := fun v => hc _ (by intro t e; cases e)
    have hF : ∀ f, ρ (.func f) = .func (.func f) #[] #[] := fun f => hc _ (by intro t e; cases e)
    have h1 : ρ (.tmp 1) = .pointer (some ⟨w.heap.size, 0, none⟩) := ho 1 (by kernel_rfl)
    have hg8 := HG.out.below hb (Nat.lt_succ_self _)
    have m0 := hg8.cell 0
    have m1 := hg8.cell 1
    have m2 := hg8.cell 2
    have m3 := hg8.cell 3
    simp at m0 m1 m2 m3
    exact Lin.Runs.value Lin.keeps (v := fileV sm true (mo : Int) (li : Int)) (by simp [fileV, execOp, go_sem, h1, m0, m1, m2, m3]) rfl
  · refine Lin.stepR (by kernel_rfl) ?_
    intro ρ wq hb hk ho hc hd hs
    have hC : ∀ v, ρ (.const v) = v := fun v => hc _ (by intro t e; cases e)
    have hF : ∀ f, ρ (.func f) = .func (.func f) #[] #[] := fun f => hc _ (by intro t e; cases e)
    have h1 : ρ (.tmp 1) = .pointer (some ⟨w.heap.size, 0, none⟩) := ho 1 (by kernel_rfl)
    have hg8 := HG.out.below hb (Nat.lt_succ_self _)
    have m0 := hg8.cell 0
    have m1 := hg8.cell 1
    have m2 := hg8.cell 2
    have m3 := hg8.cell 3
    simp at m0 m1 m2 m3
    exact Lin.Runs.value Lin.keeps (v := fileV sm true (mo : Int) (li : Int)) (by simp [fileV, execOp, go_sem, h1, m0, m1, m2, m3]) rfl
  · refine Lin.stepR (by kernel_rfl) ?_
    intro ρ wq hb hk ho hc hd hs
    have hC : ∀ v, ρ (.const v) = v := fun v => hc _ (by intro t e; cases e)
    have hF : ∀ f, ρ (.func f) = .func (.func f) #[] #[] := fun f => hc _ (by intro t e; cases e)
    have h4 : ρ (.tmp 4) = .slice A4 4 c4 := ho 4 (by kernel_rfl)
    exact Lin.Runs.value Lin.keeps (v := .slice A4 4 c4) ((Lin.exec_move rfl).trans (by rw [h4])) ⟨A4, c4, rfl, HO.out.below (hk (by kernel_rfl))⟩
  · refine Lin.stepW (by kernel_rfl) ?_
    intro ρ wq hb hk ho hc hd hs
    have hC : ∀ v, ρ (.const v) = v := fun v => hc _ (by intro t e; cases e)
    have hF : ∀ f, ρ (.func f) = .func (.func f) #[] #[] := fun f => hc _ (by intro t e; cases e)
    have h11 : ρ (.tmp 11) = fileV sm true (mo : Int) (li : Int) := hd 11 (by kernel_rfl)
    have h12 := hd 12 (by kernel_rfl)
    obtain ⟨A7, c7, e7, o7⟩ := h12
    refine Lin.RunsB.call (f := 114) (args := #[fileV sm true (mo : Int) (li : Int), .slice A7 4 c7, .int .u32 (2 : Int), .int .i64 2]) (by simp [fileV, execOp, go_sem, hC, hF, h11, e7]) ?_
    exact (cput_2 sm true (mo : Int) (li : Int) 2 (by omega) A7 c7 4 (w.heap.size + 1) (numF sm 2712812621 4) wq o7 (by simp [numF_len]) (Nat.le_trans HZ.out hb.size) (by omega)).mono fun e w9 ⟨A9, c9, h1, h2, h3⟩ => ⟨_, h1, h3, A9, c9, rfl, h2⟩
  · refine Lin.stepW (by kernel_rfl) ?_
    intro ρ wq hb hk ho hc hd hs
    have hC : ∀ v, ρ (.const v) = v := fun v => hc _ (by intro t e; cases e)
    have hF : ∀ f, ρ (.func f) = .func (.func f) #[] #[] := fun f => hc _ (by intro t e; cases e)
    have h10 : ρ (.tmp 10) = fileV sm true (mo : Int) (li : Int) := hd 10 (by kernel_rfl)
    have h13 := hd 13 (by kernel_rfl)
    obtain ⟨A7, c7, e7, o7⟩ := h13
    refine Lin.RunsB.call (f := 114) (args := #[fileV sm true (mo : Int) (li : Int), .slice A7 6 c7, .int .u32 (4 : Int), .int .i64 2]) (by simp [fileV, execOp, go_sem, hC, hF, h10, e7]) ?_
    exact (cput_2 sm true (mo : Int) (li : Int) 4 (by omega) A7 c7 6 (w.heap.size + 1) ((numF sm 2712812621 4) ++ numF sm 2 2) wq o7 (by simp [numF_len]) (Nat.le_trans HZ.out hb.size) (by omega)).mono fun e w9 ⟨A9, c9, h1, h2, h3⟩ => ⟨_, h1, h3, A9, c9, rfl, h2⟩
  · refine Lin.stepR (by kernel_rfl) ?_
    intro ρ wq hb hk ho hc hd hs
    have hC : ∀ v, ρ (.const v) = v := fun v => hc _ (by intro t e; cases e)
    have hF : ∀ f, ρ (.func f) = .func (.func f) #[] #[] := fun f => hc _ (by intro t e; cases e)
    have h14 := hd 14 (by kernel_rfl)
    exact Lin.Runs.value Lin.keeps (Lin.exec_assign rfl) h14
  · intro vals w5 hb2 hv hs
    obtain ⟨A5, c5, e5, o5⟩ := hv 4 (by kernel_rfl) (by kernel_rfl)
    have HB9 := Lib.hid (HB.out.trans (hb2.mono (Nat.le_succ _)))
    have HG9 := hide (HG.out.below hb2 (Nat.lt_succ_self _))
    have HZ9 := Lib.hid (Nat.le_trans HZ.out hb2.size)
    clear hv hs hb2 HO HB HG HZ
    have HO := hide o5; have HB := HB9; have HG := HG9; have HZ := HZ9
    clear o5 HB9 HG9 HZ9
    simp only [Lin.putAll, Option.getD_some]
    rw [e5]
    go_simp
    generalize vals = vv
    go_wp2_with fail
    refine Lin.wp_region_lin4 (n := 29) (fun slotq => match slotq with | 15 => Lin.Spec.val (fileV sm true (mo : Int) (li : Int)) | 16 => Lin.Spec.val (fileV sm true (mo : Int) (li : Int)) | 17 => Lin.Spec.own (w.heap.size + 1) (((numF sm 2712812621 4) ++ numF sm 2 2) ++ numF sm 4 2) 8 | 18 => Lin.Spec.own (w.heap.size + 1) ((((numF sm 2712812621 4) ++ numF sm 2 2) ++ numF sm 4 2) ++ numF sm 0 4) 12 | 19 => Lin.Spec.own (w.heap.size + 1) (((((numF sm 2712812621 4) ++ numF sm 2 2) ++ numF sm 4 2) ++ numF sm 0 4) ++ numF sm 0 4) 16 | 4 => Lin.Spec.own (w.heap.size + 1) (((((numF sm 2712812621 4) ++ numF sm 2 2) ++ numF sm 4 2) ++ numF sm 0 4) ++ numF sm 0 4) 16 | _ => Lin.Spec.any) (w.heap.size + 1) [(3, [17]), (4, [17, 18])] (by kernel_rfl) rfl (by kernel_rfl) (by kernel_rfl) HZ.out ⟨.inr (Lin.firm_val _ _), .inr (Lin.firm_val _ _), .inl (by kernel_rfl), .inl (by kernel_rfl), .inl (by kernel_rfl), .inl (by kernel_rfl), trivial⟩ ⟨?_, ?_, ?_, ?_, ?_, ?_, trivial⟩ ?_
    · refine Lin.stepR (by kernel_rfl) ?_
      intro ρ wq hb hk ho hc hd hs
      have hC : ∀ v, ρ (.const v) = v := fun v => hc _ (by intro t e; cases e)
      have hF : ∀ f, ρ (.func f) = .func (.func f) #[] #[] := fun f => hc _ (by intro t e; cases e)
      have h1 : ρ (.tmp 1) = .pointer (some ⟨w.heap.size, 0, none⟩) := ho 1 (by kernel_rfl)
      have hg8 := HG.out.below hb (Nat.lt_succ_self _)
      have m0 := hg8.cell 0
      have m1 := hg8.cell 1
      have m2 := hg8.cell 2
      have m3 := hg8.cell 3
      simp at m0 m1 m2 m3
      exact Lin.Runs.value Lin.keeps (v := fileV sm true (mo : Int) (li : Int)) (by simp [fileV, execOp, go_sem, h1, m0, m1, m2, m3]) rfl
    · refine Lin.stepR (by kernel_rfl) ?_
      intro ρ wq hb hk ho hc hd hs
      have hC : ∀ v, ρ (.const v) = v := fun v => hc _ (by intro t e; cases e)
      have hF : ∀ f, ρ (.func f) = .func (.func f) #[] #[] := fun f => hc _ (by intro t e; cases e)
      have h1 : ρ (.tmp 1) = .pointer (some ⟨w.heap.size, 0, none⟩) := ho 1 (by kernel_rfl)
      have hg8 := HG.out.below hb (Nat.lt_succ_self _)
      have m0 := hg8.cell 0
      have m1 := hg8.cell 1
      have m2 := hg8.cell 2
      have m3 := hg8.cell 3
      simp at m0 m1 m2 m3
      exact Lin.Runs.value Lin.keeps (v := fileV sm true (mo : Int) (li : Int)) (by simp [fileV, execOp, go_sem, h1, m0, m1, m2, m3]) rfl
    · refine Lin.stepR (by kernel_rfl) ?_
      intro ρ wq hb hk ho hc hd hs
      have hC : ∀ v, ρ (.const v) = v := fun v => hc _ (by intro t e; cases e)
      have hF : ∀ f, ρ (.func f) = .func (.func f) #[] #[] := fun f => hc _ (by intro t e; cases e)
      have h4 : ρ (.tmp 4) = .slice A5 8 c5 := ho 4 (by kernel_rfl)
      exact Lin.Runs.value Lin.keeps (v := .slice A5 8 c5) ((Lin.exec_move rfl).trans (by rw [h4])) ⟨A5, c5, rfl, HO.out.below (hk (by kernel_rfl))⟩
    · refine Lin.stepW (by kernel_rfl) ?_
      intro ρ wq hb hk ho hc hd hs
      have hC : ∀ v, ρ (.const v) = v := fun v => hc _ (by intro t e; cases e)
      have hF : ∀ f, ρ (.func f) = .func (.func f) #[] #[] := fun f => hc _ (by intro t e; cases e)
      have h16 : ρ (.tmp 16) = fileV sm true (mo : Int) (li : Int) := hd 16 (by kernel_rfl)
      have h17 := hd 17 (by kernel_rfl)
      obtain ⟨A7, c7, e7, o7⟩ := h17
      refine Lin.RunsB.call (f := 114) (args := #[fileV sm true (mo : Int) (li : Int), .slice A7 8 c7, .int .u32 (0 : Int), .int .i64 4]) (by simp [fileV, execOp, go_sem, hC, hF, h16, e7]) ?_
      exact (cput_4 sm true (mo : Int) (li : Int) 0 (by omega) A7 c7 8 (w.heap.size + 1) (((numF sm 2712812621 4) ++ numF sm 2 2) ++ numF sm 4 2) wq o7 (by simp [numF_len]) (Nat.le_trans HZ.out hb.size) (by omega)).mono fun e w9 ⟨A9, c9, h1, h2, h3⟩ => ⟨_, h1, h3, A9, c9, rfl, h2⟩
    · refine Lin.stepW (by kernel_rfl) ?_
      intro ρ wq hb hk ho hc hd hs
      have hC : ∀ v, ρ (.const v) = v := fun v => hc _ (by intro t e; cases e)
      have hF : ∀ f, ρ (.func f) = .func (.func f) #[] #[] := fun f => hc _ (by intro t e; cases e)
      have h15 : ρ (.tmp 15) = fileV sm true (mo : Int) (li : Int) := hd 15 (by kernel_rfl)
      have h18 := hd 18 (by kernel_rfl)
      obtain ⟨A7, c7, e7, o7⟩ := h18
      refine Lin.RunsB.call (f := 114) (args := #[fileV sm true (mo : Int) (li : Int), .slice A7 12 c7, .int .u32 (0 : Int), .int .i64 4]) (by simp [fileV, execOp, go_sem, hC, hF, h15, e7]) ?_
      exact (cput_4 sm true (mo : Int) (li : Int) 0 (by omega) A7 c7 12 (w.heap.size + 1) ((((numF sm 2712812621 4) ++ numF sm 2 2) ++ numF sm 4 2) ++ numF sm 0 4) wq o7 (by simp [numF_len]) (Nat.le_trans HZ.out hb.size) (by omega)).mono fun e w9 ⟨A9, c9, h1, h2, h3⟩ => ⟨_, h1, h3, A9, c9, rfl, h2⟩
    · refine Lin.stepR (by kernel_rfl) ?_
      intro ρ wq hb hk ho hc hd hs
      have hC : ∀ v, ρ (.const v) = v := fun v => hc _ (by intro t e; cases e)
      have hF : ∀ f, ρ (.func f) = .func (.func f) #[] #[] := fun f => hc _ (by intro t e; cases e)
      have h19 := hd 19 (by kernel_rfl)
      exact Lin.Runs.value Lin.keeps (Lin.exec_assign rfl) h19
    · intro vals w6 hb2 hv hs
      obtain ⟨A6, c6, e5, o5⟩ := hv 4 (by kernel_rfl) (by kernel_rfl)
      have HB9 := Lib.hid (HB.out.trans (hb2.mono (Nat.le_succ _)))
      have HG9 := hide (HG.out.below hb2 (Nat.lt_succ_self _))
      have HZ9 := Lib.hid (Nat.le_trans HZ.out hb2.size)
      clear hv hs hb2 HO HB HG HZ
      have HO := hide o5; have HB := HB9; have HG := HG9; have HZ := HZ9
      clear o5 HB9 HG9 HZ9
      simp only [Lin.putAll, Option.getD_some]
      rw [e5]
      go_simp
      generalize vals = vv
      go_wp2_with fail
      refine Lin.wp_region_lin4 (n := 29) (fun slotq => match slotq with | 20 => Lin.Spec.val (fileV sm true (mo : Int) (li : Int)) | 21 => Lin.Spec.val (fileV sm true (mo : Int) (li : Int)) | 22 => Lin.Spec.own (w.heap.size + 1) (((((numF sm 2712812621 4) ++ numF sm 2 2) ++ numF sm 4 2) ++ numF sm 0 4) ++ numF sm 0 4) 16 | 23 => Lin.Spec.val (.pointer (some ⟨w.heap.size, 2, none⟩)) | 24 => Lin.Spec.val (.int .u32 (mo : Int)) | 25 => Lin.Spec.own (w.heap.size + 1) ((((((numF sm 2712812621 4) ++ numF sm 2 2) ++ numF sm 4 2) ++ numF sm 0 4) ++ numF sm 0 4) ++ numF sm mo 4) 20 | 26 => Lin.Spec.val (.pointer (some ⟨w.heap.size, 3, none⟩)) | 27 => Lin.Spec.val (.int .u32 (li : Int)) | 28 => Lin.Spec.own (w.heap.size + 1) (((((((numF sm 2712812621 4) ++ numF sm 2 2) ++ numF sm 4 2) ++ numF sm 0 4) ++ numF sm 0 4) ++ numF sm mo 4) ++ numF sm li 4) 24 | 2 => Lin.Spec.own (w.heap.size + 1) (((((((numF sm 2712812621 4) ++ numF sm 2 2) ++ numF sm 4 2) ++ numF sm 0 4) ++ numF sm 0 4) ++ numF sm mo 4) ++ numF sm li 4) 24 | _ => Lin.Spec.any) (w.heap.size + 1) [(5, [22]), (8, [22, 25])] (by kernel_rfl) rfl (by kernel_rfl) (by kernel_rfl) HZ.out ⟨.inr (Lin.firm_val _ _), .inr (Lin.firm_val _ _), .inl (by kernel_rfl), .inr (Lin.firm_val _ _), .inr (Lin.firm_val _ _), .inl (by kernel_rfl), .inr (Lin.firm_val _ _), .inr (Lin.firm_val _ _), .inl (by kernel_rfl), .inl (by kernel_rfl), trivial⟩ ⟨?_, ?_, ?_, ?_, ?_, ?_, ?_, ?_, ?_, ?_, trivial⟩ ?_
      · refine Lin.stepR (by kernel_rfl) ?_
        intro ρ wq hb hk ho hc hd hs
        have hC : ∀ v, ρ (.const v) = v := fun v => hc _ (by intro t e; cases e)
        have hF : ∀ f, ρ (.func f) = .func (.func f) #[] #[] := fun f => hc _ (by intro t e; cases e)
        have h1 : ρ (.tmp 1) = .pointer (some ⟨w.heap.size, 0, none⟩) := ho 1 (by kernel_rfl)
        have hg8 := HG.out.below hb (Nat.lt_succ_self _)
        have m0 := hg8.cell 0
        have m1 := hg8.cell 1
        have m2 := hg8.cell 2
        have m3 := hg8.cell 3
        simp at m0 m1 m2 m3
        exact Lin.Runs.value Lin.keeps (v := fileV sm true (mo : Int) (li : Int)) (by simp [fileV, execOp, go_sem, h1, m0, m1, m2, m3]) rfl
      · refine Lin.stepR (by kernel_rfl) ?_
        intro ρ wq hb hk ho hc hd hs
        have hC : ∀ v, ρ (.const v) = v := fun v => hc _ (by intro t e; cases e)
        have hF : ∀ f, ρ (.func f) = .func (.func f) #[] #[] := fun f => hc _ (by intro t e; cases e)
        have h1 : ρ (.tmp 1) = .pointer (some ⟨w.heap.size, 0, none⟩) := ho 1 (by kernel_rfl)
        have hg8 := HG.out.below hb (Nat.lt_succ_self _)
        have m0 := hg8.cell 0
        have m1 := hg8.cell 1
        have m2 := hg8.cell 2
        have m3 := hg8.cell 3
        simp at m0 m1 m2 m3
        exact Lin.Runs.value Lin.keeps (v := fileV sm true (mo : Int) (li : Int)) (by simp [fileV, execOp, go_sem, h1, m0, m1, m2, m3]) rfl
      · refine Lin.stepR (by kernel_rfl) ?_
        intro ρ wq hb hk ho hc hd hs
        have hC : ∀ v, ρ (.const v) = v := fun v => hc _ (by intro t e; cases e)
        have hF : ∀ f, ρ (.func f) = .func (.func f) #[] #[] := fun f => hc _ (by intro t e; cases e)
        have h4 : ρ (.tmp 4) = .slice A6 16 c6 := ho 4 (by kernel_rfl)
        exact Lin.Runs.value Lin.keeps (v := .slice A6 16 c6) ((Lin.exec_move rfl).trans (by rw [h4])) ⟨A6, c6, rfl, HO.out.below (hk (by kernel_rfl))⟩
      · refine Lin.stepR (by kernel_rfl) ?_
        intro ρ wq hb hk ho hc hd hs
        have hC : ∀ v, ρ (.const v) = v := fun v => hc _ (by intro t e; cases e)
        have hF : ∀ f, ρ (.func f) = .func (.func f) #[] #[] := fun f => hc _ (by intro t e; cases e)
        have h1 : ρ (.tmp 1) = .pointer (some ⟨w.heap.size, 0, none⟩) := ho 1 (by kernel_rfl)
        exact Lin.Runs.value Lin.keeps (v := .pointer (some ⟨w.heap.size, 2, none⟩)) (by simp [execOp, go_sem, h1]) rfl
      · refine Lin.stepR (by kernel_rfl) ?_
        intro ρ wq hb hk ho hc hd hs
        have hC : ∀ v, ρ (.const v) = v := fun v => hc _ (by intro t e; cases e)
        have hF : ∀ f, ρ (.func f) = .func (.func f) #[] #[] := fun f => hc _ (by intro t e; cases e)
        have h23 : ρ (.tmp 23) = .pointer (some ⟨w.heap.size, 2, none⟩) := hd 23 (by kernel_rfl)
        have hg8 := HG.out.below hb (Nat.lt_succ_self _)
        have m2 := hg8.cell 2
        simp at m2
        exact Lin.Runs.value Lin.keeps (v := .int .u32 (mo : Int)) (by simp [execOp, go_sem, h23, m2]) rfl
      · refine Lin.stepW (by kernel_rfl) ?_
        intro ρ wq hb hk ho hc hd hs
        have hC : ∀ v, ρ (.const v) = v := fun v => hc _ (by intro t e; cases e)
        have hF : ∀ f, ρ (.func f) = .func (.func f) #[] #[] := fun f => hc _ (by intro t e; cases e)
        have h21 : ρ (.tmp 21) = fileV sm true (mo : Int) (li : Int) := hd 21 (by kernel_rfl)
        have h22 := hd 22 (by kernel_rfl)
        have h24 : ρ (.tmp 24) = .int .u32 (mo : Int) := hd 24 (by kernel_rfl)
        obtain ⟨A7, c7, e7, o7⟩ := h22
        refine Lin.RunsB.call (f := 114) (args := #[fileV sm true (mo : Int) (li : Int), .slice A7 16 c7, .int .u32 (mo : Int), .int .i64 4]) (by simp [fileV, execOp, go_sem, hC, hF, h21, e7, h24]) ?_
        exact (cput_4 sm true (mo : Int) (li : Int) mo (by omega) A7 c7 16 (w.heap.size + 1) (((((numF sm 2712812621 4) ++ numF sm 2 2) ++ numF sm 4 2) ++ numF sm 0 4) ++ numF sm 0 4) wq o7 (by simp [numF_len]) (Nat.le_trans HZ.out hb.size) (by omega)).mono fun e w9 ⟨A9, c9, h1, h2, h3⟩ => ⟨_, h1, h3, A9, c9, rfl, h2⟩
      · refine Lin.stepR (by kernel_rfl) ?_
        intro ρ wq hb hk ho hc hd hs
        have hC : ∀ v, ρ (.const v) = v := fun v => hc _ (by intro t e; cases e)
        have hF : ∀ f, ρ (.func f) = .func (.func f) #[] #[] := fun f => hc _ (by intro t e; cases e)
        have h1 : ρ (.tmp 1) = .pointer (some ⟨w.heap.size, 0, none⟩) := ho 1 (by kernel_rfl)
        exact Lin.Runs.value Lin.keeps (v := .pointer (some ⟨w.heap.size, 3, none⟩)) (by simp [execOp, go_sem, h1]) rfl
      · refine Lin.stepR (by kernel_rfl) ?_
        intro ρ wq hb hk ho hc hd hs
        have hC : ∀ v, ρ (.const v) = v := fun v => hc _ (by intro t e; cases e)
        have hF : ∀ f, ρ (.func f) = .func (.func f) #[] #[] := fun f => hc _ (by intro t e; cases e)
        have h26 : ρ (.tmp 26) = .pointer (some ⟨w.heap.size, 3, none⟩) := hd 26 (by kernel_rfl)
        have hg8 := HG.out.below hb (Nat.lt_succ_self _)
        have m3 := hg8.cell 3
        simp at m3
        exact Lin.Runs.value Lin.keeps (v := .int .u32 (li : Int)) (by simp [execOp, go_sem, h26, m3]) rfl
      · refine Lin.stepW (by kernel_rfl) ?_
        intro ρ wq hb hk ho hc hd hs
        have hC : ∀ v, ρ (.const v) = v := fun v => hc _ (by intro t e; cases e)
        have hF : ∀ f, ρ (.func f) = .func (.func f) #[] #[] := fun f => hc _ (by intro t e; cases e)
        have h20 : ρ (.tmp 20) = fileV sm true (mo : Int) (li : Int) := hd 20 (by kernel_rfl)
        have h25 := hd 25 (by kernel_rfl)
        have h27 : ρ (.tmp 27) = .int .u32 (li : Int) := hd 27 (by kernel_rfl)
        obtain ⟨A7, c7, e7, o7⟩ := h25
        refine Lin.RunsB.call (f := 114) (args := #[fileV sm true (mo : Int) (li : Int), .slice A7 20 c7, .int .u32 (li : Int), .int .i64 4]) (by simp [fileV, execOp, go_sem, hC, hF, h20, e7, h27]) ?_
        exact (cput_4 sm true (mo : Int) (li : Int) li (by omega) A7 c7 20 (w.heap.size + 1) ((((((numF sm 2712812621 4) ++ numF sm 2 2) ++ numF sm 4 2) ++ numF sm 0 4) ++ numF sm 0 4) ++ numF sm mo 4) wq o7 (by simp [numF_len]) (Nat.le_trans HZ.out hb.size) (by omega)).mono fun e w9 ⟨A9, c9, h1, h2, h3⟩ => ⟨_, h1, h3, A9, c9, rfl, h2⟩
      · refine Lin.stepR (by kernel_rfl) ?_
        intro ρ wq hb hk ho hc hd hs
        have hC : ∀ v, ρ (.const v) = v := fun v => hc _ (by intro t e; cases e)
        have hF : ∀ f, ρ (.func f) = .func (.func f) #[] #[] := fun f => hc _ (by intro t e; cases e)
        have h28 := hd 28 (by kernel_rfl)
        exact Lin.Runs.value Lin.keeps (Lin.exec_assign rfl) h28
      · intro vals w7 hb2 hv hs
        obtain ⟨A7, c7, e5, o5⟩ := hv 2 (by kernel_rfl) (by kernel_rfl)
        have HB9 := Lib.hid (HB.out.trans (hb2.mono (Nat.le_succ _)))
        have HG9 := hide (HG.out.below hb2 (Nat.lt_succ_self _))
        have HZ9 := Lib.hid (Nat.le_trans HZ.out hb2.size)
        clear hv hs hb2 HO HB HG HZ
        have HO := hide o5; have HB := HB9; have HG := HG9; have HZ := HZ9
        clear o5 HB9 HG9 HZ9
        simp only [Lin.putAll, Option.getD_some]
        rw [e5]
        go_simp
        generalize vals = vv
        go_wp2_with fail
        go_ret
        exact ⟨_, rfl, HB.out, OwnP.lower (B := w.heap.size + 1) ⟨A7, c7, rfl, HO.out⟩ (Nat.le_succ _)⟩
theorem chead (sm na : Bool) (mo li : Nat) (hmo : mo < 4294967296) (hli : li < 4294967296) (w : World) : Calls Try.prog 59 #[fileV sm na (mo : Int) (li : Int)] w fun e w' => ∃ v, e = .returned v ∧ Below w.heap.size w w' ∧ OwnP w.heap.size (headF sm na mo li) 24 v w' := by
  cases na
  · exact chead_false sm mo li hmo hli w
  · exact chead_true sm mo li hmo hli w
set_option maxHeartbeats 4000000 in
theorem cright (sm na : Bool) (mo li ps pp pl : Nat) (A : Option Addr) (n c : Nat) (hmo : mo < 4294967296) (hpl : pl < 4294967296) (hpp : pp < 4294967296) (hn : n ≤ 100000) (w : World) : Calls Try.prog 61 #[fileV sm na (mo : Int) (li : Int), pktV (ps : Int) (pp : Int) (pl : Int) (.slice A n c)] w fun e w' => e = .returned (.bool (rightF na mo pp pl n)) ∧ Below w.heap.size w w' := by
  unfold fileV pktV
  have w1 : IntKind.u64.wrap (mo : Int) = (mo : Int) := IntWalk.u64_in _ (by omega)
  have w2 : IntKind.u64.wrap (pl : Int) = (pl : Int) := IntWalk.u64_in _ (by omega)
  have w3 : IntKind.u64.wrap (n : Int) = (n : Int) := IntWalk.u64_in _ (by omega)
  have w4 : IntKind.i64.wrap (mo : Int) = (mo : Int) := IntWalk.i64_in _ (by omega)
  have w5 : IntKind.i64.wrap (pl : Int) = (pl : Int) := IntWalk.i64_in _ (by omega)
  have hb0 : Below w.heap.size w ((w.alloc (.cells #[.bool sm, .bool na, .int .u32 (mo : Int), .int .u32 (li : Int)] 85)).alloc (.cells #[.int .u32 (ps : Int), .int .u32 (pp : Int), .int .u32 (pl : Int), .slice A n c] 89)) := ((Below.refl _ _).alloc (Nat.le_refl _) _).alloc (by simp) _
  cases na
  · by_cases h1 : pp < 1000000
    · have g1 : (pp : Int) < 1000000 := by omega
      by_cases h2 : n ≤ mo
      · have g2 : (n : Int) ≤ (mo : Int) := by omega
        by_cases h3 : n ≤ pl
        · have g3 : (n : Int) ≤ (pl : Int) := by omega
          rw [show rightF false mo pp pl n = true from by simp [rightF, limF, h1, h2, h3]]
          clear h1 h2 h3
          go_enter Try.func61, Try.ntmps61
          go_wp2_with fail
          go_ret
          exact ⟨rfl, hb0⟩
        · have g3 : ¬ (n : Int) ≤ (pl : Int) := by omega
          rw [show rightF false mo pp pl n = false from by simp [rightF, limF, h3]]
          clear h1 h2 h3
          go_enter Try.func61, Try.ntmps61
          go_wp2_with fail
          go_ret
          exact ⟨rfl, hb0⟩
      · have g2 : ¬ (n : Int) ≤ (mo : Int) := by omega
        rw [show rightF false mo pp pl n = false from by simp [rightF, limF, h2]]
        clear h1 h2
        go_enter Try.func61, Try.ntmps61
        go_wp2_with fail
        go_ret
        exact ⟨rfl, hb0⟩
    · have g1 : ¬ (pp : Int) < 1000000 := by omega
      rw [show rightF false mo pp pl n = false from by simp [rightF, limF, h1]]
      clear h1
      go_enter Try.func61, Try.ntmps61
      go_wp2_with fail
      go_ret
      exact ⟨rfl, hb0⟩
  · by_cases h1 : pp < 1000000000
    · have g1 : (pp : Int) < 1000000000 := by omega
      by_cases h2 : n ≤ mo
      · have g2 : (n : Int) ≤ (mo : Int) := by omega
        by_cases h3 : n ≤ pl
        · have g3 : (n : Int) ≤ (pl : Int) := by omega
          rw [show rightF true mo pp pl n = true from by simp [rightF, limF, h1, h2, h3]]
          clear h1 h2 h3
          go_enter Try.func61, Try.ntmps61
          go_wp2_with fail
          go_ret
          exact ⟨rfl, hb0⟩
        · have g3 : ¬ (n : Int) ≤ (pl : Int) := by omega
          rw [show rightF true mo pp pl n = false from by simp [rightF, limF, h3]]
          clear h1 h2 h3
          go_enter Try.func61, Try.ntmps61
          go_wp2_with fail
          go_ret
          exact ⟨rfl, hb0⟩
      · have g2 : ¬ (n : Int) ≤ (mo : Int) := by omega
        rw [show rightF true mo pp pl n = false from by simp [rightF, limF, h2]]
        clear h1 h2
        go_enter Try.func61, Try.ntmps61
        go_wp2_with fail
        go_ret
        exact ⟨rfl, hb0⟩
    · have g1 : ¬ (pp : Int) < 1000000000 := by omega
      rw [show rightF true mo pp pl n = false from by simp [rightF, limF, h1]]
      clear h1
      go_enter Try.func61, Try.ntmps61
      go_wp2_with fail
      go_ret
      exact ⟨rfl, hb0⟩
set_option maxHeartbeats 4000000 in
theorem rright (sm na : Bool) (mo li ps pp pl : Nat) (A : Option Addr) (n c : Nat) (hmo : mo < 4294967296) (hpl : pl < 4294967296) (hpp : pp < 4294967296) (hn : n ≤ 100000) (w : World) : Calls Try.prog 63 #[fileV sm na (mo : Int) (li : Int), pktV (ps : Int) (pp : Int) (pl : Int) (.slice A n c)] w fun e w' => e = .returned (.bool (rightF na mo pp pl n)) ∧ Below w.heap.size w w' := by
  unfold fileV pktV
  have w1 : IntKind.u64.wrap (mo : Int) = (mo : Int) := IntWalk.u64_in _ (by omega)
  have w2 : IntKind.u64.wrap (pl : Int) = (pl : Int) := IntWalk.u64_in _ (by omega)
  have w3 : IntKind.u64.wrap (n : Int) = (n : Int) := IntWalk.u64_in _ (by omega)
  have w4 : IntKind.i64.wrap (mo : Int) = (mo : Int) := IntWalk.i64_in _ (by omega)
  have w5 : IntKind.i64.wrap (pl : Int) = (pl : Int) := IntWalk.i64_in _ (by omega)
  have hb0 : Below w.heap.size w ((w.alloc (.cells #[.bool sm, .bool na, .int .u32 (mo : Int), .int .u32 (li : Int)] 82)).alloc (.cells #[.int .u32 (ps : Int), .int .u32 (pp : Int), .int .u32 (pl : Int), .slice A n c] 84)) := ((Below.refl _ _).alloc (Nat.le_refl _) _).alloc (by simp) _
  cases na
  · by_cases h1 : pp < 1000000
    · have g1 : (pp : Int) < 1000000 := by omega
      by_cases h2 : n ≤ mo
      · have g2 : (n : Int) ≤ (mo : Int) := by omega
        by_cases h3 : n ≤ pl
        · have g3 : (n : Int) ≤ (pl : Int) := by omega
          rw [show rightF false mo pp pl n = true from by simp [rightF, limF, h1, h2, h3]]
          clear h1 h2 h3
          go_enter Try.func63, Try.ntmps63
          go_wp2_with fail
          go_ret
          exact ⟨rfl, hb0⟩
        · have g3 : ¬ (n : Int) ≤ (pl : Int) := by omega
          rw [show rightF false mo pp pl n = false from by simp [rightF, limF, h3]]
          clear h1 h2 h3
          go_enter Try.func63, Try.ntmps63
          go_wp2_with fail
          go_ret
          exact ⟨rfl, hb0⟩
      · have g2 : ¬ (n : Int) ≤ (mo : Int) := by omega
        rw [show rightF false mo pp pl n = false from by simp [rightF, limF, h2]]
        clear h1 h2
        go_enter Try.func63, Try.ntmps63
        go_wp2_with fail
        go_ret
        exact ⟨rfl, hb0⟩
    · have g1 : ¬ (pp : Int) < 1000000 := by omega
      rw [show rightF false mo pp pl n = false from by simp [rightF, limF, h1]]
      clear h1
      go_enter Try.func63, Try.ntmps63
      go_wp2_with fail
      go_ret
      exact ⟨rfl, hb0⟩
  · by_cases h1 : pp < 1000000000
    · have g1 : (pp : Int) < 1000000000 := by omega
      by_cases h2 : n ≤ mo
      · have g2 : (n : Int) ≤ (mo : Int) := by omega
        by_cases h3 : n ≤ pl
        · have g3 : (n : Int) ≤ (pl : Int) := by omega
          rw [show rightF true mo pp pl n = true from by simp [rightF, limF, h1, h2, h3]]
          clear h1 h2 h3
          go_enter Try.func63, Try.ntmps63
          go_wp2_with fail
          go_ret
          exact ⟨rfl, hb0⟩
        · have g3 : ¬ (n : Int) ≤ (pl : Int) := by omega
          rw [show rightF true mo pp pl n = false from by simp [rightF, limF, h3]]
          clear h1 h2 h3
          go_enter Try.func63, Try.ntmps63
          go_wp2_with fail
          go_ret
          exact ⟨rfl, hb0⟩
      · have g2 : ¬ (n : Int) ≤ (mo : Int) := by omega
        rw [show rightF true mo pp pl n = false from by simp [rightF, limF, h2]]
        clear h1 h2
        go_enter Try.func63, Try.ntmps63
        go_wp2_with fail
        go_ret
        exact ⟨rfl, hb0⟩
    · have g1 : ¬ (pp : Int) < 1000000000 := by omega
      rw [show rightF true mo pp pl n = false from by simp [rightF, limF, h1]]
      clear h1
      go_enter Try.func63, Try.ntmps63
      go_wp2_with fail
      go_ret
      exact ⟨rfl, hb0⟩
end Go.Proofs.Ytkgmgmlicgjfdaa
