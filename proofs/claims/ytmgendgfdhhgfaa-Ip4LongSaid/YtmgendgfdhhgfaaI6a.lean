/-
  Addresses in bytes, and which headers are right: packages addr and ip6 and their references. Helper of the claims of layer 5. No condition.
-/
import Derived.Test.YtmgendgfdhhgfaaIcmp
import Derived.Test.YtmgendgfdhhgfaaLin4
import Derived.Test.YtmgendgfdhhgfaaGrowE
import Derived.Test.YtmgendgfdhhgfaaRef01
namespace Go.Proofs.Ytmgendgfdhhgfaa
open Go.ChangeShapes Go.WideShapes Go.ChangeAt Go.RowKit
set_option linter.unusedSimpArgs false
set_option linter.unusedVariables false
set_option maxRecDepth 100000
theorem Lin.RunsB_ex {P : Program} {B : Nat} {o : Oper} {s : Lin.Spec Lin.Keeps} {ρ : Operand → Value} {w : World} (h : ∃ v w', (execOp ρ o).run P w = .ok (.value v) w' ∧ Below B w w' ∧ s.p v w') (hd : o.dst ≠ none := by simp) : Lin.RunsB P B o s ρ w := by
  obtain ⟨v, w', h1, h2, h3⟩ := h
  exact Lin.RunsB.made h1 h2 h3 hd
def hv6 (cl la le ne hq : Int) (s6 : Bool) (sh sl : Int) (d6 : Bool) (dh dl : Int) : Value := .agg #[.int .u8 cl, .int .u32 la, .int .i64 le, .int .u8 ne, .int .u8 hq, .bool s6, .int .u64 sh, .int .u64 sl, .bool d6, .int .u64 dh, .int .u64 dl]
def right6 (la : Nat) (le : Int) (s6 d6 : Bool) : Bool := decide (la < 1048576) && (decide (0 ≤ le) && (decide (le ≤ 65535) && (s6 && d6)))
theorem rb_6 (n k : Nat) (w : World) (hk : k ≤ 8) (hn : n < 18446744073709551616) : Calls Try.prog 69 #[.int .u64 (n : Int), .int .i64 (k : Int)] w (GivesK w (be n k) k) := by
  have h := rbytes_any n (k : Int) w hn
  rw [sz8_mid hk] at h
  exact h.mono fun e w' h => h.k (be_len _ _)
set_option maxHeartbeats 4000000 in
theorem cright6 (cl la : Nat) (le : Int) (ne hq : Nat) (s6 : Bool) (sh sl : Nat) (d6 : Bool) (dh dl : Nat) (w : World) : Calls Try.prog 109 #[hv6 (cl : Int) (la : Int) le (ne : Int) (hq : Int) s6 (sh : Int) (sl : Int) d6 (dh : Int) (dl : Int)] w fun e w' => e = .returned (.bool (right6 la le s6 d6)) ∧ Below w.heap.size w w' := by
  unfold hv6
  have hb0 : Below w.heap.size w (w.alloc (.cells #[.int .u8 (cl : Int), .int .u32 (la : Int), .int .i64 le, .int .u8 (ne : Int), .int .u8 (hq : Int), .bool s6, .int .u64 (sh : Int), .int .u64 (sl : Int), .bool d6, .int .u64 (dh : Int), .int .u64 (dl : Int)] 138)) := (Below.refl _ _).alloc (Nat.le_refl _) _
  by_cases h1 : la < 1048576
  · have g1 : (la : Int) < 1048576 := by omega
    have g1' : (la : Int) ≤ 1048575 := by omega
    by_cases h2 : 0 ≤ le
    · by_cases h3 : le ≤ 65535
      · have g3 : le < 65536 := by omega
        cases s6 <;> cases d6
        all_goals
          rw [show right6 la le _ _ = _ from by simp only [right6, h1, h2, h3, decide_true, Bool.true_and]; rfl]
          clear h1
          go_enter Try.func109, Try.ntmps109
          go_wp2_with fail
          go_ret
          exact ⟨rfl, hb0⟩
      · have g3 : ¬ le < 65536 := by omega
        rw [show right6 la le s6 d6 = false from by simp [right6, h3]]
        clear h1
        go_enter Try.func109, Try.ntmps109
        go_wp2_with fail
        go_ret
        exact ⟨rfl, hb0⟩
    · rw [show right6 la le s6 d6 = false from by simp [right6, h2]]
      clear h1
      go_enter Try.func109, Try.ntmps109
      go_wp2_with fail
      go_ret
      exact ⟨rfl, hb0⟩
  · have g1 : ¬ (la : Int) < 1048576 := by omega
    have g1' : ¬ (la : Int) ≤ 1048575 := by omega
    rw [show right6 la le s6 d6 = false from by simp [right6, h1]]
    clear h1
    go_enter Try.func109, Try.ntmps109
    go_wp2_with fail
    go_ret
    exact ⟨rfl, hb0⟩
set_option maxHeartbeats 2000000 in
theorem abytes6 (hi lo : Nat) (w : World) (hh : hi < 18446744073709551616) (hl : lo < 18446744073709551616) : Calls Try.prog 105 #[.agg #[.bool true, .int .u64 (hi : Int), .int .u64 (lo : Int)]] w fun e w' => ∃ v, e = .returned v ∧ Below w.heap.size w w' ∧ OwnP w.heap.size (be hi 8 ++ be lo 8) 16 v w' := by
  have hb0 : Below w.heap.size w (w.alloc (.cells #[.bool true, .int .u64 (hi : Int), .int .u64 (lo : Int)] 26)) := (Below.refl _ _).alloc (Nat.le_refl _) _
  have hg0 := Is.new w 26 #[.bool true, .int .u64 (hi : Int), .int .u64 (lo : Int)]
  go_enter Try.func105, Try.ntmps105
  go_wp2_with fail
  generalize w.alloc (.cells #[.bool true, .int .u64 (hi : Int), .int .u64 (lo : Int)] 26) = W at *
  have HB := Lib.hid hb0; have HG := hide hg0
  clear hb0 hg0
  refine Lin.wp_region_lin Lin.keeps (n := 14)  (fun slotq => match slotq with | 5 => Lin.Spec.val (.pointer (some ⟨w.heap.size, 1, none⟩)) | 6 => Lin.Spec.val (.int .u64 (hi : Int)) | 7 => Lin.Spec.sl (be hi 8) 8 | 8 => Lin.Spec.val (.pointer (some ⟨w.heap.size, 2, none⟩)) | 9 => Lin.Spec.val (.int .u64 (lo : Int)) | 10 => Lin.Spec.own w.heap.size (be hi 8 ++ be lo 8) 16 | 2 => Lin.Spec.own w.heap.size (be hi 8 ++ be lo 8) 16 | _ => Lin.Spec.any) (by kernel_rfl) rfl (by kernel_rfl) ⟨?_, ?_, ?_, ?_, ?_, ?_, ?_, trivial⟩ ?_
  · intro ρ wq hb ho hc hd
    have hC : ∀ v, ρ (.const v) = v := fun v => hc _ (by intro t e; cases e)
    have hF : ∀ f, ρ (.func f) = .func (.func f) #[] #[] := fun f => hc _ (by intro t e; cases e)
    have h1 : ρ (.tmp 1) = .pointer (some ⟨w.heap.size, 0, none⟩) := ho 1 (by kernel_rfl)
    exact Lin.Runs.value Lin.keeps (v := .pointer (some ⟨w.heap.size, 1, none⟩)) (by simp [execOp, go_sem, h1]) rfl
  · intro ρ wq hb ho hc hd
    have hC : ∀ v, ρ (.const v) = v := fun v => hc _ (by intro t e; cases e)
    have hF : ∀ f, ρ (.func f) = .func (.func f) #[] #[] := fun f => hc _ (by intro t e; cases e)
    have h5 : ρ (.tmp 5) = .pointer (some ⟨w.heap.size, 1, none⟩) := hd 5 (by kernel_rfl)
    have hg8 := HG.out.below hb HG.out.lt
    have m1 := hg8.cell 1
    simp at m1
    exact Lin.Runs.value Lin.keeps (v := .int .u64 (hi : Int)) (by simp [execOp, go_sem, h5, m1]) rfl
  · intro ρ wq hb ho hc hd
    have hC : ∀ v, ρ (.const v) = v := fun v => hc _ (by intro t e; cases e)
    have hF : ∀ f, ρ (.func f) = .func (.func f) #[] #[] := fun f => hc _ (by intro t e; cases e)
    have h6 : ρ (.tmp 6) = .int .u64 (hi : Int) := hd 6 (by kernel_rfl)
    refine Lin.Runs.call Lin.keeps (f := 91) (args := #[.slice none 0 0, .int .u64 (hi : Int), .int .i64 8]) (by simp [execOp, go_sem, hC, hF, h6]) ?_
    exact (put_nil hi 8 8 wq hh (by omega) (by omega) rfl).mono fun e w9 ⟨A9, c9, h1, h2, h3⟩ => ⟨_, h1, h3, IsB.own h2⟩
  · intro ρ wq hb ho hc hd
    have hC : ∀ v, ρ (.const v) = v := fun v => hc _ (by intro t e; cases e)
    have hF : ∀ f, ρ (.func f) = .func (.func f) #[] #[] := fun f => hc _ (by intro t e; cases e)
    have h1 : ρ (.tmp 1) = .pointer (some ⟨w.heap.size, 0, none⟩) := ho 1 (by kernel_rfl)
    exact Lin.Runs.value Lin.keeps (v := .pointer (some ⟨w.heap.size, 2, none⟩)) (by simp [execOp, go_sem, h1]) rfl
  · intro ρ wq hb ho hc hd
    have hC : ∀ v, ρ (.const v) = v := fun v => hc _ (by intro t e; cases e)
    have hF : ∀ f, ρ (.func f) = .func (.func f) #[] #[] := fun f => hc _ (by intro t e; cases e)
    have h8 : ρ (.tmp 8) = .pointer (some ⟨w.heap.size, 2, none⟩) := hd 8 (by kernel_rfl)
    have hg8 := HG.out.below hb HG.out.lt
    have m2 := hg8.cell 2
    simp at m2
    exact Lin.Runs.value Lin.keeps (v := .int .u64 (lo : Int)) (by simp [execOp, go_sem, h8, m2]) rfl
  · intro ρ wq hb ho hc hd
    have hC : ∀ v, ρ (.const v) = v := fun v => hc _ (by intro t e; cases e)
    have hF : ∀ f, ρ (.func f) = .func (.func f) #[] #[] := fun f => hc _ (by intro t e; cases e)
    have h7 := hd 7 (by kernel_rfl)
    have h9 : ρ (.tmp 9) = .int .u64 (lo : Int) := hd 9 (by kernel_rfl)
    obtain ⟨A7, c7, e7⟩ := IsB.shape h7
    refine Lin.Runs.call Lin.keeps (f := 91) (args := #[.slice A7 8 c7, .int .u64 (lo : Int), .int .i64 8]) (by simp [execOp, go_sem, hC, hF, e7, h9]) ?_
    rw [e7] at h7
    exact (put_k lo 8 8 16 h7 (by omega) hl (by omega) (by omega) rfl rfl).mono fun e w9 ⟨A9, c9, h1, h2, h3⟩ => ⟨_, h1, h3, A9, c9, rfl, h2.lower (Nat.le_trans HB.out.size hb.size)⟩
  · intro ρ wq hb ho hc hd
    have hC : ∀ v, ρ (.const v) = v := fun v => hc _ (by intro t e; cases e)
    have hF : ∀ f, ρ (.func f) = .func (.func f) #[] #[] := fun f => hc _ (by intro t e; cases e)
    have h10 := hd 10 (by kernel_rfl)
    exact Lin.Runs.value Lin.keeps (Lin.exec_assign rfl) h10
  · intro vals w9 hb hv
    obtain ⟨A9, c9, e2, ho9⟩ := hv 2 (by kernel_rfl)
    have HO9 := hide ho9
    have HB9 := Lib.hid (HB.out.trans (hb.mono HB.out.size))
    clear hv ho9 hb
    simp only [Lin.putAll, Option.getD_some]
    rw [e2]
    go_simp
    generalize vals = vv
    go_wp2_with fail
    go_ret
    exact ⟨_, rfl, HB9.out, A9, c9, rfl, HO9.out⟩
set_option maxHeartbeats 2000000 in
theorem rabytes6 (hi lo : Nat) (w : World) (hh : hi < 18446744073709551616) (hl : lo < 18446744073709551616) : Calls Try.prog 70 #[.agg #[.bool true, .int .u64 (hi : Int), .int .u64 (lo : Int)]] w fun e w' => ∃ v, e = .returned v ∧ Below w.heap.size w w' ∧ OwnP w.heap.size (be hi 8 ++ be lo 8) 16 v w' := by
  have hb0 : Below w.heap.size w (w.alloc (.cells #[.bool true, .int .u64 (hi : Int), .int .u64 (lo : Int)] 26)) := (Below.refl _ _).alloc (Nat.le_refl _) _
  have hg0 := Is.new w 26 #[.bool true, .int .u64 (hi : Int), .int .u64 (lo : Int)]
  go_enter Try.func70, Try.ntmps70
  go_wp2_with fail
  generalize w.alloc (.cells #[.bool true, .int .u64 (hi : Int), .int .u64 (lo : Int)] 26) = W at *
  have HB := Lib.hid hb0; have HG := hide hg0
  clear hb0 hg0
  refine Lin.wp_region_lin4 (n := 16) (fun slotq => match slotq with | 9 => Lin.Spec.val (.pointer (some ⟨w.heap.size, 1, none⟩)) | 10 => Lin.Spec.val (.int .u64 (hi : Int)) | 11 => Lin.Spec.own W.heap.size (be hi 8) 8 | 12 => Lin.Spec.val (.pointer (some ⟨w.heap.size, 2, none⟩)) | 13 => Lin.Spec.val (.int .u64 (lo : Int)) | 14 => Lin.Spec.sl (be lo 8) 8 | 15 => Lin.Spec.own W.heap.size (be hi 8 ++ be lo 8) (8 + 8) | 2 => Lin.Spec.own W.heap.size (be hi 8 ++ be lo 8) (8 + 8) | _ => Lin.Spec.any) W.heap.size [(6, [11, 14])] (by kernel_rfl) rfl (by kernel_rfl) (by kernel_rfl) (Nat.le_refl _) ⟨.inr (Lin.firm_val _ _), .inr (Lin.firm_val _ _), .inl (by kernel_rfl), .inr (Lin.firm_val _ _), .inr (Lin.firm_val _ _), .inl (by kernel_rfl), .inl (by kernel_rfl), .inl (by kernel_rfl), trivial⟩ ⟨?_, ?_, ?_, ?_, ?_, ?_, ?_, ?_, trivial⟩ ?_
  · refine Lin.stepR (by kernel_rfl) ?_
    intro ρ wq hb hk ho hc hd hs
    have hC : ∀ v, ρ (.const v) = v := fun v => hc _ (by intro t e; cases e)
    have hF : ∀ f, ρ (.func f) = .func (.func f) #[] #[] := fun f => hc _ (by intro t e; cases e)
    have h1 : ρ (.tmp 1) = .pointer (some ⟨w.heap.size, 0, none⟩) := ho 1 (by kernel_rfl)
    exact Lin.Runs.value Lin.keeps (v := .pointer (some ⟨w.heap.size, 1, none⟩)) (by simp [execOp, go_sem, h1]) rfl
  · refine Lin.stepR (by kernel_rfl) ?_
    intro ρ wq hb hk ho hc hd hs
    have hC : ∀ v, ρ (.const v) = v := fun v => hc _ (by intro t e; cases e)
    have hF : ∀ f, ρ (.func f) = .func (.func f) #[] #[] := fun f => hc _ (by intro t e; cases e)
    have h9 : ρ (.tmp 9) = .pointer (some ⟨w.heap.size, 1, none⟩) := hd 9 (by kernel_rfl)
    have hg8 := HG.out.below hb HG.out.lt
    have m1 := hg8.cell 1
    simp at m1
    exact Lin.Runs.value Lin.keeps (v := .int .u64 (hi : Int)) (by simp [execOp, go_sem, h9, m1]) rfl
  · refine Lin.stepR (by kernel_rfl) ?_
    intro ρ wq hb hk ho hc hd hs
    have hC : ∀ v, ρ (.const v) = v := fun v => hc _ (by intro t e; cases e)
    have hF : ∀ f, ρ (.func f) = .func (.func f) #[] #[] := fun f => hc _ (by intro t e; cases e)
    have h10 : ρ (.tmp 10) = .int .u64 (hi : Int) := hd 10 (by kernel_rfl)
    refine Lin.Runs.call Lin.keeps (f := 69) (args := #[.int .u64 (hi : Int), .int .i64 8]) (by simp [execOp, go_sem, hC, hF, h10]) ?_
    exact (rb_6 hi 8 wq (by omega) hh).mono fun e w9 ⟨A9, c9, h1, h2, h3⟩ => ⟨_, h1, h3, A9, c9, rfl, h2.lower hb.size⟩
  · refine Lin.stepR (by kernel_rfl) ?_
    intro ρ wq hb hk ho hc hd hs
    have hC : ∀ v, ρ (.const v) = v := fun v => hc _ (by intro t e; cases e)
    have hF : ∀ f, ρ (.func f) = .func (.func f) #[] #[] := fun f => hc _ (by intro t e; cases e)
    have h1 : ρ (.tmp 1) = .pointer (some ⟨w.heap.size, 0, none⟩) := ho 1 (by kernel_rfl)
    exact Lin.Runs.value Lin.keeps (v := .pointer (some ⟨w.heap.size, 2, none⟩)) (by simp [execOp, go_sem, h1]) rfl
  · refine Lin.stepR (by kernel_rfl) ?_
    intro ρ wq hb hk ho hc hd hs
    have hC : ∀ v, ρ (.const v) = v := fun v => hc _ (by intro t e; cases e)
    have hF : ∀ f, ρ (.func f) = .func (.func f) #[] #[] := fun f => hc _ (by intro t e; cases e)
    have h12 : ρ (.tmp 12) = .pointer (some ⟨w.heap.size, 2, none⟩) := hd 12 (by kernel_rfl)
    have hg8 := HG.out.below hb HG.out.lt
    have m2 := hg8.cell 2
    simp at m2
    exact Lin.Runs.value Lin.keeps (v := .int .u64 (lo : Int)) (by simp [execOp, go_sem, h12, m2]) rfl
  · refine Lin.stepR (by kernel_rfl) ?_
    intro ρ wq hb hk ho hc hd hs
    have hC : ∀ v, ρ (.const v) = v := fun v => hc _ (by intro t e; cases e)
    have hF : ∀ f, ρ (.func f) = .func (.func f) #[] #[] := fun f => hc _ (by intro t e; cases e)
    have h13 : ρ (.tmp 13) = .int .u64 (lo : Int) := hd 13 (by kernel_rfl)
    refine Lin.Runs.call Lin.keeps (f := 69) (args := #[.int .u64 (lo : Int), .int .i64 8]) (by simp [execOp, go_sem, hC, hF, h13]) ?_
    exact (rb_6 lo 8 wq (by omega) hl).mono fun e w9 ⟨A9, c9, h1, h2, h3⟩ => ⟨_, h1, h3, IsB.own h2⟩
  · refine Lin.stepW (by kernel_rfl) ?_
    intro ρ wq hb hk ho hc hd hs
    have hC : ∀ v, ρ (.const v) = v := fun v => hc _ (by intro t e; cases e)
    have hF : ∀ f, ρ (.func f) = .func (.func f) #[] #[] := fun f => hc _ (by intro t e; cases e)
    have h11 := hd 11 (by kernel_rfl)
    have h14 := hd 14 (by kernel_rfl)
    exact Lin.RunsB_ex (exec_grow rfl Try.underlying22 info8 h11 h14 (be_len _ _) (by omega) hb.size)
  · refine Lin.stepR (by kernel_rfl) ?_
    intro ρ wq hb hk ho hc hd hs
    have hC : ∀ v, ρ (.const v) = v := fun v => hc _ (by intro t e; cases e)
    have hF : ∀ f, ρ (.func f) = .func (.func f) #[] #[] := fun f => hc _ (by intro t e; cases e)
    have h15 := hd 15 (by kernel_rfl)
    exact Lin.Runs.value Lin.keeps (Lin.exec_assign rfl) h15
  · intro vals w9 hb hv hs
    obtain ⟨A9, c9, e2, ho9⟩ := hv 2 (by kernel_rfl) (by kernel_rfl)
    have HO9 := hide (ho9.lower HB.out.size)
    have HB9 := Lib.hid (HB.out.trans (hb.mono HB.out.size))
    clear hv hs ho9 hb
    simp only [Lin.putAll, Option.getD_some]
    rw [e2]
    go_simp
    generalize vals = vv
    go_wp2_with fail
    go_ret
    exact ⟨_, rfl, HB9.out, A9, c9, rfl, HO9.out⟩
end Go.Proofs.Ytmgendgfdhhgfaa
