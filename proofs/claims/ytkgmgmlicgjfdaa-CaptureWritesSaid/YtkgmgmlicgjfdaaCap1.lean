/-
  Numbers in the byte order of a capture file: put of package capture and num of the reference. Helper of the claims of layer 45. No condition.
-/
import Derived.Test.YtkgmgmlicgjfdaaIcmp
import Derived.Test.YtkgmgmlicgjfdaaLin4
import Derived.Test.YtkgmgmlicgjfdaaGrow
namespace Go.Proofs.Ytkgmgmlicgjfdaa
open Go.ChangeShapes Go.WideShapes Go.ChangeAt Go.RowKit
set_option linter.unusedVariables false
set_option maxRecDepth 100000
/-- A number's bytes, as the file has them. -/
def numF (sm : Bool) (n s : Nat) : List Int := if sm then (be n s).reverse else be n s
theorem numF_len (sm : Bool) (n s : Nat) : (numF sm n s).length = s := by unfold numF; split <;> simp [be_len]
theorem numF_ok (sm : Bool) (n s : Nat) : Octets (numF sm n s) := by
  unfold numF
  split
  · refine Octets.ofAll fun x hx => ?_
    rw [List.mem_reverse] at hx
    obtain ⟨i, hi, rfl⟩ := List.getElem_of_mem hx
    have h := be_ok n s i
    simp [at0, List.getD, hi] at h; exact h
  · exact be_ok n s
theorem rb_c (n k : Nat) (w : World) (hk : k ≤ 8) (hn : n < 18446744073709551616) : Calls Try.prog 102 #[.int .u64 (n : Int), .int .i64 (k : Int)] w fun e w'' => ∃ v, e = .returned v ∧ Below w.heap.size w w'' ∧ IsB (be n k) k v w'' := by
  have h := rbytes_p n (k : Int) w hn
  rw [sz8_mid hk, be_len] at h
  exact h
def Rev2 (w : World) (B : Nat) (A : Option Addr) (cc : Nat) (a b : Int) (v2 v3 : Value) (wr : World) : Prop :=
  ∃ k : Nat, k ≤ 1 ∧ v2 = .int .i64 (k : Nat) ∧ v3 = .int .i64 (1 - (k : Int)) ∧ OwnB wr B (.slice A 2 cc) (if k = 0 then [a, b] else [b, a]) ∧ Below B w wr
set_option maxHeartbeats 2000000 in
theorem rev_2 (a b : Int) (A : Option Addr) (cc B : Nat) (w : World) (h : OwnB w B (.slice A 2 cc) [a, b]) :
    Calls Try.prog 136 #[.slice A 2 cc] w fun e w' => e = .returned (.tuple #[]) ∧ OwnB w' B (.slice A 2 cc) [b, a] ∧ Below B w w' := by
  have HO := hide h
  clear h
  go_enter Try.func136, Try.ntmps136
  go_wp2_with fail
  go_loopw [2, 3] (fun v2 v3 wr => Rev2 w B A cc a b v2 v3 wr) (fun v2 _ _ => (2 - intOf v2).toNat)
  case atStart => exact ⟨0, by omega, rfl, by go_num, HO.out, Below.refl _ _⟩
  case round =>
    obtain ⟨k, hk, rfl, rfl, ho, hb⟩ := hrel
    clear HO
    have hk' : k = 0 ∨ k = 1 := by omega
    rcases hk' with rfl | rfl
    · have ho : OwnB wr B (.slice A 2 cc) [a, b] := ho
      obtain ⟨g, rfl, hg1, hgl⟩ := ho.blocks (by simp)
      have HO := hide ho; have HB := Lib.hid hb
      have HBR := Lib.hid (show B ≤ wr.heap.size from Nat.le_trans hg1 (Nat.le_of_lt hgl))
      have d0 : wr.cell? ⟨g, 0, none⟩ = some (.int .u8 a) := ho.at (k := 0) (by simp)
      have d1 : wr.cell? ⟨g, 1, none⟩ = some (.int .u8 b) := ho.at (k := 1) (by simp)
      clear ho hb
      go_wp2_with fail
      refine Lin.wp_region_lin4 (n := 28) (fun slotq => match slotq with | 14 => Lin.Spec.val (.slice (some ⟨g, 0, none⟩) 2 cc) | 15 => Lin.Spec.val (.int .i64 0) | 16 => Lin.Spec.val (.slice (some ⟨g, 0, none⟩) 2 cc) | 17 => Lin.Spec.val (.int .i64 1) | 18 => Lin.Spec.val (.slice (some ⟨g, 0, none⟩) 2 cc) | 19 => Lin.Spec.val (.int .i64 1) | 20 => Lin.Spec.val (.pointer (some ⟨g, 1, none⟩)) | 21 => Lin.Spec.val (.int .u8 b) | 22 => Lin.Spec.val (.slice (some ⟨g, 0, none⟩) 2 cc) | 23 => Lin.Spec.val (.int .i64 0) | 24 => Lin.Spec.val (.pointer (some ⟨g, 0, none⟩)) | 25 => Lin.Spec.val (.int .u8 a) | 26 => Lin.Spec.val (.pointer (some ⟨g, 0, none⟩)) | 1013 => (⟨fun _ wx => OwnB wx B (.slice (some ⟨g, 0, none⟩) 2 cc) [b, b], fun h hb => OwnB.below h hb⟩ : Lin.Spec Lin.Keeps) | 27 => Lin.Spec.val (.pointer (some ⟨g, 1, none⟩)) | 1015 => (⟨fun _ wx => OwnB wx B (.slice (some ⟨g, 0, none⟩) 2 cc) [b, a], fun h hb => OwnB.below h hb⟩ : Lin.Spec Lin.Keeps) | _ => Lin.Spec.any) B [(13, []), (15, [1013])] (by kernel_rfl) rfl (by kernel_rfl) (by kernel_rfl) HBR.out ⟨.inr (Lin.firm_val _ _), .inr (Lin.firm_val _ _), .inr (Lin.firm_val _ _), .inr (Lin.firm_val _ _), .inr (Lin.firm_val _ _), .inr (Lin.firm_val _ _), .inr (Lin.firm_val _ _), .inr (Lin.firm_val _ _), .inr (Lin.firm_val _ _), .inr (Lin.firm_val _ _), .inr (Lin.firm_val _ _), .inr (Lin.firm_val _ _), .inr (Lin.firm_val _ _), .inl (by kernel_rfl), .inr (Lin.firm_val _ _), .inl (by kernel_rfl), trivial⟩ ⟨?_, ?_, ?_, ?_, ?_, ?_, ?_, ?_, ?_, ?_, ?_, ?_, ?_, ?_, ?_, ?_, trivial⟩ ?_
      · refine Lin.stepR (by kernel_rfl) ?_
        intro ρ wq hb hk ho hc hd hs
        have hC : ∀ v, ρ (.const v) = v := fun v => hc _ (by intro t e; cases e)
        have hF : ∀ f, ρ (.func f) = .func (.func f) #[] #[] := fun f => hc _ (by intro t e; cases e)
        have h0 : ρ (.tmp 0) = .slice (some ⟨g, 0, none⟩) 2 cc := ho 0 (by kernel_rfl)
        exact Lin.Runs.value Lin.keeps (Lin.exec_move rfl) h0
      · refine Lin.stepR (by kernel_rfl) ?_
        intro ρ wq hb hk ho hc hd hs
        have hC : ∀ v, ρ (.const v) = v := fun v => hc _ (by intro t e; cases e)
        have hF : ∀ f, ρ (.func f) = .func (.func f) #[] #[] := fun f => hc _ (by intro t e; cases e)
        have h2 : ρ (.tmp 2) = .int .i64 0 := ho 2 (by kernel_rfl)
        exact Lin.Runs.value Lin.keeps (Lin.exec_move rfl) h2
      · refine Lin.stepR (by kernel_rfl) ?_
        intro ρ wq hb hk ho hc hd hs
        have hC : ∀ v, ρ (.const v) = v := fun v => hc _ (by intro t e; cases e)
        have hF : ∀ f, ρ (.func f) = .func (.func f) #[] #[] := fun f => hc _ (by intro t e; cases e)
        have h0 : ρ (.tmp 0) = .slice (some ⟨g, 0, none⟩) 2 cc := ho 0 (by kernel_rfl)
        exact Lin.Runs.value Lin.keeps (Lin.exec_move rfl) h0
      · refine Lin.stepR (by kernel_rfl) ?_
        intro ρ wq hb hk ho hc hd hs
        have hC : ∀ v, ρ (.const v) = v := fun v => hc _ (by intro t e; cases e)
        have hF : ∀ f, ρ (.func f) = .func (.func f) #[] #[] := fun f => hc _ (by intro t e; cases e)
        have h3 : ρ (.tmp 3) = .int .i64 1 := ho 3 (by kernel_rfl)
        exact Lin.Runs.value Lin.keeps (Lin.exec_move rfl) h3
      · refine Lin.stepR (by kernel_rfl) ?_
        intro ρ wq hb hk ho hc hd hs
        have hC : ∀ v, ρ (.const v) = v := fun v => hc _ (by intro t e; cases e)
        have hF : ∀ f, ρ (.func f) = .func (.func f) #[] #[] := fun f => hc _ (by intro t e; cases e)
        have h0 : ρ (.tmp 0) = .slice (some ⟨g, 0, none⟩) 2 cc := ho 0 (by kernel_rfl)
        exact Lin.Runs.value Lin.keeps (Lin.exec_move rfl) h0
      · refine Lin.stepR (by kernel_rfl) ?_
        intro ρ wq hb hk ho hc hd hs
        have hC : ∀ v, ρ (.const v) = v := fun v => hc _ (by intro t e; cases e)
        have hF : ∀ f, ρ (.func f) = .func (.func f) #[] #[] := fun f => hc _ (by intro t e; cases e)
        have h3 : ρ (.tmp 3) = .int .i64 1 := ho 3 (by kernel_rfl)
        exact Lin.Runs.value Lin.keeps (Lin.exec_move rfl) h3
      · refine Lin.stepR (by kernel_rfl) ?_
        intro ρ wq hb hk ho hc hd hs
        have hC : ∀ v, ρ (.const v) = v := fun v => hc _ (by intro t e; cases e)
        have hF : ∀ f, ρ (.func f) = .func (.func f) #[] #[] := fun f => hc _ (by intro t e; cases e)
        have h18 : ρ (.tmp 18) = .slice (some ⟨g, 0, none⟩) 2 cc := hd 18 (by kernel_rfl)
        have h19 : ρ (.tmp 19) = .int .i64 1 := hd 19 (by kernel_rfl)
        exact Lin.Runs.value Lin.keeps (v := .pointer (some ⟨g, 1, none⟩)) (by simp [execOp, go_sem, h18, h19]) rfl
      · refine Lin.stepR (by kernel_rfl) ?_
        intro ρ wq hb hk ho hc hd hs
        have hC : ∀ v, ρ (.const v) = v := fun v => hc _ (by intro t e; cases e)
        have hF : ∀ f, ρ (.func f) = .func (.func f) #[] #[] := fun f => hc _ (by intro t e; cases e)
        have h20 : ρ (.tmp 20) = .pointer (some ⟨g, 1, none⟩) := hd 20 (by kernel_rfl)
        have dd := ((hk (by kernel_rfl)).cell (p := ⟨g, 1, none⟩) hgl).trans d1
        exact Lin.Runs.value Lin.keeps (v := .int .u8 b) (by simp [execOp, go_sem, h20, dd]) rfl
      · refine Lin.stepR (by kernel_rfl) ?_
        intro ρ wq hb hk ho hc hd hs
        have hC : ∀ v, ρ (.const v) = v := fun v => hc _ (by intro t e; cases e)
        have hF : ∀ f, ρ (.func f) = .func (.func f) #[] #[] := fun f => hc _ (by intro t e; cases e)
        have h0 : ρ (.tmp 0) = .slice (some ⟨g, 0, none⟩) 2 cc := ho 0 (by kernel_rfl)
        exact Lin.Runs.value Lin.keeps (Lin.exec_move rfl) h0
      · refine Lin.stepR (by kernel_rfl) ?_
        intro ρ wq hb hk ho hc hd hs
        have hC : ∀ v, ρ (.const v) = v := fun v => hc _ (by intro t e; cases e)
        have hF : ∀ f, ρ (.func f) = .func (.func f) #[] #[] := fun f => hc _ (by intro t e; cases e)
        have h2 : ρ (.tmp 2) = .int .i64 0 := ho 2 (by kernel_rfl)
        exact Lin.Runs.value Lin.keeps (Lin.exec_move rfl) h2
      · refine Lin.stepR (by kernel_rfl) ?_
        intro ρ wq hb hk ho hc hd hs
        have hC : ∀ v, ρ (.const v) = v := fun v => hc _ (by intro t e; cases e)
        have hF : ∀ f, ρ (.func f) = .func (.func f) #[] #[] := fun f => hc _ (by intro t e; cases e)
        have h22 : ρ (.tmp 22) = .slice (some ⟨g, 0, none⟩) 2 cc := hd 22 (by kernel_rfl)
        have h23 : ρ (.tmp 23) = .int .i64 0 := hd 23 (by kernel_rfl)
        exact Lin.Runs.value Lin.keeps (v := .pointer (some ⟨g, 0, none⟩)) (by simp [execOp, go_sem, h22, h23]) rfl
      · refine Lin.stepR (by kernel_rfl) ?_
        intro ρ wq hb hk ho hc hd hs
        have hC : ∀ v, ρ (.const v) = v := fun v => hc _ (by intro t e; cases e)
        have hF : ∀ f, ρ (.func f) = .func (.func f) #[] #[] := fun f => hc _ (by intro t e; cases e)
        have h24 : ρ (.tmp 24) = .pointer (some ⟨g, 0, none⟩) := hd 24 (by kernel_rfl)
        have dd := ((hk (by kernel_rfl)).cell (p := ⟨g, 0, none⟩) hgl).trans d0
        exact Lin.Runs.value Lin.keeps (v := .int .u8 a) (by simp [execOp, go_sem, h24, dd]) rfl
      · refine Lin.stepR (by kernel_rfl) ?_
        intro ρ wq hb hk ho hc hd hs
        have hC : ∀ v, ρ (.const v) = v := fun v => hc _ (by intro t e; cases e)
        have hF : ∀ f, ρ (.func f) = .func (.func f) #[] #[] := fun f => hc _ (by intro t e; cases e)
        have h14 : ρ (.tmp 14) = .slice (some ⟨g, 0, none⟩) 2 cc := hd 14 (by kernel_rfl)
        have h15 : ρ (.tmp 15) = .int .i64 0 := hd 15 (by kernel_rfl)
        exact Lin.Runs.value Lin.keeps (v := .pointer (some ⟨g, 0, none⟩)) (by simp [execOp, go_sem, h14, h15]) rfl
      · refine Lin.stepW (by kernel_rfl) ?_
        intro ρ wq hb hk ho hc hd hs
        have hC : ∀ v, ρ (.const v) = v := fun v => hc _ (by intro t e; cases e)
        have hF : ∀ f, ρ (.func f) = .func (.func f) #[] #[] := fun f => hc _ (by intro t e; cases e)
        have h21 : ρ (.tmp 21) = .int .u8 b := hd 21 (by kernel_rfl)
        have h26 : ρ (.tmp 26) = .pointer (some ⟨g, 0, none⟩) := hd 26 (by kernel_rfl)
        have ho2 : OwnB wq B _ _ := HO.out.below (hk (by kernel_rfl))
        have f0 := ho2.free 0
        have c0 : wq.cell? ⟨g, 0, none⟩ = some (.int .u8 a) := ho2.at (k := 0) (by simp)
        exact Lin.RunsB.store (w' := wq.setCell ⟨g, 0, none⟩ (.int .u8 b)) (by simp [execOp, go_sem, h21, h26, c0, f0]) (Below.setCell (p := ⟨g, 0, none⟩) (Below.refl _ _) hg1 _) (ho2.put 0 b)
      · refine Lin.stepR (by kernel_rfl) ?_
        intro ρ wq hb hk ho hc hd hs
        have hC : ∀ v, ρ (.const v) = v := fun v => hc _ (by intro t e; cases e)
        have hF : ∀ f, ρ (.func f) = .func (.func f) #[] #[] := fun f => hc _ (by intro t e; cases e)
        have h16 : ρ (.tmp 16) = .slice (some ⟨g, 0, none⟩) 2 cc := hd 16 (by kernel_rfl)
        have h17 : ρ (.tmp 17) = .int .i64 1 := hd 17 (by kernel_rfl)
        exact Lin.Runs.value Lin.keeps (v := .pointer (some ⟨g, 1, none⟩)) (by simp [execOp, go_sem, h16, h17]) rfl
      · refine Lin.stepW (by kernel_rfl) ?_
        intro ρ wq hb hk ho hc hd hs
        have hC : ∀ v, ρ (.const v) = v := fun v => hc _ (by intro t e; cases e)
        have hF : ∀ f, ρ (.func f) = .func (.func f) #[] #[] := fun f => hc _ (by intro t e; cases e)
        have s13 := hs 13 (by kernel_rfl)
        have h25 : ρ (.tmp 25) = .int .u8 a := hd 25 (by kernel_rfl)
        have h27 : ρ (.tmp 27) = .pointer (some ⟨g, 1, none⟩) := hd 27 (by kernel_rfl)
        have ho2 : OwnB wq B _ _ := s13
        have f0 := ho2.free 1
        have c0 : wq.cell? ⟨g, 1, none⟩ = some (.int .u8 b) := ho2.at (k := 1) (by simp)
        exact Lin.RunsB.store (w' := wq.setCell ⟨g, 1, none⟩ (.int .u8 a)) (by simp [execOp, go_sem, h25, h27, c0, f0]) (Below.setCell (p := ⟨g, 1, none⟩) (Below.refl _ _) hg1 _) (ho2.put 1 a)
      · intro vals w2 hb2 hv hs
        have hp : OwnB w2 B _ _ := hs 15 _ rfl rfl (by kernel_rfl)
        have HP := Lib.hid hp
        have HB2 := Lib.hid (HB.out.trans hb2)
        clear hp hv hb2 hs
        simp only [Lin.putAll, Option.getD_some]
        go_simp
        generalize vals = vv
        go_wp2_with fail
        go_roundw
        case rel => exact ⟨1, by omega, by go_num, by go_num, HP.out, HB2.out⟩
        case measure => simp [intOf]
    · have HO := hide ho; have HB := Lib.hid hb
      clear ho hb
      go_wp2_with fail
      go_end0
      exact ⟨rfl, HO.out, HB.out⟩
def Rev4 (w : World) (B : Nat) (A : Option Addr) (cc : Nat) (a b c d : Int) (v2 v3 : Value) (wr : World) : Prop :=
  ∃ k : Nat, k ≤ 2 ∧ v2 = .int .i64 (k : Nat) ∧ v3 = .int .i64 (3 - (k : Int)) ∧ OwnB wr B (.slice A 4 cc) (if k = 0 then [a, b, c, d] else if k = 1 then [d, b, c, a] else [d, c, b, a]) ∧ Below B w wr
set_option maxHeartbeats 2000000 in
theorem rev_4 (a b c d : Int) (A : Option Addr) (cc B : Nat) (w : World) (h : OwnB w B (.slice A 4 cc) [a, b, c, d]) :
    Calls Try.prog 136 #[.slice A 4 cc] w fun e w' => e = .returned (.tuple #[]) ∧ OwnB w' B (.slice A 4 cc) [d, c, b, a] ∧ Below B w w' := by
  have HO := hide h
  clear h
  go_enter Try.func136, Try.ntmps136
  go_wp2_with fail
  go_loopw [2, 3] (fun v2 v3 wr => Rev4 w B A cc a b c d v2 v3 wr) (fun v2 _ _ => (4 - intOf v2).toNat)
  case atStart => exact ⟨0, by omega, rfl, by go_num, HO.out, Below.refl _ _⟩
  case round =>
    obtain ⟨k, hk, rfl, rfl, ho, hb⟩ := hrel
    clear HO
    have hk' : k = 0 ∨ k = 1 ∨ k = 2 := by omega
    rcases hk' with rfl | rfl | rfl
    · have ho : OwnB wr B (.slice A 4 cc) [a, b, c, d] := ho
      obtain ⟨g, rfl, hg1, hgl⟩ := ho.blocks (by simp)
      have HO := hide ho; have HB := Lib.hid hb
      have HBR := Lib.hid (show B ≤ wr.heap.size from Nat.le_trans hg1 (Nat.le_of_lt hgl))
      have d0 : wr.cell? ⟨g, 0, none⟩ = some (.int .u8 a) := ho.at (k := 0) (by simp)
      have d3 : wr.cell? ⟨g, 3, none⟩ = some (.int .u8 d) := ho.at (k := 3) (by simp)
      clear ho hb
      go_wp2_with fail
      refine Lin.wp_region_lin4 (n := 28) (fun slotq => match slotq with | 14 => Lin.Spec.val (.slice (some ⟨g, 0, none⟩) 4 cc) | 15 => Lin.Spec.val (.int .i64 0) | 16 => Lin.Spec.val (.slice (some ⟨g, 0, none⟩) 4 cc) | 17 => Lin.Spec.val (.int .i64 3) | 18 => Lin.Spec.val (.slice (some ⟨g, 0, none⟩) 4 cc) | 19 => Lin.Spec.val (.int .i64 3) | 20 => Lin.Spec.val (.pointer (some ⟨g, 3, none⟩)) | 21 => Lin.Spec.val (.int .u8 d) | 22 => Lin.Spec.val (.slice (some ⟨g, 0, none⟩) 4 cc) | 23 => Lin.Spec.val (.int .i64 0) | 24 => Lin.Spec.val (.pointer (some ⟨g, 0, none⟩)) | 25 => Lin.Spec.val (.int .u8 a) | 26 => Lin.Spec.val (.pointer (some ⟨g, 0, none⟩)) | 1013 => (⟨fun _ wx => OwnB wx B (.slice (some ⟨g, 0, none⟩) 4 cc) [d, b, c, d], fun h hb => OwnB.below h hb⟩ : Lin.Spec Lin.Keeps) | 27 => Lin.Spec.val (.pointer (some ⟨g, 3, none⟩)) | 1015 => (⟨fun _ wx => OwnB wx B (.slice (some ⟨g, 0, none⟩) 4 cc) [d, b, c, a], fun h hb => OwnB.below h hb⟩ : Lin.Spec Lin.Keeps) | _ => Lin.Spec.any) B [(13, []), (15, [1013])] (by kernel_rfl) rfl (by kernel_rfl) (by kernel_rfl) HBR.out ⟨.inr (Lin.firm_val _ _), .inr (Lin.firm_val _ _), .inr (Lin.firm_val _ _), .inr (Lin.firm_val _ _), .inr (Lin.firm_val _ _), .inr (Lin.firm_val _ _), .inr (Lin.firm_val _ _), .inr (Lin.firm_val _ _), .inr (Lin.firm_val _ _), .inr (Lin.firm_val _ _), .inr (Lin.firm_val _ _), .inr (Lin.firm_val _ _), .inr (Lin.firm_val _ _), .inl (by kernel_rfl), .inr (Lin.firm_val _ _), .inl (by kernel_rfl), trivial⟩ ⟨?_, ?_, ?_, ?_, ?_, ?_, ?_, ?_, ?_, ?_, ?_, ?_, ?_, ?_, ?_, ?_, trivial⟩ ?_
      · refine Lin.stepR (by kernel_rfl) ?_
        intro ρ wq hb hk ho hc hd hs
        have hC : ∀ v, ρ (.const v) = v := fun v => hc _ (by intro t e; cases e)
        have hF : ∀ f, ρ (.func f) = .func (.func f) #[] #[] := fun f => hc _ (by intro t e; cases e)
        have h0 : ρ (.tmp 0) = .slice (some ⟨g, 0, none⟩) 4 cc := ho 0 (by kernel_rfl)
        exact Lin.Runs.value Lin.keeps (Lin.exec_move rfl) h0
      · refine Lin.stepR (by kernel_rfl) ?_
        intro ρ wq hb hk ho hc hd hs
        have hC : ∀ v, ρ (.const v) = v := fun v => hc _ (by intro t e; cases e)
        have hF : ∀ f, ρ (.func f) = .func (.func f) #[] #[] := fun f => hc _ (by intro t e; cases e)
        have h2 : ρ (.tmp 2) = .int .i64 0 := ho 2 (by kernel_rfl)
        exact Lin.Runs.value Lin.keeps (Lin.exec_move rfl) h2
      · refine Lin.stepR (by kernel_rfl) ?_
        intro ρ wq hb hk ho hc hd hs
        have hC : ∀ v, ρ (.const v) = v := fun v => hc _ (by intro t e; cases e)
        have hF : ∀ f, ρ (.func f) = .func (.func f) #[] #[] := fun f => hc _ (by intro t e; cases e)
        have h0 : ρ (.tmp 0) = .slice (some ⟨g, 0, none⟩) 4 cc := ho 0 (by kernel_rfl)
        exact Lin.Runs.value Lin.keeps (Lin.exec_move rfl) h0
      · refine Lin.stepR (by kernel_rfl) ?_
        intro ρ wq hb hk ho hc hd hs
        have hC : ∀ v, ρ (.const v) = v := fun v => hc _ (by intro t e; cases e)
        have hF : ∀ f, ρ (.func f) = .func (.func f) #[] #[] := fun f => hc _ (by intro t e; cases e)
        have h3 : ρ (.tmp 3) = .int .i64 3 := ho 3 (by kernel_rfl)
        exact Lin.Runs.value Lin.keeps (Lin.exec_move rfl) h3
      · refine Lin.stepR (by kernel_rfl) ?_
        intro ρ wq hb hk ho hc hd hs
        have hC : ∀ v, ρ (.const v) = v := fun v => hc _ (by intro t e; cases e)
        have hF : ∀ f, ρ (.func f) = .func (.func f) #[] #[] := fun f => hc _ (by intro t e; cases e)
        have h0 : ρ (.tmp 0) = .slice (some ⟨g, 0, none⟩) 4 cc := ho 0 (by kernel_rfl)
        exact Lin.Runs.value Lin.keeps (Lin.exec_move rfl) h0
      · refine Lin.stepR (by kernel_rfl) ?_
        intro ρ wq hb hk ho hc hd hs
        have hC : ∀ v, ρ (.const v) = v := fun v => hc _ (by intro t e; cases e)
        have hF : ∀ f, ρ (.func f) = .func (.func f) #[] #[] := fun f => hc _ (by intro t e; cases e)
        have h3 : ρ (.tmp 3) = .int .i64 3 := ho 3 (by kernel_rfl)
        exact Lin.Runs.value Lin.keeps (Lin.exec_move rfl) h3
      · refine Lin.stepR (by kernel_rfl) ?_
        intro ρ wq hb hk ho hc hd hs
        have hC : ∀ v, ρ (.const v) = v := fun v => hc _ (by intro t e; cases e)
        have hF : ∀ f, ρ (.func f) = .func (.func f) #[] #[] := fun f => hc _ (by intro t e; cases e)
        have h18 : ρ (.tmp 18) = .slice (some ⟨g, 0, none⟩) 4 cc := hd 18 (by kernel_rfl)
        have h19 : ρ (.tmp 19) = .int .i64 3 := hd 19 (by kernel_rfl)
        exact Lin.Runs.value Lin.keeps (v := .pointer (some ⟨g, 3, none⟩)) (by simp [execOp, go_sem, h18, h19]) rfl
      · refine Lin.stepR (by kernel_rfl) ?_
        intro ρ wq hb hk ho hc hd hs
        have hC : ∀ v, ρ (.const v) = v := fun v => hc _ (by intro t e; cases e)
        have hF : ∀ f, ρ (.func f) = .func (.func f) #[] #[] := fun f => hc _ (by intro t e; cases e)
        have h20 : ρ (.tmp 20) = .pointer (some ⟨g, 3, none⟩) := hd 20 (by kernel_rfl)
        have dd := ((hk (by kernel_rfl)).cell (p := ⟨g, 3, none⟩) hgl).trans d3
        exact Lin.Runs.value Lin.keeps (v := .int .u8 d) (by simp [execOp, go_sem, h20, dd]) rfl
      · refine Lin.stepR (by kernel_rfl) ?_
        intro ρ wq hb hk ho hc hd hs
        have hC : ∀ v, ρ (.const v) = v := fun v => hc _ (by intro t e; cases e)
        have hF : ∀ f, ρ (.func f) = .func (.func f) #[] #[] := fun f => hc _ (by intro t e; cases e)
        have h0 : ρ (.tmp 0) = .slice (some ⟨g, 0, none⟩) 4 cc := ho 0 (by kernel_rfl)
        exact Lin.Runs.value Lin.keeps (Lin.exec_move rfl) h0
      · refine Lin.stepR (by kernel_rfl) ?_
        intro ρ wq hb hk ho hc hd hs
        have hC : ∀ v, ρ (.const v) = v := fun v => hc _ (by intro t e; cases e)
        have hF : ∀ f, ρ (.func f) = .func (.func f) #[] #[] := fun f => hc _ (by intro t e; cases e)
        have h2 : ρ (.tmp 2) = .int .i64 0 := ho 2 (by kernel_rfl)
        exact Lin.Runs.value Lin.keeps (Lin.exec_move rfl) h2
      · refine Lin.stepR (by kernel_rfl) ?_
        intro ρ wq hb hk ho hc hd hs
        have hC : ∀ v, ρ (.const v) = v := fun v => hc _ (by intro t e; cases e)
        have hF : ∀ f, ρ (.func f) = .func (.func f) #[] #[] := fun f => hc _ (by intro t e; cases e)
        have h22 : ρ (.tmp 22) = .slice (some ⟨g, 0, none⟩) 4 cc := hd 22 (by kernel_rfl)
        have h23 : ρ (.tmp 23) = .int .i64 0 := hd 23 (by kernel_rfl)
        exact Lin.Runs.value Lin.keeps (v := .pointer (some ⟨g, 0, none⟩)) (by simp [execOp, go_sem, h22, h23]) rfl
      · refine Lin.stepR (by kernel_rfl) ?_
        intro ρ wq hb hk ho hc hd hs
        have hC : ∀ v, ρ (.const v) = v := fun v => hc _ (by intro t e; cases e)
        have hF : ∀ f, ρ (.func f) = .func (.func f) #[] #[] := fun f => hc _ (by intro t e; cases e)
        have h24 : ρ (.tmp 24) = .pointer (some ⟨g, 0, none⟩) := hd 24 (by kernel_rfl)
        have dd := ((hk (by kernel_rfl)).cell (p := ⟨g, 0, none⟩) hgl).trans d0
        exact Lin.Runs.value Lin.keeps (v := .int .u8 a) (by simp [execOp, go_sem, h24, dd]) rfl
      · refine Lin.stepR (by kernel_rfl) ?_
        intro ρ wq hb hk ho hc hd hs
        have hC : ∀ v, ρ (.const v) = v := fun v => hc _ (by intro t e; cases e)
        have hF : ∀ f, ρ (.func f) = .func (.func f) #[] #[] := fun f => hc _ (by intro t e; cases e)
        have h14 : ρ (.tmp 14) = .slice (some ⟨g, 0, none⟩) 4 cc := hd 14 (by kernel_rfl)
        have h15 : ρ (.tmp 15) = .int .i64 0 := hd 15 (by kernel_rfl)
        exact Lin.Runs.value Lin.keeps (v := .pointer (some ⟨g, 0, none⟩)) (by simp [execOp, go_sem, h14, h15]) rfl
      · refine Lin.stepW (by kernel_rfl) ?_
        intro ρ wq hb hk ho hc hd hs
        have hC : ∀ v, ρ (.const v) = v := fun v => hc _ (by intro t e; cases e)
        have hF : ∀ f, ρ (.func f) = .func (.func f) #[] #[] := fun f => hc _ (by intro t e; cases e)
        have h21 : ρ (.tmp 21) = .int .u8 d := hd 21 (by kernel_rfl)
        have h26 : ρ (.tmp 26) = .pointer (some ⟨g, 0, none⟩) := hd 26 (by kernel_rfl)
        have ho2 : OwnB wq B _ _ := HO.out.below (hk (by kernel_rfl))
        have f0 := ho2.free 0
        have c0 : wq.cell? ⟨g, 0, none⟩ = some (.int .u8 a) := ho2.at (k := 0) (by simp)
        exact Lin.RunsB.store (w' := wq.setCell ⟨g, 0, none⟩ (.int .u8 d)) (by simp [execOp, go_sem, h21, h26, c0, f0]) (Below.setCell (p := ⟨g, 0, none⟩) (Below.refl _ _) hg1 _) (ho2.put 0 d)
      · refine Lin.stepR (by kernel_rfl) ?_
        intro ρ wq hb hk ho hc hd hs
        have hC : ∀ v, ρ (.const v) = v := fun v => hc _ (by intro t e; cases e)
        have hF : ∀ f, ρ (.func f) = .func (.func f) #[] #[] := fun f => hc _ (by intro t e; cases e)
        have h16 : ρ (.tmp 16) = .slice (some ⟨g, 0, none⟩) 4 cc := hd 16 (by kernel_rfl)
        have h17 : ρ (.tmp 17) = .int .i64 3 := hd 17 (by kernel_rfl)
        exact Lin.Runs.value Lin.keeps (v := .pointer (some ⟨g, 3, none⟩)) (by simp [execOp, go_sem, h16, h17]) rfl
      · refine Lin.stepW (by kernel_rfl) ?_
        intro ρ wq hb hk ho hc hd hs
        have hC : ∀ v, ρ (.const v) = v := fun v => hc _ (by intro t e; cases e)
        have hF : ∀ f, ρ (.func f) = .func (.func f) #[] #[] := fun f => hc _ (by intro t e; cases e)
        have s13 := hs 13 (by kernel_rfl)
        have h25 : ρ (.tmp 25) = .int .u8 a := hd 25 (by kernel_rfl)
        have h27 : ρ (.tmp 27) = .pointer (some ⟨g, 3, none⟩) := hd 27 (by kernel_rfl)
        have ho2 : OwnB wq B _ _ := s13
        have f0 := ho2.free 3
        have c0 : wq.cell? ⟨g, 3, none⟩ = some (.int .u8 d) := ho2.at (k := 3) (by simp)
        exact Lin.RunsB.store (w' := wq.setCell ⟨g, 3, none⟩ (.int .u8 a)) (by simp [execOp, go_sem, h25, h27, c0, f0]) (Below.setCell (p := ⟨g, 3, none⟩) (Below.refl _ _) hg1 _) (ho2.put 3 a)
      · intro vals w2 hb2 hv hs
        have hp : OwnB w2 B _ _ := hs 15 _ rfl rfl (by kernel_rfl)
        have HP := Lib.hid hp
        have HB2 := Lib.hid (HB.out.trans hb2)
        clear hp hv hb2 hs
        simp only [Lin.putAll, Option.getD_some]
        go_simp
        generalize vals = vv
        go_wp2_with fail
        go_roundw
        case rel => exact ⟨1, by omega, by go_num, by go_num, HP.out, HB2.out⟩
        case measure => simp [intOf]
    · have ho : OwnB wr B (.slice A 4 cc) [d, b, c, a] := ho
      obtain ⟨g, rfl, hg1, hgl⟩ := ho.blocks (by simp)
      have HO := hide ho; have HB := Lib.hid hb
      have HBR := Lib.hid (show B ≤ wr.heap.size from Nat.le_trans hg1 (Nat.le_of_lt hgl))
      have d1 : wr.cell? ⟨g, 1, none⟩ = some (.int .u8 b) := ho.at (k := 1) (by simp)
      have d2 : wr.cell? ⟨g, 2, none⟩ = some (.int .u8 c) := ho.at (k := 2) (by simp)
      clear ho hb
      go_wp2_with fail
      refine Lin.wp_region_lin4 (n := 28) (fun slotq => match slotq with | 14 => Lin.Spec.val (.slice (some ⟨g, 0, none⟩) 4 cc) | 15 => Lin.Spec.val (.int .i64 1) | 16 => Lin.Spec.val (.slice (some ⟨g, 0, none⟩) 4 cc) | 17 => Lin.Spec.val (.int .i64 2) | 18 => Lin.Spec.val (.slice (some ⟨g, 0, none⟩) 4 cc) | 19 => Lin.Spec.val (.int .i64 2) | 20 => Lin.Spec.val (.pointer (some ⟨g, 2, none⟩)) | 21 => Lin.Spec.val (.int .u8 c) | 22 => Lin.Spec.val (.slice (some ⟨g, 0, none⟩) 4 cc) | 23 => Lin.Spec.val (.int .i64 1) | 24 => Lin.Spec.val (.pointer (some ⟨g, 1, none⟩)) | 25 => Lin.Spec.val (.int .u8 b) | 26 => Lin.Spec.val (.pointer (some ⟨g, 1, none⟩)) | 1013 => (⟨fun _ wx => OwnB wx B (.slice (some ⟨g, 0, none⟩) 4 cc) [d, c, c, a], fun h hb => OwnB.below h hb⟩ : Lin.Spec Lin.Keeps) | 27 => Lin.Spec.val (.pointer (some ⟨g, 2, none⟩)) | 1015 => (⟨fun _ wx => OwnB wx B (.slice (some ⟨g, 0, none⟩) 4 cc) [d, c, b, a], fun h hb => OwnB.below h hb⟩ : Lin.Spec Lin.Keeps) | _ => Lin.Spec.any) B [(13, []), (15, [1013])] (by kernel_rfl) rfl (by kernel_rfl) (by kernel_rfl) HBR.out ⟨.inr (Lin.firm_val _ _), .inr (Lin.firm_val _ _), .inr (Lin.firm_val _ _), .inr (Lin.firm_val _ _), .inr (Lin.firm_val _ _), .inr (Lin.firm_val _ _), .inr (Lin.firm_val _ _), .inr (Lin.firm_val _ _), .inr (Lin.firm_val _ _), .inr (Lin.firm_val _ _), .inr (Lin.firm_val _ _), .inr (Lin.firm_val _ _), .inr (Lin.firm_val _ _), .inl (by kernel_rfl), .inr (Lin.firm_val _ _), .inl (by kernel_rfl), trivial⟩ ⟨?_, ?_, ?_, ?_, ?_, ?_, ?_, ?_, ?_, ?_, ?_, ?_, ?_, ?_, ?_, ?_, trivial⟩ ?_
      · refine Lin.stepR (by kernel_rfl) ?_
        intro ρ wq hb hk ho hc hd hs
        have hC : ∀ v, ρ (.const v) = v := fun v => hc _ (by intro t e; cases e)
        have hF : ∀ f, ρ (.func f) = .func (.func f) #[] #[] := fun f => hc _ (by intro t e; cases e)
        have h0 : ρ (.tmp 0) = .slice (some ⟨g, 0, none⟩) 4 cc := ho 0 (by kernel_rfl)
        exact Lin.Runs.value Lin.keeps (Lin.exec_move rfl) h0
      · refine Lin.stepR (by kernel_rfl) ?_
        intro ρ wq hb hk ho hc hd hs
        have hC : ∀ v, ρ (.const v) = v := fun v => hc _ (by intro t e; cases e)
        have hF : ∀ f, ρ (.func f) = .func (.func f) #[] #[] := fun f => hc _ (by intro t e; cases e)
        have h2 : ρ (.tmp 2) = .int .i64 1 := ho 2 (by kernel_rfl)
        exact Lin.Runs.value Lin.keeps (Lin.exec_move rfl) h2
      · refine Lin.stepR (by kernel_rfl) ?_
        intro ρ wq hb hk ho hc hd hs
        have hC : ∀ v, ρ (.const v) = v := fun v => hc _ (by intro t e; cases e)
        have hF : ∀ f, ρ (.func f) = .func (.func f) #[] #[] := fun f => hc _ (by intro t e; cases e)
        have h0 : ρ (.tmp 0) = .slice (some ⟨g, 0, none⟩) 4 cc := ho 0 (by kernel_rfl)
        exact Lin.Runs.value Lin.keeps (Lin.exec_move rfl) h0
      · refine Lin.stepR (by kernel_rfl) ?_
        intro ρ wq hb hk ho hc hd hs
        have hC : ∀ v, ρ (.const v) = v := fun v => hc _ (by intro t e; cases e)
        have hF : ∀ f, ρ (.func f) = .func (.func f) #[] #[] := fun f => hc _ (by intro t e; cases e)
        have h3 : ρ (.tmp 3) = .int .i64 2 := ho 3 (by kernel_rfl)
        exact Lin.Runs.value Lin.keeps (Lin.exec_move rfl) h3
      · refine Lin.stepR (by kernel_rfl) ?_
        intro ρ wq hb hk ho hc hd hs
        have hC : ∀ v, ρ (.const v) = v := fun v => hc _ (by intro t e; cases e)
        have hF : ∀ f, ρ (.func f) = .func (.func f) #[] #[] := fun f => hc _ (by intro t e; cases e)
        have h0 : ρ (.tmp 0) = .slice (some ⟨g, 0, none⟩) 4 cc := ho 0 (by kernel_rfl)
        exact Lin.Runs.value Lin.keeps (Lin.exec_move rfl) h0
      · refine Lin.stepR (by kernel_rfl) ?_
        intro ρ wq hb hk ho hc hd hs
        have hC : ∀ v, ρ (.const v) = v := fun v => hc _ (by intro t e; cases e)
        have hF : ∀ f, ρ (.func f) = .func (.func f) #[] #[] := fun f => hc _ (by intro t e; cases e)
        have h3 : ρ (.tmp 3) = .int .i64 2 := ho 3 (by kernel_rfl)
        exact Lin.Runs.value Lin.keeps (Lin.exec_move rfl) h3
      · refine Lin.stepR (by kernel_rfl) ?_
        intro ρ wq hb hk ho hc hd hs
        have hC : ∀ v, ρ (.const v) = v := fun v => hc _ (by intro t e; cases e)
        have hF : ∀ f, ρ (.func f) = .func (.func f) #[] #[] := fun f => hc _ (by intro t e; cases e)
        have h18 : ρ (.tmp 18) = .slice (some ⟨g, 0, none⟩) 4 cc := hd 18 (by kernel_rfl)
        have h19 : ρ (.tmp 19) = .int .i64 2 := hd 19 (by kernel_rfl)
        exact Lin.Runs.value Lin.keeps (v := .pointer (some ⟨g, 2, none⟩)) (by simp [execOp, go_sem, h18, h19]) rfl
      · refine Lin.stepR (by kernel_rfl) ?_
        intro ρ wq hb hk ho hc hd hs
        have hC : ∀ v, ρ (.const v) = v := fun v => hc _ (by intro t e; cases e)
        have hF : ∀ f, ρ (.func f) = .func (.func f) #[] #[] := fun f => hc _ (by intro t e; cases e)
        have h20 : ρ (.tmp 20) = .pointer (some ⟨g, 2, none⟩) := hd 20 (by kernel_rfl)
        have dd := ((hk (by kernel_rfl)).cell (p := ⟨g, 2, none⟩) hgl).trans d2
        exact Lin.Runs.value Lin.keeps (v := .int .u8 c) (by simp [execOp, go_sem, h20, dd]) rfl
      · refine Lin.stepR (by kernel_rfl) ?_
        intro ρ wq hb hk ho hc hd hs
        have hC : ∀ v, ρ (.const v) = v := fun v => hc _ (by intro t e; cases e)
        have hF : ∀ f, ρ (.func f) = .func (.func f) #[] #[] := fun f => hc _ (by intro t e; cases e)
        have h0 : ρ (.tmp 0) = .slice (some ⟨g, 0, none⟩) 4 cc := ho 0 (by kernel_rfl)
        exact Lin.Runs.value Lin.keeps (Lin.exec_move rfl) h0
      · refine Lin.stepR (by kernel_rfl) ?_
        intro ρ wq hb hk ho hc hd hs
        have hC : ∀ v, ρ (.const v) = v := fun v => hc _ (by intro t e; cases e)
        have hF : ∀ f, ρ (.func f) = .func (.func f) #[] #[] := fun f => hc _ (by intro t e; cases e)
        have h2 : ρ (.tmp 2) = .int .i64 1 := ho 2 (by kernel_rfl)
        exact Lin.Runs.value Lin.keeps (Lin.exec_move rfl) h2
      · refine Lin.stepR (by kernel_rfl) ?_
        intro ρ wq hb hk ho hc hd hs
        have hC : ∀ v, ρ (.const v) = v := fun v => hc _ (by intro t e; cases e)
        have hF : ∀ f, ρ (.func f) = .func (.func f) #[] #[] := fun f => hc _ (by intro t e; cases e)
        have h22 : ρ (.tmp 22) = .slice (some ⟨g, 0, none⟩) 4 cc := hd 22 (by kernel_rfl)
        have h23 : ρ (.tmp 23) = .int .i64 1 := hd 23 (by kernel_rfl)
        exact Lin.Runs.value Lin.keeps (v := .pointer (some ⟨g, 1, none⟩)) (by simp [execOp, go_sem, h22, h23]) rfl
      · refine Lin.stepR (by kernel_rfl) ?_
        intro ρ wq hb hk ho hc hd hs
        have hC : ∀ v, ρ (.const v) = v := fun v => hc _ (by intro t e; cases e)
        have hF : ∀ f, ρ (.func f) = .func (.func f) #[] #[] := fun f => hc _ (by intro t e; cases e)
        have h24 : ρ (.tmp 24) = .pointer (some ⟨g, 1, none⟩) := hd 24 (by kernel_rfl)
        have dd := ((hk (by kernel_rfl)).cell (p := ⟨g, 1, none⟩) hgl).trans d1
        exact Lin.Runs.value Lin.keeps (v := .int .u8 b) (by simp [execOp, go_sem, h24, dd]) rfl
      · refine Lin.stepR (by kernel_rfl) ?_
        intro ρ wq hb hk ho hc hd hs
        have hC : ∀ v, ρ (.const v) = v := fun v => hc _ (by intro t e; cases e)
        have hF : ∀ f, ρ (.func f) = .func (.func f) #[] #[] := fun f => hc _ (by intro t e; cases e)
        have h14 : ρ (.tmp 14) = .slice (some ⟨g, 0, none⟩) 4 cc := hd 14 (by kernel_rfl)
        have h15 : ρ (.tmp 15) = .int .i64 1 := hd 15 (by kernel_rfl)
        exact Lin.Runs.value Lin.keeps (v := .pointer (some ⟨g, 1, none⟩)) (by simp [execOp, go_sem, h14, h15]) rfl
      · refine Lin.stepW (by kernel_rfl) ?_
        intro ρ wq hb hk ho hc hd hs
        have hC : ∀ v, ρ (.const v) = v := fun v => hc _ (by intro t e; cases e)
        have hF : ∀ f, ρ (.func f) = .func (.func f) #[] #[] := fun f => hc _ (by intro t e; cases e)
        have h21 : ρ (.tmp 21) = .int .u8 c := hd 21 (by kernel_rfl)
        have h26 : ρ (.tmp 26) = .pointer (some ⟨g, 1, none⟩) := hd 26 (by kernel_rfl)
        have ho2 : OwnB wq B _ _ := HO.out.below (hk (by kernel_rfl))
        have f0 := ho2.free 1
        have c0 : wq.cell? ⟨g, 1, none⟩ = some (.int .u8 b) := ho2.at (k := 1) (by simp)
        exact Lin.RunsB.store (w' := wq.setCell ⟨g, 1, none⟩ (.int .u8 c)) (by simp [execOp, go_sem, h21, h26, c0, f0]) (Below.setCell (p := ⟨g, 1, none⟩) (Below.refl _ _) hg1 _) (ho2.put 1 c)
      · refine Lin.stepR (by kernel_rfl) ?_
        intro ρ wq hb hk ho hc hd hs
        have hC : ∀ v, ρ (.const v) = v := fun v => hc _ (by intro t e; cases e)
        have hF : ∀ f, ρ (.func f) = .func (.func f) #[] #[] := fun f => hc _ (by intro t e; cases e)
        have h16 : ρ (.tmp 16) = .slice (some ⟨g, 0, none⟩) 4 cc := hd 16 (by kernel_rfl)
        have h17 : ρ (.tmp 17) = .int .i64 2 := hd 17 (by kernel_rfl)
        exact Lin.Runs.value Lin.keeps (v := .pointer (some ⟨g, 2, none⟩)) (by simp [execOp, go_sem, h16, h17]) rfl
      · refine Lin.stepW (by kernel_rfl) ?_
        intro ρ wq hb hk ho hc hd hs
        have hC : ∀ v, ρ (.const v) = v := fun v => hc _ (by intro t e; cases e)
        have hF : ∀ f, ρ (.func f) = .func (.func f) #[] #[] := fun f => hc _ (by intro t e; cases e)
        have s13 := hs 13 (by kernel_rfl)
        have h25 : ρ (.tmp 25) = .int .u8 b := hd 25 (by kernel_rfl)
        have h27 : ρ (.tmp 27) = .pointer (some ⟨g, 2, none⟩) := hd 27 (by kernel_rfl)
        have ho2 : OwnB wq B _ _ := s13
        have f0 := ho2.free 2
        have c0 : wq.cell? ⟨g, 2, none⟩ = some (.int .u8 c) := ho2.at (k := 2) (by simp)
        exact Lin.RunsB.store (w' := wq.setCell ⟨g, 2, none⟩ (.int .u8 b)) (by simp [execOp, go_sem, h25, h27, c0, f0]) (Below.setCell (p := ⟨g, 2, none⟩) (Below.refl _ _) hg1 _) (ho2.put 2 b)
      · intro vals w2 hb2 hv hs
        have hp : OwnB w2 B _ _ := hs 15 _ rfl rfl (by kernel_rfl)
        have HP := Lib.hid hp
        have HB2 := Lib.hid (HB.out.trans hb2)
        clear hp hv hb2 hs
        simp only [Lin.putAll, Option.getD_some]
        go_simp
        generalize vals = vv
        go_wp2_with fail
        go_roundw
        case rel => exact ⟨2, by omega, by go_num, by go_num, HP.out, HB2.out⟩
        case measure => simp [intOf]
    · have HO := hide ho; have HB := Lib.hid hb
      clear ho hb
      go_wp2_with fail
      go_end0
      exact ⟨rfl, HO.out, HB.out⟩
end Go.Proofs.Ytkgmgmlicgjfdaa
