/-
  The law CaptureWrites, walked. Helper of the claim CaptureWrites. No condition.
-/
import Derived.Test.YtkgmgmlicgjfdaaCap4
namespace Go.Proofs.Ytkgmgmlicgjfdaa
open Go.ChangeShapes Go.WideShapes Go.ChangeAt Go.RowKit
set_option linter.unusedVariables false
set_option maxRecDepth 100000
set_option maxHeartbeats 2000000 in
theorem walk_long (sm na : Bool) (mo li ps pp pl : Nat) (A : Option Addr) (n c : Nat) (l : List Int) (w : World) (h5 : 2000 < n) : Calls Try.prog 9 #[fileV sm na (mo : Int) (li : Int), pktV (ps : Int) (pp : Int) (pl : Int) (.slice A n c)] w fun e w' => e = .returned (.bool true) ∧ Below w.heap.size w w' := by
  unfold fileV pktV
  have hz : (2000 : Int) < (n : Int) := by omega
  have hb0 : Below w.heap.size w ((w.alloc (.cells #[.bool sm, .bool na, .int .u32 (mo : Int), .int .u32 (li : Int)] 82)).alloc (.cells #[.int .u32 (ps : Int), .int .u32 (pp : Int), .int .u32 (pl : Int), .slice A n c] 84)) := ((Below.refl _ _).alloc (Nat.le_refl _) _).alloc (by simp) _
  go_enter Try.func9, Try.ntmps9
  go_wp2_with fail
  refine (awake45 _).mono ?_
  rintro e w1 ⟨rfl, hb⟩
  have HB := Lib.hid (hb0.trans (hb.mono hb0.size))
  clear hb hb0
  go_wp2_with fail
  go_ret
  exact ⟨rfl, HB.out⟩
set_option maxHeartbeats 4000000 in
theorem walk_yes (sm na : Bool) (mo li ps pp pl : Nat) (A : Option Addr) (n c : Nat) (l : List Int) (hmo : mo < 4294967296) (hli : li < 4294967296) (hps : ps < 4294967296) (hpp : pp < 4294967296) (hpl : pl < 4294967296) (w : World) (hv : IsB l n (.slice A n c) w) (hn : n ≤ 2000) (hr : rightF na mo pp pl n = true) : Calls Try.prog 9 #[fileV sm na (mo : Int) (li : Int), pktV (ps : Int) (pp : Int) (pl : Int) (.slice A n c)] w fun e w' => e = .returned (.bool true) ∧ Below w.heap.size w w' := by
  have HR := Lib.hid hr
  clear hr
  unfold fileV pktV
  have hz : ¬ (2000 : Int) < (n : Int) := by omega
  have hb0 : Below w.heap.size w ((w.alloc (.cells #[.bool sm, .bool na, .int .u32 (mo : Int), .int .u32 (li : Int)] 82)).alloc (.cells #[.int .u32 (ps : Int), .int .u32 (pp : Int), .int .u32 (pl : Int), .slice A n c] 84)) := ((Below.refl _ _).alloc (Nat.le_refl _) _).alloc (by simp) _
  have hg0 := (Is.new w 82 #[.bool sm, .bool na, .int .u32 (mo : Int), .int .u32 (li : Int)]).alloc (.cells #[.int .u32 (ps : Int), .int .u32 (pp : Int), .int .u32 (pl : Int), .slice A n c] 84)
  have hk0 := Is.new (w.alloc (.cells #[.bool sm, .bool na, .int .u32 (mo : Int), .int .u32 (li : Int)] 82)) 84 #[.int .u32 (ps : Int), .int .u32 (pp : Int), .int .u32 (pl : Int), .slice A n c]
  rw [show (w.alloc (.cells #[.bool sm, .bool na, .int .u32 (mo : Int), .int .u32 (li : Int)] 82)).heap.size = w.heap.size + 1 from by simp] at hk0
  have hs0 : w.heap.size + 2 ≤ ((w.alloc (.cells #[.bool sm, .bool na, .int .u32 (mo : Int), .int .u32 (li : Int)] 82)).alloc (.cells #[.int .u32 (ps : Int), .int .u32 (pp : Int), .int .u32 (pl : Int), .slice A n c] 84)).heap.size := by simp
  go_enter Try.func9, Try.ntmps9
  go_wp2_with fail
  generalize ((w.alloc (.cells #[.bool sm, .bool na, .int .u32 (mo : Int), .int .u32 (li : Int)] 82)).alloc (.cells #[.int .u32 (ps : Int), .int .u32 (pp : Int), .int .u32 (pl : Int), .slice A n c] 84)) = W at *
  refine (cto sm na mo li _).mono ?_
  rintro e w1 ⟨rfl, hb⟩
  have hg1 := hg0.below hb (by omega); have hk1 := hk0.below hb (by omega); have hb1 := hb0.trans (hb.mono hb0.size); have hs1 := Nat.le_trans hs0 hb.size
  clear hb hb0 hg0 hk0 hs0
  unfold fileV
  go_wp2_with fail
  have hb3 := hb1.alloc hb1.size (.cells #[.bool sm, .bool na, .int .u32 (mo : Int), .int .u32 (li : Int)] 85)
  have HG := hide (hg1.alloc (.cells #[.bool sm, .bool na, .int .u32 (mo : Int), .int .u32 (li : Int)] 85)); have HK := hide (hk1.alloc (.cells #[.bool sm, .bool na, .int .u32 (mo : Int), .int .u32 (li : Int)] 85)); have HF := hide (Is.new w1 85 #[.bool sm, .bool na, .int .u32 (mo : Int), .int .u32 (li : Int)]); have HB := Lib.hid hb3; have HV := hide (hv.st hb3)
  clear hg1 hk1 hb1 hs1 hb3 hv
  generalize w1.alloc (.cells #[.bool sm, .bool na, .int .u32 (mo : Int), .int .u32 (li : Int)] 85) = W3 at *
  generalize w1.heap.size = g5 at *
  refine Lin.wp_region_lin Lin.keeps (n := 56)  (fun slotq => match slotq with | 13 => Lin.Spec.val (fileV sm na (mo : Int) (li : Int)) | 14 => Lin.Spec.sl (headF sm na mo li) 24 | 15 => Lin.Spec.val (.string (strOfNums (headF sm na mo li))) | 16 => Lin.Spec.val (fileV sm na (mo : Int) (li : Int)) | 17 => Lin.Spec.sl (headF sm na mo li) 24 | 18 => Lin.Spec.val (.string (strOfNums (headF sm na mo li))) | 19 => Lin.Spec.val (.bool false) | 20 => Lin.Spec.val (.bool false) | 21 => Lin.Spec.val (fileV sm na (mo : Int) (li : Int)) | 22 => Lin.Spec.val (pktV (ps : Int) (pp : Int) (pl : Int) (.slice A n c)) | 23 => Lin.Spec.val (pktV (ps : Int) (pp : Int) (pl : Int) (.slice A n c)) | 24 => Lin.Spec.val (.bool true) | 25 => Lin.Spec.val (fileV sm na (mo : Int) (li : Int)) | 26 => Lin.Spec.val (pktV (ps : Int) (pp : Int) (pl : Int) (.slice A n c)) | 27 => Lin.Spec.val (.bool true) | 28 => Lin.Spec.val (.bool false) | 29 => Lin.Spec.val (.bool false) | _ => Lin.Spec.any) (by kernel_rfl) rfl (by kernel_rfl) ⟨?_, ?_, ?_, ?_, ?_, ?_, ?_, ?_, ?_, ?_, ?_, ?_, ?_, ?_, ?_, ?_, ?_, trivial⟩ ?_
  · intro ρ wq hb ho hc hd
    have hC : ∀ v, ρ (.const v) = v := fun v => hc _ (by intro t e; cases e)
    have hF : ∀ f, ρ (.func f) = .func (.func f) #[] #[] := fun f => hc _ (by intro t e; cases e)
    have h5 : ρ (.tmp 5) = .pointer (some ⟨g5, 0, none⟩) := ho 5 (by kernel_rfl)
    have hg8 := HF.out.below hb HF.out.lt
    have m0 := hg8.cell 0
    have m1 := hg8.cell 1
    have m2 := hg8.cell 2
    have m3 := hg8.cell 3
    simp at m0 m1 m2 m3
    exact Lin.Runs.value Lin.keeps (v := fileV sm na (mo : Int) (li : Int)) (by simp [fileV, execOp, go_sem, h5, m0, m1, m2, m3]) rfl
  · intro ρ wq hb ho hc hd
    have hC : ∀ v, ρ (.const v) = v := fun v => hc _ (by intro t e; cases e)
    have hF : ∀ f, ρ (.func f) = .func (.func f) #[] #[] := fun f => hc _ (by intro t e; cases e)
    have h13 : ρ (.tmp 13) = fileV sm na (mo : Int) (li : Int) := hd 13 (by kernel_rfl)
    exact Lin.Runs.call Lin.keeps (f := 59) (args := #[fileV sm na (mo : Int) (li : Int)]) (by simp [fileV, execOp, go_sem, hF, h13]) ((chead sm na mo li hmo hli wq).mono fun e w9 ⟨v9, e1, e2, e3⟩ => ⟨v9, e1, e2, e3.isb⟩)
  · intro ρ wq hb ho hc hd
    have hC : ∀ v, ρ (.const v) = v := fun v => hc _ (by intro t e; cases e)
    have hF : ∀ f, ρ (.func f) = .func (.func f) #[] #[] := fun f => hc _ (by intro t e; cases e)
    have h14 := hd 14 (by kernel_rfl)
    exact Lin.Runs.value Lin.keeps (Lin.exec_convert rfl h14.conv) rfl
  · intro ρ wq hb ho hc hd
    have hC : ∀ v, ρ (.const v) = v := fun v => hc _ (by intro t e; cases e)
    have hF : ∀ f, ρ (.func f) = .func (.func f) #[] #[] := fun f => hc _ (by intro t e; cases e)
    have h2 : ρ (.tmp 2) = .pointer (some ⟨w.heap.size, 0, none⟩) := ho 2 (by kernel_rfl)
    have hg8 := HG.out.below hb HG.out.lt
    have m0 := hg8.cell 0
    have m1 := hg8.cell 1
    have m2 := hg8.cell 2
    have m3 := hg8.cell 3
    simp at m0 m1 m2 m3
    exact Lin.Runs.value Lin.keeps (v := fileV sm na (mo : Int) (li : Int)) (by simp [fileV, execOp, go_sem, h2, m0, m1, m2, m3]) rfl
  · intro ρ wq hb ho hc hd
    have hC : ∀ v, ρ (.const v) = v := fun v => hc _ (by intro t e; cases e)
    have hF : ∀ f, ρ (.func f) = .func (.func f) #[] #[] := fun f => hc _ (by intro t e; cases e)
    have h16 : ρ (.tmp 16) = fileV sm na (mo : Int) (li : Int) := hd 16 (by kernel_rfl)
    exact Lin.Runs.call Lin.keeps (f := 60) (args := #[fileV sm na (mo : Int) (li : Int)]) (by simp [fileV, execOp, go_sem, hF, h16]) (rhead sm na mo li hmo hli wq)
  · intro ρ wq hb ho hc hd
    have hC : ∀ v, ρ (.const v) = v := fun v => hc _ (by intro t e; cases e)
    have hF : ∀ f, ρ (.func f) = .func (.func f) #[] #[] := fun f => hc _ (by intro t e; cases e)
    have h17 := hd 17 (by kernel_rfl)
    exact Lin.Runs.value Lin.keeps (Lin.exec_convert rfl h17.conv) rfl
  · intro ρ wq hb ho hc hd
    have hC : ∀ v, ρ (.const v) = v := fun v => hc _ (by intro t e; cases e)
    have hF : ∀ f, ρ (.func f) = .func (.func f) #[] #[] := fun f => hc _ (by intro t e; cases e)
    have h15 : ρ (.tmp 15) = .string (strOfNums (headF sm na mo li)) := hd 15 (by kernel_rfl)
    have h18 : ρ (.tmp 18) = .string (strOfNums (headF sm na mo li)) := hd 18 (by kernel_rfl)
    exact Lin.Runs.value Lin.keeps (v := .bool false) (by simp [execOp, go_sem, h15, h18]) rfl
  · intro ρ wq hb ho hc hd
    have hC : ∀ v, ρ (.const v) = v := fun v => hc _ (by intro t e; cases e)
    have hF : ∀ f, ρ (.func f) = .func (.func f) #[] #[] := fun f => hc _ (by intro t e; cases e)
    have h19 : ρ (.tmp 19) = .bool false := hd 19 (by kernel_rfl)
    exact Lin.Runs.value Lin.keeps (Lin.exec_move rfl) h19
  · intro ρ wq hb ho hc hd
    have hC : ∀ v, ρ (.const v) = v := fun v => hc _ (by intro t e; cases e)
    have hF : ∀ f, ρ (.func f) = .func (.func f) #[] #[] := fun f => hc _ (by intro t e; cases e)
    intro t ht; cases (show some 20 = some t from ht)
    refine ⟨fun _ => ?_, fun hn => absurd (hd 20 (by kernel_rfl)) hn⟩
    have h5 : ρ (.tmp 5) = .pointer (some ⟨g5, 0, none⟩) := ho 5 (by kernel_rfl)
    have hg8 := HF.out.below hb HF.out.lt
    have m0 := hg8.cell 0
    have m1 := hg8.cell 1
    have m2 := hg8.cell 2
    have m3 := hg8.cell 3
    simp at m0 m1 m2 m3
    exact Lin.Runs.value Lin.keeps (v := fileV sm na (mo : Int) (li : Int)) (by simp [fileV, execOp, go_sem, h5, m0, m1, m2, m3]) rfl
  · intro ρ wq hb ho hc hd
    have hC : ∀ v, ρ (.const v) = v := fun v => hc _ (by intro t e; cases e)
    have hF : ∀ f, ρ (.func f) = .func (.func f) #[] #[] := fun f => hc _ (by intro t e; cases e)
    intro t ht; cases (show some 20 = some t from ht)
    refine ⟨fun _ => ?_, fun hn => absurd (hd 20 (by kernel_rfl)) hn⟩
    have h3 : ρ (.tmp 3) = .pointer (some ⟨w.heap.size + 1, 0, none⟩) := ho 3 (by kernel_rfl)
    have hg8 := HK.out.below hb HK.out.lt
    have m0 := hg8.cell 0
    have m1 := hg8.cell 1
    have m2 := hg8.cell 2
    have m3 := hg8.cell 3
    simp at m0 m1 m2 m3
    exact Lin.Runs.value Lin.keeps (v := pktV (ps : Int) (pp : Int) (pl : Int) (.slice A n c)) (by simp [pktV, execOp, go_sem, h3, m0, m1, m2, m3]) rfl
  · intro ρ wq hb ho hc hd
    have hC : ∀ v, ρ (.const v) = v := fun v => hc _ (by intro t e; cases e)
    have hF : ∀ f, ρ (.func f) = .func (.func f) #[] #[] := fun f => hc _ (by intro t e; cases e)
    intro t ht; cases (show some 20 = some t from ht)
    refine ⟨fun _ => ?_, fun hn => absurd (hd 20 (by kernel_rfl)) hn⟩
    have h22 : ρ (.tmp 22) = pktV (ps : Int) (pp : Int) (pl : Int) (.slice A n c) := hd 22 (by kernel_rfl)
    exact Lin.Runs.call Lin.keeps (f := 62) (args := #[pktV (ps : Int) (pp : Int) (pl : Int) (.slice A n c)]) (by simp [pktV, execOp, go_sem, hF, h22]) ((cpacket ps pp pl A n c wq).mono fun e w9 h => ⟨_, h.1, h.2, rfl⟩)
  · intro ρ wq hb ho hc hd
    have hC : ∀ v, ρ (.const v) = v := fun v => hc _ (by intro t e; cases e)
    have hF : ∀ f, ρ (.func f) = .func (.func f) #[] #[] := fun f => hc _ (by intro t e; cases e)
    intro t ht; cases (show some 20 = some t from ht)
    refine ⟨fun _ => ?_, fun hn => absurd (hd 20 (by kernel_rfl)) hn⟩
    have h21 : ρ (.tmp 21) = fileV sm na (mo : Int) (li : Int) := hd 21 (by kernel_rfl)
    have h23 : ρ (.tmp 23) = pktV (ps : Int) (pp : Int) (pl : Int) (.slice A n c) := hd 23 (by kernel_rfl)
    exact Lin.Runs.call Lin.keeps (f := 61) (args := #[fileV sm na (mo : Int) (li : Int), pktV (ps : Int) (pp : Int) (pl : Int) (.slice A n c)]) (by simp [fileV, pktV, execOp, go_sem, hF, h21, h23]) ((cright sm na mo li ps pp pl A n c hmo hpl hpp (by omega) wq).mono fun e w9 h => ⟨_, h.1, h.2, by rw [HR.out]; rfl⟩)
  · intro ρ wq hb ho hc hd
    have hC : ∀ v, ρ (.const v) = v := fun v => hc _ (by intro t e; cases e)
    have hF : ∀ f, ρ (.func f) = .func (.func f) #[] #[] := fun f => hc _ (by intro t e; cases e)
    intro t ht; cases (show some 20 = some t from ht)
    refine ⟨fun _ => ?_, fun hn => absurd (hd 20 (by kernel_rfl)) hn⟩
    have h2 : ρ (.tmp 2) = .pointer (some ⟨w.heap.size, 0, none⟩) := ho 2 (by kernel_rfl)
    have hg8 := HG.out.below hb HG.out.lt
    have m0 := hg8.cell 0
    have m1 := hg8.cell 1
    have m2 := hg8.cell 2
    have m3 := hg8.cell 3
    simp at m0 m1 m2 m3
    exact Lin.Runs.value Lin.keeps (v := fileV sm na (mo : Int) (li : Int)) (by simp [fileV, execOp, go_sem, h2, m0, m1, m2, m3]) rfl
  · intro ρ wq hb ho hc hd
    have hC : ∀ v, ρ (.const v) = v := fun v => hc _ (by intro t e; cases e)
    have hF : ∀ f, ρ (.func f) = .func (.func f) #[] #[] := fun f => hc _ (by intro t e; cases e)
    intro t ht; cases (show some 20 = some t from ht)
    refine ⟨fun _ => ?_, fun hn => absurd (hd 20 (by kernel_rfl)) hn⟩
    have h3 : ρ (.tmp 3) = .pointer (some ⟨w.heap.size + 1, 0, none⟩) := ho 3 (by kernel_rfl)
    have hg8 := HK.out.below hb HK.out.lt
    have m0 := hg8.cell 0
    have m1 := hg8.cell 1
    have m2 := hg8.cell 2
    have m3 := hg8.cell 3
    simp at m0 m1 m2 m3
    exact Lin.Runs.value Lin.keeps (v := pktV (ps : Int) (pp : Int) (pl : Int) (.slice A n c)) (by simp [pktV, execOp, go_sem, h3, m0, m1, m2, m3]) rfl
  · intro ρ wq hb ho hc hd
    have hC : ∀ v, ρ (.const v) = v := fun v => hc _ (by intro t e; cases e)
    have hF : ∀ f, ρ (.func f) = .func (.func f) #[] #[] := fun f => hc _ (by intro t e; cases e)
    intro t ht; cases (show some 20 = some t from ht)
    refine ⟨fun _ => ?_, fun hn => absurd (hd 20 (by kernel_rfl)) hn⟩
    have h25 : ρ (.tmp 25) = fileV sm na (mo : Int) (li : Int) := hd 25 (by kernel_rfl)
    have h26 : ρ (.tmp 26) = pktV (ps : Int) (pp : Int) (pl : Int) (.slice A n c) := hd 26 (by kernel_rfl)
    exact Lin.Runs.call Lin.keeps (f := 63) (args := #[fileV sm na (mo : Int) (li : Int), pktV (ps : Int) (pp : Int) (pl : Int) (.slice A n c)]) (by simp [fileV, pktV, execOp, go_sem, hF, h25, h26]) ((rright sm na mo li ps pp pl A n c hmo hpl hpp (by omega) wq).mono fun e w9 h => ⟨_, h.1, h.2, by rw [HR.out]; rfl⟩)
  · intro ρ wq hb ho hc hd
    have hC : ∀ v, ρ (.const v) = v := fun v => hc _ (by intro t e; cases e)
    have hF : ∀ f, ρ (.func f) = .func (.func f) #[] #[] := fun f => hc _ (by intro t e; cases e)
    intro t ht; cases (show some 20 = some t from ht)
    refine ⟨fun _ => ?_, fun hn => absurd (hd 20 (by kernel_rfl)) hn⟩
    have h24 : ρ (.tmp 24) = .bool true := hd 24 (by kernel_rfl)
    have h27 : ρ (.tmp 27) = .bool true := hd 27 (by kernel_rfl)
    exact Lin.Runs.value Lin.keeps (v := .bool false) (by simp [execOp, go_sem, h24, h27]) rfl
  · intro ρ wq hb ho hc hd
    have hC : ∀ v, ρ (.const v) = v := fun v => hc _ (by intro t e; cases e)
    have hF : ∀ f, ρ (.func f) = .func (.func f) #[] #[] := fun f => hc _ (by intro t e; cases e)
    have h20 : ρ (.tmp 20) = .bool false := hd 20 (by kernel_rfl)
    have h28 : ρ (.tmp 28) = .bool false := hd 28 (by kernel_rfl)
    exact Lin.Runs.value Lin.keeps (v := .bool false) (by simp [execOp, go_sem, hC, h20, h28]) rfl
  · intro vals w5 hb2 hv
    have e29 := hv 29 (by kernel_rfl)
    have HG9 := hide (HG.out.below hb2 HG.out.lt); have HK9 := hide (HK.out.below hb2 HK.out.lt); have HF9 := hide (HF.out.below hb2 HF.out.lt); have HB9 := Lib.hid (HB.out.trans (hb2.mono HB.out.size)); have HV9 := hide (HV.out.st hb2)
    clear hv hb2 HG HK HF HB HV
    have HG := HG9; have HK := HK9; have HF := HF9; have HB := HB9; have HV := HV9
    clear HG9 HK9 HF9 HB9 HV9
    simp only [Lin.putAll, Option.getD_some]
    rw [show vals 29 = .bool false from e29]
    go_simp
    generalize vals = vv
    have a0 := HG.out.cell 0
    have a1 := HG.out.cell 1
    have a2 := HG.out.cell 2
    have a3 := HG.out.cell 3
    have b0 := HK.out.cell 0
    have b1 := HK.out.cell 1
    have b2 := HK.out.cell 2
    have b3 := HK.out.cell 3
    simp at a0 a1 a2 a3 b0 b1 b2 b3
    go_wp2_with fail
    refine (rright sm na mo li ps pp pl A n c hmo hpl hpp (by omega) _).mono ?_
    rintro e w6 ⟨rfl, hb2⟩
    rw [HR.out]
    have HG9 := hide (HG.out.below hb2 HG.out.lt); have HK9 := hide (HK.out.below hb2 HK.out.lt); have HF9 := hide (HF.out.below hb2 HF.out.lt); have HB9 := Lib.hid (HB.out.trans (hb2.mono HB.out.size)); have HV9 := hide (HV.out.st hb2)
    clear hb2 HG HK HF HB HV a0 a1 a2 a3 b0 b1 b2 b3
    have HG := HG9; have HK := HK9; have HF := HF9; have HB := HB9; have HV := HV9
    clear HG9 HK9 HF9 HB9 HV9
    go_wp2_with fail
    refine Lin.wp_region_lin Lin.keeps (n := 56)  (fun slotq => match slotq with | 43 => Lin.Spec.val (fileV sm na (mo : Int) (li : Int)) | 44 => Lin.Spec.val (pktV (ps : Int) (pp : Int) (pl : Int) (.slice A n c)) | 45 => Lin.Spec.val (pktV (ps : Int) (pp : Int) (pl : Int) (.slice A n c)) | 46 => Lin.Spec.sl (pktF sm ps pp n pl l) (16 + n) | 47 => Lin.Spec.val (.string (strOfNums (pktF sm ps pp n pl l))) | 48 => Lin.Spec.val (fileV sm na (mo : Int) (li : Int)) | 49 => Lin.Spec.val (pktV (ps : Int) (pp : Int) (pl : Int) (.slice A n c)) | 50 => Lin.Spec.sl (pktF sm ps pp n pl l) (16 + n) | 51 => Lin.Spec.val (.string (strOfNums (pktF sm ps pp n pl l))) | 52 => Lin.Spec.val (.bool true) | 53 => Lin.Spec.val (.bool true) | 54 => Lin.Spec.val (.bool true) | 55 => Lin.Spec.val (.bool true) | 4 => Lin.Spec.val (.bool true) | _ => Lin.Spec.any) (by kernel_rfl) rfl (by kernel_rfl) ⟨?_, ?_, ?_, ?_, ?_, ?_, ?_, ?_, ?_, ?_, ?_, ?_, ?_, ?_, trivial⟩ ?_
    · intro ρ wq hb ho hc hd
      have hC : ∀ v, ρ (.const v) = v := fun v => hc _ (by intro t e; cases e)
      have hF : ∀ f, ρ (.func f) = .func (.func f) #[] #[] := fun f => hc _ (by intro t e; cases e)
      have h5 : ρ (.tmp 5) = .pointer (some ⟨g5, 0, none⟩) := ho 5 (by kernel_rfl)
      have hg8 := HF.out.below hb HF.out.lt
      have m0 := hg8.cell 0
      have m1 := hg8.cell 1
      have m2 := hg8.cell 2
      have m3 := hg8.cell 3
      simp at m0 m1 m2 m3
      exact Lin.Runs.value Lin.keeps (v := fileV sm na (mo : Int) (li : Int)) (by simp [fileV, execOp, go_sem, h5, m0, m1, m2, m3]) rfl
    · intro ρ wq hb ho hc hd
      have hC : ∀ v, ρ (.const v) = v := fun v => hc _ (by intro t e; cases e)
      have hF : ∀ f, ρ (.func f) = .func (.func f) #[] #[] := fun f => hc _ (by intro t e; cases e)
      have h3 : ρ (.tmp 3) = .pointer (some ⟨w.heap.size + 1, 0, none⟩) := ho 3 (by kernel_rfl)
      have hg8 := HK.out.below hb HK.out.lt
      have m0 := hg8.cell 0
      have m1 := hg8.cell 1
      have m2 := hg8.cell 2
      have m3 := hg8.cell 3
      simp at m0 m1 m2 m3
      exact Lin.Runs.value Lin.keeps (v := pktV (ps : Int) (pp : Int) (pl : Int) (.slice A n c)) (by simp [pktV, execOp, go_sem, h3, m0, m1, m2, m3]) rfl
    · intro ρ wq hb ho hc hd
      have hC : ∀ v, ρ (.const v) = v := fun v => hc _ (by intro t e; cases e)
      have hF : ∀ f, ρ (.func f) = .func (.func f) #[] #[] := fun f => hc _ (by intro t e; cases e)
      have h44 : ρ (.tmp 44) = pktV (ps : Int) (pp : Int) (pl : Int) (.slice A n c) := hd 44 (by kernel_rfl)
      exact Lin.Runs.call Lin.keeps (f := 62) (args := #[pktV (ps : Int) (pp : Int) (pl : Int) (.slice A n c)]) (by simp [pktV, execOp, go_sem, hF, h44]) ((cpacket ps pp pl A n c wq).mono fun e w9 h => ⟨_, h.1, h.2, rfl⟩)
    · intro ρ wq hb ho hc hd
      have hC : ∀ v, ρ (.const v) = v := fun v => hc _ (by intro t e; cases e)
      have hF : ∀ f, ρ (.func f) = .func (.func f) #[] #[] := fun f => hc _ (by intro t e; cases e)
      have h43 : ρ (.tmp 43) = fileV sm na (mo : Int) (li : Int) := hd 43 (by kernel_rfl)
      have h45 : ρ (.tmp 45) = pktV (ps : Int) (pp : Int) (pl : Int) (.slice A n c) := hd 45 (by kernel_rfl)
      exact Lin.Runs.call Lin.keeps (f := 64) (args := #[fileV sm na (mo : Int) (li : Int), pktV (ps : Int) (pp : Int) (pl : Int) (.slice A n c)]) (by simp [fileV, pktV, execOp, go_sem, hF, h43, h45]) (cwrite_yes sm na mo li ps pp pl A n c l hmo hli hps hpp hpl (by omega) wq (HV.out.st hb) HR.out)
    · intro ρ wq hb ho hc hd
      have hC : ∀ v, ρ (.const v) = v := fun v => hc _ (by intro t e; cases e)
      have hF : ∀ f, ρ (.func f) = .func (.func f) #[] #[] := fun f => hc _ (by intro t e; cases e)
      have h46 := hd 46 (by kernel_rfl)
      exact Lin.Runs.value Lin.keeps (Lin.exec_convert rfl h46.conv) rfl
    · intro ρ wq hb ho hc hd
      have hC : ∀ v, ρ (.const v) = v := fun v => hc _ (by intro t e; cases e)
      have hF : ∀ f, ρ (.func f) = .func (.func f) #[] #[] := fun f => hc _ (by intro t e; cases e)
      have h2 : ρ (.tmp 2) = .pointer (some ⟨w.heap.size, 0, none⟩) := ho 2 (by kernel_rfl)
      have hg8 := HG.out.below hb HG.out.lt
      have m0 := hg8.cell 0
      have m1 := hg8.cell 1
      have m2 := hg8.cell 2
      have m3 := hg8.cell 3
      simp at m0 m1 m2 m3
      exact Lin.Runs.value Lin.keeps (v := fileV sm na (mo : Int) (li : Int)) (by simp [fileV, execOp, go_sem, h2, m0, m1, m2, m3]) rfl
    · intro ρ wq hb ho hc hd
      have hC : ∀ v, ρ (.const v) = v := fun v => hc _ (by intro t e; cases e)
      have hF : ∀ f, ρ (.func f) = .func (.func f) #[] #[] := fun f => hc _ (by intro t e; cases e)
      have h3 : ρ (.tmp 3) = .pointer (some ⟨w.heap.size + 1, 0, none⟩) := ho 3 (by kernel_rfl)
      have hg8 := HK.out.below hb HK.out.lt
      have m0 := hg8.cell 0
      have m1 := hg8.cell 1
      have m2 := hg8.cell 2
      have m3 := hg8.cell 3
      simp at m0 m1 m2 m3
      exact Lin.Runs.value Lin.keeps (v := pktV (ps : Int) (pp : Int) (pl : Int) (.slice A n c)) (by simp [pktV, execOp, go_sem, h3, m0, m1, m2, m3]) rfl
    · intro ρ wq hb ho hc hd
      have hC : ∀ v, ρ (.const v) = v := fun v => hc _ (by intro t e; cases e)
      have hF : ∀ f, ρ (.func f) = .func (.func f) #[] #[] := fun f => hc _ (by intro t e; cases e)
      have h48 : ρ (.tmp 48) = fileV sm na (mo : Int) (li : Int) := hd 48 (by kernel_rfl)
      have h49 : ρ (.tmp 49) = pktV (ps : Int) (pp : Int) (pl : Int) (.slice A n c) := hd 49 (by kernel_rfl)
      exact Lin.Runs.call Lin.keeps (f := 65) (args := #[fileV sm na (mo : Int) (li : Int), pktV (ps : Int) (pp : Int) (pl : Int) (.slice A n c)]) (by simp [fileV, pktV, execOp, go_sem, hF, h48, h49]) (rwrite sm na mo li ps pp pl A n c l hmo hli hps hpp hpl (by omega) wq (HV.out.st hb))
    · intro ρ wq hb ho hc hd
      have hC : ∀ v, ρ (.const v) = v := fun v => hc _ (by intro t e; cases e)
      have hF : ∀ f, ρ (.func f) = .func (.func f) #[] #[] := fun f => hc _ (by intro t e; cases e)
      have h50 := hd 50 (by kernel_rfl)
      exact Lin.Runs.value Lin.keeps (Lin.exec_convert rfl h50.conv) rfl
    · intro ρ wq hb ho hc hd
      have hC : ∀ v, ρ (.const v) = v := fun v => hc _ (by intro t e; cases e)
      have hF : ∀ f, ρ (.func f) = .func (.func f) #[] #[] := fun f => hc _ (by intro t e; cases e)
      have h47 : ρ (.tmp 47) = .string (strOfNums (pktF sm ps pp n pl l)) := hd 47 (by kernel_rfl)
      have h51 : ρ (.tmp 51) = .string (strOfNums (pktF sm ps pp n pl l)) := hd 51 (by kernel_rfl)
      exact Lin.Runs.value Lin.keeps (v := .bool true) (by simp [execOp, go_sem, h47, h51]) rfl
    · intro ρ wq hb ho hc hd
      have hC : ∀ v, ρ (.const v) = v := fun v => hc _ (by intro t e; cases e)
      have hF : ∀ f, ρ (.func f) = .func (.func f) #[] #[] := fun f => hc _ (by intro t e; cases e)
      have h52 : ρ (.tmp 52) = .bool true := hd 52 (by kernel_rfl)
      exact Lin.Runs.value Lin.keeps (Lin.exec_move rfl) h52
    · intro ρ wq hb ho hc hd
      have hC : ∀ v, ρ (.const v) = v := fun v => hc _ (by intro t e; cases e)
      have hF : ∀ f, ρ (.func f) = .func (.func f) #[] #[] := fun f => hc _ (by intro t e; cases e)
      intro t ht; cases (show some 53 = some t from ht)
      refine ⟨fun _ => ?_, fun hn => absurd (hd 53 (by kernel_rfl)) hn⟩
      refine Lin.Runs.call Lin.keeps (f := 57) (args := #[]) (by simp [execOp, go_sem, hF]) ?_
      exact (awake45 wq).mono fun e w9 h => ⟨_, h.1, h.2, rfl⟩
    · intro ρ wq hb ho hc hd
      have hC : ∀ v, ρ (.const v) = v := fun v => hc _ (by intro t e; cases e)
      have hF : ∀ f, ρ (.func f) = .func (.func f) #[] #[] := fun f => hc _ (by intro t e; cases e)
      have h53 : ρ (.tmp 53) = .bool true := hd 53 (by kernel_rfl)
      have h54 : ρ (.tmp 54) = .bool true := hd 54 (by kernel_rfl)
      exact Lin.Runs.value Lin.keeps (v := .bool true) (by simp [execOp, go_sem, hC, h53, h54]) rfl
    · intro ρ wq hb ho hc hd
      have hC : ∀ v, ρ (.const v) = v := fun v => hc _ (by intro t e; cases e)
      have hF : ∀ f, ρ (.func f) = .func (.func f) #[] #[] := fun f => hc _ (by intro t e; cases e)
      have h55 : ρ (.tmp 55) = .bool true := hd 55 (by kernel_rfl)
      exact Lin.Runs.value Lin.keeps (Lin.exec_assign rfl) h55
    · intro vals w7 hb2 hv
      have e4 := hv 4 (by kernel_rfl)
      have HB7 := Lib.hid (HB.out.trans (hb2.mono HB.out.size))
      clear hv hb2
      simp only [Lin.putAll, Option.getD_some]
      rw [show vals 4 = .bool true from e4]
      go_simp
      generalize vals = vv
      go_wp2_with fail
      go_ret
      exact ⟨rfl, HB7.out⟩
set_option maxHeartbeats 4000000 in
theorem walk_no (sm na : Bool) (mo li ps pp pl : Nat) (A : Option Addr) (n c : Nat) (l : List Int) (hmo : mo < 4294967296) (hli : li < 4294967296) (hps : ps < 4294967296) (hpp : pp < 4294967296) (hpl : pl < 4294967296) (w : World) (hv : IsB l n (.slice A n c) w) (hn : n ≤ 2000) (hr : rightF na mo pp pl n = false) : Calls Try.prog 9 #[fileV sm na (mo : Int) (li : Int), pktV (ps : Int) (pp : Int) (pl : Int) (.slice A n c)] w fun e w' => e = .returned (.bool true) ∧ Below w.heap.size w w' := by
  have HR := Lib.hid hr
  clear hr
  unfold fileV pktV
  have hz : ¬ (2000 : Int) < (n : Int) := by omega
  have hb0 : Below w.heap.size w ((w.alloc (.cells #[.bool sm, .bool na, .int .u32 (mo : Int), .int .u32 (li : Int)] 82)).alloc (.cells #[.int .u32 (ps : Int), .int .u32 (pp : Int), .int .u32 (pl : Int), .slice A n c] 84)) := ((Below.refl _ _).alloc (Nat.le_refl _) _).alloc (by simp) _
  have hg0 := (Is.new w 82 #[.bool sm, .bool na, .int .u32 (mo : Int), .int .u32 (li : Int)]).alloc (.cells #[.int .u32 (ps : Int), .int .u32 (pp : Int), .int .u32 (pl : Int), .slice A n c] 84)
  have hk0 := Is.new (w.alloc (.cells #[.bool sm, .bool na, .int .u32 (mo : Int), .int .u32 (li : Int)] 82)) 84 #[.int .u32 (ps : Int), .int .u32 (pp : Int), .int .u32 (pl : Int), .slice A n c]
  rw [show (w.alloc (.cells #[.bool sm, .bool na, .int .u32 (mo : Int), .int .u32 (li : Int)] 82)).heap.size = w.heap.size + 1 from by simp] at hk0
  have hs0 : w.heap.size + 2 ≤ ((w.alloc (.cells #[.bool sm, .bool na, .int .u32 (mo : Int), .int .u32 (li : Int)] 82)).alloc (.cells #[.int .u32 (ps : Int), .int .u32 (pp : Int), .int .u32 (pl : Int), .slice A n c] 84)).heap.size := by simp
  go_enter Try.func9, Try.ntmps9
  go_wp2_with fail
  generalize ((w.alloc (.cells #[.bool sm, .bool na, .int .u32 (mo : Int), .int .u32 (li : Int)] 82)).alloc (.cells #[.int .u32 (ps : Int), .int .u32 (pp : Int), .int .u32 (pl : Int), .slice A n c] 84)) = W at *
  refine (cto sm na mo li _).mono ?_
  rintro e w1 ⟨rfl, hb⟩
  have hg1 := hg0.below hb (by omega); have hk1 := hk0.below hb (by omega); have hb1 := hb0.trans (hb.mono hb0.size); have hs1 := Nat.le_trans hs0 hb.size
  clear hb hb0 hg0 hk0 hs0
  unfold fileV
  go_wp2_with fail
  have hb3 := hb1.alloc hb1.size (.cells #[.bool sm, .bool na, .int .u32 (mo : Int), .int .u32 (li : Int)] 85)
  have HG := hide (hg1.alloc (.cells #[.bool sm, .bool na, .int .u32 (mo : Int), .int .u32 (li : Int)] 85)); have HK := hide (hk1.alloc (.cells #[.bool sm, .bool na, .int .u32 (mo : Int), .int .u32 (li : Int)] 85)); have HF := hide (Is.new w1 85 #[.bool sm, .bool na, .int .u32 (mo : Int), .int .u32 (li : Int)]); have HB := Lib.hid hb3; have HV := hide (hv.st hb3)
  clear hg1 hk1 hb1 hs1 hb3 hv
  generalize w1.alloc (.cells #[.bool sm, .bool na, .int .u32 (mo : Int), .int .u32 (li : Int)] 85) = W3 at *
  generalize w1.heap.size = g5 at *
  refine Lin.wp_region_lin Lin.keeps (n := 56)  (fun slotq => match slotq with | 13 => Lin.Spec.val (fileV sm na (mo : Int) (li : Int)) | 14 => Lin.Spec.sl (headF sm na mo li) 24 | 15 => Lin.Spec.val (.string (strOfNums (headF sm na mo li))) | 16 => Lin.Spec.val (fileV sm na (mo : Int) (li : Int)) | 17 => Lin.Spec.sl (headF sm na mo li) 24 | 18 => Lin.Spec.val (.string (strOfNums (headF sm na mo li))) | 19 => Lin.Spec.val (.bool false) | 20 => Lin.Spec.val (.bool false) | 21 => Lin.Spec.val (fileV sm na (mo : Int) (li : Int)) | 22 => Lin.Spec.val (pktV (ps : Int) (pp : Int) (pl : Int) (.slice A n c)) | 23 => Lin.Spec.val (pktV (ps : Int) (pp : Int) (pl : Int) (.slice A n c)) | 24 => Lin.Spec.val (.bool false) | 25 => Lin.Spec.val (fileV sm na (mo : Int) (li : Int)) | 26 => Lin.Spec.val (pktV (ps : Int) (pp : Int) (pl : Int) (.slice A n c)) | 27 => Lin.Spec.val (.bool false) | 28 => Lin.Spec.val (.bool false) | 29 => Lin.Spec.val (.bool false) | _ => Lin.Spec.any) (by kernel_rfl) rfl (by kernel_rfl) ⟨?_, ?_, ?_, ?_, ?_, ?_, ?_, ?_, ?_, ?_, ?_, ?_, ?_, ?_, ?_, ?_, ?_, trivial⟩ ?_
  · intro ρ wq hb ho hc hd
    have hC : ∀ v, ρ (.const v) = v := fun v => hc _ (by intro t e; cases e)
    have hF : ∀ f, ρ (.func f) = .func (.func f) #[] #[] := fun f => hc _ (by intro t e; cases e)
    have h5 : ρ (.tmp 5) = .pointer (some ⟨g5, 0, none⟩) := ho 5 (by kernel_rfl)
    have hg8 := HF.out.below hb HF.out.lt
    have m0 := hg8.cell 0
    have m1 := hg8.cell 1
    have m2 := hg8.cell 2
    have m3 := hg8.cell 3
    simp at m0 m1 m2 m3
    exact Lin.Runs.value Lin.keeps (v := fileV sm na (mo : Int) (li : Int)) (by simp [fileV, execOp, go_sem, h5, m0, m1, m2, m3]) rfl
  · intro ρ wq hb ho hc hd
    have hC : ∀ v, ρ (.const v) = v := fun v => hc _ (by intro t e; cases e)
    have hF : ∀ f, ρ (.func f) = .func (.func f) #[] #[] := fun f => hc _ (by intro t e; cases e)
    have h13 : ρ (.tmp 13) = fileV sm na (mo : Int) (li : Int) := hd 13 (by kernel_rfl)
    exact Lin.Runs.call Lin.keeps (f := 59) (args := #[fileV sm na (mo : Int) (li : Int)]) (by simp [fileV, execOp, go_sem, hF, h13]) ((chead sm na mo li hmo hli wq).mono fun e w9 ⟨v9, e1, e2, e3⟩ => ⟨v9, e1, e2, e3.isb⟩)
  · intro ρ wq hb ho hc hd
    have hC : ∀ v, ρ (.const v) = v := fun v => hc _ (by intro t e; cases e)
    have hF : ∀ f, ρ (.func f) = .func (.func f) #[] #[] := fun f => hc _ (by intro t e; cases e)
    have h14 := hd 14 (by kernel_rfl)
    exact Lin.Runs.value Lin.keeps (Lin.exec_convert rfl h14.conv) rfl
  · intro ρ wq hb ho hc hd
    have hC : ∀ v, ρ (.const v) = v := fun v => hc _ (by intro t e; cases e)
    have hF : ∀ f, ρ (.func f) = .func (.func f) #[] #[] := fun f => hc _ (by intro t e; cases e)
    have h2 : ρ (.tmp 2) = .pointer (some ⟨w.heap.size, 0, none⟩) := ho 2 (by kernel_rfl)
    have hg8 := HG.out.below hb HG.out.lt
    have m0 := hg8.cell 0
    have m1 := hg8.cell 1
    have m2 := hg8.cell 2
    have m3 := hg8.cell 3
    simp at m0 m1 m2 m3
    exact Lin.Runs.value Lin.keeps (v := fileV sm na (mo : Int) (li : Int)) (by simp [fileV, execOp, go_sem, h2, m0, m1, m2, m3]) rfl
  · intro ρ wq hb ho hc hd
    have hC : ∀ v, ρ (.const v) = v := fun v => hc _ (by intro t e; cases e)
    have hF : ∀ f, ρ (.func f) = .func (.func f) #[] #[] := fun f => hc _ (by intro t e; cases e)
    have h16 : ρ (.tmp 16) = fileV sm na (mo : Int) (li : Int) := hd 16 (by kernel_rfl)
    exact Lin.Runs.call Lin.keeps (f := 60) (args := #[fileV sm na (mo : Int) (li : Int)]) (by simp [fileV, execOp, go_sem, hF, h16]) (rhead sm na mo li hmo hli wq)
  · intro ρ wq hb ho hc hd
    have hC : ∀ v, ρ (.const v) = v := fun v => hc _ (by intro t e; cases e)
    have hF : ∀ f, ρ (.func f) = .func (.func f) #[] #[] := fun f => hc _ (by intro t e; cases e)
    have h17 := hd 17 (by kernel_rfl)
    exact Lin.Runs.value Lin.keeps (Lin.exec_convert rfl h17.conv) rfl
  · intro ρ wq hb ho hc hd
    have hC : ∀ v, ρ (.const v) = v := fun v => hc _ (by intro t e; cases e)
    have hF : ∀ f, ρ (.func f) = .func (.func f) #[] #[] := fun f => hc _ (by intro t e; cases e)
    have h15 : ρ (.tmp 15) = .string (strOfNums (headF sm na mo li)) := hd 15 (by kernel_rfl)
    have h18 : ρ (.tmp 18) = .string (strOfNums (headF sm na mo li)) := hd 18 (by kernel_rfl)
    exact Lin.Runs.value Lin.keeps (v := .bool false) (by simp [execOp, go_sem, h15, h18]) rfl
  · intro ρ wq hb ho hc hd
    have hC : ∀ v, ρ (.const v) = v := fun v => hc _ (by intro t e; cases e)
    have hF : ∀ f, ρ (.func f) = .func (.func f) #[] #[] := fun f => hc _ (by intro t e; cases e)
    have h19 : ρ (.tmp 19) = .bool false := hd 19 (by kernel_rfl)
    exact Lin.Runs.value Lin.keeps (Lin.exec_move rfl) h19
  · intro ρ wq hb ho hc hd
    have hC : ∀ v, ρ (.const v) = v := fun v => hc _ (by intro t e; cases e)
    have hF : ∀ f, ρ (.func f) = .func (.func f) #[] #[] := fun f => hc _ (by intro t e; cases e)
    intro t ht; cases (show some 20 = some t from ht)
    refine ⟨fun _ => ?_, fun hn => absurd (hd 20 (by kernel_rfl)) hn⟩
    have h5 : ρ (.tmp 5) = .pointer (some ⟨g5, 0, none⟩) := ho 5 (by kernel_rfl)
    have hg8 := HF.out.below hb HF.out.lt
    have m0 := hg8.cell 0
    have m1 := hg8.cell 1
    have m2 := hg8.cell 2
    have m3 := hg8.cell 3
    simp at m0 m1 m2 m3
    exact Lin.Runs.value Lin.keeps (v := fileV sm na (mo : Int) (li : Int)) (by simp [fileV, execOp, go_sem, h5, m0, m1, m2, m3]) rfl
  · intro ρ wq hb ho hc hd
    have hC : ∀ v, ρ (.const v) = v := fun v => hc _ (by intro t e; cases e)
    have hF : ∀ f, ρ (.func f) = .func (.func f) #[] #[] := fun f => hc _ (by intro t e; cases e)
    intro t ht; cases (show some 20 = some t from ht)
    refine ⟨fun _ => ?_, fun hn => absurd (hd 20 (by kernel_rfl)) hn⟩
    have h3 : ρ (.tmp 3) = .pointer (some ⟨w.heap.size + 1, 0, none⟩) := ho 3 (by kernel_rfl)
    have hg8 := HK.out.below hb HK.out.lt
    have m0 := hg8.cell 0
    have m1 := hg8.cell 1
    have m2 := hg8.cell 2
    have m3 := hg8.cell 3
    simp at m0 m1 m2 m3
    exact Lin.Runs.value Lin.keeps (v := pktV (ps : Int) (pp : Int) (pl : Int) (.slice A n c)) (by simp [pktV, execOp, go_sem, h3, m0, m1, m2, m3]) rfl
  · intro ρ wq hb ho hc hd
    have hC : ∀ v, ρ (.const v) = v := fun v => hc _ (by intro t e; cases e)
    have hF : ∀ f, ρ (.func f) = .func (.func f) #[] #[] := fun f => hc _ (by intro t e; cases e)
    intro t ht; cases (show some 20 = some t from ht)
    refine ⟨fun _ => ?_, fun hn => absurd (hd 20 (by kernel_rfl)) hn⟩
    have h22 : ρ (.tmp 22) = pktV (ps : Int) (pp : Int) (pl : Int) (.slice A n c) := hd 22 (by kernel_rfl)
    exact Lin.Runs.call Lin.keeps (f := 62) (args := #[pktV (ps : Int) (pp : Int) (pl : Int) (.slice A n c)]) (by simp [pktV, execOp, go_sem, hF, h22]) ((cpacket ps pp pl A n c wq).mono fun e w9 h => ⟨_, h.1, h.2, rfl⟩)
  · intro ρ wq hb ho hc hd
    have hC : ∀ v, ρ (.const v) = v := fun v => hc _ (by intro t e; cases e)
    have hF : ∀ f, ρ (.func f) = .func (.func f) #[] #[] := fun f => hc _ (by intro t e; cases e)
    intro t ht; cases (show some 20 = some t from ht)
    refine ⟨fun _ => ?_, fun hn => absurd (hd 20 (by kernel_rfl)) hn⟩
    have h21 : ρ (.tmp 21) = fileV sm na (mo : Int) (li : Int) := hd 21 (by kernel_rfl)
    have h23 : ρ (.tmp 23) = pktV (ps : Int) (pp : Int) (pl : Int) (.slice A n c) := hd 23 (by kernel_rfl)
    exact Lin.Runs.call Lin.keeps (f := 61) (args := #[fileV sm na (mo : Int) (li : Int), pktV (ps : Int) (pp : Int) (pl : Int) (.slice A n c)]) (by simp [fileV, pktV, execOp, go_sem, hF, h21, h23]) ((cright sm na mo li ps pp pl A n c hmo hpl hpp (by omega) wq).mono fun e w9 h => ⟨_, h.1, h.2, by rw [HR.out]; rfl⟩)
  · intro ρ wq hb ho hc hd
    have hC : ∀ v, ρ (.const v) = v := fun v => hc _ (by intro t e; cases e)
    have hF : ∀ f, ρ (.func f) = .func (.func f) #[] #[] := fun f => hc _ (by intro t e; cases e)
    intro t ht; cases (show some 20 = some t from ht)
    refine ⟨fun _ => ?_, fun hn => absurd (hd 20 (by kernel_rfl)) hn⟩
    have h2 : ρ (.tmp 2) = .pointer (some ⟨w.heap.size, 0, none⟩) := ho 2 (by kernel_rfl)
    have hg8 := HG.out.below hb HG.out.lt
    have m0 := hg8.cell 0
    have m1 := hg8.cell 1
    have m2 := hg8.cell 2
    have m3 := hg8.cell 3
    simp at m0 m1 m2 m3
    exact Lin.Runs.value Lin.keeps (v := fileV sm na (mo : Int) (li : Int)) (by simp [fileV, execOp, go_sem, h2, m0, m1, m2, m3]) rfl
  · intro ρ wq hb ho hc hd
    have hC : ∀ v, ρ (.const v) = v := fun v => hc _ (by intro t e; cases e)
    have hF : ∀ f, ρ (.func f) = .func (.func f) #[] #[] := fun f => hc _ (by intro t e; cases e)
    intro t ht; cases (show some 20 = some t from ht)
    refine ⟨fun _ => ?_, fun hn => absurd (hd 20 (by kernel_rfl)) hn⟩
    have h3 : ρ (.tmp 3) = .pointer (some ⟨w.heap.size + 1, 0, none⟩) := ho 3 (by kernel_rfl)
    have hg8 := HK.out.below hb HK.out.lt
    have m0 := hg8.cell 0
    have m1 := hg8.cell 1
    have m2 := hg8.cell 2
    have m3 := hg8.cell 3
    simp at m0 m1 m2 m3
    exact Lin.Runs.value Lin.keeps (v := pktV (ps : Int) (pp : Int) (pl : Int) (.slice A n c)) (by simp [pktV, execOp, go_sem, h3, m0, m1, m2, m3]) rfl
  · intro ρ wq hb ho hc hd
    have hC : ∀ v, ρ (.const v) = v := fun v => hc _ (by intro t e; cases e)
    have hF : ∀ f, ρ (.func f) = .func (.func f) #[] #[] := fun f => hc _ (by intro t e; cases e)
    intro t ht; cases (show some 20 = some t from ht)
    refine ⟨fun _ => ?_, fun hn => absurd (hd 20 (by kernel_rfl)) hn⟩
    have h25 : ρ (.tmp 25) = fileV sm na (mo : Int) (li : Int) := hd 25 (by kernel_rfl)
    have h26 : ρ (.tmp 26) = pktV (ps : Int) (pp : Int) (pl : Int) (.slice A n c) := hd 26 (by kernel_rfl)
    exact Lin.Runs.call Lin.keeps (f := 63) (args := #[fileV sm na (mo : Int) (li : Int), pktV (ps : Int) (pp : Int) (pl : Int) (.slice A n c)]) (by simp [fileV, pktV, execOp, go_sem, hF, h25, h26]) ((rright sm na mo li ps pp pl A n c hmo hpl hpp (by omega) wq).mono fun e w9 h => ⟨_, h.1, h.2, by rw [HR.out]; rfl⟩)
  · intro ρ wq hb ho hc hd
    have hC : ∀ v, ρ (.const v) = v := fun v => hc _ (by intro t e; cases e)
    have hF : ∀ f, ρ (.func f) = .func (.func f) #[] #[] := fun f => hc _ (by intro t e; cases e)
    intro t ht; cases (show some 20 = some t from ht)
    refine ⟨fun _ => ?_, fun hn => absurd (hd 20 (by kernel_rfl)) hn⟩
    have h24 : ρ (.tmp 24) = .bool false := hd 24 (by kernel_rfl)
    have h27 : ρ (.tmp 27) = .bool false := hd 27 (by kernel_rfl)
    exact Lin.Runs.value Lin.keeps (v := .bool false) (by simp [execOp, go_sem, h24, h27]) rfl
  · intro ρ wq hb ho hc hd
    have hC : ∀ v, ρ (.const v) = v := fun v => hc _ (by intro t e; cases e)
    have hF : ∀ f, ρ (.func f) = .func (.func f) #[] #[] := fun f => hc _ (by intro t e; cases e)
    have h20 : ρ (.tmp 20) = .bool false := hd 20 (by kernel_rfl)
    have h28 : ρ (.tmp 28) = .bool false := hd 28 (by kernel_rfl)
    exact Lin.Runs.value Lin.keeps (v := .bool false) (by simp [execOp, go_sem, hC, h20, h28]) rfl
  · intro vals w5 hb2 hv
    have e29 := hv 29 (by kernel_rfl)
    have HG9 := hide (HG.out.below hb2 HG.out.lt); have HK9 := hide (HK.out.below hb2 HK.out.lt); have HF9 := hide (HF.out.below hb2 HF.out.lt); have HB9 := Lib.hid (HB.out.trans (hb2.mono HB.out.size)); have HV9 := hide (HV.out.st hb2)
    clear hv hb2 HG HK HF HB HV
    have HG := HG9; have HK := HK9; have HF := HF9; have HB := HB9; have HV := HV9
    clear HG9 HK9 HF9 HB9 HV9
    simp only [Lin.putAll, Option.getD_some]
    rw [show vals 29 = .bool false from e29]
    go_simp
    generalize vals = vv
    have a0 := HG.out.cell 0
    have a1 := HG.out.cell 1
    have a2 := HG.out.cell 2
    have a3 := HG.out.cell 3
    have b0 := HK.out.cell 0
    have b1 := HK.out.cell 1
    have b2 := HK.out.cell 2
    have b3 := HK.out.cell 3
    simp at a0 a1 a2 a3 b0 b1 b2 b3
    go_wp2_with fail
    refine (rright sm na mo li ps pp pl A n c hmo hpl hpp (by omega) _).mono ?_
    rintro e w6 ⟨rfl, hb2⟩
    rw [HR.out]
    have HG9 := hide (HG.out.below hb2 HG.out.lt); have HK9 := hide (HK.out.below hb2 HK.out.lt); have HF9 := hide (HF.out.below hb2 HF.out.lt); have HB9 := Lib.hid (HB.out.trans (hb2.mono HB.out.size)); have HV9 := hide (HV.out.st hb2)
    clear hb2 HG HK HF HB HV a0 a1 a2 a3 b0 b1 b2 b3
    have HG := HG9; have HK := HK9; have HF := HF9; have HB := HB9; have HV := HV9
    clear HG9 HK9 HF9 HB9 HV9
    go_wp2_with fail
    refine Lin.wp_region_lin Lin.keeps (n := 56)  (fun slotq => match slotq with | 34 => Lin.Spec.val (fileV sm na (mo : Int) (li : Int)) | 35 => Lin.Spec.val (pktV (ps : Int) (pp : Int) (pl : Int) (.slice A n c)) | 36 => Lin.Spec.val (pktV (ps : Int) (pp : Int) (pl : Int) (.slice A n c)) | 37 => Lin.Spec.val (.slice none 0 0) | 38 => Lin.Spec.val (.int .i64 0) | 39 => Lin.Spec.val (.bool true) | 40 => Lin.Spec.val (.bool true) | 41 => Lin.Spec.val (.bool true) | 42 => Lin.Spec.val (.bool true) | 4 => Lin.Spec.val (.bool true) | _ => Lin.Spec.any) (by kernel_rfl) rfl (by kernel_rfl) ⟨?_, ?_, ?_, ?_, ?_, ?_, ?_, ?_, ?_, ?_, trivial⟩ ?_
    · intro ρ wq hb ho hc hd
      have hC : ∀ v, ρ (.const v) = v := fun v => hc _ (by intro t e; cases e)
      have hF : ∀ f, ρ (.func f) = .func (.func f) #[] #[] := fun f => hc _ (by intro t e; cases e)
      have h5 : ρ (.tmp 5) = .pointer (some ⟨g5, 0, none⟩) := ho 5 (by kernel_rfl)
      have hg8 := HF.out.below hb HF.out.lt
      have m0 := hg8.cell 0
      have m1 := hg8.cell 1
      have m2 := hg8.cell 2
      have m3 := hg8.cell 3
      simp at m0 m1 m2 m3
      exact Lin.Runs.value Lin.keeps (v := fileV sm na (mo : Int) (li : Int)) (by simp [fileV, execOp, go_sem, h5, m0, m1, m2, m3]) rfl
    · intro ρ wq hb ho hc hd
      have hC : ∀ v, ρ (.const v) = v := fun v => hc _ (by intro t e; cases e)
      have hF : ∀ f, ρ (.func f) = .func (.func f) #[] #[] := fun f => hc _ (by intro t e; cases e)
      have h3 : ρ (.tmp 3) = .pointer (some ⟨w.heap.size + 1, 0, none⟩) := ho 3 (by kernel_rfl)
      have hg8 := HK.out.below hb HK.out.lt
      have m0 := hg8.cell 0
      have m1 := hg8.cell 1
      have m2 := hg8.cell 2
      have m3 := hg8.cell 3
      simp at m0 m1 m2 m3
      exact Lin.Runs.value Lin.keeps (v := pktV (ps : Int) (pp : Int) (pl : Int) (.slice A n c)) (by simp [pktV, execOp, go_sem, h3, m0, m1, m2, m3]) rfl
    · intro ρ wq hb ho hc hd
      have hC : ∀ v, ρ (.const v) = v := fun v => hc _ (by intro t e; cases e)
      have hF : ∀ f, ρ (.func f) = .func (.func f) #[] #[] := fun f => hc _ (by intro t e; cases e)
      have h35 : ρ (.tmp 35) = pktV (ps : Int) (pp : Int) (pl : Int) (.slice A n c) := hd 35 (by kernel_rfl)
      exact Lin.Runs.call Lin.keeps (f := 62) (args := #[pktV (ps : Int) (pp : Int) (pl : Int) (.slice A n c)]) (by simp [pktV, execOp, go_sem, hF, h35]) ((cpacket ps pp pl A n c wq).mono fun e w9 h => ⟨_, h.1, h.2, rfl⟩)
    · intro ρ wq hb ho hc hd
      have hC : ∀ v, ρ (.const v) = v := fun v => hc _ (by intro t e; cases e)
      have hF : ∀ f, ρ (.func f) = .func (.func f) #[] #[] := fun f => hc _ (by intro t e; cases e)
      have h34 : ρ (.tmp 34) = fileV sm na (mo : Int) (li : Int) := hd 34 (by kernel_rfl)
      have h36 : ρ (.tmp 36) = pktV (ps : Int) (pp : Int) (pl : Int) (.slice A n c) := hd 36 (by kernel_rfl)
      exact Lin.Runs.call Lin.keeps (f := 64) (args := #[fileV sm na (mo : Int) (li : Int), pktV (ps : Int) (pp : Int) (pl : Int) (.slice A n c)]) (by simp [fileV, pktV, execOp, go_sem, hF, h34, h36]) ((cwrite_no sm na mo li ps pp pl A n c hmo hli hps hpp hpl (by omega) wq HR.out).mono fun e w9 h => ⟨_, h.1, h.2, rfl⟩)
    · intro ρ wq hb ho hc hd
      have hC : ∀ v, ρ (.const v) = v := fun v => hc _ (by intro t e; cases e)
      have hF : ∀ f, ρ (.func f) = .func (.func f) #[] #[] := fun f => hc _ (by intro t e; cases e)
      have h37 : ρ (.tmp 37) = .slice none 0 0 := hd 37 (by kernel_rfl)
      exact Lin.Runs.value Lin.keeps (v := .int .i64 0) (by simp [execOp, go_sem, h37]) rfl
    · intro ρ wq hb ho hc hd
      have hC : ∀ v, ρ (.const v) = v := fun v => hc _ (by intro t e; cases e)
      have hF : ∀ f, ρ (.func f) = .func (.func f) #[] #[] := fun f => hc _ (by intro t e; cases e)
      have h38 : ρ (.tmp 38) = .int .i64 0 := hd 38 (by kernel_rfl)
      exact Lin.Runs.value Lin.keeps (v := .bool true) (by simp [execOp, go_sem, hC, h38]) rfl
    · intro ρ wq hb ho hc hd
      have hC : ∀ v, ρ (.const v) = v := fun v => hc _ (by intro t e; cases e)
      have hF : ∀ f, ρ (.func f) = .func (.func f) #[] #[] := fun f => hc _ (by intro t e; cases e)
      have h39 : ρ (.tmp 39) = .bool true := hd 39 (by kernel_rfl)
      exact Lin.Runs.value Lin.keeps (Lin.exec_move rfl) h39
    · intro ρ wq hb ho hc hd
      have hC : ∀ v, ρ (.const v) = v := fun v => hc _ (by intro t e; cases e)
      have hF : ∀ f, ρ (.func f) = .func (.func f) #[] #[] := fun f => hc _ (by intro t e; cases e)
      intro t ht; cases (show some 40 = some t from ht)
      refine ⟨fun _ => ?_, fun hn => absurd (hd 40 (by kernel_rfl)) hn⟩
      refine Lin.Runs.call Lin.keeps (f := 57) (args := #[]) (by simp [execOp, go_sem, hF]) ?_
      exact (awake45 wq).mono fun e w9 h => ⟨_, h.1, h.2, rfl⟩
    · intro ρ wq hb ho hc hd
      have hC : ∀ v, ρ (.const v) = v := fun v => hc _ (by intro t e; cases e)
      have hF : ∀ f, ρ (.func f) = .func (.func f) #[] #[] := fun f => hc _ (by intro t e; cases e)
      have h40 : ρ (.tmp 40) = .bool true := hd 40 (by kernel_rfl)
      have h41 : ρ (.tmp 41) = .bool true := hd 41 (by kernel_rfl)
      exact Lin.Runs.value Lin.keeps (v := .bool true) (by simp [execOp, go_sem, hC, h40, h41]) rfl
    · intro ρ wq hb ho hc hd
      have hC : ∀ v, ρ (.const v) = v := fun v => hc _ (by intro t e; cases e)
      have hF : ∀ f, ρ (.func f) = .func (.func f) #[] #[] := fun f => hc _ (by intro t e; cases e)
      have h42 : ρ (.tmp 42) = .bool true := hd 42 (by kernel_rfl)
      exact Lin.Runs.value Lin.keeps (Lin.exec_assign rfl) h42
    · intro vals w7 hb2 hv
      have e4 := hv 4 (by kernel_rfl)
      have HB7 := Lib.hid (HB.out.trans (hb2.mono HB.out.size))
      clear hv hb2
      simp only [Lin.putAll, Option.getD_some]
      rw [show vals 4 = .bool true from e4]
      go_simp
      generalize vals = vv
      go_wp2_with fail
      go_ret
      exact ⟨rfl, HB7.out⟩
theorem walk (sm na : Bool) (mo li ps pp pl : Nat) (A : Option Addr) (n c : Nat) (l : List Int) (hmo : mo < 4294967296) (hli : li < 4294967296) (hps : ps < 4294967296) (hpp : pp < 4294967296) (hpl : pl < 4294967296) (w : World) (hv : IsB l n (.slice A n c) w) : Calls Try.prog 9 #[fileV sm na (mo : Int) (li : Int), pktV (ps : Int) (pp : Int) (pl : Int) (.slice A n c)] w fun e w' => e = .returned (.bool true) ∧ Below w.heap.size w w' := by
  by_cases h5 : 2000 < n
  · exact walk_long sm na mo li ps pp pl A n c l w h5
  · cases hr : rightF na mo pp pl n with
    | true => exact walk_yes sm na mo li ps pp pl A n c l hmo hli hps hpp hpl w hv (by omega) hr
    | false => exact walk_no sm na mo li ps pp pl A n c l hmo hli hps hpp hpl w hv (by omega) hr
section
open Go.Deep Go.Joins
variable {H : Type} {enc : TypeId × Value → H} {w : World} {held : Bool} {spare : Nat → Bool}
theorem nat_of {n b : Int} (h : 0 ≤ n ∧ n ≤ b) : ∃ k : Nat, n = (k : Int) ∧ (k : Int) ≤ b := ⟨n.toNat, by omega, by omega⟩
theorem open_file {r : Reach} {b0 : Nat} {v : Value} {d : DataW H} {p : List MemPlace} (hv : Value.okWide Try.prog w r b0 82 v) (h : DataW.Trod enc Try.prog w 0 spare held 82 v d p) :
    ∃ (sm na : Bool) (mo li : Nat), v = fileV sm na mo li ∧ mo ≤ 4294967295 ∧ li ≤ 4294967295 := by
  have hu := Try.underlying82
  obtain ⟨cs, rfl, hsz⟩ := okWide_struct hu hv
  obtain ⟨c0, c1, c2, c3, rfl⟩ := array4 (hsz.trans (by kernel_rfl))
  obtain ⟨fuel, hf⟩ := h
  obtain ⟨xs, n, _, _, hl, hlen, hf⟩ := DataW.trod_struct hu hf
  match xs, hlen with
  | [y0, y1, y2, y3], _ =>
    have g0 : DataW.trod enc Try.prog w 0 spare held n 4 [c0] = some y0 := hf 0 _ rfl
    have g1 : DataW.trod enc Try.prog w 0 spare held n 4 [c1] = some y1 := hf 1 _ rfl
    have g2 : DataW.trod enc Try.prog w 0 spare held n 33 [c2] = some y2 := hf 2 _ rfl
    have g3 : DataW.trod enc Try.prog w 0 spare held n 33 [c3] = some y3 := hf 3 _ rfl
    obtain ⟨z0, e0, _⟩ := DataW.trod_bool Try.underlying4 g0
    obtain ⟨z1, e1, _⟩ := DataW.trod_bool Try.underlying4 g1
    obtain ⟨z2, e2, _, w2⟩ := DataW.trod_int Try.underlying33 g2
    obtain ⟨k2, rfl, b2⟩ := nat_of (bounds_u32 w2)
    obtain ⟨z3, e3, _, w3⟩ := DataW.trod_int Try.underlying33 g3
    obtain ⟨k3, rfl, b3⟩ := nat_of (bounds_u32 w3)
    cases e0; cases e1; cases e2; cases e3
    exact ⟨z0, z1, k2, k3, rfl, by omega, by omega⟩
theorem open_pkt {r : Reach} {b0 : Nat} {v : Value} {d : DataW H} {p : List MemPlace} (hv : Value.okWide Try.prog w r b0 84 v) (h : DataW.Trod enc Try.prog w 0 spare held 84 v d p) :
    ∃ (ps pp pl : Nat) (A : Option Addr) (n c : Nat), v = pktV ps pp pl (.slice A n c) ∧ ps ≤ 4294967295 ∧ pp ≤ 4294967295 ∧ pl ≤ 4294967295 ∧ ∃ d9 p9, DataW.Trod enc Try.prog w 0 spare held 22 (.slice A n c) d9 p9 := by
  have hu := Try.underlying84
  obtain ⟨cs, rfl, hsz⟩ := okWide_struct hu hv
  obtain ⟨c0, c1, c2, c3, rfl⟩ := array4 (hsz.trans (by kernel_rfl))
  obtain ⟨fuel, hf⟩ := h
  obtain ⟨xs, n, _, _, hl, hlen, hf⟩ := DataW.trod_struct hu hf
  match xs, hlen with
  | [y0, y1, y2, y3], _ =>
    have g0 : DataW.trod enc Try.prog w 0 spare held n 33 [c0] = some y0 := hf 0 _ rfl
    have g1 : DataW.trod enc Try.prog w 0 spare held n 33 [c1] = some y1 := hf 1 _ rfl
    have g2 : DataW.trod enc Try.prog w 0 spare held n 33 [c2] = some y2 := hf 2 _ rfl
    have g3 : DataW.trod enc Try.prog w 0 spare held n 22 [c3] = some y3 := hf 3 _ rfl
    obtain ⟨z0, e0, _, w0⟩ := DataW.trod_int Try.underlying33 g0
    obtain ⟨k0, rfl, b0⟩ := nat_of (bounds_u32 w0)
    obtain ⟨z1, e1, _, w1⟩ := DataW.trod_int Try.underlying33 g1
    obtain ⟨k1, rfl, b1⟩ := nat_of (bounds_u32 w1)
    obtain ⟨z2, e2, _, w2⟩ := DataW.trod_int Try.underlying33 g2
    obtain ⟨k2, rfl, b2⟩ := nat_of (bounds_u32 w2)
    obtain ⟨A3, n3, s3, e3⟩ := slice_form Try.underlying22 g3
    cases e0; cases e1; cases e2; cases e3
    exact ⟨k0, k1, k2, A3, n3, s3, rfl, by omega, by omega, by omega, y3.1, y3.2, n, g3⟩
end
end Go.Proofs.Ytkgmgmlicgjfdaa
