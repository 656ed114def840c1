/-
  Headers in bytes by the document's answer, and packets of both. Helper of the claims of layer 5. No condition.
-/
import Derived.Test.YtkgmgmlicgjfdaaI6b
import Derived.Test.YtkgmgmlicgjfdaaUdpA
namespace Go.Proofs.Ytkgmgmlicgjfdaa
open Go.ChangeShapes Go.WideShapes Go.ChangeAt Go.RowKit
set_option linter.unusedVariables false
set_option maxRecDepth 100000
theorem join_o {ls : List (List Int)} {v : Value} {w : World} {L : List Int} (h : IsP ls v w) (hL : ls.flatten = L) (hm : L.length ≤ 90000000) (hl : ls.length ≤ 1000000) :
    Calls Try.prog 101 #[v] w fun e w'' => ∃ v, e = .returned v ∧ Below w.heap.size w w'' ∧ OwnP w.heap.size L L.length v w'' := by
  obtain ⟨A, c, ps, rfl, h1, h2⟩ := h
  have e : flatP ps = L := by rw [← hL, ← h1]; unfold flatP; rw [List.flatMap_def]
  have e2 : ls.length = ps.length := by rw [← h1, List.length_map]
  rw [e2]
  have := join_any A c ps w h2 (by rw [e]; exact hm) (by omega)
  rw [e] at this
  refine this.mono ?_
  rintro e w' ⟨A', c', rfl, ho, hb⟩
  exact ⟨_, rfl, hb, A', c', rfl, ho⟩
theorem be_two {n : Nat} (h : n ≤ 255) : be n 1 = [(n : Int)] := by simp [be]; omega
theorem be_head {cl la : Nat} (hcl : cl ≤ 255) (hla : la < 1048576) : be (1610612736 + cl * 1048576 + la) 4 = [((96 + cl / 16 : Nat) : Int), ((cl % 16 * 16 + la / 65536 : Nat) : Int)] ++ be la 2 := by
  have e : ∀ n : Nat, be n 4 = [((n / 256 ^ 3 % 256 : Nat) : Int), ((n / 256 ^ 2 % 256 : Nat) : Int), ((n / 256 ^ 1 % 256 : Nat) : Int), ((n / 256 ^ 0 % 256 : Nat) : Int)] := fun _ => rfl
  have e2 : ∀ n : Nat, be n 2 = [((n / 256 ^ 1 % 256 : Nat) : Int), ((n / 256 ^ 0 % 256 : Nat) : Int)] := fun _ => rfl
  rw [e, e2]
  rw [show (1610612736 + cl * 1048576 + la) / 256 ^ 3 % 256 = 96 + cl / 16 from by omega, show (1610612736 + cl * 1048576 + la) / 256 ^ 2 % 256 = cl % 16 * 16 + la / 65536 from by omega, show (1610612736 + cl * 1048576 + la) / 256 ^ 1 % 256 = la / 256 ^ 1 % 256 from by omega, show (1610612736 + cl * 1048576 + la) / 256 ^ 0 % 256 = la / 256 ^ 0 % 256 from by omega]
  rfl
set_option maxHeartbeats 4000000 in
theorem rbytes6i (cl la le ne hq sh sl dh dl : Nat) (hcl : cl ≤ 255) (hla : la < 1048576) (hle : le ≤ 65535) (hne : ne ≤ 255) (hho : hq ≤ 255) (hsh : sh < 18446744073709551616) (hsl : sl < 18446744073709551616) (hdh : dh < 18446744073709551616) (hdl : dl < 18446744073709551616) (w : World) : Calls Try.prog 85 #[hv6 (cl : Int) (la : Int) (le : Int) (ne : Int) (hq : Int) true (sh : Int) (sl : Int) true (dh : Int) (dl : Int)] w fun e w' => ∃ v, e = .returned v ∧ Below w.heap.size w w' ∧ OwnP w.heap.size (hl6 cl la le ne hq sh sl dh dl) 40 v w' := by
  have LL := Lib.hid (hl6_len cl la le ne hq sh sl dh dl)
  have HEQ := Lib.hid (be_head hcl hla)
  unfold hv6
  have q1 : (cl : Int).tdiv 16 = ((cl / 16 : Nat) : Int) := by rw [Int.tdiv_eq_ediv_of_nonneg (by omega)]; omega
  have q2 : (cl : Int).tmod 16 = ((cl % 16 : Nat) : Int) := by rw [Int.tmod_eq_emod_of_nonneg (by omega)]; omega
  have q3 : (la : Int).tdiv 65536 = ((la / 65536 : Nat) : Int) := by rw [Int.tdiv_eq_ediv_of_nonneg (by omega)]; omega
  have z1 : cl / 16 ≤ 15 := by omega
  have z2 : cl % 16 ≤ 15 := by omega
  have z3 : la / 65536 ≤ 15 := by omega
  have HX1 := Lib.hid (show ((96 + cl / 16 : Nat) : Int) = 96 + ((cl / 16 : Nat) : Int) from by omega)
  have HX2 := Lib.hid (show ((cl % 16 * 16 + la / 65536 : Nat) : Int) = ((cl % 16 : Nat) : Int) * 16 + ((la / 65536 : Nat) : Int) from by omega)
  have hb0 : Below w.heap.size w ((w.alloc (.cells #[.int .u8 (cl : Int), .int .u32 (la : Int), .int .i64 (le : Int), .int .u8 (ne : Int), .int .u8 (hq : Int), .bool true, .int .u64 (sh : Int), .int .u64 (sl : Int), .bool true, .int .u64 (dh : Int), .int .u64 (dl : Int)] 125)).alloc (.cells #[.int .u8 ((96 + cl / 16 : Nat) : Int), .int .u8 ((cl % 16 * 16 + la / 65536 : Nat) : Int)] 5)) := ((Below.refl _ _).alloc (Nat.le_refl _) _).alloc (by simp) _
  have hg0 := (Is.new w 125 #[.int .u8 (cl : Int), .int .u32 (la : Int), .int .i64 (le : Int), .int .u8 (ne : Int), .int .u8 (hq : Int), .bool true, .int .u64 (sh : Int), .int .u64 (sl : Int), .bool true, .int .u64 (dh : Int), .int .u64 (dl : Int)]).alloc (.cells #[.int .u8 ((96 + cl / 16 : Nat) : Int), .int .u8 ((cl % 16 * 16 + la / 65536 : Nat) : Int)] 5)
  generalize cl / 16 = x1 at *
  generalize cl % 16 = x2 at *
  generalize la / 65536 = x3 at *
  rw [HX1.out, HX2.out] at hb0 hg0 HEQ
  have hf0 : IsB [96 + (x1 : Int), (x2 : Int) * 16 + (x3 : Int)] 2 (.slice (some ⟨(w.alloc (.cells #[.int .u8 (cl : Int), .int .u32 (la : Int), .int .i64 (le : Int), .int .u8 (ne : Int), .int .u8 (hq : Int), .bool true, .int .u64 (sh : Int), .int .u64 (sl : Int), .bool true, .int .u64 (dh : Int), .int .u64 (dl : Int)] 125)).heap.size, 0, none⟩) 2 2) ((w.alloc (.cells #[.int .u8 (cl : Int), .int .u32 (la : Int), .int .i64 (le : Int), .int .u8 (ne : Int), .int .u8 (hq : Int), .bool true, .int .u64 (sh : Int), .int .u64 (sl : Int), .bool true, .int .u64 (dh : Int), .int .u64 (dl : Int)] 125)).alloc (.cells #[.int .u8 (96 + (x1 : Int)), .int .u8 ((x2 : Int) * 16 + (x3 : Int))] 5)) := isb_lit (w.alloc (.cells #[.int .u8 (cl : Int), .int .u32 (la : Int), .int .i64 (le : Int), .int .u8 (ne : Int), .int .u8 (hq : Int), .bool true, .int .u64 (sh : Int), .int .u64 (sl : Int), .bool true, .int .u64 (dh : Int), .int .u64 (dl : Int)] 125)) [96 + (x1 : Int), (x2 : Int) * 16 + (x3 : Int)] (by simp)
  go_enter Try.func85, Try.ntmps85
  go_wp2_with fail
  generalize (w.alloc (.cells #[.int .u8 (cl : Int), .int .u32 (la : Int), .int .i64 (le : Int), .int .u8 (ne : Int), .int .u8 (hq : Int), .bool true, .int .u64 (sh : Int), .int .u64 (sl : Int), .bool true, .int .u64 (dh : Int), .int .u64 (dl : Int)] 125)).alloc (.cells #[.int .u8 (96 + (x1 : Int)), .int .u8 ((x2 : Int) * 16 + (x3 : Int))] 5) = W at *
  have hf0 := hide hf0
  rw [show (w.alloc (.cells #[.int .u8 (cl : Int), .int .u32 (la : Int), .int .i64 (le : Int), .int .u8 (ne : Int), .int .u8 (hq : Int), .bool true, .int .u64 (sh : Int), .int .u64 (sl : Int), .bool true, .int .u64 (dh : Int), .int .u64 (dl : Int)] 125)).heap.size = w.heap.size + 1 from by simp] at hf0
  generalize w.heap.size + 1 = g3 at *
  have HF := hf0; have HG := hide hg0; have HB := Lib.hid hb0
  clear hf0 hg0 hb0
  refine Lin.wp_region_lin Lin.keeps (n := 44)  (fun slotq => match slotq with | 22 => Lin.Spec.sl [96 + (x1 : Int), (x2 : Int) * 16 + (x3 : Int)] 2 | 23 => Lin.Spec.val (.pointer (some ⟨w.heap.size, 1, none⟩)) | 24 => Lin.Spec.val (.int .u32 (la : Int)) | 25 => Lin.Spec.val (.int .u64 (la : Int)) | 26 => Lin.Spec.sl (be la 2) 2 | 27 => Lin.Spec.val (.pointer (some ⟨w.heap.size, 2, none⟩)) | 28 => Lin.Spec.val (.int .i64 (le : Int)) | 29 => Lin.Spec.val (.int .u64 (le : Int)) | 30 => Lin.Spec.sl (be le 2) 2 | 31 => Lin.Spec.val (.pointer (some ⟨w.heap.size, 3, none⟩)) | 32 => Lin.Spec.val (.int .u8 (ne : Int)) | 33 => Lin.Spec.val (.pointer (some ⟨w.heap.size, 4, none⟩)) | 34 => Lin.Spec.val (.int .u8 (hq : Int)) | 35 => Lin.Spec.sl (be ne 1 ++ be hq 1) 2 | 36 => Lin.Spec.val (.pointer (some ⟨w.heap.size, 5, none⟩)) | 37 => Lin.Spec.val (.agg #[.bool true, .int .u64 (sh : Int), .int .u64 (sl : Int)]) | 38 => Lin.Spec.sl (be sh 8 ++ be sl 8) 16 | 39 => Lin.Spec.val (.pointer (some ⟨w.heap.size, 8, none⟩)) | 40 => Lin.Spec.val (.agg #[.bool true, .int .u64 (dh : Int), .int .u64 (dl : Int)]) | 41 => Lin.Spec.sl (be dh 8 ++ be dl 8) 16 | 42 => Lin.Spec.parts [[96 + (x1 : Int), (x2 : Int) * 16 + (x3 : Int)], be la 2, be le 2, be ne 1 ++ be hq 1, be sh 8 ++ be sl 8, be dh 8 ++ be dl 8] | 43 => Lin.Spec.own W.heap.size (hl6 cl la le ne hq sh sl dh dl) 40 | 2 => Lin.Spec.own W.heap.size (hl6 cl la le ne hq sh sl dh dl) 40 | _ => Lin.Spec.any) (by kernel_rfl) rfl (by kernel_rfl) ⟨?_, ?_, ?_, ?_, ?_, ?_, ?_, ?_, ?_, ?_, ?_, ?_, ?_, ?_, ?_, ?_, ?_, ?_, ?_, ?_, ?_, ?_, ?_, trivial⟩ ?_
  · intro ρ wq hb ho hc hd
    have hC : ∀ v, ρ (.const v) = v := fun v => hc _ (by intro t e; cases e)
    have hF : ∀ f, ρ (.func f) = .func (.func f) #[] #[] := fun f => hc _ (by intro t e; cases e)
    have h3 : ρ (.tmp 3) = .slice (some ⟨g3, 0, none⟩) 2 2 := ho 3 (by kernel_rfl)
    exact Lin.Runs.value Lin.keeps (v := .slice (some ⟨g3, 0, none⟩) 2 2) ((Lin.exec_move rfl).trans (by rw [h3])) (HF.out.st hb)
  · intro ρ wq hb ho hc hd
    have hC : ∀ v, ρ (.const v) = v := fun v => hc _ (by intro t e; cases e)
    have hF : ∀ f, ρ (.func f) = .func (.func f) #[] #[] := fun f => hc _ (by intro t e; cases e)
    have h1 : ρ (.tmp 1) = .pointer (some ⟨w.heap.size, 0, none⟩) := ho 1 (by kernel_rfl)
    exact Lin.Runs.value Lin.keeps (v := .pointer (some ⟨w.heap.size, 1, none⟩)) (by simp [execOp, go_sem, h1]) rfl
  · intro ρ wq hb ho hc hd
    have hC : ∀ v, ρ (.const v) = v := fun v => hc _ (by intro t e; cases e)
    have hF : ∀ f, ρ (.func f) = .func (.func f) #[] #[] := fun f => hc _ (by intro t e; cases e)
    have h23 : ρ (.tmp 23) = .pointer (some ⟨w.heap.size, 1, none⟩) := hd 23 (by kernel_rfl)
    have hg8 := HG.out.below hb HG.out.lt
    have m1 := hg8.cell 1
    simp at m1
    exact Lin.Runs.value Lin.keeps (v := .int .u32 (la : Int)) (by simp [execOp, go_sem, h23, m1]) rfl
  · intro ρ wq hb ho hc hd
    have hC : ∀ v, ρ (.const v) = v := fun v => hc _ (by intro t e; cases e)
    have hF : ∀ f, ρ (.func f) = .func (.func f) #[] #[] := fun f => hc _ (by intro t e; cases e)
    have h24 : ρ (.tmp 24) = .int .u32 (la : Int) := hd 24 (by kernel_rfl)
    exact Lin.Runs.value Lin.keeps (v := .int .u64 (la : Int)) (by simp [execOp, go_sem, h24]; first | done | exact IntWalk.u64_in _ (by omega)) rfl
  · intro ρ wq hb ho hc hd
    have hC : ∀ v, ρ (.const v) = v := fun v => hc _ (by intro t e; cases e)
    have hF : ∀ f, ρ (.func f) = .func (.func f) #[] #[] := fun f => hc _ (by intro t e; cases e)
    have h25 : ρ (.tmp 25) = .int .u64 (la : Int) := hd 25 (by kernel_rfl)
    exact Lin.Runs.call Lin.keeps (f := 102) (args := #[.int .u64 (la : Int), .int .i64 2]) (by simp [execOp, go_sem, hC, hF, h25]) ((rb_6 la 2 wq (by omega) (by omega)).mono fun e w9 ⟨A9, c9, h1, h2, h3⟩ => ⟨_, h1, h3, IsB.own h2⟩)
  · intro ρ wq hb ho hc hd
    have hC : ∀ v, ρ (.const v) = v := fun v => hc _ (by intro t e; cases e)
    have hF : ∀ f, ρ (.func f) = .func (.func f) #[] #[] := fun f => hc _ (by intro t e; cases e)
    have h1 : ρ (.tmp 1) = .pointer (some ⟨w.heap.size, 0, none⟩) := ho 1 (by kernel_rfl)
    exact Lin.Runs.value Lin.keeps (v := .pointer (some ⟨w.heap.size, 2, none⟩)) (by simp [execOp, go_sem, h1]) rfl
  · intro ρ wq hb ho hc hd
    have hC : ∀ v, ρ (.const v) = v := fun v => hc _ (by intro t e; cases e)
    have hF : ∀ f, ρ (.func f) = .func (.func f) #[] #[] := fun f => hc _ (by intro t e; cases e)
    have h27 : ρ (.tmp 27) = .pointer (some ⟨w.heap.size, 2, none⟩) := hd 27 (by kernel_rfl)
    have hg8 := HG.out.below hb HG.out.lt
    have m2 := hg8.cell 2
    simp at m2
    exact Lin.Runs.value Lin.keeps (v := .int .i64 (le : Int)) (by simp [execOp, go_sem, h27, m2]) rfl
  · intro ρ wq hb ho hc hd
    have hC : ∀ v, ρ (.const v) = v := fun v => hc _ (by intro t e; cases e)
    have hF : ∀ f, ρ (.func f) = .func (.func f) #[] #[] := fun f => hc _ (by intro t e; cases e)
    have h28 : ρ (.tmp 28) = .int .i64 (le : Int) := hd 28 (by kernel_rfl)
    exact Lin.Runs.value Lin.keeps (v := .int .u64 (le : Int)) (by simp [execOp, go_sem, h28]; first | done | exact IntWalk.u64_in _ (by omega)) rfl
  · intro ρ wq hb ho hc hd
    have hC : ∀ v, ρ (.const v) = v := fun v => hc _ (by intro t e; cases e)
    have hF : ∀ f, ρ (.func f) = .func (.func f) #[] #[] := fun f => hc _ (by intro t e; cases e)
    have h29 : ρ (.tmp 29) = .int .u64 (le : Int) := hd 29 (by kernel_rfl)
    exact Lin.Runs.call Lin.keeps (f := 102) (args := #[.int .u64 (le : Int), .int .i64 2]) (by simp [execOp, go_sem, hC, hF, h29]) ((rb_6 le 2 wq (by omega) (by omega)).mono fun e w9 ⟨A9, c9, h1, h2, h3⟩ => ⟨_, h1, h3, IsB.own h2⟩)
  · intro ρ wq hb ho hc hd
    have hC : ∀ v, ρ (.const v) = v := fun v => hc _ (by intro t e; cases e)
    have hF : ∀ f, ρ (.func f) = .func (.func f) #[] #[] := fun f => hc _ (by intro t e; cases e)
    have h1 : ρ (.tmp 1) = .pointer (some ⟨w.heap.size, 0, none⟩) := ho 1 (by kernel_rfl)
    exact Lin.Runs.value Lin.keeps (v := .pointer (some ⟨w.heap.size, 3, none⟩)) (by simp [execOp, go_sem, h1]) rfl
  · intro ρ wq hb ho hc hd
    have hC : ∀ v, ρ (.const v) = v := fun v => hc _ (by intro t e; cases e)
    have hF : ∀ f, ρ (.func f) = .func (.func f) #[] #[] := fun f => hc _ (by intro t e; cases e)
    have h31 : ρ (.tmp 31) = .pointer (some ⟨w.heap.size, 3, none⟩) := hd 31 (by kernel_rfl)
    have hg8 := HG.out.below hb HG.out.lt
    have m3 := hg8.cell 3
    simp at m3
    exact Lin.Runs.value Lin.keeps (v := .int .u8 (ne : Int)) (by simp [execOp, go_sem, h31, m3]) rfl
  · intro ρ wq hb ho hc hd
    have hC : ∀ v, ρ (.const v) = v := fun v => hc _ (by intro t e; cases e)
    have hF : ∀ f, ρ (.func f) = .func (.func f) #[] #[] := fun f => hc _ (by intro t e; cases e)
    have h1 : ρ (.tmp 1) = .pointer (some ⟨w.heap.size, 0, none⟩) := ho 1 (by kernel_rfl)
    exact Lin.Runs.value Lin.keeps (v := .pointer (some ⟨w.heap.size, 4, none⟩)) (by simp [execOp, go_sem, h1]) rfl
  · intro ρ wq hb ho hc hd
    have hC : ∀ v, ρ (.const v) = v := fun v => hc _ (by intro t e; cases e)
    have hF : ∀ f, ρ (.func f) = .func (.func f) #[] #[] := fun f => hc _ (by intro t e; cases e)
    have h33 : ρ (.tmp 33) = .pointer (some ⟨w.heap.size, 4, none⟩) := hd 33 (by kernel_rfl)
    have hg8 := HG.out.below hb HG.out.lt
    have m4 := hg8.cell 4
    simp at m4
    exact Lin.Runs.value Lin.keeps (v := .int .u8 (hq : Int)) (by simp [execOp, go_sem, h33, m4]) rfl
  · intro ρ wq hb ho hc hd
    have hC : ∀ v, ρ (.const v) = v := fun v => hc _ (by intro t e; cases e)
    have hF : ∀ f, ρ (.func f) = .func (.func f) #[] #[] := fun f => hc _ (by intro t e; cases e)
    have h32 : ρ (.tmp 32) = .int .u8 (ne : Int) := hd 32 (by kernel_rfl)
    have h34 : ρ (.tmp 34) = .int .u8 (hq : Int) := hd 34 (by kernel_rfl)
    refine Lin.Runs.made (v := .slice (some ⟨wq.heap.size, 0, none⟩) 2 2) (w' := wq.alloc (.cells #[.int .u8 (ne : Int), .int .u8 (hq : Int)] 5)) (by simp [execOp, go_sem, h32, h34]) ((Below.refl _ _).alloc (Nat.le_refl _) _) ?_
    have h := isb_lit wq [(ne : Int), (hq : Int)] (by simp)
    rw [be_two hne, be_two hho]
    exact h
  · intro ρ wq hb ho hc hd
    have hC : ∀ v, ρ (.const v) = v := fun v => hc _ (by intro t e; cases e)
    have hF : ∀ f, ρ (.func f) = .func (.func f) #[] #[] := fun f => hc _ (by intro t e; cases e)
    have h1 : ρ (.tmp 1) = .pointer (some ⟨w.heap.size, 0, none⟩) := ho 1 (by kernel_rfl)
    exact Lin.Runs.value Lin.keeps (v := .pointer (some ⟨w.heap.size, 5, none⟩)) (by simp [execOp, go_sem, h1]) rfl
  · intro ρ wq hb ho hc hd
    have hC : ∀ v, ρ (.const v) = v := fun v => hc _ (by intro t e; cases e)
    have hF : ∀ f, ρ (.func f) = .func (.func f) #[] #[] := fun f => hc _ (by intro t e; cases e)
    have h36 : ρ (.tmp 36) = .pointer (some ⟨w.heap.size, 5, none⟩) := hd 36 (by kernel_rfl)
    have hg8 := HG.out.below hb HG.out.lt
    have m0 := hg8.cell 5
    have m1 := hg8.cell 6
    have m2 := hg8.cell 7
    simp at m0 m1 m2
    exact Lin.Runs.value Lin.keeps (v := .agg #[.bool true, .int .u64 (sh : Int), .int .u64 (sl : Int)]) (by simp [execOp, go_sem, h36, m0, m1, m2]) rfl
  · intro ρ wq hb ho hc hd
    have hC : ∀ v, ρ (.const v) = v := fun v => hc _ (by intro t e; cases e)
    have hF : ∀ f, ρ (.func f) = .func (.func f) #[] #[] := fun f => hc _ (by intro t e; cases e)
    have h37 : ρ (.tmp 37) = .agg #[.bool true, .int .u64 (sh : Int), .int .u64 (sl : Int)] := hd 37 (by kernel_rfl)
    exact Lin.Runs.call Lin.keeps (f := 125) (args := #[.agg #[.bool true, .int .u64 (sh : Int), .int .u64 (sl : Int)]]) (by simp [execOp, go_sem, hF, h37]) ((rabytes6 sh sl wq (by omega) (by omega)).mono fun e w9 ⟨v9, h1, h2, h3⟩ => ⟨v9, h1, h2, h3.isb⟩)
  · intro ρ wq hb ho hc hd
    have hC : ∀ v, ρ (.const v) = v := fun v => hc _ (by intro t e; cases e)
    have hF : ∀ f, ρ (.func f) = .func (.func f) #[] #[] := fun f => hc _ (by intro t e; cases e)
    have h1 : ρ (.tmp 1) = .pointer (some ⟨w.heap.size, 0, none⟩) := ho 1 (by kernel_rfl)
    exact Lin.Runs.value Lin.keeps (v := .pointer (some ⟨w.heap.size, 8, none⟩)) (by simp [execOp, go_sem, h1]) rfl
  · intro ρ wq hb ho hc hd
    have hC : ∀ v, ρ (.const v) = v := fun v => hc _ (by intro t e; cases e)
    have hF : ∀ f, ρ (.func f) = .func (.func f) #[] #[] := fun f => hc _ (by intro t e; cases e)
    have h39 : ρ (.tmp 39) = .pointer (some ⟨w.heap.size, 8, none⟩) := hd 39 (by kernel_rfl)
    have hg8 := HG.out.below hb HG.out.lt
    have m0 := hg8.cell 8
    have m1 := hg8.cell 9
    have m2 := hg8.cell 10
    simp at m0 m1 m2
    exact Lin.Runs.value Lin.keeps (v := .agg #[.bool true, .int .u64 (dh : Int), .int .u64 (dl : Int)]) (by simp [execOp, go_sem, h39, m0, m1, m2]) rfl
  · intro ρ wq hb ho hc hd
    have hC : ∀ v, ρ (.const v) = v := fun v => hc _ (by intro t e; cases e)
    have hF : ∀ f, ρ (.func f) = .func (.func f) #[] #[] := fun f => hc _ (by intro t e; cases e)
    have h40 : ρ (.tmp 40) = .agg #[.bool true, .int .u64 (dh : Int), .int .u64 (dl : Int)] := hd 40 (by kernel_rfl)
    exact Lin.Runs.call Lin.keeps (f := 125) (args := #[.agg #[.bool true, .int .u64 (dh : Int), .int .u64 (dl : Int)]]) (by simp [execOp, go_sem, hF, h40]) ((rabytes6 dh dl wq (by omega) (by omega)).mono fun e w9 ⟨v9, h1, h2, h3⟩ => ⟨v9, h1, h2, h3.isb⟩)
  · intro ρ wq hb ho hc hd
    have hC : ∀ v, ρ (.const v) = v := fun v => hc _ (by intro t e; cases e)
    have hF : ∀ f, ρ (.func f) = .func (.func f) #[] #[] := fun f => hc _ (by intro t e; cases e)
    have h22 := hd 22 (by kernel_rfl)
    have h26 := hd 26 (by kernel_rfl)
    have h30 := hd 30 (by kernel_rfl)
    have h35 := hd 35 (by kernel_rfl)
    have h38 := hd 38 (by kernel_rfl)
    have h41 := hd 41 (by kernel_rfl)
    have s22 := h22.shape
    generalize hv22 : ρ (.tmp 22) = v22 at *
    obtain ⟨D22, e22, rfl⟩ := s22
    have s26 := h26.shape
    generalize hv26 : ρ (.tmp 26) = v26 at *
    obtain ⟨D26, e26, rfl⟩ := s26
    have s30 := h30.shape
    generalize hv30 : ρ (.tmp 30) = v30 at *
    obtain ⟨D30, e30, rfl⟩ := s30
    have s35 := h35.shape
    generalize hv35 : ρ (.tmp 35) = v35 at *
    obtain ⟨D35, e35, rfl⟩ := s35
    have s38 := h38.shape
    generalize hv38 : ρ (.tmp 38) = v38 at *
    obtain ⟨D38, e38, rfl⟩ := s38
    have s41 := h41.shape
    generalize hv41 : ρ (.tmp 41) = v41 at *
    obtain ⟨D41, e41, rfl⟩ := s41
    refine Lin.Runs.made (v := .slice (some ⟨wq.heap.size, 0, none⟩) 6 6) (w' := wq.alloc (.cells #[.slice D22 2 e22, .slice D26 2 e26, .slice D30 2 e30, .slice D35 2 e35, .slice D38 16 e38, .slice D41 16 e41] 22)) (by simp [execOp, go_sem, hv22, hv26, hv30, hv35, hv38, hv41]) ((Below.refl _ _).alloc (Nat.le_refl _) _) ?_
    exact IsP.lit wq [(.slice D22 2 e22, [96 + (x1 : Int), (x2 : Int) * 16 + (x3 : Int)]), (.slice D26 2 e26, be la 2), (.slice D30 2 e30, be le 2), (.slice D35 2 e35, be ne 1 ++ be hq 1), (.slice D38 16 e38, be sh 8 ++ be sl 8), (.slice D41 16 e41, be dh 8 ++ be dl 8)] 22 (by
      intro p hp
      simp only [List.mem_cons, List.not_mem_nil, or_false] at hp
      rcases hp with rfl | rfl | rfl | rfl | rfl | rfl
      · exact ⟨_, h22⟩
      · exact ⟨_, h26⟩
      · exact ⟨_, h30⟩
      · exact ⟨_, h35⟩
      · exact ⟨_, h38⟩
      · exact ⟨_, h41⟩)
  · intro ρ wq hb ho hc hd
    have hC : ∀ v, ρ (.const v) = v := fun v => hc _ (by intro t e; cases e)
    have hF : ∀ f, ρ (.func f) = .func (.func f) #[] #[] := fun f => hc _ (by intro t e; cases e)
    have h42 := hd 42 (by kernel_rfl)
    refine Lin.Runs.call Lin.keeps (f := 101) (args := #[ρ (.tmp 42)]) (by simp [execOp, go_sem, hF]) ?_
    have hh := join_o h42 (L := hl6 cl la le ne hq sh sl dh dl) (by simp [hl6, HEQ.out]) (by rw [LL.out]; omega) (by simp)
    rw [LL.out] at hh
    exact hh.mono fun e w9 ⟨v9, h1, h2, h3⟩ => ⟨v9, h1, h2, OwnP.low6 h3 hb.size⟩
  · intro ρ wq hb ho hc hd
    have hC : ∀ v, ρ (.const v) = v := fun v => hc _ (by intro t e; cases e)
    have hF : ∀ f, ρ (.func f) = .func (.func f) #[] #[] := fun f => hc _ (by intro t e; cases e)
    have h43 := hd 43 (by kernel_rfl)
    exact Lin.Runs.value Lin.keeps (Lin.exec_assign rfl) h43
  · intro vals w9 hb hv
    have e2 := hv 2 (by kernel_rfl)
    simp only [Lin.putAll, Option.getD_some]
    generalize vals 2 = v2 at *
    obtain ⟨A9, c9, rfl⟩ := e2.shape
    have E2 := hide e2
    clear hv e2
    have HB9 := Lib.hid (HB.out.trans (hb.mono HB.out.size))
    clear hb
    go_simp
    generalize vals = vv
    go_wp2_with fail
    go_ret
    exact ⟨_, rfl, HB9.out, OwnP.low6 E2.out HB.out.size⟩
set_option maxHeartbeats 4000000 in
theorem cpacket_no (cl la : Nat) (le : Int) (ne hq : Nat) (s6 : Bool) (sh sl : Nat) (d6 : Bool) (dh dl : Nat) (hcl : cl ≤ 255) (hne : ne ≤ 255) (hho : hq ≤ 255) (hsh : sh < 18446744073709551616) (hsl : sl < 18446744073709551616) (hdh : dh < 18446744073709551616) (hdl : dl < 18446744073709551616) (A : Option Addr) (n c : Nat) (l : List Int) (hn : n ≤ 3000) (w : World) (hr : right6 la (n : Int) s6 d6 = false) : Calls Try.prog 86 #[hv6 (cl : Int) (la : Int) le (ne : Int) (hq : Int) s6 (sh : Int) (sl : Int) d6 (dh : Int) (dl : Int), .slice A n c] w fun e w' => e = .returned (.tuple #[.slice none 0 0, .int .i64 1]) ∧ Below w.heap.size w w' := by
  unfold hv6
  have hnz : ¬ (65535 : Int) < (n : Int) := by omega
  have hb0 : Below w.heap.size w (w.alloc (.cells #[.int .u8 (cl : Int), .int .u32 (la : Int), .int .i64 (n : Int), .int .u8 (ne : Int), .int .u8 (hq : Int), .bool s6, .int .u64 (sh : Int), .int .u64 (sl : Int), .bool d6, .int .u64 (dh : Int), .int .u64 (dl : Int)] 126)) := (Below.refl _ _).alloc (Nat.le_refl _) _
  go_enter Try.func86, Try.ntmps86
  go_wp2_with fail
  generalize w.alloc (.cells #[.int .u8 (cl : Int), .int .u32 (la : Int), .int .i64 (n : Int), .int .u8 (ne : Int), .int .u8 (hq : Int), .bool s6, .int .u64 (sh : Int), .int .u64 (sl : Int), .bool d6, .int .u64 (dh : Int), .int .u64 (dl : Int)] 126) = W at *
  refine (cright6 cl la (n : Int) ne hq s6 sh sl d6 dh dl _).mono ?_
  rintro e w1 ⟨rfl, hb⟩
  rw [hr]
  have HB := Lib.hid (hb0.trans (hb.mono hb0.size))
  clear hb hb0
  go_wp2_with fail
  go_ret2
  exact ⟨rfl, HB.out⟩
set_option maxHeartbeats 4000000 in
theorem cpacket_yes (cl la : Nat) (le : Int) (ne hq : Nat) (sh sl : Nat) (dh dl : Nat) (hla : la < 1048576) (hcl : cl ≤ 255) (hne : ne ≤ 255) (hho : hq ≤ 255) (hsh : sh < 18446744073709551616) (hsl : sl < 18446744073709551616) (hdh : dh < 18446744073709551616) (hdl : dl < 18446744073709551616) (A : Option Addr) (n c : Nat) (l : List Int) (hn : n ≤ 3000) (w : World) (hv : IsB l n (.slice A n c) w) : Calls Try.prog 86 #[hv6 (cl : Int) (la : Int) le (ne : Int) (hq : Int) true (sh : Int) (sl : Int) true (dh : Int) (dl : Int), .slice A n c] w fun e w' => ∃ v, e = .returned (.tuple #[v, .int .i64 0]) ∧ Below w.heap.size w w' ∧ IsB (hl6 cl la n ne hq sh sl dh dl ++ l) (40 + n) v w' := by
  unfold hv6
  have hnz : ¬ (65535 : Int) < (n : Int) := by omega
  have hb0 : Below w.heap.size w (w.alloc (.cells #[.int .u8 (cl : Int), .int .u32 (la : Int), .int .i64 (n : Int), .int .u8 (ne : Int), .int .u8 (hq : Int), .bool true, .int .u64 (sh : Int), .int .u64 (sl : Int), .bool true, .int .u64 (dh : Int), .int .u64 (dl : Int)] 126)) := (Below.refl _ _).alloc (Nat.le_refl _) _
  have hg0 := Is.new w 126 #[.int .u8 (cl : Int), .int .u32 (la : Int), .int .i64 (n : Int), .int .u8 (ne : Int), .int .u8 (hq : Int), .bool true, .int .u64 (sh : Int), .int .u64 (sl : Int), .bool true, .int .u64 (dh : Int), .int .u64 (dl : Int)]
  have HV := hide hv
  clear hv
  go_enter Try.func86, Try.ntmps86
  go_wp2_with fail
  generalize w.alloc (.cells #[.int .u8 (cl : Int), .int .u32 (la : Int), .int .i64 (n : Int), .int .u8 (ne : Int), .int .u8 (hq : Int), .bool true, .int .u64 (sh : Int), .int .u64 (sl : Int), .bool true, .int .u64 (dh : Int), .int .u64 (dl : Int)] 126) = W at *
  refine (cright6 cl la (n : Int) ne hq true sh sl true dh dl _).mono ?_
  rintro e w1 ⟨rfl, hb⟩
  rw [show right6 la (n : Int) true true = true from by simp [right6, hla]; omega]
  have HB := Lib.hid (hb0.trans (hb.mono hb0.size)); have hg1 := hg0.below hb hg0.lt
  clear hb hb0 hg0
  have a0 := hg1.cell 0
  have a1 := hg1.cell 1
  have a2 := hg1.cell 2
  have a3 := hg1.cell 3
  have a4 := hg1.cell 4
  have a5 := hg1.cell 5
  have a6 := hg1.cell 6
  have a7 := hg1.cell 7
  have a8 := hg1.cell 8
  have a9 := hg1.cell 9
  have a10 := hg1.cell 10
  simp at a0 a1 a2 a3 a4 a5 a6 a7 a8 a9 a10
  clear hg1
  go_wp2_with fail
  refine (cbytes6 cl la n ne hq sh sl dh dl hcl hla (by omega) hne hho hsh hsl hdh hdl _).mono ?_
  rintro e w2 ⟨v, rfl, hb, hx⟩
  obtain ⟨A2, c2, rfl, hx⟩ := hx
  have HO := hide hx; have HB2 := Lib.hid (HB.out.trans (hb.mono HB.out.size)); have hz2 : w1.heap.size ≤ w2.heap.size := hb.size
  have HBW := Lib.hid hb
  clear hx hb
  go_wp2_with (first
    | ((with_reducible show wpList _ _ _ (⟨some 18, _, _, _, _, _⟩ :: _) _ _)
       go_loud (refine app_k (.tmp 16) (.tmp 17) _ rfl rfl Try.underlying22 info8 (v := .slice A2 40 c2) (base := w1.heap.size) (xs := hl6 cl la n ne hq sh sl dh dl) (k := 40) (k' := 40 + n) (l := l) (m := n) rfl HO.out (hl6_len _ _ _ _ _ _ _ _ _) rfl (HV.out.st HB2.out) rfl (by omega) hz2 ?_)
       intro A8 c8 w8 ho8 hg8
       have hb8 : Below w1.heap.size w1 w8 := HBW.out.grown hg8 hz2 (fun q hq => (World.ownsRow.lt HO.out q hq).1)
       have HB8 := Lib.hid (HB.out.trans (hb8.mono HB.out.size))
       have HO8 := hide (IsB.own ho8)
       clear ho8 hg8 hb8))
  go_ret2
  exact ⟨_, rfl, HB8.out, HO8.out⟩
set_option maxHeartbeats 4000000 in
theorem rpacket_no (cl la : Nat) (le : Int) (ne hq : Nat) (s6 : Bool) (sh sl : Nat) (d6 : Bool) (dh dl : Nat) (hcl : cl ≤ 255) (hne : ne ≤ 255) (hho : hq ≤ 255) (hsh : sh < 18446744073709551616) (hsl : sl < 18446744073709551616) (hdh : dh < 18446744073709551616) (hdl : dl < 18446744073709551616) (A : Option Addr) (n c : Nat) (l : List Int) (hn : n ≤ 3000) (w : World) (hr : right6 la (n : Int) s6 d6 = false) : Calls Try.prog 87 #[hv6 (cl : Int) (la : Int) le (ne : Int) (hq : Int) s6 (sh : Int) (sl : Int) d6 (dh : Int) (dl : Int), .slice A n c] w fun e w' => e = .returned (.tuple #[.slice none 0 0, .int .i64 1]) ∧ Below w.heap.size w w' := by
  unfold hv6
  have hnz : ¬ (65535 : Int) < (n : Int) := by omega
  have hb0 : Below w.heap.size w (w.alloc (.cells #[.int .u8 (cl : Int), .int .u32 (la : Int), .int .i64 (n : Int), .int .u8 (ne : Int), .int .u8 (hq : Int), .bool s6, .int .u64 (sh : Int), .int .u64 (sl : Int), .bool d6, .int .u64 (dh : Int), .int .u64 (dl : Int)] 125)) := (Below.refl _ _).alloc (Nat.le_refl _) _
  go_enter Try.func87, Try.ntmps87
  go_wp2_with fail
  generalize w.alloc (.cells #[.int .u8 (cl : Int), .int .u32 (la : Int), .int .i64 (n : Int), .int .u8 (ne : Int), .int .u8 (hq : Int), .bool s6, .int .u64 (sh : Int), .int .u64 (sl : Int), .bool d6, .int .u64 (dh : Int), .int .u64 (dl : Int)] 125) = W at *
  refine (rright6 cl la (n : Int) ne hq s6 sh sl d6 dh dl _).mono ?_
  rintro e w1 ⟨rfl, hb⟩
  rw [hr]
  have HB := Lib.hid (hb0.trans (hb.mono hb0.size))
  clear hb hb0
  go_wp2_with fail
  go_ret2
  exact ⟨rfl, HB.out⟩
set_option maxHeartbeats 4000000 in
theorem rpacket_yes (cl la : Nat) (le : Int) (ne hq : Nat) (sh sl : Nat) (dh dl : Nat) (hla : la < 1048576) (hcl : cl ≤ 255) (hne : ne ≤ 255) (hho : hq ≤ 255) (hsh : sh < 18446744073709551616) (hsl : sl < 18446744073709551616) (hdh : dh < 18446744073709551616) (hdl : dl < 18446744073709551616) (A : Option Addr) (n c : Nat) (l : List Int) (hn : n ≤ 3000) (w : World) (hv : IsB l n (.slice A n c) w) : Calls Try.prog 87 #[hv6 (cl : Int) (la : Int) le (ne : Int) (hq : Int) true (sh : Int) (sl : Int) true (dh : Int) (dl : Int), .slice A n c] w fun e w' => ∃ v, e = .returned (.tuple #[v, .int .i64 0]) ∧ Below w.heap.size w w' ∧ IsB (hl6 cl la n ne hq sh sl dh dl ++ l) (40 + n) v w' := by
  unfold hv6
  have hnz : ¬ (65535 : Int) < (n : Int) := by omega
  have hb0 : Below w.heap.size w (w.alloc (.cells #[.int .u8 (cl : Int), .int .u32 (la : Int), .int .i64 (n : Int), .int .u8 (ne : Int), .int .u8 (hq : Int), .bool true, .int .u64 (sh : Int), .int .u64 (sl : Int), .bool true, .int .u64 (dh : Int), .int .u64 (dl : Int)] 125)) := (Below.refl _ _).alloc (Nat.le_refl _) _
  have hg0 := Is.new w 125 #[.int .u8 (cl : Int), .int .u32 (la : Int), .int .i64 (n : Int), .int .u8 (ne : Int), .int .u8 (hq : Int), .bool true, .int .u64 (sh : Int), .int .u64 (sl : Int), .bool true, .int .u64 (dh : Int), .int .u64 (dl : Int)]
  have HV := hide hv
  clear hv
  go_enter Try.func87, Try.ntmps87
  go_wp2_with fail
  generalize w.alloc (.cells #[.int .u8 (cl : Int), .int .u32 (la : Int), .int .i64 (n : Int), .int .u8 (ne : Int), .int .u8 (hq : Int), .bool true, .int .u64 (sh : Int), .int .u64 (sl : Int), .bool true, .int .u64 (dh : Int), .int .u64 (dl : Int)] 125) = W at *
  refine (rright6 cl la (n : Int) ne hq true sh sl true dh dl _).mono ?_
  rintro e w1 ⟨rfl, hb⟩
  rw [show right6 la (n : Int) true true = true from by simp [right6, hla]; omega]
  have HB := Lib.hid (hb0.trans (hb.mono hb0.size)); have hg1 := hg0.below hb hg0.lt
  clear hb hb0 hg0
  have a0 := hg1.cell 0
  have a1 := hg1.cell 1
  have a2 := hg1.cell 2
  have a3 := hg1.cell 3
  have a4 := hg1.cell 4
  have a5 := hg1.cell 5
  have a6 := hg1.cell 6
  have a7 := hg1.cell 7
  have a8 := hg1.cell 8
  have a9 := hg1.cell 9
  have a10 := hg1.cell 10
  simp at a0 a1 a2 a3 a4 a5 a6 a7 a8 a9 a10
  clear hg1
  go_wp2_with fail
  refine (rbytes6i cl la n ne hq sh sl dh dl hcl hla (by omega) hne hho hsh hsl hdh hdl _).mono ?_
  rintro e w2 ⟨v, rfl, hb, hx⟩
  obtain ⟨A2, c2, rfl, hx⟩ := hx
  have HO := hide hx; have HB2 := Lib.hid (HB.out.trans (hb.mono HB.out.size)); have hz2 : w1.heap.size ≤ w2.heap.size := hb.size
  have HBW := Lib.hid hb
  clear hx hb
  go_wp2_with (first
    | ((with_reducible show wpList _ _ _ (⟨some 18, _, _, _, _, _⟩ :: _) _ _)
       go_loud (refine app_k (.tmp 16) (.tmp 17) _ rfl rfl Try.underlying22 info8 (v := .slice A2 40 c2) (base := w1.heap.size) (xs := hl6 cl la n ne hq sh sl dh dl) (k := 40) (k' := 40 + n) (l := l) (m := n) rfl HO.out (hl6_len _ _ _ _ _ _ _ _ _) rfl (HV.out.st HB2.out) rfl (by omega) hz2 ?_)
       intro A8 c8 w8 ho8 hg8
       have hb8 : Below w1.heap.size w1 w8 := HBW.out.grown hg8 hz2 (fun q hq => (World.ownsRow.lt HO.out q hq).1)
       have HB8 := Lib.hid (HB.out.trans (hb8.mono HB.out.size))
       have HO8 := hide (IsB.own ho8)
       clear ho8 hg8 hb8))
  go_ret2
  exact ⟨_, rfl, HB8.out, HO8.out⟩
end Go.Proofs.Ytkgmgmlicgjfdaa
