/-
  The chapter's example of layer 5, and the law Ip6Writes, walked. Helper of the claim Ip6Writes. No condition.
-/
import Derived.Test.YtkgmgmlicgjfdaaI6d
import Derived.Test.YtkgmgmlicgjfdaaOctS
namespace Go.Proofs.Ytkgmgmlicgjfdaa
open Go.ChangeShapes Go.WideShapes Go.ChangeAt Go.RowKit
set_option linter.unusedVariables false
set_option maxRecDepth 100000
set_option maxHeartbeats 1000000 in
theorem cbytes6_no (cl la : Nat) (le : Int) (ne hq : Nat) (s6 : Bool) (sh sl : Nat) (d6 : Bool) (dh dl : Nat) (w : World) (hr : right6 la le s6 d6 = false) : Calls Try.prog 84 #[hv6 (cl : Int) (la : Int) le (ne : Int) (hq : Int) s6 (sh : Int) (sl : Int) d6 (dh : Int) (dl : Int)] w fun e w' => e = .returned (.slice none 0 0) ∧ Below w.heap.size w w' := by
  unfold hv6
  have hb0 : Below w.heap.size w (w.alloc (.cells #[.int .u8 (cl : Int), .int .u32 (la : Int), .int .i64 le, .int .u8 (ne : Int), .int .u8 (hq : Int), .bool s6, .int .u64 (sh : Int), .int .u64 (sl : Int), .bool d6, .int .u64 (dh : Int), .int .u64 (dl : Int)] 126)) := (Below.refl _ _).alloc (Nat.le_refl _) _
  go_enter Try.func84, Try.ntmps84
  go_wp2_with fail
  refine (cright6 cl la le ne hq s6 sh sl d6 dh dl _).mono ?_
  rintro e w1 ⟨rfl, hb⟩
  rw [hr]
  have HB := Lib.hid (hb0.trans (hb.mono hb0.size))
  clear hb hb0
  go_wp2_with fail
  go_ret
  exact ⟨rfl, HB.out⟩
set_option maxHeartbeats 2000000 in
theorem colder (v : Value) (w : World) (hv : IsB (hl6 0 0 1 0 5 0 0 0 0 ++ [1]) 41 v w) : Calls Try.prog 123 #[v] w fun e w' => ∃ g c, e = .returned (.tuple #[.slice (some ⟨g, 0, none⟩) 41 c, .int .i64 0]) ∧ Below w.heap.size w w' ∧ w'.cell? ⟨g, 7, none⟩ = some (.int .u8 4) := by
  have HP := hide (cparse6 0 0 1 0 5 0 0 0 0 (by omega) (by omega) (by omega) (by omega) (by omega) (by omega) (by omega) (by omega) (by omega) [1] (by omega) v w hv)
  have HV := hide hv
  obtain ⟨A, c, rfl⟩ := hv.shape
  clear hv
  go_enter Try.func123, Try.ntmps123
  go_wp2_with fail
  refine (unhide HP).mono ?_
  rintro e w1 ⟨u, rfl, hb, hu⟩
  obtain ⟨Au, cu, rfl⟩ := hu.shape
  have HB := Lib.hid hb
  have hb2 := hb.alloc hb.size (.cells #[.int .u8 0, .int .u32 0, .int .i64 1, .int .u8 0, .int .u8 5, .bool true, .int .u64 0, .int .u64 0, .bool true, .int .u64 0, .int .u64 0] 126)
  have HS := hide (set_ok A c (hl6 0 0 1 0 5 0 0 0 0 ++ [1]) 7 4 1 (w1.alloc (.cells #[.int .u8 0, .int .u32 0, .int .i64 1, .int .u8 0, .int .u8 5, .bool true, .int .u64 0, .int .u64 0, .bool true, .int .u64 0, .int .u64 0] 126)) (by have h := HV.out.st hb2; obtain ⟨_, _, e, _, h, _⟩ := h; injection e with e; subst e; exact h) (by decide) (by omega) (by omega) (by omega) (by decide))
  clear hb hu HP hb2
  unfold hv6
  go_wp2_with fail
  refine (unhide HS).mono ?_
  rintro e w2 ⟨A2, c2, rfl, ho, hb⟩
  obtain ⟨g, rfl, _, _⟩ := ho.blocks (by decide)
  have d7 : w2.cell? ⟨g, 7, none⟩ = some (.int .u8 4) := ho.at (k := 7) (by decide)
  have HB2 := Lib.hid ((HB.out.alloc HB.out.size _).trans (hb.mono (Nat.le_trans HB.out.size (by simp))))
  clear hb ho
  go_wp2_with fail
  go_ret2
  exact ⟨g, c2, rfl, HB2.out, d7⟩
set_option maxHeartbeats 2000000 in
theorem awake05 (w : World) : Calls Try.prog 80 #[] w fun e w' => e = .returned (.bool true) ∧ Below w.heap.size w w' := by
  have hb0 : Below w.heap.size w ((w.alloc (.cells #[.bool true, .int .u64 0, .int .u64 0] 31)).alloc (.cells #[.int .u8 1] 5)) := ((Below.refl _ _).alloc (Nat.le_refl _) _).alloc (by simp) _
  have hi := isb_lit (w.alloc (.cells #[.bool true, .int .u64 0, .int .u64 0] 31)) [1] (by simp)
  rw [show (w.alloc (.cells #[.bool true, .int .u64 0, .int .u64 0] 31)).heap.size = w.heap.size + 1 from by simp] at hi
  have HPK := hide (cpacket_yes 0 0 0 0 5 0 0 0 0 (by omega) (by omega) (by omega) (by omega) (by omega) (by omega) (by omega) (by omega) (some ⟨w.heap.size + 1, 0, none⟩) 1 1 [1] (by omega) _ hi)
  clear hi
  go_enter Try.func80, Try.ntmps80
  go_wp2_with fail
  refine (unhide HPK).mono ?_
  rintro e w1 ⟨v, rfl, hb, hv⟩
  obtain ⟨A1, c1, rfl⟩ := hv.shape
  have HV := hide hv; have HB := Lib.hid (hb0.trans (hb.mono hb0.size))
  clear hb hb0 hv HPK
  go_wp2_with fail
  refine (colder _ _ HV.out).mono ?_
  rintro e w2 ⟨g, c2, rfl, hb, d7⟩
  have HB2 := Lib.hid (HB.out.trans (hb.mono HB.out.size))
  clear hb
  go_wp2_with fail
  go_ret
  exact ⟨rfl, HB2.out⟩
set_option maxHeartbeats 1000000 in
theorem walk_long (cl la : Nat) (le : Int) (ne hq : Nat) (s6 : Bool) (sh sl : Nat) (d6 : Bool) (dh dl : Nat) (A : Option Addr) (n c : Nat) (l : List Int) (w : World) (h5 : 3000 < n) : Calls Try.prog 14 #[hv6 (cl : Int) (la : Int) le (ne : Int) (hq : Int) s6 (sh : Int) (sl : Int) d6 (dh : Int) (dl : Int), .slice A n c] w fun e w' => e = .returned (.bool true) ∧ Below w.heap.size w w' := by
  unfold hv6
  have hz : (3000 : Int) < (n : Int) := by omega
  have hb0 : Below w.heap.size w (w.alloc (.cells #[.int .u8 (cl : Int), .int .u32 (la : Int), .int .i64 le, .int .u8 (ne : Int), .int .u8 (hq : Int), .bool s6, .int .u64 (sh : Int), .int .u64 (sl : Int), .bool d6, .int .u64 (dh : Int), .int .u64 (dl : Int)] 125)) := (Below.refl _ _).alloc (Nat.le_refl _) _
  go_enter Try.func14, Try.ntmps14
  go_wp2_with fail
  refine (awake05 _).mono ?_
  rintro e w1 ⟨rfl, hb⟩
  have HB := Lib.hid (hb0.trans (hb.mono hb0.size))
  clear hb hb0
  go_wp2_with fail
  go_ret
  exact ⟨rfl, HB.out⟩
set_option maxHeartbeats 4000000 in
theorem walk_ff (cl la : Nat) (le : Int) (ne hq : Nat) (s6 : Bool) (sh sl : Nat) (d6 : Bool) (dh dl : Nat) (A : Option Addr) (n c : Nat) (l : List Int) (hcl : cl ≤ 255) (hne : ne ≤ 255) (hho : hq ≤ 255) (hsh : sh < 18446744073709551616) (hsl : sl < 18446744073709551616) (hdh : dh < 18446744073709551616) (hdl : dl < 18446744073709551616) (w : World) (hn3 : n ≤ 3000) (hv : IsB l n (.slice A n c) w) (hrA : right6 la le s6 d6 = false) (hrB : right6 la (n : Int) s6 d6 = false) : Calls Try.prog 14 #[hv6 (cl : Int) (la : Int) le (ne : Int) (hq : Int) s6 (sh : Int) (sl : Int) d6 (dh : Int) (dl : Int), .slice A n c] w fun e w' => e = .returned (.bool true) ∧ Below w.heap.size w w' := by
  have HRA := Lib.hid hrA; have HRB := Lib.hid hrB
  clear hrA hrB
  unfold hv6
  have hz : ¬ (3000 : Int) < (n : Int) := by omega
  have hb0 : Below w.heap.size w (w.alloc (.cells #[.int .u8 (cl : Int), .int .u32 (la : Int), .int .i64 le, .int .u8 (ne : Int), .int .u8 (hq : Int), .bool s6, .int .u64 (sh : Int), .int .u64 (sl : Int), .bool d6, .int .u64 (dh : Int), .int .u64 (dl : Int)] 125)) := (Below.refl _ _).alloc (Nat.le_refl _) _
  have hg0 := Is.new w 125 #[.int .u8 (cl : Int), .int .u32 (la : Int), .int .i64 le, .int .u8 (ne : Int), .int .u8 (hq : Int), .bool s6, .int .u64 (sh : Int), .int .u64 (sl : Int), .bool d6, .int .u64 (dh : Int), .int .u64 (dl : Int)]
  go_enter Try.func14, Try.ntmps14
  go_wp2_with fail
  generalize w.alloc (.cells #[.int .u8 (cl : Int), .int .u32 (la : Int), .int .i64 le, .int .u8 (ne : Int), .int .u8 (hq : Int), .bool s6, .int .u64 (sh : Int), .int .u64 (sl : Int), .bool d6, .int .u64 (dh : Int), .int .u64 (dl : Int)] 125) = W at *
  refine (cto6 cl la le ne hq s6 sh sl d6 dh dl _).mono ?_
  rintro e w1 ⟨rfl, hb⟩
  unfold hv6
  have hb1 := hb0.trans (hb.mono hb0.size); have hg1 := hg0.below hb hg0.lt
  clear hb hb0 hg0
  go_wp2_with fail
  have hg5z : w.heap.size ≤ w1.heap.size := hb1.size
  have HVW := hide hv
  have hb3 := hb1.alloc hb1.size (.cells #[.int .u8 (cl : Int), .int .u32 (la : Int), .int .i64 le, .int .u8 (ne : Int), .int .u8 (hq : Int), .bool s6, .int .u64 (sh : Int), .int .u64 (sl : Int), .bool d6, .int .u64 (dh : Int), .int .u64 (dl : Int)] 126)
  have HG := hide (hg1.alloc (.cells #[.int .u8 (cl : Int), .int .u32 (la : Int), .int .i64 le, .int .u8 (ne : Int), .int .u8 (hq : Int), .bool s6, .int .u64 (sh : Int), .int .u64 (sl : Int), .bool d6, .int .u64 (dh : Int), .int .u64 (dl : Int)] 126)); have HF := hide (Is.new w1 126 #[.int .u8 (cl : Int), .int .u32 (la : Int), .int .i64 le, .int .u8 (ne : Int), .int .u8 (hq : Int), .bool s6, .int .u64 (sh : Int), .int .u64 (sl : Int), .bool d6, .int .u64 (dh : Int), .int .u64 (dl : Int)]); have HB := Lib.hid hb3; have HV := hide (hv.st hb3)
  clear hg1 hb1 hb3 hv
  generalize w1.alloc (.cells #[.int .u8 (cl : Int), .int .u32 (la : Int), .int .i64 le, .int .u8 (ne : Int), .int .u8 (hq : Int), .bool s6, .int .u64 (sh : Int), .int .u64 (sl : Int), .bool d6, .int .u64 (dh : Int), .int .u64 (dl : Int)] 126) = W3 at *
  have HG5 := Lib.hid hg5z
  generalize w1.heap.size = g5 at *
  refine Lin.wp_region_lin Lin.keeps (n := 99)  (fun slotq => match slotq with | 19 => Lin.Spec.val (hv6 (cl : Int) (la : Int) le (ne : Int) (hq : Int) s6 (sh : Int) (sl : Int) d6 (dh : Int) (dl : Int)) | 20 => Lin.Spec.val (.bool false) | 21 => Lin.Spec.val (hv6 (cl : Int) (la : Int) le (ne : Int) (hq : Int) s6 (sh : Int) (sl : Int) d6 (dh : Int) (dl : Int)) | 22 => Lin.Spec.val (.bool false) | 23 => Lin.Spec.val (.bool false) | 24 => Lin.Spec.val (.bool false) | 25 => Lin.Spec.val (hv6 (cl : Int) (la : Int) le (ne : Int) (hq : Int) s6 (sh : Int) (sl : Int) d6 (dh : Int) (dl : Int)) | 26 => Lin.Spec.val (.bool false) | 27 => Lin.Spec.val (.bool false) | 28 => Lin.Spec.val (undef) | 29 => Lin.Spec.val (undef) | 30 => Lin.Spec.val (undef) | 31 => Lin.Spec.val (undef) | 32 => Lin.Spec.val (undef) | 33 => Lin.Spec.val (undef) | 34 => Lin.Spec.val (undef) | 35 => Lin.Spec.val (.bool false) | 36 => Lin.Spec.val (.bool false) | 37 => Lin.Spec.val (.bool false) | 38 => Lin.Spec.val (hv6 (cl : Int) (la : Int) le (ne : Int) (hq : Int) s6 (sh : Int) (sl : Int) d6 (dh : Int) (dl : Int)) | 39 => Lin.Spec.val (.bool false) | 40 => Lin.Spec.val (.bool true) | 41 => Lin.Spec.val (.bool true) | 42 => Lin.Spec.val (hv6 (cl : Int) (la : Int) le (ne : Int) (hq : Int) s6 (sh : Int) (sl : Int) d6 (dh : Int) (dl : Int)) | 43 => Lin.Spec.val (.slice none 0 0) | 44 => Lin.Spec.val (.int .i64 0) | 45 => Lin.Spec.val (.bool false) | 46 => Lin.Spec.val (.bool false) | 47 => Lin.Spec.val (.bool false) | _ => Lin.Spec.any) (by kernel_rfl) rfl (by kernel_rfl) ⟨?_, ?_, ?_, ?_, ?_, ?_, ?_, ?_, ?_, ?_, ?_, ?_, ?_, ?_, ?_, ?_, ?_, ?_, ?_, ?_, ?_, ?_, ?_, ?_, ?_, ?_, ?_, ?_, ?_, trivial⟩ ?_
  · intro ρ wq hb ho hc hd
    have hC : ∀ v, ρ (.const v) = v := fun v => hc _ (by intro t e; cases e)
    have hF : ∀ f, ρ (.func f) = .func (.func f) #[] #[] := fun f => hc _ (by intro t e; cases e)
    have h5 : ρ (.tmp 5) = .pointer (some ⟨g5, 0, none⟩) := ho 5 (by kernel_rfl)
    have hg8 := HF.out.below hb HF.out.lt
    have m0 := hg8.cell 0
    have m1 := hg8.cell 1
    have m2 := hg8.cell 2
    have m3 := hg8.cell 3
    have m4 := hg8.cell 4
    have m5 := hg8.cell 5
    have m6 := hg8.cell 6
    have m7 := hg8.cell 7
    have m8 := hg8.cell 8
    have m9 := hg8.cell 9
    have m10 := hg8.cell 10
    simp at m0 m1 m2 m3 m4 m5 m6 m7 m8 m9 m10
    exact Lin.Runs.value Lin.keeps (v := hv6 (cl : Int) (la : Int) le (ne : Int) (hq : Int) s6 (sh : Int) (sl : Int) d6 (dh : Int) (dl : Int)) (by simp [hv6, execOp, go_sem, h5, m0, m1, m2, m3, m4, m5, m6, m7, m8, m9, m10]) rfl
  · intro ρ wq hb ho hc hd
    have hC : ∀ v, ρ (.const v) = v := fun v => hc _ (by intro t e; cases e)
    have hF : ∀ f, ρ (.func f) = .func (.func f) #[] #[] := fun f => hc _ (by intro t e; cases e)
    have h19 : ρ (.tmp 19) = hv6 (cl : Int) (la : Int) le (ne : Int) (hq : Int) s6 (sh : Int) (sl : Int) d6 (dh : Int) (dl : Int) := hd 19 (by kernel_rfl)
    exact Lin.Runs.call Lin.keeps (f := 82) (args := #[hv6 (cl : Int) (la : Int) le (ne : Int) (hq : Int) s6 (sh : Int) (sl : Int) d6 (dh : Int) (dl : Int)]) (by simp [hv6, execOp, go_sem, hF, h19]) ((cright6 cl la le ne hq s6 sh sl d6 dh dl wq).mono fun e w9 h => ⟨_, h.1, h.2, by rw [HRA.out]; rfl⟩)
  · intro ρ wq hb ho hc hd
    have hC : ∀ v, ρ (.const v) = v := fun v => hc _ (by intro t e; cases e)
    have hF : ∀ f, ρ (.func f) = .func (.func f) #[] #[] := fun f => hc _ (by intro t e; cases e)
    have h2 : ρ (.tmp 2) = .pointer (some ⟨w.heap.size, 0, none⟩) := ho 2 (by kernel_rfl)
    have hg8 := HG.out.below hb HG.out.lt
    have m0 := hg8.cell 0
    have m1 := hg8.cell 1
    have m2 := hg8.cell 2
    have m3 := hg8.cell 3
    have m4 := hg8.cell 4
    have m5 := hg8.cell 5
    have m6 := hg8.cell 6
    have m7 := hg8.cell 7
    have m8 := hg8.cell 8
    have m9 := hg8.cell 9
    have m10 := hg8.cell 10
    simp at m0 m1 m2 m3 m4 m5 m6 m7 m8 m9 m10
    exact Lin.Runs.value Lin.keeps (v := hv6 (cl : Int) (la : Int) le (ne : Int) (hq : Int) s6 (sh : Int) (sl : Int) d6 (dh : Int) (dl : Int)) (by simp [hv6, execOp, go_sem, h2, m0, m1, m2, m3, m4, m5, m6, m7, m8, m9, m10]) rfl
  · intro ρ wq hb ho hc hd
    have hC : ∀ v, ρ (.const v) = v := fun v => hc _ (by intro t e; cases e)
    have hF : ∀ f, ρ (.func f) = .func (.func f) #[] #[] := fun f => hc _ (by intro t e; cases e)
    have h21 : ρ (.tmp 21) = hv6 (cl : Int) (la : Int) le (ne : Int) (hq : Int) s6 (sh : Int) (sl : Int) d6 (dh : Int) (dl : Int) := hd 21 (by kernel_rfl)
    exact Lin.Runs.call Lin.keeps (f := 83) (args := #[hv6 (cl : Int) (la : Int) le (ne : Int) (hq : Int) s6 (sh : Int) (sl : Int) d6 (dh : Int) (dl : Int)]) (by simp [hv6, execOp, go_sem, hF, h21]) ((rright6 cl la le ne hq s6 sh sl d6 dh dl wq).mono fun e w9 h => ⟨_, h.1, h.2, by rw [HRA.out]; rfl⟩)
  · intro ρ wq hb ho hc hd
    have hC : ∀ v, ρ (.const v) = v := fun v => hc _ (by intro t e; cases e)
    have hF : ∀ f, ρ (.func f) = .func (.func f) #[] #[] := fun f => hc _ (by intro t e; cases e)
    have h20 : ρ (.tmp 20) = .bool false := hd 20 (by kernel_rfl)
    have h22 : ρ (.tmp 22) = .bool false := hd 22 (by kernel_rfl)
    exact Lin.Runs.value Lin.keeps (v := .bool false) (by simp [execOp, go_sem, h20, h22]) rfl
  · intro ρ wq hb ho hc hd
    have hC : ∀ v, ρ (.const v) = v := fun v => hc _ (by intro t e; cases e)
    have hF : ∀ f, ρ (.func f) = .func (.func f) #[] #[] := fun f => hc _ (by intro t e; cases e)
    have h23 : ρ (.tmp 23) = .bool false := hd 23 (by kernel_rfl)
    exact Lin.Runs.value Lin.keeps (Lin.exec_move rfl) h23
  · intro ρ wq hb ho hc hd
    have hC : ∀ v, ρ (.const v) = v := fun v => hc _ (by intro t e; cases e)
    have hF : ∀ f, ρ (.func f) = .func (.func f) #[] #[] := fun f => hc _ (by intro t e; cases e)
    intro t ht; cases (show some 24 = some t from ht)
    refine ⟨fun _ => ?_, fun hn => absurd (hd 24 (by kernel_rfl)) hn⟩
    have h2 : ρ (.tmp 2) = .pointer (some ⟨w.heap.size, 0, none⟩) := ho 2 (by kernel_rfl)
    have hg8 := HG.out.below hb HG.out.lt
    have m0 := hg8.cell 0
    have m1 := hg8.cell 1
    have m2 := hg8.cell 2
    have m3 := hg8.cell 3
    have m4 := hg8.cell 4
    have m5 := hg8.cell 5
    have m6 := hg8.cell 6
    have m7 := hg8.cell 7
    have m8 := hg8.cell 8
    have m9 := hg8.cell 9
    have m10 := hg8.cell 10
    simp at m0 m1 m2 m3 m4 m5 m6 m7 m8 m9 m10
    exact Lin.Runs.value Lin.keeps (v := hv6 (cl : Int) (la : Int) le (ne : Int) (hq : Int) s6 (sh : Int) (sl : Int) d6 (dh : Int) (dl : Int)) (by simp [hv6, execOp, go_sem, h2, m0, m1, m2, m3, m4, m5, m6, m7, m8, m9, m10]) rfl
  · intro ρ wq hb ho hc hd
    have hC : ∀ v, ρ (.const v) = v := fun v => hc _ (by intro t e; cases e)
    have hF : ∀ f, ρ (.func f) = .func (.func f) #[] #[] := fun f => hc _ (by intro t e; cases e)
    intro t ht; cases (show some 24 = some t from ht)
    refine ⟨fun _ => ?_, fun hn => absurd (hd 24 (by kernel_rfl)) hn⟩
    have h25 : ρ (.tmp 25) = hv6 (cl : Int) (la : Int) le (ne : Int) (hq : Int) s6 (sh : Int) (sl : Int) d6 (dh : Int) (dl : Int) := hd 25 (by kernel_rfl)
    exact Lin.Runs.call Lin.keeps (f := 83) (args := #[hv6 (cl : Int) (la : Int) le (ne : Int) (hq : Int) s6 (sh : Int) (sl : Int) d6 (dh : Int) (dl : Int)]) (by simp [hv6, execOp, go_sem, hF, h25]) ((rright6 cl la le ne hq s6 sh sl d6 dh dl wq).mono fun e w9 h => ⟨_, h.1, h.2, by rw [HRA.out]; rfl⟩)
  · intro ρ wq hb ho hc hd
    have hC : ∀ v, ρ (.const v) = v := fun v => hc _ (by intro t e; cases e)
    have hF : ∀ f, ρ (.func f) = .func (.func f) #[] #[] := fun f => hc _ (by intro t e; cases e)
    intro t ht; cases (show some 24 = some t from ht)
    refine ⟨fun _ => ?_, fun hn => absurd (hd 24 (by kernel_rfl)) hn⟩
    have h26 : ρ (.tmp 26) = .bool false := hd 26 (by kernel_rfl)
    exact Lin.Runs.value Lin.keeps (Lin.exec_move rfl) h26
  · intro ρ wq hb ho hc hd
    have hC : ∀ v, ρ (.const v) = v := fun v => hc _ (by intro t e; cases e)
    have hF : ∀ f, ρ (.func f) = .func (.func f) #[] #[] := fun f => hc _ (by intro t e; cases e)
    intro t ht; cases (show some 27 = some t from ht)
    exact ⟨fun he => absurd (he.symm.trans (hd 27 (by kernel_rfl))) (by first | simp | (intro h; cases h)), fun _ => rfl⟩
  · intro ρ wq hb ho hc hd
    have hC : ∀ v, ρ (.const v) = v := fun v => hc _ (by intro t e; cases e)
    have hF : ∀ f, ρ (.func f) = .func (.func f) #[] #[] := fun f => hc _ (by intro t e; cases e)
    intro t ht; cases (show some 27 = some t from ht)
    exact ⟨fun he => absurd (he.symm.trans (hd 27 (by kernel_rfl))) (by first | simp | (intro h; cases h)), fun _ => rfl⟩
  · intro ρ wq hb ho hc hd
    have hC : ∀ v, ρ (.const v) = v := fun v => hc _ (by intro t e; cases e)
    have hF : ∀ f, ρ (.func f) = .func (.func f) #[] #[] := fun f => hc _ (by intro t e; cases e)
    intro t ht; cases (show some 27 = some t from ht)
    exact ⟨fun he => absurd (he.symm.trans (hd 27 (by kernel_rfl))) (by first | simp | (intro h; cases h)), fun _ => rfl⟩
  · intro ρ wq hb ho hc hd
    have hC : ∀ v, ρ (.const v) = v := fun v => hc _ (by intro t e; cases e)
    have hF : ∀ f, ρ (.func f) = .func (.func f) #[] #[] := fun f => hc _ (by intro t e; cases e)
    intro t ht; cases (show some 27 = some t from ht)
    exact ⟨fun he => absurd (he.symm.trans (hd 27 (by kernel_rfl))) (by first | simp | (intro h; cases h)), fun _ => rfl⟩
  · intro ρ wq hb ho hc hd
    have hC : ∀ v, ρ (.const v) = v := fun v => hc _ (by intro t e; cases e)
    have hF : ∀ f, ρ (.func f) = .func (.func f) #[] #[] := fun f => hc _ (by intro t e; cases e)
    intro t ht; cases (show some 27 = some t from ht)
    exact ⟨fun he => absurd (he.symm.trans (hd 27 (by kernel_rfl))) (by first | simp | (intro h; cases h)), fun _ => rfl⟩
  · intro ρ wq hb ho hc hd
    have hC : ∀ v, ρ (.const v) = v := fun v => hc _ (by intro t e; cases e)
    have hF : ∀ f, ρ (.func f) = .func (.func f) #[] #[] := fun f => hc _ (by intro t e; cases e)
    intro t ht; cases (show some 27 = some t from ht)
    exact ⟨fun he => absurd (he.symm.trans (hd 27 (by kernel_rfl))) (by first | simp | (intro h; cases h)), fun _ => rfl⟩
  · intro ρ wq hb ho hc hd
    have hC : ∀ v, ρ (.const v) = v := fun v => hc _ (by intro t e; cases e)
    have hF : ∀ f, ρ (.func f) = .func (.func f) #[] #[] := fun f => hc _ (by intro t e; cases e)
    intro t ht; cases (show some 27 = some t from ht)
    exact ⟨fun he => absurd (he.symm.trans (hd 27 (by kernel_rfl))) (by first | simp | (intro h; cases h)), fun _ => rfl⟩
  · intro ρ wq hb ho hc hd
    have hC : ∀ v, ρ (.const v) = v := fun v => hc _ (by intro t e; cases e)
    have hF : ∀ f, ρ (.func f) = .func (.func f) #[] #[] := fun f => hc _ (by intro t e; cases e)
    intro t ht; cases (show some 24 = some t from ht)
    refine ⟨fun _ => ?_, fun hn => absurd (hd 24 (by kernel_rfl)) hn⟩
    have h27 : ρ (.tmp 27) = .bool false := hd 27 (by kernel_rfl)
    have h34 : ρ (.tmp 34) = undef := hd 34 (by kernel_rfl)
    exact Lin.Runs.value Lin.keeps (v := .bool false) (by simp [execOp, go_sem, hC, h27, h34]) rfl
  · intro ρ wq hb ho hc hd
    have hC : ∀ v, ρ (.const v) = v := fun v => hc _ (by intro t e; cases e)
    have hF : ∀ f, ρ (.func f) = .func (.func f) #[] #[] := fun f => hc _ (by intro t e; cases e)
    have h24 : ρ (.tmp 24) = .bool false := hd 24 (by kernel_rfl)
    have h35 : ρ (.tmp 35) = .bool false := hd 35 (by kernel_rfl)
    exact Lin.Runs.value Lin.keeps (v := .bool false) (by simp [execOp, go_sem, hC, h24, h35]) rfl
  · intro ρ wq hb ho hc hd
    have hC : ∀ v, ρ (.const v) = v := fun v => hc _ (by intro t e; cases e)
    have hF : ∀ f, ρ (.func f) = .func (.func f) #[] #[] := fun f => hc _ (by intro t e; cases e)
    have h36 : ρ (.tmp 36) = .bool false := hd 36 (by kernel_rfl)
    exact Lin.Runs.value Lin.keeps (Lin.exec_move rfl) h36
  · intro ρ wq hb ho hc hd
    have hC : ∀ v, ρ (.const v) = v := fun v => hc _ (by intro t e; cases e)
    have hF : ∀ f, ρ (.func f) = .func (.func f) #[] #[] := fun f => hc _ (by intro t e; cases e)
    intro t ht; cases (show some 37 = some t from ht)
    refine ⟨fun _ => ?_, fun hn => absurd (hd 37 (by kernel_rfl)) hn⟩
    have h2 : ρ (.tmp 2) = .pointer (some ⟨w.heap.size, 0, none⟩) := ho 2 (by kernel_rfl)
    have hg8 := HG.out.below hb HG.out.lt
    have m0 := hg8.cell 0
    have m1 := hg8.cell 1
    have m2 := hg8.cell 2
    have m3 := hg8.cell 3
    have m4 := hg8.cell 4
    have m5 := hg8.cell 5
    have m6 := hg8.cell 6
    have m7 := hg8.cell 7
    have m8 := hg8.cell 8
    have m9 := hg8.cell 9
    have m10 := hg8.cell 10
    simp at m0 m1 m2 m3 m4 m5 m6 m7 m8 m9 m10
    exact Lin.Runs.value Lin.keeps (v := hv6 (cl : Int) (la : Int) le (ne : Int) (hq : Int) s6 (sh : Int) (sl : Int) d6 (dh : Int) (dl : Int)) (by simp [hv6, execOp, go_sem, h2, m0, m1, m2, m3, m4, m5, m6, m7, m8, m9, m10]) rfl
  · intro ρ wq hb ho hc hd
    have hC : ∀ v, ρ (.const v) = v := fun v => hc _ (by intro t e; cases e)
    have hF : ∀ f, ρ (.func f) = .func (.func f) #[] #[] := fun f => hc _ (by intro t e; cases e)
    intro t ht; cases (show some 37 = some t from ht)
    refine ⟨fun _ => ?_, fun hn => absurd (hd 37 (by kernel_rfl)) hn⟩
    have h38 : ρ (.tmp 38) = hv6 (cl : Int) (la : Int) le (ne : Int) (hq : Int) s6 (sh : Int) (sl : Int) d6 (dh : Int) (dl : Int) := hd 38 (by kernel_rfl)
    exact Lin.Runs.call Lin.keeps (f := 83) (args := #[hv6 (cl : Int) (la : Int) le (ne : Int) (hq : Int) s6 (sh : Int) (sl : Int) d6 (dh : Int) (dl : Int)]) (by simp [hv6, execOp, go_sem, hF, h38]) ((rright6 cl la le ne hq s6 sh sl d6 dh dl wq).mono fun e w9 h => ⟨_, h.1, h.2, by rw [HRA.out]; rfl⟩)
  · intro ρ wq hb ho hc hd
    have hC : ∀ v, ρ (.const v) = v := fun v => hc _ (by intro t e; cases e)
    have hF : ∀ f, ρ (.func f) = .func (.func f) #[] #[] := fun f => hc _ (by intro t e; cases e)
    intro t ht; cases (show some 37 = some t from ht)
    refine ⟨fun _ => ?_, fun hn => absurd (hd 37 (by kernel_rfl)) hn⟩
    have h39 : ρ (.tmp 39) = .bool false := hd 39 (by kernel_rfl)
    exact Lin.Runs.value Lin.keeps (v := .bool true) (by simp [execOp, go_sem, h39]) rfl
  · intro ρ wq hb ho hc hd
    have hC : ∀ v, ρ (.const v) = v := fun v => hc _ (by intro t e; cases e)
    have hF : ∀ f, ρ (.func f) = .func (.func f) #[] #[] := fun f => hc _ (by intro t e; cases e)
    intro t ht; cases (show some 37 = some t from ht)
    refine ⟨fun _ => ?_, fun hn => absurd (hd 37 (by kernel_rfl)) hn⟩
    have h40 : ρ (.tmp 40) = .bool true := hd 40 (by kernel_rfl)
    exact Lin.Runs.value Lin.keeps (Lin.exec_move rfl) h40
  · intro ρ wq hb ho hc hd
    have hC : ∀ v, ρ (.const v) = v := fun v => hc _ (by intro t e; cases e)
    have hF : ∀ f, ρ (.func f) = .func (.func f) #[] #[] := fun f => hc _ (by intro t e; cases e)
    intro t ht; cases (show some 41 = some t from ht)
    refine ⟨fun _ => ?_, fun hn => absurd (hd 41 (by kernel_rfl)) hn⟩
    have h5 : ρ (.tmp 5) = .pointer (some ⟨g5, 0, none⟩) := ho 5 (by kernel_rfl)
    have hg8 := HF.out.below hb HF.out.lt
    have m0 := hg8.cell 0
    have m1 := hg8.cell 1
    have m2 := hg8.cell 2
    have m3 := hg8.cell 3
    have m4 := hg8.cell 4
    have m5 := hg8.cell 5
    have m6 := hg8.cell 6
    have m7 := hg8.cell 7
    have m8 := hg8.cell 8
    have m9 := hg8.cell 9
    have m10 := hg8.cell 10
    simp at m0 m1 m2 m3 m4 m5 m6 m7 m8 m9 m10
    exact Lin.Runs.value Lin.keeps (v := hv6 (cl : Int) (la : Int) le (ne : Int) (hq : Int) s6 (sh : Int) (sl : Int) d6 (dh : Int) (dl : Int)) (by simp [hv6, execOp, go_sem, h5, m0, m1, m2, m3, m4, m5, m6, m7, m8, m9, m10]) rfl
  · intro ρ wq hb ho hc hd
    have hC : ∀ v, ρ (.const v) = v := fun v => hc _ (by intro t e; cases e)
    have hF : ∀ f, ρ (.func f) = .func (.func f) #[] #[] := fun f => hc _ (by intro t e; cases e)
    intro t ht; cases (show some 41 = some t from ht)
    refine ⟨fun _ => ?_, fun hn => absurd (hd 41 (by kernel_rfl)) hn⟩
    have h42 : ρ (.tmp 42) = hv6 (cl : Int) (la : Int) le (ne : Int) (hq : Int) s6 (sh : Int) (sl : Int) d6 (dh : Int) (dl : Int) := hd 42 (by kernel_rfl)
    exact Lin.Runs.call Lin.keeps (f := 84) (args := #[hv6 (cl : Int) (la : Int) le (ne : Int) (hq : Int) s6 (sh : Int) (sl : Int) d6 (dh : Int) (dl : Int)]) (by simp [hv6, execOp, go_sem, hF, h42]) ((cbytes6_no cl la le ne hq s6 sh sl d6 dh dl wq HRA.out).mono fun e w9 h => ⟨_, h.1, h.2, rfl⟩)
  · intro ρ wq hb ho hc hd
    have hC : ∀ v, ρ (.const v) = v := fun v => hc _ (by intro t e; cases e)
    have hF : ∀ f, ρ (.func f) = .func (.func f) #[] #[] := fun f => hc _ (by intro t e; cases e)
    intro t ht; cases (show some 41 = some t from ht)
    refine ⟨fun _ => ?_, fun hn => absurd (hd 41 (by kernel_rfl)) hn⟩
    have h43 : ρ (.tmp 43) = .slice none 0 0 := hd 43 (by kernel_rfl)
    exact Lin.Runs.value Lin.keeps (v := .int .i64 0) (by simp [execOp, go_sem, h43]) rfl
  · intro ρ wq hb ho hc hd
    have hC : ∀ v, ρ (.const v) = v := fun v => hc _ (by intro t e; cases e)
    have hF : ∀ f, ρ (.func f) = .func (.func f) #[] #[] := fun f => hc _ (by intro t e; cases e)
    intro t ht; cases (show some 41 = some t from ht)
    refine ⟨fun _ => ?_, fun hn => absurd (hd 41 (by kernel_rfl)) hn⟩
    have h44 : ρ (.tmp 44) = .int .i64 0 := hd 44 (by kernel_rfl)
    exact Lin.Runs.value Lin.keeps (v := .bool false) (by simp [execOp, go_sem, hC, h44]) rfl
  · intro ρ wq hb ho hc hd
    have hC : ∀ v, ρ (.const v) = v := fun v => hc _ (by intro t e; cases e)
    have hF : ∀ f, ρ (.func f) = .func (.func f) #[] #[] := fun f => hc _ (by intro t e; cases e)
    intro t ht; cases (show some 37 = some t from ht)
    refine ⟨fun _ => ?_, fun hn => absurd (hd 37 (by kernel_rfl)) hn⟩
    have h41 : ρ (.tmp 41) = .bool true := hd 41 (by kernel_rfl)
    have h45 : ρ (.tmp 45) = .bool false := hd 45 (by kernel_rfl)
    exact Lin.Runs.value Lin.keeps (v := .bool false) (by simp [execOp, go_sem, hC, h41, h45]) rfl
  · intro ρ wq hb ho hc hd
    have hC : ∀ v, ρ (.const v) = v := fun v => hc _ (by intro t e; cases e)
    have hF : ∀ f, ρ (.func f) = .func (.func f) #[] #[] := fun f => hc _ (by intro t e; cases e)
    have h37 : ρ (.tmp 37) = .bool false := hd 37 (by kernel_rfl)
    have h46 : ρ (.tmp 46) = .bool false := hd 46 (by kernel_rfl)
    exact Lin.Runs.value Lin.keeps (v := .bool false) (by simp [execOp, go_sem, hC, h37, h46]) rfl
  · intro vals w4 hb2 hv
    have e47 := hv 47 (by kernel_rfl)
    have HG9 := hide (HG.out.below hb2 HG.out.lt); have HF9 := hide (HF.out.below hb2 HF.out.lt); have HB9 := Lib.hid (HB.out.trans (hb2.mono HB.out.size)); have HV9 := hide (HV.out.st hb2)
    clear hv hb2 HG HF HB HV
    have HG := HG9; have HF := HF9; have HB := HB9; have HV := HV9
    clear HG9 HF9 HB9 HV9
    simp only [Lin.putAll, Option.getD_some]
    rw [show vals 47 = .bool false from e47]
    go_simp
    generalize vals = vv
    have a0 := HG.out.cell 0
    have a1 := HG.out.cell 1
    have a2 := HG.out.cell 2
    have a3 := HG.out.cell 3
    have a4 := HG.out.cell 4
    have a5 := HG.out.cell 5
    have a6 := HG.out.cell 6
    have a7 := HG.out.cell 7
    have a8 := HG.out.cell 8
    have a9 := HG.out.cell 9
    have a10 := HG.out.cell 10
    have b0 := HF.out.cell 0
    have b1 := HF.out.cell 1
    have b2 := HF.out.cell 2
    have b3 := HF.out.cell 3
    have b4 := HF.out.cell 4
    have b5 := HF.out.cell 5
    have b6 := HF.out.cell 6
    have b7 := HF.out.cell 7
    have b8 := HF.out.cell 8
    have b9 := HF.out.cell 9
    have b10 := HF.out.cell 10
    simp at a0 a1 a2 a3 a4 a5 a6 a7 a8 a9 a10 b0 b1 b2 b3 b4 b5 b6 b7 b8 b9 b10
    have g5l := HF.out.lt
    go_wp2_with fail
    refine (cpacket_no cl la le ne hq s6 sh sl d6 dh dl hcl hne hho hsh hsl hdh hdl A n c l hn3 _ HRB.out).mono ?_
    rintro e w5 ⟨rfl, hb2⟩
    have HG9 := hide (HG.out.below hb2 HG.out.lt); have HF9 := hide (HF.out.below hb2 HF.out.lt); have HB9 := Lib.hid (HB.out.trans (hb2.mono HB.out.size)); have HV9 := hide (HV.out.st hb2)
    clear hb2 HG HF HB HV a0 a1 a2 a3 a4 a5 a6 a7 a8 a9 a10 b0 b1 b2 b3 b4 b5 b6 b7 b8 b9 b10 g5l
    have HG := HG9; have HF := HF9; have HB := HB9; have HV := HV9
    clear HG9 HF9 HB9 HV9
    have a0 := HG.out.cell 0
    have a1 := HG.out.cell 1
    have a2 := HG.out.cell 2
    have a3 := HG.out.cell 3
    have a4 := HG.out.cell 4
    have a5 := HG.out.cell 5
    have a6 := HG.out.cell 6
    have a7 := HG.out.cell 7
    have a8 := HG.out.cell 8
    have a9 := HG.out.cell 9
    have a10 := HG.out.cell 10
    have b0 := HF.out.cell 0
    have b1 := HF.out.cell 1
    have b2 := HF.out.cell 2
    have b3 := HF.out.cell 3
    have b4 := HF.out.cell 4
    have b5 := HF.out.cell 5
    have b6 := HF.out.cell 6
    have b7 := HF.out.cell 7
    have b8 := HF.out.cell 8
    have b9 := HF.out.cell 9
    have b10 := HF.out.cell 10
    simp at a0 a1 a2 a3 a4 a5 a6 a7 a8 a9 a10 b0 b1 b2 b3 b4 b5 b6 b7 b8 b9 b10
    have g5l := HF.out.lt
    go_wp2_with fail
    refine (rpacket_no cl la le ne hq s6 sh sl d6 dh dl hcl hne hho hsh hsl hdh hdl A n c l hn3 _ HRB.out).mono ?_
    rintro e w6 ⟨rfl, hb2⟩
    have HG9 := hide (HG.out.below hb2 HG.out.lt); have HF9 := hide (HF.out.below hb2 HF.out.lt); have HB9 := Lib.hid (HB.out.trans (hb2.mono HB.out.size)); have HV9 := hide (HV.out.st hb2)
    clear hb2 HG HF HB HV a0 a1 a2 a3 a4 a5 a6 a7 a8 a9 a10 b0 b1 b2 b3 b4 b5 b6 b7 b8 b9 b10 g5l
    have HG := HG9; have HF := HF9; have HB := HB9; have HV := HV9
    clear HG9 HF9 HB9 HV9
    have cv0 : (convert 22 9 (.slice none 0 0)).run Try.prog w6 = .ok (.string (strOfNums [])) w6 := conv_n (B := 0) (Bytes.nil _ _ _) rfl 0
    go_wp2_with fail
    refine (awake05 _).mono ?_
    rintro e w7 ⟨rfl, hb2⟩
    have HB9 := Lib.hid (HB.out.trans (hb2.mono HB.out.size))
    clear hb2
    go_wp2_with fail
    go_ret
    exact ⟨rfl, HB9.out⟩
set_option maxHeartbeats 4000000 in
theorem walk_tt (cl la le : Nat) (ne hq : Nat) (sh sl : Nat) (dh dl : Nat) (A : Option Addr) (n c : Nat) (l : List Int) (hcl : cl ≤ 255) (hne : ne ≤ 255) (hho : hq ≤ 255) (hsh : sh < 18446744073709551616) (hsl : sl < 18446744073709551616) (hdh : dh < 18446744073709551616) (hdl : dl < 18446744073709551616) (w : World) (hn3 : n ≤ 3000) (hv : IsB l n (.slice A n c) w) (hrA : right6 la (le : Int) true true = true) (hrB : right6 la (n : Int) true true = true) (hla : la < 1048576) (hle : le ≤ 65535) : Calls Try.prog 14 #[hv6 (cl : Int) (la : Int) (le : Int) (ne : Int) (hq : Int) true (sh : Int) (sl : Int) true (dh : Int) (dl : Int), .slice A n c] w fun e w' => e = .returned (.bool true) ∧ Below w.heap.size w w' := by
  have HRA := Lib.hid hrA; have HRB := Lib.hid hrB
  clear hrA hrB
  unfold hv6
  have hz : ¬ (3000 : Int) < (n : Int) := by omega
  have hb0 : Below w.heap.size w (w.alloc (.cells #[.int .u8 (cl : Int), .int .u32 (la : Int), .int .i64 (le : Int), .int .u8 (ne : Int), .int .u8 (hq : Int), .bool true, .int .u64 (sh : Int), .int .u64 (sl : Int), .bool true, .int .u64 (dh : Int), .int .u64 (dl : Int)] 125)) := (Below.refl _ _).alloc (Nat.le_refl _) _
  have hg0 := Is.new w 125 #[.int .u8 (cl : Int), .int .u32 (la : Int), .int .i64 (le : Int), .int .u8 (ne : Int), .int .u8 (hq : Int), .bool true, .int .u64 (sh : Int), .int .u64 (sl : Int), .bool true, .int .u64 (dh : Int), .int .u64 (dl : Int)]
  go_enter Try.func14, Try.ntmps14
  go_wp2_with fail
  generalize w.alloc (.cells #[.int .u8 (cl : Int), .int .u32 (la : Int), .int .i64 (le : Int), .int .u8 (ne : Int), .int .u8 (hq : Int), .bool true, .int .u64 (sh : Int), .int .u64 (sl : Int), .bool true, .int .u64 (dh : Int), .int .u64 (dl : Int)] 125) = W at *
  refine (cto6 cl la (le : Int) ne hq true sh sl true dh dl _).mono ?_
  rintro e w1 ⟨rfl, hb⟩
  unfold hv6
  have hb1 := hb0.trans (hb.mono hb0.size); have hg1 := hg0.below hb hg0.lt
  clear hb hb0 hg0
  go_wp2_with fail
  have hg5z : w.heap.size ≤ w1.heap.size := hb1.size
  have HVW := hide hv
  have hb3 := hb1.alloc hb1.size (.cells #[.int .u8 (cl : Int), .int .u32 (la : Int), .int .i64 (le : Int), .int .u8 (ne : Int), .int .u8 (hq : Int), .bool true, .int .u64 (sh : Int), .int .u64 (sl : Int), .bool true, .int .u64 (dh : Int), .int .u64 (dl : Int)] 126)
  have HG := hide (hg1.alloc (.cells #[.int .u8 (cl : Int), .int .u32 (la : Int), .int .i64 (le : Int), .int .u8 (ne : Int), .int .u8 (hq : Int), .bool true, .int .u64 (sh : Int), .int .u64 (sl : Int), .bool true, .int .u64 (dh : Int), .int .u64 (dl : Int)] 126)); have HF := hide (Is.new w1 126 #[.int .u8 (cl : Int), .int .u32 (la : Int), .int .i64 (le : Int), .int .u8 (ne : Int), .int .u8 (hq : Int), .bool true, .int .u64 (sh : Int), .int .u64 (sl : Int), .bool true, .int .u64 (dh : Int), .int .u64 (dl : Int)]); have HB := Lib.hid hb3; have HV := hide (hv.st hb3)
  clear hg1 hb1 hb3 hv
  generalize w1.alloc (.cells #[.int .u8 (cl : Int), .int .u32 (la : Int), .int .i64 (le : Int), .int .u8 (ne : Int), .int .u8 (hq : Int), .bool true, .int .u64 (sh : Int), .int .u64 (sl : Int), .bool true, .int .u64 (dh : Int), .int .u64 (dl : Int)] 126) = W3 at *
  have HG5 := Lib.hid hg5z
  generalize w1.heap.size = g5 at *
  refine Lin.wp_region_lin Lin.keeps (n := 99)  (fun slotq => match slotq with | 19 => Lin.Spec.val (hv6 (cl : Int) (la : Int) (le : Int) (ne : Int) (hq : Int) true (sh : Int) (sl : Int) true (dh : Int) (dl : Int)) | 20 => Lin.Spec.val (.bool true) | 21 => Lin.Spec.val (hv6 (cl : Int) (la : Int) (le : Int) (ne : Int) (hq : Int) true (sh : Int) (sl : Int) true (dh : Int) (dl : Int)) | 22 => Lin.Spec.val (.bool true) | 23 => Lin.Spec.val (.bool false) | 24 => Lin.Spec.val (.bool false) | 25 => Lin.Spec.val (hv6 (cl : Int) (la : Int) (le : Int) (ne : Int) (hq : Int) true (sh : Int) (sl : Int) true (dh : Int) (dl : Int)) | 26 => Lin.Spec.val (.bool true) | 27 => Lin.Spec.val (.bool true) | 28 => Lin.Spec.val (hv6 (cl : Int) (la : Int) (le : Int) (ne : Int) (hq : Int) true (sh : Int) (sl : Int) true (dh : Int) (dl : Int)) | 29 => Lin.Spec.sl (hl6 cl la le ne hq sh sl dh dl) 40 | 30 => Lin.Spec.val (.string (strOfNums (hl6 cl la le ne hq sh sl dh dl))) | 31 => Lin.Spec.val (hv6 (cl : Int) (la : Int) (le : Int) (ne : Int) (hq : Int) true (sh : Int) (sl : Int) true (dh : Int) (dl : Int)) | 32 => Lin.Spec.sl (hl6 cl la le ne hq sh sl dh dl) 40 | 33 => Lin.Spec.val (.string (strOfNums (hl6 cl la le ne hq sh sl dh dl))) | 34 => Lin.Spec.val (.bool false) | 35 => Lin.Spec.val (.bool false) | 36 => Lin.Spec.val (.bool false) | 37 => Lin.Spec.val (.bool false) | 38 => Lin.Spec.val (hv6 (cl : Int) (la : Int) (le : Int) (ne : Int) (hq : Int) true (sh : Int) (sl : Int) true (dh : Int) (dl : Int)) | 39 => Lin.Spec.val (.bool true) | 40 => Lin.Spec.val (.bool false) | 41 => Lin.Spec.val (.bool false) | 42 => Lin.Spec.val (undef) | 43 => Lin.Spec.val (undef) | 44 => Lin.Spec.val (undef) | 45 => Lin.Spec.val (undef) | 46 => Lin.Spec.val (.bool false) | 47 => Lin.Spec.val (.bool false) | _ => Lin.Spec.any) (by kernel_rfl) rfl (by kernel_rfl) ⟨?_, ?_, ?_, ?_, ?_, ?_, ?_, ?_, ?_, ?_, ?_, ?_, ?_, ?_, ?_, ?_, ?_, ?_, ?_, ?_, ?_, ?_, ?_, ?_, ?_, ?_, ?_, ?_, ?_, trivial⟩ ?_
  · intro ρ wq hb ho hc hd
    have hC : ∀ v, ρ (.const v) = v := fun v => hc _ (by intro t e; cases e)
    have hF : ∀ f, ρ (.func f) = .func (.func f) #[] #[] := fun f => hc _ (by intro t e; cases e)
    have h5 : ρ (.tmp 5) = .pointer (some ⟨g5, 0, none⟩) := ho 5 (by kernel_rfl)
    have hg8 := HF.out.below hb HF.out.lt
    have m0 := hg8.cell 0
    have m1 := hg8.cell 1
    have m2 := hg8.cell 2
    have m3 := hg8.cell 3
    have m4 := hg8.cell 4
    have m5 := hg8.cell 5
    have m6 := hg8.cell 6
    have m7 := hg8.cell 7
    have m8 := hg8.cell 8
    have m9 := hg8.cell 9
    have m10 := hg8.cell 10
    simp at m0 m1 m2 m3 m4 m5 m6 m7 m8 m9 m10
    exact Lin.Runs.value Lin.keeps (v := hv6 (cl : Int) (la : Int) (le : Int) (ne : Int) (hq : Int) true (sh : Int) (sl : Int) true (dh : Int) (dl : Int)) (by simp [hv6, execOp, go_sem, h5, m0, m1, m2, m3, m4, m5, m6, m7, m8, m9, m10]) rfl
  · intro ρ wq hb ho hc hd
    have hC : ∀ v, ρ (.const v) = v := fun v => hc _ (by intro t e; cases e)
    have hF : ∀ f, ρ (.func f) = .func (.func f) #[] #[] := fun f => hc _ (by intro t e; cases e)
    have h19 : ρ (.tmp 19) = hv6 (cl : Int) (la : Int) (le : Int) (ne : Int) (hq : Int) true (sh : Int) (sl : Int) true (dh : Int) (dl : Int) := hd 19 (by kernel_rfl)
    exact Lin.Runs.call Lin.keeps (f := 82) (args := #[hv6 (cl : Int) (la : Int) (le : Int) (ne : Int) (hq : Int) true (sh : Int) (sl : Int) true (dh : Int) (dl : Int)]) (by simp [hv6, execOp, go_sem, hF, h19]) ((cright6 cl la (le : Int) ne hq true sh sl true dh dl wq).mono fun e w9 h => ⟨_, h.1, h.2, by rw [HRA.out]; rfl⟩)
  · intro ρ wq hb ho hc hd
    have hC : ∀ v, ρ (.const v) = v := fun v => hc _ (by intro t e; cases e)
    have hF : ∀ f, ρ (.func f) = .func (.func f) #[] #[] := fun f => hc _ (by intro t e; cases e)
    have h2 : ρ (.tmp 2) = .pointer (some ⟨w.heap.size, 0, none⟩) := ho 2 (by kernel_rfl)
    have hg8 := HG.out.below hb HG.out.lt
    have m0 := hg8.cell 0
    have m1 := hg8.cell 1
    have m2 := hg8.cell 2
    have m3 := hg8.cell 3
    have m4 := hg8.cell 4
    have m5 := hg8.cell 5
    have m6 := hg8.cell 6
    have m7 := hg8.cell 7
    have m8 := hg8.cell 8
    have m9 := hg8.cell 9
    have m10 := hg8.cell 10
    simp at m0 m1 m2 m3 m4 m5 m6 m7 m8 m9 m10
    exact Lin.Runs.value Lin.keeps (v := hv6 (cl : Int) (la : Int) (le : Int) (ne : Int) (hq : Int) true (sh : Int) (sl : Int) true (dh : Int) (dl : Int)) (by simp [hv6, execOp, go_sem, h2, m0, m1, m2, m3, m4, m5, m6, m7, m8, m9, m10]) rfl
  · intro ρ wq hb ho hc hd
    have hC : ∀ v, ρ (.const v) = v := fun v => hc _ (by intro t e; cases e)
    have hF : ∀ f, ρ (.func f) = .func (.func f) #[] #[] := fun f => hc _ (by intro t e; cases e)
    have h21 : ρ (.tmp 21) = hv6 (cl : Int) (la : Int) (le : Int) (ne : Int) (hq : Int) true (sh : Int) (sl : Int) true (dh : Int) (dl : Int) := hd 21 (by kernel_rfl)
    exact Lin.Runs.call Lin.keeps (f := 83) (args := #[hv6 (cl : Int) (la : Int) (le : Int) (ne : Int) (hq : Int) true (sh : Int) (sl : Int) true (dh : Int) (dl : Int)]) (by simp [hv6, execOp, go_sem, hF, h21]) ((rright6 cl la (le : Int) ne hq true sh sl true dh dl wq).mono fun e w9 h => ⟨_, h.1, h.2, by rw [HRA.out]; rfl⟩)
  · intro ρ wq hb ho hc hd
    have hC : ∀ v, ρ (.const v) = v := fun v => hc _ (by intro t e; cases e)
    have hF : ∀ f, ρ (.func f) = .func (.func f) #[] #[] := fun f => hc _ (by intro t e; cases e)
    have h20 : ρ (.tmp 20) = .bool true := hd 20 (by kernel_rfl)
    have h22 : ρ (.tmp 22) = .bool true := hd 22 (by kernel_rfl)
    exact Lin.Runs.value Lin.keeps (v := .bool false) (by simp [execOp, go_sem, h20, h22]) rfl
  · intro ρ wq hb ho hc hd
    have hC : ∀ v, ρ (.const v) = v := fun v => hc _ (by intro t e; cases e)
    have hF : ∀ f, ρ (.func f) = .func (.func f) #[] #[] := fun f => hc _ (by intro t e; cases e)
    have h23 : ρ (.tmp 23) = .bool false := hd 23 (by kernel_rfl)
    exact Lin.Runs.value Lin.keeps (Lin.exec_move rfl) h23
  · intro ρ wq hb ho hc hd
    have hC : ∀ v, ρ (.const v) = v := fun v => hc _ (by intro t e; cases e)
    have hF : ∀ f, ρ (.func f) = .func (.func f) #[] #[] := fun f => hc _ (by intro t e; cases e)
    intro t ht; cases (show some 24 = some t from ht)
    refine ⟨fun _ => ?_, fun hn => absurd (hd 24 (by kernel_rfl)) hn⟩
    have h2 : ρ (.tmp 2) = .pointer (some ⟨w.heap.size, 0, none⟩) := ho 2 (by kernel_rfl)
    have hg8 := HG.out.below hb HG.out.lt
    have m0 := hg8.cell 0
    have m1 := hg8.cell 1
    have m2 := hg8.cell 2
    have m3 := hg8.cell 3
    have m4 := hg8.cell 4
    have m5 := hg8.cell 5
    have m6 := hg8.cell 6
    have m7 := hg8.cell 7
    have m8 := hg8.cell 8
    have m9 := hg8.cell 9
    have m10 := hg8.cell 10
    simp at m0 m1 m2 m3 m4 m5 m6 m7 m8 m9 m10
    exact Lin.Runs.value Lin.keeps (v := hv6 (cl : Int) (la : Int) (le : Int) (ne : Int) (hq : Int) true (sh : Int) (sl : Int) true (dh : Int) (dl : Int)) (by simp [hv6, execOp, go_sem, h2, m0, m1, m2, m3, m4, m5, m6, m7, m8, m9, m10]) rfl
  · intro ρ wq hb ho hc hd
    have hC : ∀ v, ρ (.const v) = v := fun v => hc _ (by intro t e; cases e)
    have hF : ∀ f, ρ (.func f) = .func (.func f) #[] #[] := fun f => hc _ (by intro t e; cases e)
    intro t ht; cases (show some 24 = some t from ht)
    refine ⟨fun _ => ?_, fun hn => absurd (hd 24 (by kernel_rfl)) hn⟩
    have h25 : ρ (.tmp 25) = hv6 (cl : Int) (la : Int) (le : Int) (ne : Int) (hq : Int) true (sh : Int) (sl : Int) true (dh : Int) (dl : Int) := hd 25 (by kernel_rfl)
    exact Lin.Runs.call Lin.keeps (f := 83) (args := #[hv6 (cl : Int) (la : Int) (le : Int) (ne : Int) (hq : Int) true (sh : Int) (sl : Int) true (dh : Int) (dl : Int)]) (by simp [hv6, execOp, go_sem, hF, h25]) ((rright6 cl la (le : Int) ne hq true sh sl true dh dl wq).mono fun e w9 h => ⟨_, h.1, h.2, by rw [HRA.out]; rfl⟩)
  · intro ρ wq hb ho hc hd
    have hC : ∀ v, ρ (.const v) = v := fun v => hc _ (by intro t e; cases e)
    have hF : ∀ f, ρ (.func f) = .func (.func f) #[] #[] := fun f => hc _ (by intro t e; cases e)
    intro t ht; cases (show some 24 = some t from ht)
    refine ⟨fun _ => ?_, fun hn => absurd (hd 24 (by kernel_rfl)) hn⟩
    have h26 : ρ (.tmp 26) = .bool true := hd 26 (by kernel_rfl)
    exact Lin.Runs.value Lin.keeps (Lin.exec_move rfl) h26
  · intro ρ wq hb ho hc hd
    have hC : ∀ v, ρ (.const v) = v := fun v => hc _ (by intro t e; cases e)
    have hF : ∀ f, ρ (.func f) = .func (.func f) #[] #[] := fun f => hc _ (by intro t e; cases e)
    intro t ht; cases (show some 27 = some t from ht)
    refine ⟨fun _ => ?_, fun hn => absurd (hd 27 (by kernel_rfl)) hn⟩
    have h5 : ρ (.tmp 5) = .pointer (some ⟨g5, 0, none⟩) := ho 5 (by kernel_rfl)
    have hg8 := HF.out.below hb HF.out.lt
    have m0 := hg8.cell 0
    have m1 := hg8.cell 1
    have m2 := hg8.cell 2
    have m3 := hg8.cell 3
    have m4 := hg8.cell 4
    have m5 := hg8.cell 5
    have m6 := hg8.cell 6
    have m7 := hg8.cell 7
    have m8 := hg8.cell 8
    have m9 := hg8.cell 9
    have m10 := hg8.cell 10
    simp at m0 m1 m2 m3 m4 m5 m6 m7 m8 m9 m10
    exact Lin.Runs.value Lin.keeps (v := hv6 (cl : Int) (la : Int) (le : Int) (ne : Int) (hq : Int) true (sh : Int) (sl : Int) true (dh : Int) (dl : Int)) (by simp [hv6, execOp, go_sem, h5, m0, m1, m2, m3, m4, m5, m6, m7, m8, m9, m10]) rfl
  · intro ρ wq hb ho hc hd
    have hC : ∀ v, ρ (.const v) = v := fun v => hc _ (by intro t e; cases e)
    have hF : ∀ f, ρ (.func f) = .func (.func f) #[] #[] := fun f => hc _ (by intro t e; cases e)
    intro t ht; cases (show some 27 = some t from ht)
    refine ⟨fun _ => ?_, fun hn => absurd (hd 27 (by kernel_rfl)) hn⟩
    have h28 : ρ (.tmp 28) = hv6 (cl : Int) (la : Int) (le : Int) (ne : Int) (hq : Int) true (sh : Int) (sl : Int) true (dh : Int) (dl : Int) := hd 28 (by kernel_rfl)
    exact Lin.Runs.call Lin.keeps (f := 84) (args := #[hv6 (cl : Int) (la : Int) (le : Int) (ne : Int) (hq : Int) true (sh : Int) (sl : Int) true (dh : Int) (dl : Int)]) (by simp [hv6, execOp, go_sem, hF, h28]) ((cbytes6 cl la le ne hq sh sl dh dl hcl hla hle hne hho hsh hsl hdh hdl wq).mono fun e w9 ⟨v9, h1, h2, h3⟩ => ⟨v9, h1, h2, h3.isb⟩)
  · intro ρ wq hb ho hc hd
    have hC : ∀ v, ρ (.const v) = v := fun v => hc _ (by intro t e; cases e)
    have hF : ∀ f, ρ (.func f) = .func (.func f) #[] #[] := fun f => hc _ (by intro t e; cases e)
    intro t ht; cases (show some 27 = some t from ht)
    refine ⟨fun _ => ?_, fun hn => absurd (hd 27 (by kernel_rfl)) hn⟩
    have h29 := hd 29 (by kernel_rfl)
    exact Lin.Runs.value Lin.keeps (Lin.exec_convert rfl h29.conv) rfl
  · intro ρ wq hb ho hc hd
    have hC : ∀ v, ρ (.const v) = v := fun v => hc _ (by intro t e; cases e)
    have hF : ∀ f, ρ (.func f) = .func (.func f) #[] #[] := fun f => hc _ (by intro t e; cases e)
    intro t ht; cases (show some 27 = some t from ht)
    refine ⟨fun _ => ?_, fun hn => absurd (hd 27 (by kernel_rfl)) hn⟩
    have h2 : ρ (.tmp 2) = .pointer (some ⟨w.heap.size, 0, none⟩) := ho 2 (by kernel_rfl)
    have hg8 := HG.out.below hb HG.out.lt
    have m0 := hg8.cell 0
    have m1 := hg8.cell 1
    have m2 := hg8.cell 2
    have m3 := hg8.cell 3
    have m4 := hg8.cell 4
    have m5 := hg8.cell 5
    have m6 := hg8.cell 6
    have m7 := hg8.cell 7
    have m8 := hg8.cell 8
    have m9 := hg8.cell 9
    have m10 := hg8.cell 10
    simp at m0 m1 m2 m3 m4 m5 m6 m7 m8 m9 m10
    exact Lin.Runs.value Lin.keeps (v := hv6 (cl : Int) (la : Int) (le : Int) (ne : Int) (hq : Int) true (sh : Int) (sl : Int) true (dh : Int) (dl : Int)) (by simp [hv6, execOp, go_sem, h2, m0, m1, m2, m3, m4, m5, m6, m7, m8, m9, m10]) rfl
  · intro ρ wq hb ho hc hd
    have hC : ∀ v, ρ (.const v) = v := fun v => hc _ (by intro t e; cases e)
    have hF : ∀ f, ρ (.func f) = .func (.func f) #[] #[] := fun f => hc _ (by intro t e; cases e)
    intro t ht; cases (show some 27 = some t from ht)
    refine ⟨fun _ => ?_, fun hn => absurd (hd 27 (by kernel_rfl)) hn⟩
    have h31 : ρ (.tmp 31) = hv6 (cl : Int) (la : Int) (le : Int) (ne : Int) (hq : Int) true (sh : Int) (sl : Int) true (dh : Int) (dl : Int) := hd 31 (by kernel_rfl)
    exact Lin.Runs.call Lin.keeps (f := 85) (args := #[hv6 (cl : Int) (la : Int) (le : Int) (ne : Int) (hq : Int) true (sh : Int) (sl : Int) true (dh : Int) (dl : Int)]) (by simp [hv6, execOp, go_sem, hF, h31]) ((rbytes6i cl la le ne hq sh sl dh dl hcl hla hle hne hho hsh hsl hdh hdl wq).mono fun e w9 ⟨v9, h1, h2, h3⟩ => ⟨v9, h1, h2, h3.isb⟩)
  · intro ρ wq hb ho hc hd
    have hC : ∀ v, ρ (.const v) = v := fun v => hc _ (by intro t e; cases e)
    have hF : ∀ f, ρ (.func f) = .func (.func f) #[] #[] := fun f => hc _ (by intro t e; cases e)
    intro t ht; cases (show some 27 = some t from ht)
    refine ⟨fun _ => ?_, fun hn => absurd (hd 27 (by kernel_rfl)) hn⟩
    have h32 := hd 32 (by kernel_rfl)
    exact Lin.Runs.value Lin.keeps (Lin.exec_convert rfl h32.conv) rfl
  · intro ρ wq hb ho hc hd
    have hC : ∀ v, ρ (.const v) = v := fun v => hc _ (by intro t e; cases e)
    have hF : ∀ f, ρ (.func f) = .func (.func f) #[] #[] := fun f => hc _ (by intro t e; cases e)
    intro t ht; cases (show some 27 = some t from ht)
    refine ⟨fun _ => ?_, fun hn => absurd (hd 27 (by kernel_rfl)) hn⟩
    have h30 : ρ (.tmp 30) = .string (strOfNums (hl6 cl la le ne hq sh sl dh dl)) := hd 30 (by kernel_rfl)
    have h33 : ρ (.tmp 33) = .string (strOfNums (hl6 cl la le ne hq sh sl dh dl)) := hd 33 (by kernel_rfl)
    exact Lin.Runs.value Lin.keeps (v := .bool false) (by simp [execOp, go_sem, h30, h33]) rfl
  · intro ρ wq hb ho hc hd
    have hC : ∀ v, ρ (.const v) = v := fun v => hc _ (by intro t e; cases e)
    have hF : ∀ f, ρ (.func f) = .func (.func f) #[] #[] := fun f => hc _ (by intro t e; cases e)
    intro t ht; cases (show some 24 = some t from ht)
    refine ⟨fun _ => ?_, fun hn => absurd (hd 24 (by kernel_rfl)) hn⟩
    have h27 : ρ (.tmp 27) = .bool true := hd 27 (by kernel_rfl)
    have h34 : ρ (.tmp 34) = .bool false := hd 34 (by kernel_rfl)
    exact Lin.Runs.value Lin.keeps (v := .bool false) (by simp [execOp, go_sem, hC, h27, h34]) rfl
  · intro ρ wq hb ho hc hd
    have hC : ∀ v, ρ (.const v) = v := fun v => hc _ (by intro t e; cases e)
    have hF : ∀ f, ρ (.func f) = .func (.func f) #[] #[] := fun f => hc _ (by intro t e; cases e)
    have h24 : ρ (.tmp 24) = .bool false := hd 24 (by kernel_rfl)
    have h35 : ρ (.tmp 35) = .bool false := hd 35 (by kernel_rfl)
    exact Lin.Runs.value Lin.keeps (v := .bool false) (by simp [execOp, go_sem, hC, h24, h35]) rfl
  · intro ρ wq hb ho hc hd
    have hC : ∀ v, ρ (.const v) = v := fun v => hc _ (by intro t e; cases e)
    have hF : ∀ f, ρ (.func f) = .func (.func f) #[] #[] := fun f => hc _ (by intro t e; cases e)
    have h36 : ρ (.tmp 36) = .bool false := hd 36 (by kernel_rfl)
    exact Lin.Runs.value Lin.keeps (Lin.exec_move rfl) h36
  · intro ρ wq hb ho hc hd
    have hC : ∀ v, ρ (.const v) = v := fun v => hc _ (by intro t e; cases e)
    have hF : ∀ f, ρ (.func f) = .func (.func f) #[] #[] := fun f => hc _ (by intro t e; cases e)
    intro t ht; cases (show some 37 = some t from ht)
    refine ⟨fun _ => ?_, fun hn => absurd (hd 37 (by kernel_rfl)) hn⟩
    have h2 : ρ (.tmp 2) = .pointer (some ⟨w.heap.size, 0, none⟩) := ho 2 (by kernel_rfl)
    have hg8 := HG.out.below hb HG.out.lt
    have m0 := hg8.cell 0
    have m1 := hg8.cell 1
    have m2 := hg8.cell 2
    have m3 := hg8.cell 3
    have m4 := hg8.cell 4
    have m5 := hg8.cell 5
    have m6 := hg8.cell 6
    have m7 := hg8.cell 7
    have m8 := hg8.cell 8
    have m9 := hg8.cell 9
    have m10 := hg8.cell 10
    simp at m0 m1 m2 m3 m4 m5 m6 m7 m8 m9 m10
    exact Lin.Runs.value Lin.keeps (v := hv6 (cl : Int) (la : Int) (le : Int) (ne : Int) (hq : Int) true (sh : Int) (sl : Int) true (dh : Int) (dl : Int)) (by simp [hv6, execOp, go_sem, h2, m0, m1, m2, m3, m4, m5, m6, m7, m8, m9, m10]) rfl
  · intro ρ wq hb ho hc hd
    have hC : ∀ v, ρ (.const v) = v := fun v => hc _ (by intro t e; cases e)
    have hF : ∀ f, ρ (.func f) = .func (.func f) #[] #[] := fun f => hc _ (by intro t e; cases e)
    intro t ht; cases (show some 37 = some t from ht)
    refine ⟨fun _ => ?_, fun hn => absurd (hd 37 (by kernel_rfl)) hn⟩
    have h38 : ρ (.tmp 38) = hv6 (cl : Int) (la : Int) (le : Int) (ne : Int) (hq : Int) true (sh : Int) (sl : Int) true (dh : Int) (dl : Int) := hd 38 (by kernel_rfl)
    exact Lin.Runs.call Lin.keeps (f := 83) (args := #[hv6 (cl : Int) (la : Int) (le : Int) (ne : Int) (hq : Int) true (sh : Int) (sl : Int) true (dh : Int) (dl : Int)]) (by simp [hv6, execOp, go_sem, hF, h38]) ((rright6 cl la (le : Int) ne hq true sh sl true dh dl wq).mono fun e w9 h => ⟨_, h.1, h.2, by rw [HRA.out]; rfl⟩)
  · intro ρ wq hb ho hc hd
    have hC : ∀ v, ρ (.const v) = v := fun v => hc _ (by intro t e; cases e)
    have hF : ∀ f, ρ (.func f) = .func (.func f) #[] #[] := fun f => hc _ (by intro t e; cases e)
    intro t ht; cases (show some 37 = some t from ht)
    refine ⟨fun _ => ?_, fun hn => absurd (hd 37 (by kernel_rfl)) hn⟩
    have h39 : ρ (.tmp 39) = .bool true := hd 39 (by kernel_rfl)
    exact Lin.Runs.value Lin.keeps (v := .bool false) (by simp [execOp, go_sem, h39]) rfl
  · intro ρ wq hb ho hc hd
    have hC : ∀ v, ρ (.const v) = v := fun v => hc _ (by intro t e; cases e)
    have hF : ∀ f, ρ (.func f) = .func (.func f) #[] #[] := fun f => hc _ (by intro t e; cases e)
    intro t ht; cases (show some 37 = some t from ht)
    refine ⟨fun _ => ?_, fun hn => absurd (hd 37 (by kernel_rfl)) hn⟩
    have h40 : ρ (.tmp 40) = .bool false := hd 40 (by kernel_rfl)
    exact Lin.Runs.value Lin.keeps (Lin.exec_move rfl) h40
  · intro ρ wq hb ho hc hd
    have hC : ∀ v, ρ (.const v) = v := fun v => hc _ (by intro t e; cases e)
    have hF : ∀ f, ρ (.func f) = .func (.func f) #[] #[] := fun f => hc _ (by intro t e; cases e)
    intro t ht; cases (show some 41 = some t from ht)
    exact ⟨fun he => absurd (he.symm.trans (hd 41 (by kernel_rfl))) (by first | simp | (intro h; cases h)), fun _ => rfl⟩
  · intro ρ wq hb ho hc hd
    have hC : ∀ v, ρ (.const v) = v := fun v => hc _ (by intro t e; cases e)
    have hF : ∀ f, ρ (.func f) = .func (.func f) #[] #[] := fun f => hc _ (by intro t e; cases e)
    intro t ht; cases (show some 41 = some t from ht)
    exact ⟨fun he => absurd (he.symm.trans (hd 41 (by kernel_rfl))) (by first | simp | (intro h; cases h)), fun _ => rfl⟩
  · intro ρ wq hb ho hc hd
    have hC : ∀ v, ρ (.const v) = v := fun v => hc _ (by intro t e; cases e)
    have hF : ∀ f, ρ (.func f) = .func (.func f) #[] #[] := fun f => hc _ (by intro t e; cases e)
    intro t ht; cases (show some 41 = some t from ht)
    exact ⟨fun he => absurd (he.symm.trans (hd 41 (by kernel_rfl))) (by first | simp | (intro h; cases h)), fun _ => rfl⟩
  · intro ρ wq hb ho hc hd
    have hC : ∀ v, ρ (.const v) = v := fun v => hc _ (by intro t e; cases e)
    have hF : ∀ f, ρ (.func f) = .func (.func f) #[] #[] := fun f => hc _ (by intro t e; cases e)
    intro t ht; cases (show some 41 = some t from ht)
    exact ⟨fun he => absurd (he.symm.trans (hd 41 (by kernel_rfl))) (by first | simp | (intro h; cases h)), fun _ => rfl⟩
  · intro ρ wq hb ho hc hd
    have hC : ∀ v, ρ (.const v) = v := fun v => hc _ (by intro t e; cases e)
    have hF : ∀ f, ρ (.func f) = .func (.func f) #[] #[] := fun f => hc _ (by intro t e; cases e)
    intro t ht; cases (show some 37 = some t from ht)
    refine ⟨fun _ => ?_, fun hn => absurd (hd 37 (by kernel_rfl)) hn⟩
    have h41 : ρ (.tmp 41) = .bool false := hd 41 (by kernel_rfl)
    have h45 : ρ (.tmp 45) = undef := hd 45 (by kernel_rfl)
    exact Lin.Runs.value Lin.keeps (v := .bool false) (by simp [execOp, go_sem, hC, h41, h45]) rfl
  · intro ρ wq hb ho hc hd
    have hC : ∀ v, ρ (.const v) = v := fun v => hc _ (by intro t e; cases e)
    have hF : ∀ f, ρ (.func f) = .func (.func f) #[] #[] := fun f => hc _ (by intro t e; cases e)
    have h37 : ρ (.tmp 37) = .bool false := hd 37 (by kernel_rfl)
    have h46 : ρ (.tmp 46) = .bool false := hd 46 (by kernel_rfl)
    exact Lin.Runs.value Lin.keeps (v := .bool false) (by simp [execOp, go_sem, hC, h37, h46]) rfl
  · intro vals w4 hb2 hv
    have e47 := hv 47 (by kernel_rfl)
    have HG9 := hide (HG.out.below hb2 HG.out.lt); have HF9 := hide (HF.out.below hb2 HF.out.lt); have HB9 := Lib.hid (HB.out.trans (hb2.mono HB.out.size)); have HV9 := hide (HV.out.st hb2)
    clear hv hb2 HG HF HB HV
    have HG := HG9; have HF := HF9; have HB := HB9; have HV := HV9
    clear HG9 HF9 HB9 HV9
    simp only [Lin.putAll, Option.getD_some]
    rw [show vals 47 = .bool false from e47]
    go_simp
    generalize vals = vv
    have a0 := HG.out.cell 0
    have a1 := HG.out.cell 1
    have a2 := HG.out.cell 2
    have a3 := HG.out.cell 3
    have a4 := HG.out.cell 4
    have a5 := HG.out.cell 5
    have a6 := HG.out.cell 6
    have a7 := HG.out.cell 7
    have a8 := HG.out.cell 8
    have a9 := HG.out.cell 9
    have a10 := HG.out.cell 10
    have b0 := HF.out.cell 0
    have b1 := HF.out.cell 1
    have b2 := HF.out.cell 2
    have b3 := HF.out.cell 3
    have b4 := HF.out.cell 4
    have b5 := HF.out.cell 5
    have b6 := HF.out.cell 6
    have b7 := HF.out.cell 7
    have b8 := HF.out.cell 8
    have b9 := HF.out.cell 9
    have b10 := HF.out.cell 10
    simp at a0 a1 a2 a3 a4 a5 a6 a7 a8 a9 a10 b0 b1 b2 b3 b4 b5 b6 b7 b8 b9 b10
    have g5l := HF.out.lt
    go_wp2_with fail
    refine (cpacket_yes cl la (le : Int) ne hq sh sl dh dl hla hcl hne hho hsh hsl hdh hdl A n c l hn3 _ HV.out).mono ?_
    rintro e w5 ⟨v6, rfl, hb2, hx⟩
    obtain ⟨A6, c6, rfl⟩ := hx.shape
    have HI6 := hide hx
    have HG9 := hide (HG.out.below hb2 HG.out.lt); have HF9 := hide (HF.out.below hb2 HF.out.lt); have HB9 := Lib.hid (HB.out.trans (hb2.mono HB.out.size)); have HV9 := hide (HV.out.st hb2)
    clear hx hb2 HG HF HB HV a0 a1 a2 a3 a4 a5 a6 a7 a8 a9 a10 b0 b1 b2 b3 b4 b5 b6 b7 b8 b9 b10 g5l
    have HG := HG9; have HF := HF9; have HB := HB9; have HV := HV9
    clear HG9 HF9 HB9 HV9
    have a0 := HG.out.cell 0
    have a1 := HG.out.cell 1
    have a2 := HG.out.cell 2
    have a3 := HG.out.cell 3
    have a4 := HG.out.cell 4
    have a5 := HG.out.cell 5
    have a6 := HG.out.cell 6
    have a7 := HG.out.cell 7
    have a8 := HG.out.cell 8
    have a9 := HG.out.cell 9
    have a10 := HG.out.cell 10
    have b0 := HF.out.cell 0
    have b1 := HF.out.cell 1
    have b2 := HF.out.cell 2
    have b3 := HF.out.cell 3
    have b4 := HF.out.cell 4
    have b5 := HF.out.cell 5
    have b6 := HF.out.cell 6
    have b7 := HF.out.cell 7
    have b8 := HF.out.cell 8
    have b9 := HF.out.cell 9
    have b10 := HF.out.cell 10
    simp at a0 a1 a2 a3 a4 a5 a6 a7 a8 a9 a10 b0 b1 b2 b3 b4 b5 b6 b7 b8 b9 b10
    have g5l := HF.out.lt
    go_wp2_with fail
    refine (rpacket_yes cl la (le : Int) ne hq sh sl dh dl hla hcl hne hho hsh hsl hdh hdl A n c l hn3 _ HV.out).mono ?_
    rintro e w6 ⟨v8, rfl, hb2, hx⟩
    obtain ⟨A8, c8, rfl⟩ := hx.shape
    have HI8 := hide hx; have HI69 := hide (HI6.out.st hb2)
    have HG9 := hide (HG.out.below hb2 HG.out.lt); have HF9 := hide (HF.out.below hb2 HF.out.lt); have HB9 := Lib.hid (HB.out.trans (hb2.mono HB.out.size)); have HV9 := hide (HV.out.st hb2)
    clear hx hb2 HG HF HB HV HI6 a0 a1 a2 a3 a4 a5 a6 a7 a8 a9 a10 b0 b1 b2 b3 b4 b5 b6 b7 b8 b9 b10 g5l
    have HG := HG9; have HF := HF9; have HB := HB9; have HV := HV9
    clear HG9 HF9 HB9 HV9
    have HI6 := HI69
    clear HI69
    have cv6 := HI6.out.conv
    have cv8 := HI8.out.conv
    have a0 := HG.out.cell 0
    have a1 := HG.out.cell 1
    have a2 := HG.out.cell 2
    have a3 := HG.out.cell 3
    have a4 := HG.out.cell 4
    have a5 := HG.out.cell 5
    have a6 := HG.out.cell 6
    have a7 := HG.out.cell 7
    have a8 := HG.out.cell 8
    have a9 := HG.out.cell 9
    have a10 := HG.out.cell 10
    have b0 := HF.out.cell 0
    have b1 := HF.out.cell 1
    have b2 := HF.out.cell 2
    have b3 := HF.out.cell 3
    have b4 := HF.out.cell 4
    have b5 := HF.out.cell 5
    have b6 := HF.out.cell 6
    have b7 := HF.out.cell 7
    have b8 := HF.out.cell 8
    have b9 := HF.out.cell 9
    have b10 := HF.out.cell 10
    simp at a0 a1 a2 a3 a4 a5 a6 a7 a8 a9 a10 b0 b1 b2 b3 b4 b5 b6 b7 b8 b9 b10
    have g5l := HF.out.lt
    go_wp2_with fail
    refine (cparse6 cl la n ne hq sh sl dh dl hcl hla (by omega) hne hho hsh hsl hdh hdl l hn3 _ _ HI6.out).mono ?_
    rintro e w7 ⟨u, rfl, hb2, hx⟩
    obtain ⟨A11, c11, rfl, hx⟩ := hx
    have hg56 : g5 < w6.heap.size := HF.out.lt
    have HI11 := hide hx; have HG56 := Lib.hid hg56
    have HG9 := hide (HG.out.below hb2 HG.out.lt); have HF9 := hide (HF.out.below hb2 HF.out.lt); have HB9 := Lib.hid (HB.out.trans (hb2.mono HB.out.size)); have HV9 := hide (HV.out.st hb2)
    clear hx hb2 HG HF HB HV HI6 HI8 cv6 cv8 a0 a1 a2 a3 a4 a5 a6 a7 a8 a9 a10 b0 b1 b2 b3 b4 b5 b6 b7 b8 b9 b10 g5l
    have HG := HG9; have HF := HF9; have HB := HB9; have HV := HV9
    clear HG9 HF9 HB9 HV9
    unfold hv6
    have a0 := HG.out.cell 0
    have a1 := HG.out.cell 1
    have a2 := HG.out.cell 2
    have a3 := HG.out.cell 3
    have a4 := HG.out.cell 4
    have a5 := HG.out.cell 5
    have a6 := HG.out.cell 6
    have a7 := HG.out.cell 7
    have a8 := HG.out.cell 8
    have a9 := HG.out.cell 9
    have a10 := HG.out.cell 10
    have b0 := HF.out.cell 0
    have b1 := HF.out.cell 1
    have b2 := HF.out.cell 2
    have b3 := HF.out.cell 3
    have b4 := HF.out.cell 4
    have b5 := HF.out.cell 5
    have b6 := HF.out.cell 6
    have b7 := HF.out.cell 7
    have b8 := HF.out.cell 8
    have b9 := HF.out.cell 9
    have b10 := HF.out.cell 10
    simp at a0 a1 a2 a3 a4 a5 a6 a7 a8 a9 a10 b0 b1 b2 b3 b4 b5 b6 b7 b8 b9 b10
    have g5l := HF.out.lt
    have f2 := HF.out.free 2
    have hbf := Below.setCell (p := ⟨g5, 2, none⟩) HB.out HG5.out (.int .i64 (n : Int))
    have hbf2 := hbf.alloc hbf.size (.cells #[.int .u8 (cl : Int), .int .u32 (la : Int), .int .i64 (n : Int), .int .u8 (ne : Int), .int .u8 (hq : Int), .bool true, .int .u64 (sh : Int), .int .u64 (sl : Int), .bool true, .int .u64 (dh : Int), .int .u64 (dl : Int)] 126)
    have cv11 : (convert 22 9 (.slice A11 n c11)).run Try.prog ((w7.setCell ⟨g5, 2, none⟩ (.int .i64 (n : Int))).alloc (.cells #[.int .u8 (cl : Int), .int .u32 (la : Int), .int .i64 (n : Int), .int .u8 (ne : Int), .int .u8 (hq : Int), .bool true, .int .u64 (sh : Int), .int .u64 (sl : Int), .bool true, .int .u64 (dh : Int), .int .u64 (dl : Int)] 126)) = .ok (.string (strOfNums l)) _ := (IsB.own ((HI11.out.set HG56.out (.int .i64 (n : Int))).alloc (.cells #[.int .u8 (cl : Int), .int .u32 (la : Int), .int .i64 (n : Int), .int .u8 (ne : Int), .int .u8 (hq : Int), .bool true, .int .u64 (sh : Int), .int .u64 (sl : Int), .bool true, .int .u64 (dh : Int), .int .u64 (dl : Int)] 126))).conv
    have cv1 : (convert 22 9 (.slice A n c)).run Try.prog ((w7.setCell ⟨g5, 2, none⟩ (.int .i64 (n : Int))).alloc (.cells #[.int .u8 (cl : Int), .int .u32 (la : Int), .int .i64 (n : Int), .int .u8 (ne : Int), .int .u8 (hq : Int), .bool true, .int .u64 (sh : Int), .int .u64 (sl : Int), .bool true, .int .u64 (dh : Int), .int .u64 (dl : Int)] 126)) = .ok (.string (strOfNums l)) _ := (HVW.out.st hbf2).conv
    have HBF := Lib.hid hbf2
    clear hbf hbf2 hg56
    go_wp2_with fail
    refine (awake05 _).mono ?_
    rintro e w8 ⟨rfl, hb2⟩
    have HB9 := Lib.hid (HBF.out.trans (hb2.mono HBF.out.size))
    clear hb2 cv11 cv1
    go_wp2_with fail
    go_ret
    exact ⟨rfl, HB9.out⟩
set_option maxHeartbeats 4000000 in
theorem walk_ft (cl la : Nat) (le : Int) (ne hq : Nat) (sh sl : Nat) (dh dl : Nat) (A : Option Addr) (n c : Nat) (l : List Int) (hcl : cl ≤ 255) (hne : ne ≤ 255) (hho : hq ≤ 255) (hsh : sh < 18446744073709551616) (hsl : sl < 18446744073709551616) (hdh : dh < 18446744073709551616) (hdl : dl < 18446744073709551616) (w : World) (hn3 : n ≤ 3000) (hv : IsB l n (.slice A n c) w) (hrA : right6 la le true true = false) (hrB : right6 la (n : Int) true true = true) (hla : la < 1048576) : Calls Try.prog 14 #[hv6 (cl : Int) (la : Int) le (ne : Int) (hq : Int) true (sh : Int) (sl : Int) true (dh : Int) (dl : Int), .slice A n c] w fun e w' => e = .returned (.bool true) ∧ Below w.heap.size w w' := by
  have HRA := Lib.hid hrA; have HRB := Lib.hid hrB
  clear hrA hrB
  unfold hv6
  have hz : ¬ (3000 : Int) < (n : Int) := by omega
  have hb0 : Below w.heap.size w (w.alloc (.cells #[.int .u8 (cl : Int), .int .u32 (la : Int), .int .i64 le, .int .u8 (ne : Int), .int .u8 (hq : Int), .bool true, .int .u64 (sh : Int), .int .u64 (sl : Int), .bool true, .int .u64 (dh : Int), .int .u64 (dl : Int)] 125)) := (Below.refl _ _).alloc (Nat.le_refl _) _
  have hg0 := Is.new w 125 #[.int .u8 (cl : Int), .int .u32 (la : Int), .int .i64 le, .int .u8 (ne : Int), .int .u8 (hq : Int), .bool true, .int .u64 (sh : Int), .int .u64 (sl : Int), .bool true, .int .u64 (dh : Int), .int .u64 (dl : Int)]
  go_enter Try.func14, Try.ntmps14
  go_wp2_with fail
  generalize w.alloc (.cells #[.int .u8 (cl : Int), .int .u32 (la : Int), .int .i64 le, .int .u8 (ne : Int), .int .u8 (hq : Int), .bool true, .int .u64 (sh : Int), .int .u64 (sl : Int), .bool true, .int .u64 (dh : Int), .int .u64 (dl : Int)] 125) = W at *
  refine (cto6 cl la le ne hq true sh sl true dh dl _).mono ?_
  rintro e w1 ⟨rfl, hb⟩
  unfold hv6
  have hb1 := hb0.trans (hb.mono hb0.size); have hg1 := hg0.below hb hg0.lt
  clear hb hb0 hg0
  go_wp2_with fail
  have hg5z : w.heap.size ≤ w1.heap.size := hb1.size
  have HVW := hide hv
  have hb3 := hb1.alloc hb1.size (.cells #[.int .u8 (cl : Int), .int .u32 (la : Int), .int .i64 le, .int .u8 (ne : Int), .int .u8 (hq : Int), .bool true, .int .u64 (sh : Int), .int .u64 (sl : Int), .bool true, .int .u64 (dh : Int), .int .u64 (dl : Int)] 126)
  have HG := hide (hg1.alloc (.cells #[.int .u8 (cl : Int), .int .u32 (la : Int), .int .i64 le, .int .u8 (ne : Int), .int .u8 (hq : Int), .bool true, .int .u64 (sh : Int), .int .u64 (sl : Int), .bool true, .int .u64 (dh : Int), .int .u64 (dl : Int)] 126)); have HF := hide (Is.new w1 126 #[.int .u8 (cl : Int), .int .u32 (la : Int), .int .i64 le, .int .u8 (ne : Int), .int .u8 (hq : Int), .bool true, .int .u64 (sh : Int), .int .u64 (sl : Int), .bool true, .int .u64 (dh : Int), .int .u64 (dl : Int)]); have HB := Lib.hid hb3; have HV := hide (hv.st hb3)
  clear hg1 hb1 hb3 hv
  generalize w1.alloc (.cells #[.int .u8 (cl : Int), .int .u32 (la : Int), .int .i64 le, .int .u8 (ne : Int), .int .u8 (hq : Int), .bool true, .int .u64 (sh : Int), .int .u64 (sl : Int), .bool true, .int .u64 (dh : Int), .int .u64 (dl : Int)] 126) = W3 at *
  have HG5 := Lib.hid hg5z
  generalize w1.heap.size = g5 at *
  refine Lin.wp_region_lin Lin.keeps (n := 99)  (fun slotq => match slotq with | 19 => Lin.Spec.val (hv6 (cl : Int) (la : Int) le (ne : Int) (hq : Int) true (sh : Int) (sl : Int) true (dh : Int) (dl : Int)) | 20 => Lin.Spec.val (.bool false) | 21 => Lin.Spec.val (hv6 (cl : Int) (la : Int) le (ne : Int) (hq : Int) true (sh : Int) (sl : Int) true (dh : Int) (dl : Int)) | 22 => Lin.Spec.val (.bool false) | 23 => Lin.Spec.val (.bool false) | 24 => Lin.Spec.val (.bool false) | 25 => Lin.Spec.val (hv6 (cl : Int) (la : Int) le (ne : Int) (hq : Int) true (sh : Int) (sl : Int) true (dh : Int) (dl : Int)) | 26 => Lin.Spec.val (.bool false) | 27 => Lin.Spec.val (.bool false) | 28 => Lin.Spec.val (undef) | 29 => Lin.Spec.val (undef) | 30 => Lin.Spec.val (undef) | 31 => Lin.Spec.val (undef) | 32 => Lin.Spec.val (undef) | 33 => Lin.Spec.val (undef) | 34 => Lin.Spec.val (undef) | 35 => Lin.Spec.val (.bool false) | 36 => Lin.Spec.val (.bool false) | 37 => Lin.Spec.val (.bool false) | 38 => Lin.Spec.val (hv6 (cl : Int) (la : Int) le (ne : Int) (hq : Int) true (sh : Int) (sl : Int) true (dh : Int) (dl : Int)) | 39 => Lin.Spec.val (.bool false) | 40 => Lin.Spec.val (.bool true) | 41 => Lin.Spec.val (.bool true) | 42 => Lin.Spec.val (hv6 (cl : Int) (la : Int) le (ne : Int) (hq : Int) true (sh : Int) (sl : Int) true (dh : Int) (dl : Int)) | 43 => Lin.Spec.val (.slice none 0 0) | 44 => Lin.Spec.val (.int .i64 0) | 45 => Lin.Spec.val (.bool false) | 46 => Lin.Spec.val (.bool false) | 47 => Lin.Spec.val (.bool false) | _ => Lin.Spec.any) (by kernel_rfl) rfl (by kernel_rfl) ⟨?_, ?_, ?_, ?_, ?_, ?_, ?_, ?_, ?_, ?_, ?_, ?_, ?_, ?_, ?_, ?_, ?_, ?_, ?_, ?_, ?_, ?_, ?_, ?_, ?_, ?_, ?_, ?_, ?_, trivial⟩ ?_
  · intro ρ wq hb ho hc hd
    have hC : ∀ v, ρ (.const v) = v := fun v => hc _ (by intro t e; cases e)
    have hF : ∀ f, ρ (.func f) = .func (.func f) #[] #[] := fun f => hc _ (by intro t e; cases e)
    have h5 : ρ (.tmp 5) = .pointer (some ⟨g5, 0, none⟩) := ho 5 (by kernel_rfl)
    have hg8 := HF.out.below hb HF.out.lt
    have m0 := hg8.cell 0
    have m1 := hg8.cell 1
    have m2 := hg8.cell 2
    have m3 := hg8.cell 3
    have m4 := hg8.cell 4
    have m5 := hg8.cell 5
    have m6 := hg8.cell 6
    have m7 := hg8.cell 7
    have m8 := hg8.cell 8
    have m9 := hg8.cell 9
    have m10 := hg8.cell 10
    simp at m0 m1 m2 m3 m4 m5 m6 m7 m8 m9 m10
    exact Lin.Runs.value Lin.keeps (v := hv6 (cl : Int) (la : Int) le (ne : Int) (hq : Int) true (sh : Int) (sl : Int) true (dh : Int) (dl : Int)) (by simp [hv6, execOp, go_sem, h5, m0, m1, m2, m3, m4, m5, m6, m7, m8, m9, m10]) rfl
  · intro ρ wq hb ho hc hd
    have hC : ∀ v, ρ (.const v) = v := fun v => hc _ (by intro t e; cases e)
    have hF : ∀ f, ρ (.func f) = .func (.func f) #[] #[] := fun f => hc _ (by intro t e; cases e)
    have h19 : ρ (.tmp 19) = hv6 (cl : Int) (la : Int) le (ne : Int) (hq : Int) true (sh : Int) (sl : Int) true (dh : Int) (dl : Int) := hd 19 (by kernel_rfl)
    exact Lin.Runs.call Lin.keeps (f := 82) (args := #[hv6 (cl : Int) (la : Int) le (ne : Int) (hq : Int) true (sh : Int) (sl : Int) true (dh : Int) (dl : Int)]) (by simp [hv6, execOp, go_sem, hF, h19]) ((cright6 cl la le ne hq true sh sl true dh dl wq).mono fun e w9 h => ⟨_, h.1, h.2, by rw [HRA.out]; rfl⟩)
  · intro ρ wq hb ho hc hd
    have hC : ∀ v, ρ (.const v) = v := fun v => hc _ (by intro t e; cases e)
    have hF : ∀ f, ρ (.func f) = .func (.func f) #[] #[] := fun f => hc _ (by intro t e; cases e)
    have h2 : ρ (.tmp 2) = .pointer (some ⟨w.heap.size, 0, none⟩) := ho 2 (by kernel_rfl)
    have hg8 := HG.out.below hb HG.out.lt
    have m0 := hg8.cell 0
    have m1 := hg8.cell 1
    have m2 := hg8.cell 2
    have m3 := hg8.cell 3
    have m4 := hg8.cell 4
    have m5 := hg8.cell 5
    have m6 := hg8.cell 6
    have m7 := hg8.cell 7
    have m8 := hg8.cell 8
    have m9 := hg8.cell 9
    have m10 := hg8.cell 10
    simp at m0 m1 m2 m3 m4 m5 m6 m7 m8 m9 m10
    exact Lin.Runs.value Lin.keeps (v := hv6 (cl : Int) (la : Int) le (ne : Int) (hq : Int) true (sh : Int) (sl : Int) true (dh : Int) (dl : Int)) (by simp [hv6, execOp, go_sem, h2, m0, m1, m2, m3, m4, m5, m6, m7, m8, m9, m10]) rfl
  · intro ρ wq hb ho hc hd
    have hC : ∀ v, ρ (.const v) = v := fun v => hc _ (by intro t e; cases e)
    have hF : ∀ f, ρ (.func f) = .func (.func f) #[] #[] := fun f => hc _ (by intro t e; cases e)
    have h21 : ρ (.tmp 21) = hv6 (cl : Int) (la : Int) le (ne : Int) (hq : Int) true (sh : Int) (sl : Int) true (dh : Int) (dl : Int) := hd 21 (by kernel_rfl)
    exact Lin.Runs.call Lin.keeps (f := 83) (args := #[hv6 (cl : Int) (la : Int) le (ne : Int) (hq : Int) true (sh : Int) (sl : Int) true (dh : Int) (dl : Int)]) (by simp [hv6, execOp, go_sem, hF, h21]) ((rright6 cl la le ne hq true sh sl true dh dl wq).mono fun e w9 h => ⟨_, h.1, h.2, by rw [HRA.out]; rfl⟩)
  · intro ρ wq hb ho hc hd
    have hC : ∀ v, ρ (.const v) = v := fun v => hc _ (by intro t e; cases e)
    have hF : ∀ f, ρ (.func f) = .func (.func f) #[] #[] := fun f => hc _ (by intro t e; cases e)
    have h20 : ρ (.tmp 20) = .bool false := hd 20 (by kernel_rfl)
    have h22 : ρ (.tmp 22) = .bool false := hd 22 (by kernel_rfl)
    exact Lin.Runs.value Lin.keeps (v := .bool false) (by simp [execOp, go_sem, h20, h22]) rfl
  · intro ρ wq hb ho hc hd
    have hC : ∀ v, ρ (.const v) = v := fun v => hc _ (by intro t e; cases e)
    have hF : ∀ f, ρ (.func f) = .func (.func f) #[] #[] := fun f => hc _ (by intro t e; cases e)
    have h23 : ρ (.tmp 23) = .bool false := hd 23 (by kernel_rfl)
    exact Lin.Runs.value Lin.keeps (Lin.exec_move rfl) h23
  · intro ρ wq hb ho hc hd
    have hC : ∀ v, ρ (.const v) = v := fun v => hc _ (by intro t e; cases e)
    have hF : ∀ f, ρ (.func f) = .func (.func f) #[] #[] := fun f => hc _ (by intro t e; cases e)
    intro t ht; cases (show some 24 = some t from ht)
    refine ⟨fun _ => ?_, fun hn => absurd (hd 24 (by kernel_rfl)) hn⟩
    have h2 : ρ (.tmp 2) = .pointer (some ⟨w.heap.size, 0, none⟩) := ho 2 (by kernel_rfl)
    have hg8 := HG.out.below hb HG.out.lt
    have m0 := hg8.cell 0
    have m1 := hg8.cell 1
    have m2 := hg8.cell 2
    have m3 := hg8.cell 3
    have m4 := hg8.cell 4
    have m5 := hg8.cell 5
    have m6 := hg8.cell 6
    have m7 := hg8.cell 7
    have m8 := hg8.cell 8
    have m9 := hg8.cell 9
    have m10 := hg8.cell 10
    simp at m0 m1 m2 m3 m4 m5 m6 m7 m8 m9 m10
    exact Lin.Runs.value Lin.keeps (v := hv6 (cl : Int) (la : Int) le (ne : Int) (hq : Int) true (sh : Int) (sl : Int) true (dh : Int) (dl : Int)) (by simp [hv6, execOp, go_sem, h2, m0, m1, m2, m3, m4, m5, m6, m7, m8, m9, m10]) rfl
  · intro ρ wq hb ho hc hd
    have hC : ∀ v, ρ (.const v) = v := fun v => hc _ (by intro t e; cases e)
    have hF : ∀ f, ρ (.func f) = .func (.func f) #[] #[] := fun f => hc _ (by intro t e; cases e)
    intro t ht; cases (show some 24 = some t from ht)
    refine ⟨fun _ => ?_, fun hn => absurd (hd 24 (by kernel_rfl)) hn⟩
    have h25 : ρ (.tmp 25) = hv6 (cl : Int) (la : Int) le (ne : Int) (hq : Int) true (sh : Int) (sl : Int) true (dh : Int) (dl : Int) := hd 25 (by kernel_rfl)
    exact Lin.Runs.call Lin.keeps (f := 83) (args := #[hv6 (cl : Int) (la : Int) le (ne : Int) (hq : Int) true (sh : Int) (sl : Int) true (dh : Int) (dl : Int)]) (by simp [hv6, execOp, go_sem, hF, h25]) ((rright6 cl la le ne hq true sh sl true dh dl wq).mono fun e w9 h => ⟨_, h.1, h.2, by rw [HRA.out]; rfl⟩)
  · intro ρ wq hb ho hc hd
    have hC : ∀ v, ρ (.const v) = v := fun v => hc _ (by intro t e; cases e)
    have hF : ∀ f, ρ (.func f) = .func (.func f) #[] #[] := fun f => hc _ (by intro t e; cases e)
    intro t ht; cases (show some 24 = some t from ht)
    refine ⟨fun _ => ?_, fun hn => absurd (hd 24 (by kernel_rfl)) hn⟩
    have h26 : ρ (.tmp 26) = .bool false := hd 26 (by kernel_rfl)
    exact Lin.Runs.value Lin.keeps (Lin.exec_move rfl) h26
  · intro ρ wq hb ho hc hd
    have hC : ∀ v, ρ (.const v) = v := fun v => hc _ (by intro t e; cases e)
    have hF : ∀ f, ρ (.func f) = .func (.func f) #[] #[] := fun f => hc _ (by intro t e; cases e)
    intro t ht; cases (show some 27 = some t from ht)
    exact ⟨fun he => absurd (he.symm.trans (hd 27 (by kernel_rfl))) (by first | simp | (intro h; cases h)), fun _ => rfl⟩
  · intro ρ wq hb ho hc hd
    have hC : ∀ v, ρ (.const v) = v := fun v => hc _ (by intro t e; cases e)
    have hF : ∀ f, ρ (.func f) = .func (.func f) #[] #[] := fun f => hc _ (by intro t e; cases e)
    intro t ht; cases (show some 27 = some t from ht)
    exact ⟨fun he => absurd (he.symm.trans (hd 27 (by kernel_rfl))) (by first | simp | (intro h; cases h)), fun _ => rfl⟩
  · intro ρ wq hb ho hc hd
    have hC : ∀ v, ρ (.const v) = v := fun v => hc _ (by intro t e; cases e)
    have hF : ∀ f, ρ (.func f) = .func (.func f) #[] #[] := fun f => hc _ (by intro t e; cases e)
    intro t ht; cases (show some 27 = some t from ht)
    exact ⟨fun he => absurd (he.symm.trans (hd 27 (by kernel_rfl))) (by first | simp | (intro h; cases h)), fun _ => rfl⟩
  · intro ρ wq hb ho hc hd
    have hC : ∀ v, ρ (.const v) = v := fun v => hc _ (by intro t e; cases e)
    have hF : ∀ f, ρ (.func f) = .func (.func f) #[] #[] := fun f => hc _ (by intro t e; cases e)
    intro t ht; cases (show some 27 = some t from ht)
    exact ⟨fun he => absurd (he.symm.trans (hd 27 (by kernel_rfl))) (by first | simp | (intro h; cases h)), fun _ => rfl⟩
  · intro ρ wq hb ho hc hd
    have hC : ∀ v, ρ (.const v) = v := fun v => hc _ (by intro t e; cases e)
    have hF : ∀ f, ρ (.func f) = .func (.func f) #[] #[] := fun f => hc _ (by intro t e; cases e)
    intro t ht; cases (show some 27 = some t from ht)
    exact ⟨fun he => absurd (he.symm.trans (hd 27 (by kernel_rfl))) (by first | simp | (intro h; cases h)), fun _ => rfl⟩
  · intro ρ wq hb ho hc hd
    have hC : ∀ v, ρ (.const v) = v := fun v => hc _ (by intro t e; cases e)
    have hF : ∀ f, ρ (.func f) = .func (.func f) #[] #[] := fun f => hc _ (by intro t e; cases e)
    intro t ht; cases (show some 27 = some t from ht)
    exact ⟨fun he => absurd (he.symm.trans (hd 27 (by kernel_rfl))) (by first | simp | (intro h; cases h)), fun _ => rfl⟩
  · intro ρ wq hb ho hc hd
    have hC : ∀ v, ρ (.const v) = v := fun v => hc _ (by intro t e; cases e)
    have hF : ∀ f, ρ (.func f) = .func (.func f) #[] #[] := fun f => hc _ (by intro t e; cases e)
    intro t ht; cases (show some 27 = some t from ht)
    exact ⟨fun he => absurd (he.symm.trans (hd 27 (by kernel_rfl))) (by first | simp | (intro h; cases h)), fun _ => rfl⟩
  · intro ρ wq hb ho hc hd
    have hC : ∀ v, ρ (.const v) = v := fun v => hc _ (by intro t e; cases e)
    have hF : ∀ f, ρ (.func f) = .func (.func f) #[] #[] := fun f => hc _ (by intro t e; cases e)
    intro t ht; cases (show some 24 = some t from ht)
    refine ⟨fun _ => ?_, fun hn => absurd (hd 24 (by kernel_rfl)) hn⟩
    have h27 : ρ (.tmp 27) = .bool false := hd 27 (by kernel_rfl)
    have h34 : ρ (.tmp 34) = undef := hd 34 (by kernel_rfl)
    exact Lin.Runs.value Lin.keeps (v := .bool false) (by simp [execOp, go_sem, hC, h27, h34]) rfl
  · intro ρ wq hb ho hc hd
    have hC : ∀ v, ρ (.const v) = v := fun v => hc _ (by intro t e; cases e)
    have hF : ∀ f, ρ (.func f) = .func (.func f) #[] #[] := fun f => hc _ (by intro t e; cases e)
    have h24 : ρ (.tmp 24) = .bool false := hd 24 (by kernel_rfl)
    have h35 : ρ (.tmp 35) = .bool false := hd 35 (by kernel_rfl)
    exact Lin.Runs.value Lin.keeps (v := .bool false) (by simp [execOp, go_sem, hC, h24, h35]) rfl
  · intro ρ wq hb ho hc hd
    have hC : ∀ v, ρ (.const v) = v := fun v => hc _ (by intro t e; cases e)
    have hF : ∀ f, ρ (.func f) = .func (.func f) #[] #[] := fun f => hc _ (by intro t e; cases e)
    have h36 : ρ (.tmp 36) = .bool false := hd 36 (by kernel_rfl)
    exact Lin.Runs.value Lin.keeps (Lin.exec_move rfl) h36
  · intro ρ wq hb ho hc hd
    have hC : ∀ v, ρ (.const v) = v := fun v => hc _ (by intro t e; cases e)
    have hF : ∀ f, ρ (.func f) = .func (.func f) #[] #[] := fun f => hc _ (by intro t e; cases e)
    intro t ht; cases (show some 37 = some t from ht)
    refine ⟨fun _ => ?_, fun hn => absurd (hd 37 (by kernel_rfl)) hn⟩
    have h2 : ρ (.tmp 2) = .pointer (some ⟨w.heap.size, 0, none⟩) := ho 2 (by kernel_rfl)
    have hg8 := HG.out.below hb HG.out.lt
    have m0 := hg8.cell 0
    have m1 := hg8.cell 1
    have m2 := hg8.cell 2
    have m3 := hg8.cell 3
    have m4 := hg8.cell 4
    have m5 := hg8.cell 5
    have m6 := hg8.cell 6
    have m7 := hg8.cell 7
    have m8 := hg8.cell 8
    have m9 := hg8.cell 9
    have m10 := hg8.cell 10
    simp at m0 m1 m2 m3 m4 m5 m6 m7 m8 m9 m10
    exact Lin.Runs.value Lin.keeps (v := hv6 (cl : Int) (la : Int) le (ne : Int) (hq : Int) true (sh : Int) (sl : Int) true (dh : Int) (dl : Int)) (by simp [hv6, execOp, go_sem, h2, m0, m1, m2, m3, m4, m5, m6, m7, m8, m9, m10]) rfl
  · intro ρ wq hb ho hc hd
    have hC : ∀ v, ρ (.const v) = v := fun v => hc _ (by intro t e; cases e)
    have hF : ∀ f, ρ (.func f) = .func (.func f) #[] #[] := fun f => hc _ (by intro t e; cases e)
    intro t ht; cases (show some 37 = some t from ht)
    refine ⟨fun _ => ?_, fun hn => absurd (hd 37 (by kernel_rfl)) hn⟩
    have h38 : ρ (.tmp 38) = hv6 (cl : Int) (la : Int) le (ne : Int) (hq : Int) true (sh : Int) (sl : Int) true (dh : Int) (dl : Int) := hd 38 (by kernel_rfl)
    exact Lin.Runs.call Lin.keeps (f := 83) (args := #[hv6 (cl : Int) (la : Int) le (ne : Int) (hq : Int) true (sh : Int) (sl : Int) true (dh : Int) (dl : Int)]) (by simp [hv6, execOp, go_sem, hF, h38]) ((rright6 cl la le ne hq true sh sl true dh dl wq).mono fun e w9 h => ⟨_, h.1, h.2, by rw [HRA.out]; rfl⟩)
  · intro ρ wq hb ho hc hd
    have hC : ∀ v, ρ (.const v) = v := fun v => hc _ (by intro t e; cases e)
    have hF : ∀ f, ρ (.func f) = .func (.func f) #[] #[] := fun f => hc _ (by intro t e; cases e)
    intro t ht; cases (show some 37 = some t from ht)
    refine ⟨fun _ => ?_, fun hn => absurd (hd 37 (by kernel_rfl)) hn⟩
    have h39 : ρ (.tmp 39) = .bool false := hd 39 (by kernel_rfl)
    exact Lin.Runs.value Lin.keeps (v := .bool true) (by simp [execOp, go_sem, h39]) rfl
  · intro ρ wq hb ho hc hd
    have hC : ∀ v, ρ (.const v) = v := fun v => hc _ (by intro t e; cases e)
    have hF : ∀ f, ρ (.func f) = .func (.func f) #[] #[] := fun f => hc _ (by intro t e; cases e)
    intro t ht; cases (show some 37 = some t from ht)
    refine ⟨fun _ => ?_, fun hn => absurd (hd 37 (by kernel_rfl)) hn⟩
    have h40 : ρ (.tmp 40) = .bool true := hd 40 (by kernel_rfl)
    exact Lin.Runs.value Lin.keeps (Lin.exec_move rfl) h40
  · intro ρ wq hb ho hc hd
    have hC : ∀ v, ρ (.const v) = v := fun v => hc _ (by intro t e; cases e)
    have hF : ∀ f, ρ (.func f) = .func (.func f) #[] #[] := fun f => hc _ (by intro t e; cases e)
    intro t ht; cases (show some 41 = some t from ht)
    refine ⟨fun _ => ?_, fun hn => absurd (hd 41 (by kernel_rfl)) hn⟩
    have h5 : ρ (.tmp 5) = .pointer (some ⟨g5, 0, none⟩) := ho 5 (by kernel_rfl)
    have hg8 := HF.out.below hb HF.out.lt
    have m0 := hg8.cell 0
    have m1 := hg8.cell 1
    have m2 := hg8.cell 2
    have m3 := hg8.cell 3
    have m4 := hg8.cell 4
    have m5 := hg8.cell 5
    have m6 := hg8.cell 6
    have m7 := hg8.cell 7
    have m8 := hg8.cell 8
    have m9 := hg8.cell 9
    have m10 := hg8.cell 10
    simp at m0 m1 m2 m3 m4 m5 m6 m7 m8 m9 m10
    exact Lin.Runs.value Lin.keeps (v := hv6 (cl : Int) (la : Int) le (ne : Int) (hq : Int) true (sh : Int) (sl : Int) true (dh : Int) (dl : Int)) (by simp [hv6, execOp, go_sem, h5, m0, m1, m2, m3, m4, m5, m6, m7, m8, m9, m10]) rfl
  · intro ρ wq hb ho hc hd
    have hC : ∀ v, ρ (.const v) = v := fun v => hc _ (by intro t e; cases e)
    have hF : ∀ f, ρ (.func f) = .func (.func f) #[] #[] := fun f => hc _ (by intro t e; cases e)
    intro t ht; cases (show some 41 = some t from ht)
    refine ⟨fun _ => ?_, fun hn => absurd (hd 41 (by kernel_rfl)) hn⟩
    have h42 : ρ (.tmp 42) = hv6 (cl : Int) (la : Int) le (ne : Int) (hq : Int) true (sh : Int) (sl : Int) true (dh : Int) (dl : Int) := hd 42 (by kernel_rfl)
    exact Lin.Runs.call Lin.keeps (f := 84) (args := #[hv6 (cl : Int) (la : Int) le (ne : Int) (hq : Int) true (sh : Int) (sl : Int) true (dh : Int) (dl : Int)]) (by simp [hv6, execOp, go_sem, hF, h42]) ((cbytes6_no cl la le ne hq true sh sl true dh dl wq HRA.out).mono fun e w9 h => ⟨_, h.1, h.2, rfl⟩)
  · intro ρ wq hb ho hc hd
    have hC : ∀ v, ρ (.const v) = v := fun v => hc _ (by intro t e; cases e)
    have hF : ∀ f, ρ (.func f) = .func (.func f) #[] #[] := fun f => hc _ (by intro t e; cases e)
    intro t ht; cases (show some 41 = some t from ht)
    refine ⟨fun _ => ?_, fun hn => absurd (hd 41 (by kernel_rfl)) hn⟩
    have h43 : ρ (.tmp 43) = .slice none 0 0 := hd 43 (by kernel_rfl)
    exact Lin.Runs.value Lin.keeps (v := .int .i64 0) (by simp [execOp, go_sem, h43]) rfl
  · intro ρ wq hb ho hc hd
    have hC : ∀ v, ρ (.const v) = v := fun v => hc _ (by intro t e; cases e)
    have hF : ∀ f, ρ (.func f) = .func (.func f) #[] #[] := fun f => hc _ (by intro t e; cases e)
    intro t ht; cases (show some 41 = some t from ht)
    refine ⟨fun _ => ?_, fun hn => absurd (hd 41 (by kernel_rfl)) hn⟩
    have h44 : ρ (.tmp 44) = .int .i64 0 := hd 44 (by kernel_rfl)
    exact Lin.Runs.value Lin.keeps (v := .bool false) (by simp [execOp, go_sem, hC, h44]) rfl
  · intro ρ wq hb ho hc hd
    have hC : ∀ v, ρ (.const v) = v := fun v => hc _ (by intro t e; cases e)
    have hF : ∀ f, ρ (.func f) = .func (.func f) #[] #[] := fun f => hc _ (by intro t e; cases e)
    intro t ht; cases (show some 37 = some t from ht)
    refine ⟨fun _ => ?_, fun hn => absurd (hd 37 (by kernel_rfl)) hn⟩
    have h41 : ρ (.tmp 41) = .bool true := hd 41 (by kernel_rfl)
    have h45 : ρ (.tmp 45) = .bool false := hd 45 (by kernel_rfl)
    exact Lin.Runs.value Lin.keeps (v := .bool false) (by simp [execOp, go_sem, hC, h41, h45]) rfl
  · intro ρ wq hb ho hc hd
    have hC : ∀ v, ρ (.const v) = v := fun v => hc _ (by intro t e; cases e)
    have hF : ∀ f, ρ (.func f) = .func (.func f) #[] #[] := fun f => hc _ (by intro t e; cases e)
    have h37 : ρ (.tmp 37) = .bool false := hd 37 (by kernel_rfl)
    have h46 : ρ (.tmp 46) = .bool false := hd 46 (by kernel_rfl)
    exact Lin.Runs.value Lin.keeps (v := .bool false) (by simp [execOp, go_sem, hC, h37, h46]) rfl
  · intro vals w4 hb2 hv
    have e47 := hv 47 (by kernel_rfl)
    have HG9 := hide (HG.out.below hb2 HG.out.lt); have HF9 := hide (HF.out.below hb2 HF.out.lt); have HB9 := Lib.hid (HB.out.trans (hb2.mono HB.out.size)); have HV9 := hide (HV.out.st hb2)
    clear hv hb2 HG HF HB HV
    have HG := HG9; have HF := HF9; have HB := HB9; have HV := HV9
    clear HG9 HF9 HB9 HV9
    simp only [Lin.putAll, Option.getD_some]
    rw [show vals 47 = .bool false from e47]
    go_simp
    generalize vals = vv
    have a0 := HG.out.cell 0
    have a1 := HG.out.cell 1
    have a2 := HG.out.cell 2
    have a3 := HG.out.cell 3
    have a4 := HG.out.cell 4
    have a5 := HG.out.cell 5
    have a6 := HG.out.cell 6
    have a7 := HG.out.cell 7
    have a8 := HG.out.cell 8
    have a9 := HG.out.cell 9
    have a10 := HG.out.cell 10
    have b0 := HF.out.cell 0
    have b1 := HF.out.cell 1
    have b2 := HF.out.cell 2
    have b3 := HF.out.cell 3
    have b4 := HF.out.cell 4
    have b5 := HF.out.cell 5
    have b6 := HF.out.cell 6
    have b7 := HF.out.cell 7
    have b8 := HF.out.cell 8
    have b9 := HF.out.cell 9
    have b10 := HF.out.cell 10
    simp at a0 a1 a2 a3 a4 a5 a6 a7 a8 a9 a10 b0 b1 b2 b3 b4 b5 b6 b7 b8 b9 b10
    have g5l := HF.out.lt
    go_wp2_with fail
    refine (cpacket_yes cl la le ne hq sh sl dh dl hla hcl hne hho hsh hsl hdh hdl A n c l hn3 _ HV.out).mono ?_
    rintro e w5 ⟨v6, rfl, hb2, hx⟩
    obtain ⟨A6, c6, rfl⟩ := hx.shape
    have HI6 := hide hx
    have HG9 := hide (HG.out.below hb2 HG.out.lt); have HF9 := hide (HF.out.below hb2 HF.out.lt); have HB9 := Lib.hid (HB.out.trans (hb2.mono HB.out.size)); have HV9 := hide (HV.out.st hb2)
    clear hx hb2 HG HF HB HV a0 a1 a2 a3 a4 a5 a6 a7 a8 a9 a10 b0 b1 b2 b3 b4 b5 b6 b7 b8 b9 b10 g5l
    have HG := HG9; have HF := HF9; have HB := HB9; have HV := HV9
    clear HG9 HF9 HB9 HV9
    have a0 := HG.out.cell 0
    have a1 := HG.out.cell 1
    have a2 := HG.out.cell 2
    have a3 := HG.out.cell 3
    have a4 := HG.out.cell 4
    have a5 := HG.out.cell 5
    have a6 := HG.out.cell 6
    have a7 := HG.out.cell 7
    have a8 := HG.out.cell 8
    have a9 := HG.out.cell 9
    have a10 := HG.out.cell 10
    have b0 := HF.out.cell 0
    have b1 := HF.out.cell 1
    have b2 := HF.out.cell 2
    have b3 := HF.out.cell 3
    have b4 := HF.out.cell 4
    have b5 := HF.out.cell 5
    have b6 := HF.out.cell 6
    have b7 := HF.out.cell 7
    have b8 := HF.out.cell 8
    have b9 := HF.out.cell 9
    have b10 := HF.out.cell 10
    simp at a0 a1 a2 a3 a4 a5 a6 a7 a8 a9 a10 b0 b1 b2 b3 b4 b5 b6 b7 b8 b9 b10
    have g5l := HF.out.lt
    go_wp2_with fail
    refine (rpacket_yes cl la le ne hq sh sl dh dl hla hcl hne hho hsh hsl hdh hdl A n c l hn3 _ HV.out).mono ?_
    rintro e w6 ⟨v8, rfl, hb2, hx⟩
    obtain ⟨A8, c8, rfl⟩ := hx.shape
    have HI8 := hide hx; have HI69 := hide (HI6.out.st hb2)
    have HG9 := hide (HG.out.below hb2 HG.out.lt); have HF9 := hide (HF.out.below hb2 HF.out.lt); have HB9 := Lib.hid (HB.out.trans (hb2.mono HB.out.size)); have HV9 := hide (HV.out.st hb2)
    clear hx hb2 HG HF HB HV HI6 a0 a1 a2 a3 a4 a5 a6 a7 a8 a9 a10 b0 b1 b2 b3 b4 b5 b6 b7 b8 b9 b10 g5l
    have HG := HG9; have HF := HF9; have HB := HB9; have HV := HV9
    clear HG9 HF9 HB9 HV9
    have HI6 := HI69
    clear HI69
    have cv6 := HI6.out.conv
    have cv8 := HI8.out.conv
    have a0 := HG.out.cell 0
    have a1 := HG.out.cell 1
    have a2 := HG.out.cell 2
    have a3 := HG.out.cell 3
    have a4 := HG.out.cell 4
    have a5 := HG.out.cell 5
    have a6 := HG.out.cell 6
    have a7 := HG.out.cell 7
    have a8 := HG.out.cell 8
    have a9 := HG.out.cell 9
    have a10 := HG.out.cell 10
    have b0 := HF.out.cell 0
    have b1 := HF.out.cell 1
    have b2 := HF.out.cell 2
    have b3 := HF.out.cell 3
    have b4 := HF.out.cell 4
    have b5 := HF.out.cell 5
    have b6 := HF.out.cell 6
    have b7 := HF.out.cell 7
    have b8 := HF.out.cell 8
    have b9 := HF.out.cell 9
    have b10 := HF.out.cell 10
    simp at a0 a1 a2 a3 a4 a5 a6 a7 a8 a9 a10 b0 b1 b2 b3 b4 b5 b6 b7 b8 b9 b10
    have g5l := HF.out.lt
    go_wp2_with fail
    refine (cparse6 cl la n ne hq sh sl dh dl hcl hla (by omega) hne hho hsh hsl hdh hdl l hn3 _ _ HI6.out).mono ?_
    rintro e w7 ⟨u, rfl, hb2, hx⟩
    obtain ⟨A11, c11, rfl, hx⟩ := hx
    have hg56 : g5 < w6.heap.size := HF.out.lt
    have HI11 := hide hx; have HG56 := Lib.hid hg56
    have HG9 := hide (HG.out.below hb2 HG.out.lt); have HF9 := hide (HF.out.below hb2 HF.out.lt); have HB9 := Lib.hid (HB.out.trans (hb2.mono HB.out.size)); have HV9 := hide (HV.out.st hb2)
    clear hx hb2 HG HF HB HV HI6 HI8 cv6 cv8 a0 a1 a2 a3 a4 a5 a6 a7 a8 a9 a10 b0 b1 b2 b3 b4 b5 b6 b7 b8 b9 b10 g5l
    have HG := HG9; have HF := HF9; have HB := HB9; have HV := HV9
    clear HG9 HF9 HB9 HV9
    unfold hv6
    have a0 := HG.out.cell 0
    have a1 := HG.out.cell 1
    have a2 := HG.out.cell 2
    have a3 := HG.out.cell 3
    have a4 := HG.out.cell 4
    have a5 := HG.out.cell 5
    have a6 := HG.out.cell 6
    have a7 := HG.out.cell 7
    have a8 := HG.out.cell 8
    have a9 := HG.out.cell 9
    have a10 := HG.out.cell 10
    have b0 := HF.out.cell 0
    have b1 := HF.out.cell 1
    have b2 := HF.out.cell 2
    have b3 := HF.out.cell 3
    have b4 := HF.out.cell 4
    have b5 := HF.out.cell 5
    have b6 := HF.out.cell 6
    have b7 := HF.out.cell 7
    have b8 := HF.out.cell 8
    have b9 := HF.out.cell 9
    have b10 := HF.out.cell 10
    simp at a0 a1 a2 a3 a4 a5 a6 a7 a8 a9 a10 b0 b1 b2 b3 b4 b5 b6 b7 b8 b9 b10
    have g5l := HF.out.lt
    have f2 := HF.out.free 2
    have hbf := Below.setCell (p := ⟨g5, 2, none⟩) HB.out HG5.out (.int .i64 (n : Int))
    have hbf2 := hbf.alloc hbf.size (.cells #[.int .u8 (cl : Int), .int .u32 (la : Int), .int .i64 (n : Int), .int .u8 (ne : Int), .int .u8 (hq : Int), .bool true, .int .u64 (sh : Int), .int .u64 (sl : Int), .bool true, .int .u64 (dh : Int), .int .u64 (dl : Int)] 126)
    have cv11 : (convert 22 9 (.slice A11 n c11)).run Try.prog ((w7.setCell ⟨g5, 2, none⟩ (.int .i64 (n : Int))).alloc (.cells #[.int .u8 (cl : Int), .int .u32 (la : Int), .int .i64 (n : Int), .int .u8 (ne : Int), .int .u8 (hq : Int), .bool true, .int .u64 (sh : Int), .int .u64 (sl : Int), .bool true, .int .u64 (dh : Int), .int .u64 (dl : Int)] 126)) = .ok (.string (strOfNums l)) _ := (IsB.own ((HI11.out.set HG56.out (.int .i64 (n : Int))).alloc (.cells #[.int .u8 (cl : Int), .int .u32 (la : Int), .int .i64 (n : Int), .int .u8 (ne : Int), .int .u8 (hq : Int), .bool true, .int .u64 (sh : Int), .int .u64 (sl : Int), .bool true, .int .u64 (dh : Int), .int .u64 (dl : Int)] 126))).conv
    have cv1 : (convert 22 9 (.slice A n c)).run Try.prog ((w7.setCell ⟨g5, 2, none⟩ (.int .i64 (n : Int))).alloc (.cells #[.int .u8 (cl : Int), .int .u32 (la : Int), .int .i64 (n : Int), .int .u8 (ne : Int), .int .u8 (hq : Int), .bool true, .int .u64 (sh : Int), .int .u64 (sl : Int), .bool true, .int .u64 (dh : Int), .int .u64 (dl : Int)] 126)) = .ok (.string (strOfNums l)) _ := (HVW.out.st hbf2).conv
    have HBF := Lib.hid hbf2
    clear hbf hbf2 hg56
    go_wp2_with fail
    refine (awake05 _).mono ?_
    rintro e w8 ⟨rfl, hb2⟩
    have HB9 := Lib.hid (HBF.out.trans (hb2.mono HBF.out.size))
    clear hb2 cv11 cv1
    go_wp2_with fail
    go_ret
    exact ⟨rfl, HB9.out⟩
theorem right6_of {la : Nat} {le : Int} {s6 d6 : Bool} (h : right6 la le s6 d6 = true) : la < 1048576 ∧ 0 ≤ le ∧ le ≤ 65535 ∧ s6 = true ∧ d6 = true := by
  unfold right6 at h
  simp only [Bool.and_eq_true, decide_eq_true_eq] at h
  exact h
theorem walk (cl la : Nat) (le : Int) (ne hq : Nat) (s6 : Bool) (sh sl : Nat) (d6 : Bool) (dh dl : Nat) (A : Option Addr) (n c : Nat) (l : List Int) (hcl : cl ≤ 255) (hne : ne ≤ 255) (hho : hq ≤ 255) (hsh : sh < 18446744073709551616) (hsl : sl < 18446744073709551616) (hdh : dh < 18446744073709551616) (hdl : dl < 18446744073709551616) (w : World) (hv : IsB l n (.slice A n c) w) : Calls Try.prog 14 #[hv6 (cl : Int) (la : Int) le (ne : Int) (hq : Int) s6 (sh : Int) (sl : Int) d6 (dh : Int) (dl : Int), .slice A n c] w fun e w' => e = .returned (.bool true) ∧ Below w.heap.size w w' := by
  by_cases h5 : 3000 < n
  · exact walk_long cl la le ne hq s6 sh sl d6 dh dl A n c l w h5
  have hn3 : n ≤ 3000 := by omega
  cases hrB : right6 la (n : Int) s6 d6 with
  | false =>
    cases hrA : right6 la le s6 d6 with
    | false => exact walk_ff cl la le ne hq s6 sh sl d6 dh dl A n c l hcl hne hho hsh hsl hdh hdl w hn3 hv hrA hrB
    | true =>
      exfalso
      obtain ⟨h1, h2, h3, rfl, rfl⟩ := right6_of hrA
      rw [show right6 la (n : Int) true true = true from by simp [right6, h1]; omega] at hrB
      cases hrB
  | true =>
    obtain ⟨h1, h2, h3, rfl, rfl⟩ := right6_of hrB
    cases hrA : right6 la le true true with
    | false => exact walk_ft cl la le ne hq sh sl dh dl A n c l hcl hne hho hsh hsl hdh hdl w hn3 hv hrA hrB h1
    | true =>
      obtain ⟨_, h4, h6, _, _⟩ := right6_of hrA
      obtain ⟨k, rfl⟩ := Int.eq_ofNat_of_zero_le h4
      exact walk_tt cl la k ne hq sh sl dh dl A n c l hcl hne hho hsh hsl hdh hdl w hn3 hv hrA hrB h1 (by omega)
section
open Go.Deep Go.Joins
variable {H : Type} {enc : TypeId × Value → H} {w : World} {held : Bool} {spare : Nat → Bool}
theorem nat_of {n b : Int} (h : 0 ≤ n ∧ n ≤ b) : ∃ k : Nat, n = (k : Int) ∧ (k : Int) ≤ b := ⟨n.toNat, by omega, by omega⟩
theorem array11 {cs : Array Value} (h : cs.size = 11) : ∃ c0 c1 c2 c3 c4 c5 c6 c7 c8 c9 c10, cs = #[c0, c1, c2, c3, c4, c5, c6, c7, c8, c9, c10] := by
  obtain ⟨l⟩ := cs
  match l, h with
  | [c0, c1, c2, c3, c4, c5, c6, c7, c8, c9, c10], _ => exact ⟨c0, c1, c2, c3, c4, c5, c6, c7, c8, c9, c10, rfl⟩
theorem open_addr {n : Nat} {c0 c1 c2 : Value} {y : DataW H × List MemPlace} (h : DataW.trod enc Try.prog w 0 spare held n 31 [c0, c1, c2] = some y) : ∃ (b : Bool) (hi lo : Nat), c0 = .bool b ∧ c1 = .int .u64 (hi : Int) ∧ c2 = .int .u64 (lo : Int) ∧ (hi : Int) ≤ 18446744073709551615 ∧ (lo : Int) ≤ 18446744073709551615 := by
  obtain ⟨xs, m, _, _, hl, hlen, hf⟩ := DataW.trod_struct Try.underlying31 h
  match xs, hlen with
  | [y0, y1, y2], _ =>
    have g0 : DataW.trod enc Try.prog w 0 spare held m 4 [c0] = some y0 := hf 0 _ rfl
    have g1 : DataW.trod enc Try.prog w 0 spare held m 29 [c1] = some y1 := hf 1 _ rfl
    have g2 : DataW.trod enc Try.prog w 0 spare held m 29 [c2] = some y2 := hf 2 _ rfl
    obtain ⟨z0, e0, _⟩ := DataW.trod_bool Try.underlying4 g0
    obtain ⟨z1, e1, _, w1⟩ := DataW.trod_int Try.underlying29 g1
    obtain ⟨k1, rfl, b1⟩ := nat_of (bounds_u64 w1)
    obtain ⟨z2, e2, _, w2⟩ := DataW.trod_int Try.underlying29 g2
    obtain ⟨k2, rfl, b2⟩ := nat_of (bounds_u64 w2)
    cases e0; cases e1; cases e2
    exact ⟨z0, k1, k2, rfl, rfl, rfl, b1, b2⟩
theorem open_hdr {r : Reach} {b0 : Nat} {v : Value} {d : DataW H} {p : List MemPlace} (hv : Value.okWide Try.prog w r b0 125 v) (h : DataW.Trod enc Try.prog w 0 spare held 125 v d p) :
    ∃ (cl la : Nat) (le : Int) (ne hq : Nat) (s6 : Bool) (sh sl : Nat) (d6 : Bool) (dh dl : Nat), v = hv6 (cl : Int) (la : Int) le (ne : Int) (hq : Int) s6 (sh : Int) (sl : Int) d6 (dh : Int) (dl : Int) ∧ cl ≤ 255 ∧ ne ≤ 255 ∧ hq ≤ 255 ∧ sh < 18446744073709551616 ∧ sl < 18446744073709551616 ∧ dh < 18446744073709551616 ∧ dl < 18446744073709551616 := by
  have hu := Try.underlying125
  obtain ⟨cs, rfl, hsz⟩ := okWide_struct hu hv
  obtain ⟨c0, c1, c2, c3, c4, c5, c6, c7, c8, c9, c10, rfl⟩ := array11 (hsz.trans (by kernel_rfl))
  obtain ⟨fuel, hf⟩ := h
  obtain ⟨xs, n, _, _, hl, hlen, hf⟩ := DataW.trod_struct hu hf
  match xs, hlen with
  | [y0, y1, y2, y3, y4, y5, y6], _ =>
    have g0 : DataW.trod enc Try.prog w 0 spare held n 5 [c0] = some y0 := hf 0 _ rfl
    have g1 : DataW.trod enc Try.prog w 0 spare held n 33 [c1] = some y1 := hf 1 _ rfl
    have g2 : DataW.trod enc Try.prog w 0 spare held n 3 [c2] = some y2 := hf 2 _ rfl
    have g3 : DataW.trod enc Try.prog w 0 spare held n 5 [c3] = some y3 := hf 3 _ rfl
    have g4 : DataW.trod enc Try.prog w 0 spare held n 5 [c4] = some y4 := hf 4 _ rfl
    have g5 : DataW.trod enc Try.prog w 0 spare held n 31 [c5, c6, c7] = some y5 := hf 5 _ rfl
    have g6 : DataW.trod enc Try.prog w 0 spare held n 31 [c8, c9, c10] = some y6 := hf 6 _ rfl
    obtain ⟨z0, e0, _, w0⟩ := DataW.trod_int Try.underlying5 g0
    obtain ⟨k0, rfl, b0⟩ := nat_of (bounds_u8 w0)
    obtain ⟨z1, e1, _, w1⟩ := DataW.trod_int Try.underlying33 g1
    obtain ⟨k1, rfl, b1⟩ := nat_of (bounds_u32 w1)
    obtain ⟨z2, e2, _, w2⟩ := DataW.trod_int Try.underlying3 g2
    obtain ⟨z3, e3, _, w3⟩ := DataW.trod_int Try.underlying5 g3
    obtain ⟨k3, rfl, b3⟩ := nat_of (bounds_u8 w3)
    obtain ⟨z4, e4, _, w4⟩ := DataW.trod_int Try.underlying5 g4
    obtain ⟨k4, rfl, b4⟩ := nat_of (bounds_u8 w4)
    obtain ⟨s6, sh, sl, rfl, rfl, rfl, b5, b6⟩ := open_addr g5
    obtain ⟨d6, dh, dl, rfl, rfl, rfl, b7, b8⟩ := open_addr g6
    cases e0; cases e1; cases e2; cases e3; cases e4
    exact ⟨k0, k1, z2, k3, k4, s6, sh, sl, d6, dh, dl, rfl, by omega, by omega, by omega, by omega, by omega, by omega, by omega⟩
end
end Go.Proofs.Ytkgmgmlicgjfdaa
