/-
  A segment's bytes by the document's answer. Helper of the claim TcpWrites. No condition.
-/
import Derived.Test.YtkgmgmlicgjfdaaTw1
import Derived.Test.YtkgmgmlicgjfdaaRef01
import Derived.Test.YtkgmgmlicgjfdaaUdpA
import Derived.Test.YtkgmgmlicgjfdaaLin
namespace Go.Proofs.Ytkgmgmlicgjfdaa
open Go.ChangeShapes Go.WideShapes Go.ChangeAt Go.RowKit
set_option linter.unusedVariables false
set_option maxRecDepth 100000
theorem rb_k (n k : Nat) (w : World) (hk : k ≤ 8) (hn : n < 18446744073709551616) : Calls Try.prog 102 #[.int .u64 (n : Int), .int .i64 (k : Int)] w fun e w'' => ∃ v, e = .returned v ∧ Below w.heap.size w w'' ∧ IsB (be n k) k v w'' := by
  have h := rbytes_p n (k : Int) w hn
  rw [sz8_mid hk, be_len] at h
  exact h
theorem be_one {n : Nat} (h : n ≤ 255) : be n 1 = [(n : Int)] := by simp [be]; omega
set_option maxHeartbeats 4000000 in
theorem rbytes6 (xa xb xs xk xf xn xm xg : Nat) (o l : List Int) (A1 : Option Addr) (i c1 : Nat) (A2 : Option Addr) (j c2 : Nat) (w : World) (m : Nat) (hi : i = 4 * m) (hm : m ≤ 10) (hj : j ≤ 2000) (ba : xa ≤ 65535) (bb : xb ≤ 65535) (bs : xs ≤ 4294967295) (bk : xk ≤ 4294967295) (bf : xf ≤ 255) (bn : xn ≤ 65535) (bm : xm ≤ 65535) (bg : xg ≤ 65535)
    (hv : IsB o i (.slice A1 i c1) w) (hu : IsB l j (.slice A2 j c2) w) : Calls Try.prog 31 #[sg6 xa xb xs xk xf xn xm xg (.slice A1 i c1) (.slice A2 j c2)] w fun e w' => ∃ v, e = .returned v ∧ Below w.heap.size w w' ∧ IsB (hd6 xa xb xs xk xf xn xm xg m ++ o ++ l) (20 + i + j) v w' := by
  have LL := Lib.hid (show (hd6 xa xb xs xk xf xn xm xg m ++ o ++ l).length = 20 + i + j from by
    have h1 : o.length = i := by obtain ⟨_, _, _, e, _⟩ := hv; exact e
    have h2 : l.length = j := by obtain ⟨_, _, _, e, _⟩ := hu; exact e
    rw [List.length_append, List.length_append, hd6_len, h1, h2])
  have q1 : (i : Int).tdiv 4 = (m : Int) := by rw [Int.tdiv_eq_ediv_of_nonneg (by omega)]; omega
  have hi40 : i ≤ 40 := by omega
  clear hi
  unfold sg6
  go_enter Try.func31, Try.ntmps31
  go_wp2_with fail
  have hg0 := Is.new w 35 #[.int .u16 xa, .int .u16 xb, .int .u32 xs, .int .u32 xk, .int .u8 xf, .int .u16 xn, .int .u16 xm, .int .u16 xg, .slice A1 i c1, .slice A2 j c2]
  have hb0 : Below w.heap.size w (w.alloc (.cells #[.int .u16 xa, .int .u16 xb, .int .u32 xs, .int .u32 xk, .int .u8 xf, .int .u16 xn, .int .u16 xm, .int .u16 xg, .slice A1 i c1, .slice A2 j c2] 35)) := (Below.refl _ _).alloc (Nat.le_refl _) _
  have hv0 := hv.st hb0; have hu0 := hu.st hb0
  clear hv hu
  generalize w.alloc (.cells #[.int .u16 xa, .int .u16 xb, .int .u32 xs, .int .u32 xk, .int .u8 xf, .int .u16 xn, .int .u16 xm, .int .u16 xg, .slice A1 i c1, .slice A2 j c2] 35) = W at *
  have HG := hide hg0; have HV := hide hv0; have HU := hide hu0; have HB := Lib.hid hb0
  clear hg0 hv0 hu0 hb0
  refine Lin.wp_region_lin Lin.keeps (n := 47)  (fun slotq => match slotq with | 3 => Lin.Spec.val (.pointer (some ⟨w.heap.size, 0, none⟩)) | 4 => Lin.Spec.val (.int .u16 xa) | 5 => Lin.Spec.val (.int .u64 xa) | 6 => Lin.Spec.sl (be xa 2) 2 | 7 => Lin.Spec.val (.pointer (some ⟨w.heap.size, 1, none⟩)) | 8 => Lin.Spec.val (.int .u16 xb) | 9 => Lin.Spec.val (.int .u64 xb) | 10 => Lin.Spec.sl (be xb 2) 2 | 11 => Lin.Spec.val (.pointer (some ⟨w.heap.size, 2, none⟩)) | 12 => Lin.Spec.val (.int .u32 xs) | 13 => Lin.Spec.val (.int .u64 xs) | 14 => Lin.Spec.sl (be xs 4) 4 | 15 => Lin.Spec.val (.pointer (some ⟨w.heap.size, 3, none⟩)) | 16 => Lin.Spec.val (.int .u32 xk) | 17 => Lin.Spec.val (.int .u64 xk) | 18 => Lin.Spec.sl (be xk 4) 4 | 19 => Lin.Spec.val (.pointer (some ⟨w.heap.size, 8, none⟩)) | 20 => Lin.Spec.val (.slice A1 i c1) | 21 => Lin.Spec.val (.int .i64 i) | 22 => Lin.Spec.val (.int .i64 m) | 23 => Lin.Spec.val (.int .i64 ((m : Int) * 16)) | 24 => Lin.Spec.val (.int .i64 ((80 + 16 * m : Nat) : Int)) | 25 => Lin.Spec.val (.int .u8 ((80 + 16 * m : Nat) : Int)) | 26 => Lin.Spec.val (.pointer (some ⟨w.heap.size, 4, none⟩)) | 27 => Lin.Spec.val (.int .u8 xf) | 28 => Lin.Spec.sl (be (80 + 16 * m) 1 ++ be xf 1) 2 | 29 => Lin.Spec.val (.pointer (some ⟨w.heap.size, 5, none⟩)) | 30 => Lin.Spec.val (.int .u16 xn) | 31 => Lin.Spec.val (.int .u64 xn) | 32 => Lin.Spec.sl (be xn 2) 2 | 33 => Lin.Spec.val (.pointer (some ⟨w.heap.size, 6, none⟩)) | 34 => Lin.Spec.val (.int .u16 xm) | 35 => Lin.Spec.val (.int .u64 xm) | 36 => Lin.Spec.sl (be xm 2) 2 | 37 => Lin.Spec.val (.pointer (some ⟨w.heap.size, 7, none⟩)) | 38 => Lin.Spec.val (.int .u16 xg) | 39 => Lin.Spec.val (.int .u64 xg) | 40 => Lin.Spec.sl (be xg 2) 2 | 41 => Lin.Spec.val (.pointer (some ⟨w.heap.size, 8, none⟩)) | 42 => Lin.Spec.val (.slice A1 i c1) | 43 => Lin.Spec.val (.pointer (some ⟨w.heap.size, 9, none⟩)) | 44 => Lin.Spec.val (.slice A2 j c2) | 45 => Lin.Spec.parts [be xa 2, be xb 2, be xs 4, be xk 4, be (80 + 16 * m) 1 ++ be xf 1, be xn 2, be xm 2, be xg 2, o, l] | 46 => Lin.Spec.sl (hd6 xa xb xs xk xf xn xm xg m ++ o ++ l) (20 + i + j) | 2 => Lin.Spec.sl (hd6 xa xb xs xk xf xn xm xg m ++ o ++ l) (20 + i + j) | _ => Lin.Spec.any) (by kernel_rfl) rfl (by kernel_rfl) ⟨?_, ?_, ?_, ?_, ?_, ?_, ?_, ?_, ?_, ?_, ?_, ?_, ?_, ?_, ?_, ?_, ?_, ?_, ?_, ?_, ?_, ?_, ?_, ?_, ?_, ?_, ?_, ?_, ?_, ?_, ?_, ?_, ?_, ?_, ?_, ?_, ?_, ?_, ?_, ?_, ?_, ?_, ?_, ?_, ?_, trivial⟩ ?_
  · intro ρ wq hb ho hc hd
    have hC : ∀ v, ρ (.const v) = v := fun v => hc _ (by intro t e; cases e)
    have hF : ∀ f, ρ (.func f) = .func (.func f) #[] #[] := fun f => hc _ (by intro t e; cases e)
    have h1 : ρ (.tmp 1) = .pointer (some ⟨w.heap.size, 0, none⟩) := ho 1 (by kernel_rfl)
    exact Lin.Runs.value Lin.keeps (v := .pointer (some ⟨w.heap.size, 0, none⟩)) (by simp [execOp, go_sem, hC, hF, h1]) rfl
  · intro ρ wq hb ho hc hd
    have hC : ∀ v, ρ (.const v) = v := fun v => hc _ (by intro t e; cases e)
    have hF : ∀ f, ρ (.func f) = .func (.func f) #[] #[] := fun f => hc _ (by intro t e; cases e)
    have h3 : ρ (.tmp 3) = .pointer (some ⟨w.heap.size, 0, none⟩) := hd 3 (by kernel_rfl)
    have hg8 := HG.out.below hb HG.out.lt
    have m0 := hg8.cell 0
    simp at m0
    exact Lin.Runs.value Lin.keeps (v := .int .u16 xa) (by simp [execOp, go_sem, hC, hF, h3, m0]) rfl
  · intro ρ wq hb ho hc hd
    have hC : ∀ v, ρ (.const v) = v := fun v => hc _ (by intro t e; cases e)
    have hF : ∀ f, ρ (.func f) = .func (.func f) #[] #[] := fun f => hc _ (by intro t e; cases e)
    have h4 : ρ (.tmp 4) = .int .u16 xa := hd 4 (by kernel_rfl)
    exact Lin.Runs.value Lin.keeps (v := .int .u64 xa) (by simp [execOp, go_sem, hC, hF, h4]; first | done | exact IntWalk.u64_in _ (by omega)) rfl
  · intro ρ wq hb ho hc hd
    have hC : ∀ v, ρ (.const v) = v := fun v => hc _ (by intro t e; cases e)
    have hF : ∀ f, ρ (.func f) = .func (.func f) #[] #[] := fun f => hc _ (by intro t e; cases e)
    have h5 : ρ (.tmp 5) = .int .u64 xa := hd 5 (by kernel_rfl)
    exact Lin.Runs.call Lin.keeps (f := 102) (args := #[.int .u64 (xa : Int), .int .i64 2]) (by simp [execOp, go_sem, hC, hF, h5]) (rb_k xa 2 wq (by omega) (by omega))
  · intro ρ wq hb ho hc hd
    have hC : ∀ v, ρ (.const v) = v := fun v => hc _ (by intro t e; cases e)
    have hF : ∀ f, ρ (.func f) = .func (.func f) #[] #[] := fun f => hc _ (by intro t e; cases e)
    have h1 : ρ (.tmp 1) = .pointer (some ⟨w.heap.size, 0, none⟩) := ho 1 (by kernel_rfl)
    exact Lin.Runs.value Lin.keeps (v := .pointer (some ⟨w.heap.size, 1, none⟩)) (by simp [execOp, go_sem, hC, hF, h1]) rfl
  · intro ρ wq hb ho hc hd
    have hC : ∀ v, ρ (.const v) = v := fun v => hc _ (by intro t e; cases e)
    have hF : ∀ f, ρ (.func f) = .func (.func f) #[] #[] := fun f => hc _ (by intro t e; cases e)
    have h7 : ρ (.tmp 7) = .pointer (some ⟨w.heap.size, 1, none⟩) := hd 7 (by kernel_rfl)
    have hg8 := HG.out.below hb HG.out.lt
    have m1 := hg8.cell 1
    simp at m1
    exact Lin.Runs.value Lin.keeps (v := .int .u16 xb) (by simp [execOp, go_sem, hC, hF, h7, m1]) rfl
  · intro ρ wq hb ho hc hd
    have hC : ∀ v, ρ (.const v) = v := fun v => hc _ (by intro t e; cases e)
    have hF : ∀ f, ρ (.func f) = .func (.func f) #[] #[] := fun f => hc _ (by intro t e; cases e)
    have h8 : ρ (.tmp 8) = .int .u16 xb := hd 8 (by kernel_rfl)
    exact Lin.Runs.value Lin.keeps (v := .int .u64 xb) (by simp [execOp, go_sem, hC, hF, h8]; first | done | exact IntWalk.u64_in _ (by omega)) rfl
  · intro ρ wq hb ho hc hd
    have hC : ∀ v, ρ (.const v) = v := fun v => hc _ (by intro t e; cases e)
    have hF : ∀ f, ρ (.func f) = .func (.func f) #[] #[] := fun f => hc _ (by intro t e; cases e)
    have h9 : ρ (.tmp 9) = .int .u64 xb := hd 9 (by kernel_rfl)
    exact Lin.Runs.call Lin.keeps (f := 102) (args := #[.int .u64 (xb : Int), .int .i64 2]) (by simp [execOp, go_sem, hC, hF, h9]) (rb_k xb 2 wq (by omega) (by omega))
  · intro ρ wq hb ho hc hd
    have hC : ∀ v, ρ (.const v) = v := fun v => hc _ (by intro t e; cases e)
    have hF : ∀ f, ρ (.func f) = .func (.func f) #[] #[] := fun f => hc _ (by intro t e; cases e)
    have h1 : ρ (.tmp 1) = .pointer (some ⟨w.heap.size, 0, none⟩) := ho 1 (by kernel_rfl)
    exact Lin.Runs.value Lin.keeps (v := .pointer (some ⟨w.heap.size, 2, none⟩)) (by simp [execOp, go_sem, hC, hF, h1]) rfl
  · intro ρ wq hb ho hc hd
    have hC : ∀ v, ρ (.const v) = v := fun v => hc _ (by intro t e; cases e)
    have hF : ∀ f, ρ (.func f) = .func (.func f) #[] #[] := fun f => hc _ (by intro t e; cases e)
    have h11 : ρ (.tmp 11) = .pointer (some ⟨w.heap.size, 2, none⟩) := hd 11 (by kernel_rfl)
    have hg8 := HG.out.below hb HG.out.lt
    have m2 := hg8.cell 2
    simp at m2
    exact Lin.Runs.value Lin.keeps (v := .int .u32 xs) (by simp [execOp, go_sem, hC, hF, h11, m2]) rfl
  · intro ρ wq hb ho hc hd
    have hC : ∀ v, ρ (.const v) = v := fun v => hc _ (by intro t e; cases e)
    have hF : ∀ f, ρ (.func f) = .func (.func f) #[] #[] := fun f => hc _ (by intro t e; cases e)
    have h12 : ρ (.tmp 12) = .int .u32 xs := hd 12 (by kernel_rfl)
    exact Lin.Runs.value Lin.keeps (v := .int .u64 xs) (by simp [execOp, go_sem, hC, hF, h12]; first | done | exact IntWalk.u64_in _ (by omega)) rfl
  · intro ρ wq hb ho hc hd
    have hC : ∀ v, ρ (.const v) = v := fun v => hc _ (by intro t e; cases e)
    have hF : ∀ f, ρ (.func f) = .func (.func f) #[] #[] := fun f => hc _ (by intro t e; cases e)
    have h13 : ρ (.tmp 13) = .int .u64 xs := hd 13 (by kernel_rfl)
    exact Lin.Runs.call Lin.keeps (f := 102) (args := #[.int .u64 (xs : Int), .int .i64 4]) (by simp [execOp, go_sem, hC, hF, h13]) (rb_k xs 4 wq (by omega) (by omega))
  · intro ρ wq hb ho hc hd
    have hC : ∀ v, ρ (.const v) = v := fun v => hc _ (by intro t e; cases e)
    have hF : ∀ f, ρ (.func f) = .func (.func f) #[] #[] := fun f => hc _ (by intro t e; cases e)
    have h1 : ρ (.tmp 1) = .pointer (some ⟨w.heap.size, 0, none⟩) := ho 1 (by kernel_rfl)
    exact Lin.Runs.value Lin.keeps (v := .pointer (some ⟨w.heap.size, 3, none⟩)) (by simp [execOp, go_sem, hC, hF, h1]) rfl
  · intro ρ wq hb ho hc hd
    have hC : ∀ v, ρ (.const v) = v := fun v => hc _ (by intro t e; cases e)
    have hF : ∀ f, ρ (.func f) = .func (.func f) #[] #[] := fun f => hc _ (by intro t e; cases e)
    have h15 : ρ (.tmp 15) = .pointer (some ⟨w.heap.size, 3, none⟩) := hd 15 (by kernel_rfl)
    have hg8 := HG.out.below hb HG.out.lt
    have m3 := hg8.cell 3
    simp at m3
    exact Lin.Runs.value Lin.keeps (v := .int .u32 xk) (by simp [execOp, go_sem, hC, hF, h15, m3]) rfl
  · intro ρ wq hb ho hc hd
    have hC : ∀ v, ρ (.const v) = v := fun v => hc _ (by intro t e; cases e)
    have hF : ∀ f, ρ (.func f) = .func (.func f) #[] #[] := fun f => hc _ (by intro t e; cases e)
    have h16 : ρ (.tmp 16) = .int .u32 xk := hd 16 (by kernel_rfl)
    exact Lin.Runs.value Lin.keeps (v := .int .u64 xk) (by simp [execOp, go_sem, hC, hF, h16]; first | done | exact IntWalk.u64_in _ (by omega)) rfl
  · intro ρ wq hb ho hc hd
    have hC : ∀ v, ρ (.const v) = v := fun v => hc _ (by intro t e; cases e)
    have hF : ∀ f, ρ (.func f) = .func (.func f) #[] #[] := fun f => hc _ (by intro t e; cases e)
    have h17 : ρ (.tmp 17) = .int .u64 xk := hd 17 (by kernel_rfl)
    exact Lin.Runs.call Lin.keeps (f := 102) (args := #[.int .u64 (xk : Int), .int .i64 4]) (by simp [execOp, go_sem, hC, hF, h17]) (rb_k xk 4 wq (by omega) (by omega))
  · intro ρ wq hb ho hc hd
    have hC : ∀ v, ρ (.const v) = v := fun v => hc _ (by intro t e; cases e)
    have hF : ∀ f, ρ (.func f) = .func (.func f) #[] #[] := fun f => hc _ (by intro t e; cases e)
    have h1 : ρ (.tmp 1) = .pointer (some ⟨w.heap.size, 0, none⟩) := ho 1 (by kernel_rfl)
    exact Lin.Runs.value Lin.keeps (v := .pointer (some ⟨w.heap.size, 8, none⟩)) (by simp [execOp, go_sem, hC, hF, h1]) rfl
  · intro ρ wq hb ho hc hd
    have hC : ∀ v, ρ (.const v) = v := fun v => hc _ (by intro t e; cases e)
    have hF : ∀ f, ρ (.func f) = .func (.func f) #[] #[] := fun f => hc _ (by intro t e; cases e)
    have h19 : ρ (.tmp 19) = .pointer (some ⟨w.heap.size, 8, none⟩) := hd 19 (by kernel_rfl)
    have hg8 := HG.out.below hb HG.out.lt
    have m8 := hg8.cell 8
    simp at m8
    exact Lin.Runs.value Lin.keeps (v := .slice A1 i c1) (by simp [execOp, go_sem, hC, hF, h19, m8]) rfl
  · intro ρ wq hb ho hc hd
    have hC : ∀ v, ρ (.const v) = v := fun v => hc _ (by intro t e; cases e)
    have hF : ∀ f, ρ (.func f) = .func (.func f) #[] #[] := fun f => hc _ (by intro t e; cases e)
    have h20 : ρ (.tmp 20) = .slice A1 i c1 := hd 20 (by kernel_rfl)
    exact Lin.Runs.value Lin.keeps (v := .int .i64 i) (by simp [execOp, go_sem, hC, hF, h20]) rfl
  · intro ρ wq hb ho hc hd
    have hC : ∀ v, ρ (.const v) = v := fun v => hc _ (by intro t e; cases e)
    have hF : ∀ f, ρ (.func f) = .func (.func f) #[] #[] := fun f => hc _ (by intro t e; cases e)
    have h21 : ρ (.tmp 21) = .int .i64 i := hd 21 (by kernel_rfl)
    exact Lin.Runs.value Lin.keeps (v := .int .i64 m) (by simp [execOp, go_sem, hC, hF, h21, q1]; first | done | exact IntWalk.i64_in _ (by omega)) rfl
  · intro ρ wq hb ho hc hd
    have hC : ∀ v, ρ (.const v) = v := fun v => hc _ (by intro t e; cases e)
    have hF : ∀ f, ρ (.func f) = .func (.func f) #[] #[] := fun f => hc _ (by intro t e; cases e)
    have h22 : ρ (.tmp 22) = .int .i64 m := hd 22 (by kernel_rfl)
    exact Lin.Runs.value Lin.keeps (v := .int .i64 ((m : Int) * 16)) (by simp [execOp, go_sem, hC, hF, h22]; first | done | exact IntWalk.i64_in _ (by omega)) rfl
  · intro ρ wq hb ho hc hd
    have hC : ∀ v, ρ (.const v) = v := fun v => hc _ (by intro t e; cases e)
    have hF : ∀ f, ρ (.func f) = .func (.func f) #[] #[] := fun f => hc _ (by intro t e; cases e)
    have h23 : ρ (.tmp 23) = .int .i64 ((m : Int) * 16) := hd 23 (by kernel_rfl)
    exact Lin.Runs.value Lin.keeps (v := .int .i64 ((80 + 16 * m : Nat) : Int)) (by simp [execOp, go_sem, hC, hF, h23]; first | done | (rw [IntWalk.i64_in _ (by omega)]; omega) | omega) rfl
  · intro ρ wq hb ho hc hd
    have hC : ∀ v, ρ (.const v) = v := fun v => hc _ (by intro t e; cases e)
    have hF : ∀ f, ρ (.func f) = .func (.func f) #[] #[] := fun f => hc _ (by intro t e; cases e)
    have h24 : ρ (.tmp 24) = .int .i64 ((80 + 16 * m : Nat) : Int) := hd 24 (by kernel_rfl)
    exact Lin.Runs.value Lin.keeps (v := .int .u8 ((80 + 16 * m : Nat) : Int)) (by simp [execOp, go_sem, hC, hF, h24]; first | done | exact IntWalk.u8_in _ (by omega) | (rw [IntWalk.u8_in _ (by omega)]; omega)) rfl
  · intro ρ wq hb ho hc hd
    have hC : ∀ v, ρ (.const v) = v := fun v => hc _ (by intro t e; cases e)
    have hF : ∀ f, ρ (.func f) = .func (.func f) #[] #[] := fun f => hc _ (by intro t e; cases e)
    have h1 : ρ (.tmp 1) = .pointer (some ⟨w.heap.size, 0, none⟩) := ho 1 (by kernel_rfl)
    exact Lin.Runs.value Lin.keeps (v := .pointer (some ⟨w.heap.size, 4, none⟩)) (by simp [execOp, go_sem, hC, hF, h1]) rfl
  · intro ρ wq hb ho hc hd
    have hC : ∀ v, ρ (.const v) = v := fun v => hc _ (by intro t e; cases e)
    have hF : ∀ f, ρ (.func f) = .func (.func f) #[] #[] := fun f => hc _ (by intro t e; cases e)
    have h26 : ρ (.tmp 26) = .pointer (some ⟨w.heap.size, 4, none⟩) := hd 26 (by kernel_rfl)
    have hg8 := HG.out.below hb HG.out.lt
    have m4 := hg8.cell 4
    simp at m4
    exact Lin.Runs.value Lin.keeps (v := .int .u8 xf) (by simp [execOp, go_sem, hC, hF, h26, m4]) rfl
  · intro ρ wq hb ho hc hd
    have hC : ∀ v, ρ (.const v) = v := fun v => hc _ (by intro t e; cases e)
    have hF : ∀ f, ρ (.func f) = .func (.func f) #[] #[] := fun f => hc _ (by intro t e; cases e)
    have h25 : ρ (.tmp 25) = .int .u8 ((80 + 16 * m : Nat) : Int) := hd 25 (by kernel_rfl)
    have h27 : ρ (.tmp 27) = .int .u8 xf := hd 27 (by kernel_rfl)
    refine Lin.Runs.made (v := .slice (some ⟨wq.heap.size, 0, none⟩) 2 2) (w' := wq.alloc (.cells #[.int .u8 ((80 + 16 * m : Nat) : Int), .int .u8 xf] 5)) (by simp [execOp, go_sem, hC, hF, h25, h27]) ((Below.refl _ _).alloc (Nat.le_refl _) _) ?_
    have h := isb_lit wq [((80 + 16 * m : Nat) : Int), (xf : Int)] (by simp)
    rw [be_one (n := 80 + 16 * m) (by omega), be_one (n := xf) (by omega)]
    exact h
  · intro ρ wq hb ho hc hd
    have hC : ∀ v, ρ (.const v) = v := fun v => hc _ (by intro t e; cases e)
    have hF : ∀ f, ρ (.func f) = .func (.func f) #[] #[] := fun f => hc _ (by intro t e; cases e)
    have h1 : ρ (.tmp 1) = .pointer (some ⟨w.heap.size, 0, none⟩) := ho 1 (by kernel_rfl)
    exact Lin.Runs.value Lin.keeps (v := .pointer (some ⟨w.heap.size, 5, none⟩)) (by simp [execOp, go_sem, hC, hF, h1]) rfl
  · intro ρ wq hb ho hc hd
    have hC : ∀ v, ρ (.const v) = v := fun v => hc _ (by intro t e; cases e)
    have hF : ∀ f, ρ (.func f) = .func (.func f) #[] #[] := fun f => hc _ (by intro t e; cases e)
    have h29 : ρ (.tmp 29) = .pointer (some ⟨w.heap.size, 5, none⟩) := hd 29 (by kernel_rfl)
    have hg8 := HG.out.below hb HG.out.lt
    have m5 := hg8.cell 5
    simp at m5
    exact Lin.Runs.value Lin.keeps (v := .int .u16 xn) (by simp [execOp, go_sem, hC, hF, h29, m5]) rfl
  · intro ρ wq hb ho hc hd
    have hC : ∀ v, ρ (.const v) = v := fun v => hc _ (by intro t e; cases e)
    have hF : ∀ f, ρ (.func f) = .func (.func f) #[] #[] := fun f => hc _ (by intro t e; cases e)
    have h30 : ρ (.tmp 30) = .int .u16 xn := hd 30 (by kernel_rfl)
    exact Lin.Runs.value Lin.keeps (v := .int .u64 xn) (by simp [execOp, go_sem, hC, hF, h30]; first | done | exact IntWalk.u64_in _ (by omega)) rfl
  · intro ρ wq hb ho hc hd
    have hC : ∀ v, ρ (.const v) = v := fun v => hc _ (by intro t e; cases e)
    have hF : ∀ f, ρ (.func f) = .func (.func f) #[] #[] := fun f => hc _ (by intro t e; cases e)
    have h31 : ρ (.tmp 31) = .int .u64 xn := hd 31 (by kernel_rfl)
    exact Lin.Runs.call Lin.keeps (f := 102) (args := #[.int .u64 (xn : Int), .int .i64 2]) (by simp [execOp, go_sem, hC, hF, h31]) (rb_k xn 2 wq (by omega) (by omega))
  · intro ρ wq hb ho hc hd
    have hC : ∀ v, ρ (.const v) = v := fun v => hc _ (by intro t e; cases e)
    have hF : ∀ f, ρ (.func f) = .func (.func f) #[] #[] := fun f => hc _ (by intro t e; cases e)
    have h1 : ρ (.tmp 1) = .pointer (some ⟨w.heap.size, 0, none⟩) := ho 1 (by kernel_rfl)
    exact Lin.Runs.value Lin.keeps (v := .pointer (some ⟨w.heap.size, 6, none⟩)) (by simp [execOp, go_sem, hC, hF, h1]) rfl
  · intro ρ wq hb ho hc hd
    have hC : ∀ v, ρ (.const v) = v := fun v => hc _ (by intro t e; cases e)
    have hF : ∀ f, ρ (.func f) = .func (.func f) #[] #[] := fun f => hc _ (by intro t e; cases e)
    have h33 : ρ (.tmp 33) = .pointer (some ⟨w.heap.size, 6, none⟩) := hd 33 (by kernel_rfl)
    have hg8 := HG.out.below hb HG.out.lt
    have m6 := hg8.cell 6
    simp at m6
    exact Lin.Runs.value Lin.keeps (v := .int .u16 xm) (by simp [execOp, go_sem, hC, hF, h33, m6]) rfl
  · intro ρ wq hb ho hc hd
    have hC : ∀ v, ρ (.const v) = v := fun v => hc _ (by intro t e; cases e)
    have hF : ∀ f, ρ (.func f) = .func (.func f) #[] #[] := fun f => hc _ (by intro t e; cases e)
    have h34 : ρ (.tmp 34) = .int .u16 xm := hd 34 (by kernel_rfl)
    exact Lin.Runs.value Lin.keeps (v := .int .u64 xm) (by simp [execOp, go_sem, hC, hF, h34]; first | done | exact IntWalk.u64_in _ (by omega)) rfl
  · intro ρ wq hb ho hc hd
    have hC : ∀ v, ρ (.const v) = v := fun v => hc _ (by intro t e; cases e)
    have hF : ∀ f, ρ (.func f) = .func (.func f) #[] #[] := fun f => hc _ (by intro t e; cases e)
    have h35 : ρ (.tmp 35) = .int .u64 xm := hd 35 (by kernel_rfl)
    exact Lin.Runs.call Lin.keeps (f := 102) (args := #[.int .u64 (xm : Int), .int .i64 2]) (by simp [execOp, go_sem, hC, hF, h35]) (rb_k xm 2 wq (by omega) (by omega))
  · intro ρ wq hb ho hc hd
    have hC : ∀ v, ρ (.const v) = v := fun v => hc _ (by intro t e; cases e)
    have hF : ∀ f, ρ (.func f) = .func (.func f) #[] #[] := fun f => hc _ (by intro t e; cases e)
    have h1 : ρ (.tmp 1) = .pointer (some ⟨w.heap.size, 0, none⟩) := ho 1 (by kernel_rfl)
    exact Lin.Runs.value Lin.keeps (v := .pointer (some ⟨w.heap.size, 7, none⟩)) (by simp [execOp, go_sem, hC, hF, h1]) rfl
  · intro ρ wq hb ho hc hd
    have hC : ∀ v, ρ (.const v) = v := fun v => hc _ (by intro t e; cases e)
    have hF : ∀ f, ρ (.func f) = .func (.func f) #[] #[] := fun f => hc _ (by intro t e; cases e)
    have h37 : ρ (.tmp 37) = .pointer (some ⟨w.heap.size, 7, none⟩) := hd 37 (by kernel_rfl)
    have hg8 := HG.out.below hb HG.out.lt
    have m7 := hg8.cell 7
    simp at m7
    exact Lin.Runs.value Lin.keeps (v := .int .u16 xg) (by simp [execOp, go_sem, hC, hF, h37, m7]) rfl
  · intro ρ wq hb ho hc hd
    have hC : ∀ v, ρ (.const v) = v := fun v => hc _ (by intro t e; cases e)
    have hF : ∀ f, ρ (.func f) = .func (.func f) #[] #[] := fun f => hc _ (by intro t e; cases e)
    have h38 : ρ (.tmp 38) = .int .u16 xg := hd 38 (by kernel_rfl)
    exact Lin.Runs.value Lin.keeps (v := .int .u64 xg) (by simp [execOp, go_sem, hC, hF, h38]; first | done | exact IntWalk.u64_in _ (by omega)) rfl
  · intro ρ wq hb ho hc hd
    have hC : ∀ v, ρ (.const v) = v := fun v => hc _ (by intro t e; cases e)
    have hF : ∀ f, ρ (.func f) = .func (.func f) #[] #[] := fun f => hc _ (by intro t e; cases e)
    have h39 : ρ (.tmp 39) = .int .u64 xg := hd 39 (by kernel_rfl)
    exact Lin.Runs.call Lin.keeps (f := 102) (args := #[.int .u64 (xg : Int), .int .i64 2]) (by simp [execOp, go_sem, hC, hF, h39]) (rb_k xg 2 wq (by omega) (by omega))
  · intro ρ wq hb ho hc hd
    have hC : ∀ v, ρ (.const v) = v := fun v => hc _ (by intro t e; cases e)
    have hF : ∀ f, ρ (.func f) = .func (.func f) #[] #[] := fun f => hc _ (by intro t e; cases e)
    have h1 : ρ (.tmp 1) = .pointer (some ⟨w.heap.size, 0, none⟩) := ho 1 (by kernel_rfl)
    exact Lin.Runs.value Lin.keeps (v := .pointer (some ⟨w.heap.size, 8, none⟩)) (by simp [execOp, go_sem, hC, hF, h1]) rfl
  · intro ρ wq hb ho hc hd
    have hC : ∀ v, ρ (.const v) = v := fun v => hc _ (by intro t e; cases e)
    have hF : ∀ f, ρ (.func f) = .func (.func f) #[] #[] := fun f => hc _ (by intro t e; cases e)
    have h41 : ρ (.tmp 41) = .pointer (some ⟨w.heap.size, 8, none⟩) := hd 41 (by kernel_rfl)
    have hg8 := HG.out.below hb HG.out.lt
    have m8 := hg8.cell 8
    simp at m8
    exact Lin.Runs.value Lin.keeps (v := .slice A1 i c1) (by simp [execOp, go_sem, hC, hF, h41, m8]) rfl
  · intro ρ wq hb ho hc hd
    have hC : ∀ v, ρ (.const v) = v := fun v => hc _ (by intro t e; cases e)
    have hF : ∀ f, ρ (.func f) = .func (.func f) #[] #[] := fun f => hc _ (by intro t e; cases e)
    have h1 : ρ (.tmp 1) = .pointer (some ⟨w.heap.size, 0, none⟩) := ho 1 (by kernel_rfl)
    exact Lin.Runs.value Lin.keeps (v := .pointer (some ⟨w.heap.size, 9, none⟩)) (by simp [execOp, go_sem, hC, hF, h1]) rfl
  · intro ρ wq hb ho hc hd
    have hC : ∀ v, ρ (.const v) = v := fun v => hc _ (by intro t e; cases e)
    have hF : ∀ f, ρ (.func f) = .func (.func f) #[] #[] := fun f => hc _ (by intro t e; cases e)
    have h43 : ρ (.tmp 43) = .pointer (some ⟨w.heap.size, 9, none⟩) := hd 43 (by kernel_rfl)
    have hg8 := HG.out.below hb HG.out.lt
    have m9 := hg8.cell 9
    simp at m9
    exact Lin.Runs.value Lin.keeps (v := .slice A2 j c2) (by simp [execOp, go_sem, hC, hF, h43, m9]) rfl
  · intro ρ wq hb ho hc hd
    have hC : ∀ v, ρ (.const v) = v := fun v => hc _ (by intro t e; cases e)
    have hF : ∀ f, ρ (.func f) = .func (.func f) #[] #[] := fun f => hc _ (by intro t e; cases e)
    have h6 := hd 6 (by kernel_rfl)
    have h10 := hd 10 (by kernel_rfl)
    have h14 := hd 14 (by kernel_rfl)
    have h18 := hd 18 (by kernel_rfl)
    have h28 := hd 28 (by kernel_rfl)
    have h32 := hd 32 (by kernel_rfl)
    have h36 := hd 36 (by kernel_rfl)
    have h40 := hd 40 (by kernel_rfl)
    have h42 : ρ (.tmp 42) = .slice A1 i c1 := hd 42 (by kernel_rfl)
    have h44 : ρ (.tmp 44) = .slice A2 j c2 := hd 44 (by kernel_rfl)
    have s6 := h6.shape
    generalize hv6 : ρ (.tmp 6) = v6 at *
    obtain ⟨D6, e6, rfl⟩ := s6
    have s10 := h10.shape
    generalize hv10 : ρ (.tmp 10) = v10 at *
    obtain ⟨D10, e10, rfl⟩ := s10
    have s14 := h14.shape
    generalize hv14 : ρ (.tmp 14) = v14 at *
    obtain ⟨D14, e14, rfl⟩ := s14
    have s18 := h18.shape
    generalize hv18 : ρ (.tmp 18) = v18 at *
    obtain ⟨D18, e18, rfl⟩ := s18
    have s28 := h28.shape
    generalize hv28 : ρ (.tmp 28) = v28 at *
    obtain ⟨D28, e28, rfl⟩ := s28
    have s32 := h32.shape
    generalize hv32 : ρ (.tmp 32) = v32 at *
    obtain ⟨D32, e32, rfl⟩ := s32
    have s36 := h36.shape
    generalize hv36 : ρ (.tmp 36) = v36 at *
    obtain ⟨D36, e36, rfl⟩ := s36
    have s40 := h40.shape
    generalize hv40 : ρ (.tmp 40) = v40 at *
    obtain ⟨D40, e40, rfl⟩ := s40
    refine Lin.Runs.made (v := .slice (some ⟨wq.heap.size, 0, none⟩) 10 10) (w' := wq.alloc (.cells #[.slice D6 2 e6, .slice D10 2 e10, .slice D14 4 e14, .slice D18 4 e18, .slice D28 2 e28, .slice D32 2 e32, .slice D36 2 e36, .slice D40 2 e40, .slice A1 i c1, .slice A2 j c2] 22)) (by simp [execOp, go_sem, hC, hF, h42, h44, hv6, hv10, hv14, hv18, hv28, hv32, hv36, hv40]) ((Below.refl _ _).alloc (Nat.le_refl _) _) ?_
    exact IsP.lit wq [(.slice D6 2 e6, be xa 2), (.slice D10 2 e10, be xb 2), (.slice D14 4 e14, be xs 4), (.slice D18 4 e18, be xk 4), (.slice D28 2 e28, be (80 + 16 * m) 1 ++ be xf 1), (.slice D32 2 e32, be xn 2), (.slice D36 2 e36, be xm 2), (.slice D40 2 e40, be xg 2), (.slice A1 i c1, o), (.slice A2 j c2, l)] 22 (by
      intro p hp
      simp only [List.mem_cons, List.not_mem_nil, or_false] at hp
      rcases hp with rfl | rfl | rfl | rfl | rfl | rfl | rfl | rfl | rfl | rfl
      · exact ⟨_, h6⟩
      · exact ⟨_, h10⟩
      · exact ⟨_, h14⟩
      · exact ⟨_, h18⟩
      · exact ⟨_, h28⟩
      · exact ⟨_, h32⟩
      · exact ⟨_, h36⟩
      · exact ⟨_, h40⟩
      · exact ⟨_, HV.out.st hb⟩
      · exact ⟨_, HU.out.st hb⟩)
  · intro ρ wq hb ho hc hd
    have hC : ∀ v, ρ (.const v) = v := fun v => hc _ (by intro t e; cases e)
    have hF : ∀ f, ρ (.func f) = .func (.func f) #[] #[] := fun f => hc _ (by intro t e; cases e)
    have h45 := hd 45 (by kernel_rfl)
    refine Lin.Runs.call Lin.keeps (f := 101) (args := #[ρ (.tmp 45)]) (by simp [execOp, go_sem, hC, hF]) ?_
    have hh := join_p h45 (L := hd6 xa xb xs xk xf xn xm xg m ++ o ++ l) (by simp [hd6]) (by rw [LL.out]; omega) (by simp)
    rw [LL.out] at hh
    exact hh
  · intro ρ wq hb ho hc hd
    have hC : ∀ v, ρ (.const v) = v := fun v => hc _ (by intro t e; cases e)
    have hF : ∀ f, ρ (.func f) = .func (.func f) #[] #[] := fun f => hc _ (by intro t e; cases e)
    have h46 := hd 46 (by kernel_rfl)
    exact Lin.Runs.value Lin.keeps (Lin.exec_assign rfl) h46
  · intro vals w9 hb hv
    have e2 := hv 2 (by kernel_rfl)
    simp only [Lin.putAll, Option.getD_some]
    generalize vals 2 = v2 at *
    obtain ⟨A9, c9, rfl⟩ := e2.shape
    have E2 := hide e2
    clear hv e2
    have HB9 := Lib.hid (HB.out.trans (hb.mono HB.out.size))
    clear hb
    go_simp
    generalize vals = vv
    go_wp2_with fail
    go_ret
    exact ⟨_, rfl, HB9.out, E2.out⟩
end Go.Proofs.Ytkgmgmlicgjfdaa
