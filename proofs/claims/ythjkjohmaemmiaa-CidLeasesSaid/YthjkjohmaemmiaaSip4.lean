/-
  start, Sum, Of, Derive, Fold of package siphash: what each call returns. Helper of the claims on layers 10 and 11.
-/
import Derived.Test.YthjkjohmaemmiaaSip3
namespace Go.Proofs.Ythjkjohmaemmiaa
open Go.ChangeShapes Go.WideShapes Go.ChangeAt Go.RowKit
set_option linter.unusedSimpArgs false
set_option linter.unusedVariables false
set_option maxRecDepth 100000 in
set_option maxHeartbeats 4000000 in
theorem start_lit {a1 b1 a2 b2 : Nat} (key : List Int) (cs : Array Value) (w : World) (hcs : cs = (u8s key).toArray) (hl : key.length = 16) (ho : Octets key) (e : start key = ⟨a1, b1, a2, b2⟩) :
    Calls Try.prog 120 #[.agg cs] w fun e w' => e = .returned (.agg #[.int .u64 (a1 : Int), .int .u64 (b1 : Int), .int .u64 (a2 : Int), .int .u64 (b2 : Int)]) ∧ Below w.heap.size w w' := by
  have HK : Hid (Is (w.alloc (.cells cs 43)) w.heap.size 43 (u8s key).toArray) := hide (by rw [← hcs]; exact Is.new w _ _)
  have HKL := Lib.hid hl; have HKO := Lib.hid ho
  unfold start at e
  have ka := wordN_lt key ho 0
  have kb := wordN_lt key ho 1
  have ga : le (pad key 8) = wordN key 0 := by unfold wordN; rw [Nat.mul_zero, List.drop_zero]
  have gb : le (pad (key.drop 8) 8) = wordN key 1 := rfl
  generalize wordN key 0 = a at *
  generalize wordN key 1 = b at *
  have f1 : bits .xor .u64 (a : Int) 8317987319222330741 = ((a ^^^ 8317987319222330741 : Nat) : Int) := u64_xor_nat a 8317987319222330741 ka (by omega)
  have f2 : bits .xor .u64 (b : Int) 7237128888997146477 = ((b ^^^ 7237128888997146477 : Nat) : Int) := u64_xor_nat b 7237128888997146477 kb (by omega)
  have f3 : bits .xor .u64 (a : Int) 7816392313619706465 = ((a ^^^ 7816392313619706465 : Nat) : Int) := u64_xor_nat a 7816392313619706465 ka (by omega)
  have f4 : bits .xor .u64 (b : Int) 8387220255154660723 = ((b ^^^ 8387220255154660723 : Nat) : Int) := u64_xor_nat b 8387220255154660723 kb (by omega)
  simp only [St.mk.injEq] at e
  obtain ⟨e1, e2, e3, e4⟩ := e
  rw [e1] at f1
  rw [e2] at f2
  rw [e3] at f3
  rw [e4] at f4
  have HA := Lib.hid ga; have HB := Lib.hid gb
  clear hcs hl ho e1 e2 e3 e4 ka kb ga gb
  go_enter Try.func120, Try.ntmps120
  go_wp2_with fail
  refine Lin.wp_region_lin Lin.keeps (n := 20)  (fun slotq => match slotq with | 5 => Lin.Spec.val (.slice (some ⟨w.heap.size, 0, none⟩) 8 16) | 6 => Lin.Spec.val (W8 (pad key 8)) | 7 => Lin.Spec.val (.int .u64 (a : Int)) | 8 => Lin.Spec.val (.slice (some ⟨w.heap.size, 8, none⟩) 8 8) | 9 => Lin.Spec.val (W8 (pad (key.drop 8) 8)) | 10 => Lin.Spec.val (.int .u64 (b : Int)) | 3 => Lin.Spec.val (.int .u64 (a : Int)) | 4 => Lin.Spec.val (.int .u64 (b : Int)) | _ => Lin.Spec.any) (by kernel_rfl) rfl (by kernel_rfl) ⟨?_, ?_, ?_, ?_, ?_, ?_, ?_, ?_, trivial⟩ ?_
  · intro ρ wq hb ho hc hd
    have hC : ∀ v, ρ (.const v) = v := fun v => hc _ (by intro t e; cases e)
    have hF : ∀ f, ρ (.func f) = .func (.func f) #[] #[] := fun f => hc _ (by intro t e; cases e)
    have h1 : ρ (.tmp 1) = .pointer (some ⟨w.heap.size, 0, none⟩) := ho 1 (by kernel_rfl)
    exact Lin.Runs.value Lin.keeps (v := .slice (some ⟨w.heap.size, 0, none⟩) 8 16) (by simp [execOp, go_sem, hC, hF, h1]) rfl
  · intro ρ wq hb ho hc hd
    have hC : ∀ v, ρ (.const v) = v := fun v => hc _ (by intro t e; cases e)
    have hF : ∀ f, ρ (.func f) = .func (.func f) #[] #[] := fun f => hc _ (by intro t e; cases e)
    have h5 : ρ (.tmp 5) = .slice (some ⟨w.heap.size, 0, none⟩) 8 16 := hd 5 (by kernel_rfl)
    refine Lin.Runs.call Lin.keeps (f := 122) (args := #[.slice (some ⟨w.heap.size, 0, none⟩) 8 16]) (by simp [execOp, go_sem, hC, hF, h5]) ?_
    have hk := bytes_of_is (((HK.out.alloc (.cells #[.int .u64 0, .int .u64 0, .int .u64 0, .int .u64 0] 186))).below hb (by simp; omega)) 0 8 (by rw [HKL.out]; omega)
    rw [List.drop_zero] at hk
    have h := load_any (some ⟨w.heap.size, 0, none⟩) 8 16 (key.take 8) wq _ hk (by have := hb.size; simp at this; omega) (by rw [List.length_take, HKL.out]; rfl)
    rw [pad_take] at h
    exact h.mono fun e w2 ⟨he, hb2⟩ => ⟨_, he, hb2, rfl⟩
  · intro ρ wq hb ho hc hd
    have hC : ∀ v, ρ (.const v) = v := fun v => hc _ (by intro t e; cases e)
    have hF : ∀ f, ρ (.func f) = .func (.func f) #[] #[] := fun f => hc _ (by intro t e; cases e)
    have h6 : ρ (.tmp 6) = W8 (pad key 8) := hd 6 (by kernel_rfl)
    refine Lin.Runs.call Lin.keeps (f := 123) (args := #[W8 (pad key 8)]) (by simp [execOp, go_sem, hC, hF, h6]) ?_
    exact (value_lit wq (pad_len _ _) (pad_ok HKO.out 8) HA.out).mono fun e w2 ⟨he, hb2⟩ => ⟨_, he, hb2, rfl⟩
  · intro ρ wq hb ho hc hd
    have hC : ∀ v, ρ (.const v) = v := fun v => hc _ (by intro t e; cases e)
    have hF : ∀ f, ρ (.func f) = .func (.func f) #[] #[] := fun f => hc _ (by intro t e; cases e)
    have h1 : ρ (.tmp 1) = .pointer (some ⟨w.heap.size, 0, none⟩) := ho 1 (by kernel_rfl)
    exact Lin.Runs.value Lin.keeps (v := .slice (some ⟨w.heap.size, 8, none⟩) 8 8) (by simp [execOp, go_sem, hC, hF, h1]) rfl
  · intro ρ wq hb ho hc hd
    have hC : ∀ v, ρ (.const v) = v := fun v => hc _ (by intro t e; cases e)
    have hF : ∀ f, ρ (.func f) = .func (.func f) #[] #[] := fun f => hc _ (by intro t e; cases e)
    have h8 : ρ (.tmp 8) = .slice (some ⟨w.heap.size, 8, none⟩) 8 8 := hd 8 (by kernel_rfl)
    refine Lin.Runs.call Lin.keeps (f := 122) (args := #[.slice (some ⟨w.heap.size, 8, none⟩) 8 8]) (by simp [execOp, go_sem, hC, hF, h8]) ?_
    have hk := bytes_of_is (((HK.out.alloc (.cells #[.int .u64 0, .int .u64 0, .int .u64 0, .int .u64 0] 186))).below hb (by simp; omega)) 8 8 (by rw [HKL.out]; omega)
    have h := load_any (some ⟨w.heap.size, 8, none⟩) 8 8 ((key.drop 8).take 8) wq _ hk (by have := hb.size; simp at this; omega) (by rw [List.length_take, List.length_drop, HKL.out]; rfl)
    rw [pad_take] at h
    exact h.mono fun e w2 ⟨he, hb2⟩ => ⟨_, he, hb2, rfl⟩
  · intro ρ wq hb ho hc hd
    have hC : ∀ v, ρ (.const v) = v := fun v => hc _ (by intro t e; cases e)
    have hF : ∀ f, ρ (.func f) = .func (.func f) #[] #[] := fun f => hc _ (by intro t e; cases e)
    have h9 : ρ (.tmp 9) = W8 (pad (key.drop 8) 8) := hd 9 (by kernel_rfl)
    refine Lin.Runs.call Lin.keeps (f := 123) (args := #[W8 (pad (key.drop 8) 8)]) (by simp [execOp, go_sem, hC, hF, h9]) ?_
    exact (value_lit wq (pad_len _ _) (pad_ok (HKO.out.drop 8) 8) HB.out).mono fun e w2 ⟨he, hb2⟩ => ⟨_, he, hb2, rfl⟩
  · intro ρ wq hb ho hc hd
    have hC : ∀ v, ρ (.const v) = v := fun v => hc _ (by intro t e; cases e)
    have hF : ∀ f, ρ (.func f) = .func (.func f) #[] #[] := fun f => hc _ (by intro t e; cases e)
    have h7 : ρ (.tmp 7) = .int .u64 (a : Int) := hd 7 (by kernel_rfl)
    exact Lin.Runs.value Lin.keeps (Lin.exec_assign rfl) h7
  · intro ρ wq hb ho hc hd
    have hC : ∀ v, ρ (.const v) = v := fun v => hc _ (by intro t e; cases e)
    have hF : ∀ f, ρ (.func f) = .func (.func f) #[] #[] := fun f => hc _ (by intro t e; cases e)
    have h10 : ρ (.tmp 10) = .int .u64 (b : Int) := hd 10 (by kernel_rfl)
    exact Lin.Runs.value Lin.keeps (Lin.exec_assign rfl) h10
  · intro vals w2 hb2 hv
    have e3 : vals 3 = .int .u64 (a : Int) := hv 3 (by kernel_rfl)
    have e4 : vals 4 = .int .u64 (b : Int) := hv 4 (by kernel_rfl)
    simp only [Lin.putAll, Option.getD_some]
    rw [e3, e4]
    have hz := (((Is.new (w.alloc (.cells cs 43)) 186 #[.int .u64 0, .int .u64 0, .int .u64 0, .int .u64 0])).below hb2 (by simp))
    rw [show (w.alloc (.cells cs 43)).heap.size = w.heap.size + 1 from by simp] at hz
    have HBW := hide ((((Below.refl w.heap.size w).alloc (Nat.le_refl _) (.cells cs 43)).alloc (by simp) (.cells #[.int .u64 0, .int .u64 0, .int .u64 0, .int .u64 0] 186)).trans (hb2.mono (by simp; omega)))
    have z0 := hz.cell 0
    have z1 := hz.cell 1
    have z2 := hz.cell 2
    have z3 := hz.cell 3
    have y0 := hz.free 0
    have y1 := hz.free 1
    have y2 := hz.free 2
    have y3 := hz.free 3
    have hlt := hz.lt
    simp at z0 z1 z2 z3
    clear hz hb2 hv
    go_simp
    generalize vals = vv
    go_wp2_with fail
    refine bodyPost_ret (v := .agg #[.int .u64 (a1 : Int), .int .u64 (b1 : Int), .int .u64 (a2 : Int), .int .u64 (b2 : Int)]) (by simp [results, Try.results120, go_sem, z0, z1, z2, z3]) rfl ⟨rfl, ?_⟩
    iterate 4 refine Below.setCell ?_ (by simp) _
    exact HBW.out
end Go.Proofs.Ythjkjohmaemmiaa
