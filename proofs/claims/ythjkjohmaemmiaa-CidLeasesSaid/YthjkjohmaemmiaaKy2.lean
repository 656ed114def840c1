/-
  Derive of package siphash: what a call returns. Helper of the claim on SiphashKeys.
-/
import Derived.Test.YthjkjohmaemmiaaKy1
namespace Go.Proofs.Ythjkjohmaemmiaa
open Go.ChangeShapes Go.WideShapes Go.ChangeAt Go.RowKit
set_option linter.unusedSimpArgs false
set_option linter.unusedVariables false
theorem isb_one (w : World) (x : Int) : IsB [x] 1 (.slice (some ⟨w.heap.size, 0, none⟩) 1 1) (w.alloc (.cells #[.int .u8 x] 5)) :=
  ⟨_, _, rfl, rfl, by have := Bytes.one w x; rwa [show w.heap.size + 1 = (w.alloc (.cells #[.int .u8 x] 5)).heap.size from by simp] at this, Nat.le_refl _, by unfold maxLen; omega, fun h => by cases h⟩
set_option maxRecDepth 100000 in
set_option maxHeartbeats 4000000 in
theorem derive_any (key : List Int) (cs : Array Value) (n : Nat) (w : World) (hcs : cs = (u8s key).toArray) (hl : key.length = 16) (ho : Octets key) (hn : n < 18446744073709551616) :
    Calls Try.prog 106 #[.agg cs, .int .u64 (n : Int)] w fun e w' => e = .returned (.agg (u8s (kof (sip key ([1] ++ be n 8)) (sip key ([2] ++ be n 8)))).toArray) ∧ Below w.heap.size w w' := by
  have hsz : cs.size = 16 := by rw [hcs]; simp [u8s, hl]
  have h1 := sip_lt (l := [1] ++ be n 8) ho (Octets.app (Octets.ofAll (by decide)) (be_ok _ _))
  have h2 := sip_lt (l := [2] ++ be n 8) ho (Octets.app (Octets.ofAll (by decide)) (be_ok _ _))
  obtain ⟨s1, e1⟩ : ∃ s, sip key ([1] ++ be n 8) = s := ⟨_, rfl⟩
  obtain ⟨s2, e2⟩ : ∃ s, sip key ([2] ++ be n 8) = s := ⟨_, rfl⟩
  rw [e1] at h1 ⊢
  rw [e2] at h2 ⊢
  have S1 := Lib.hid e1; have S2 := Lib.hid e2; have S1L := hide h1; have S2L := hide h2
  have HCS := Lib.hid hcs; have HKL := Lib.hid hl; have HKO := Lib.hid ho; have HSZ := Lib.hid hsz
  have HI := Lib.hid ((Is.new w 43 cs).alloc (.cells (u8s (List.replicate 16 0)).toArray 43))
  clear hcs hl ho hsz h1 h2 e1 e2
  go_enter Try.func106, Try.ntmps106
  go_wp2_with fail
  refine Lin.wp_region_lin_tail Lin.keeps (n := 16) 11 (fun slotq => match slotq with | 5 => Lin.Spec.val (.agg cs) | 6 => Lin.Spec.sl [1] 1 | 7 => Lin.Spec.val (.int .u64 (n : Int)) | 8 => Lin.Spec.sl ([1] ++ be n 8) 9 | 9 => Lin.Spec.val (.int .u64 (s1 : Int)) | 10 => Lin.Spec.val (.agg cs) | 11 => Lin.Spec.sl [2] 1 | 12 => Lin.Spec.val (.int .u64 (n : Int)) | 13 => Lin.Spec.sl ([2] ++ be n 8) 9 | 14 => Lin.Spec.val (.int .u64 (s2 : Int)) | 15 => Lin.Spec.val (.agg (u8s (kof s1 s2)).toArray) | _ => Lin.Spec.any) (by kernel_rfl) rfl (by kernel_rfl) ⟨?_, ?_, ?_, ?_, ?_, ?_, ?_, ?_, ?_, ?_, ?_, trivial⟩ ?_
  · intro ρ wq hb ho hc hd
    have hC : ∀ v, ρ (.const v) = v := fun v => hc _ (by intro t e; cases e)
    have hF : ∀ f, ρ (.func f) = .func (.func f) #[] #[] := fun f => hc _ (by intro t e; cases e)
    have h2 : ρ (.tmp 2) = .pointer (some ⟨w.heap.size, 0, none⟩) := ho 2 (by kernel_rfl)
    exact Lin.Runs.load_row Lin.keeps 43 (.tmp 2) rfl w.heap.size h2 43 cs (HI.out.below hb HI.out.lt) _ Try.underlying43 rfl (by rw [HSZ.out]; kernel_rfl) rfl
  · intro ρ wq hb ho hc hd
    have hC : ∀ v, ρ (.const v) = v := fun v => hc _ (by intro t e; cases e)
    have hF : ∀ f, ρ (.func f) = .func (.func f) #[] #[] := fun f => hc _ (by intro t e; cases e)
    refine Lin.Runs.made (v := .slice (some ⟨wq.heap.size, 0, none⟩) 1 1) (w' := wq.alloc (.cells #[.int .u8 1] 5)) (by simp [execOp, go_sem, hC, hF]) ((Below.refl _ _).alloc (Nat.le_refl _) _) (isb_one wq 1)
  · intro ρ wq hb ho hc hd
    have hC : ∀ v, ρ (.const v) = v := fun v => hc _ (by intro t e; cases e)
    have hF : ∀ f, ρ (.func f) = .func (.func f) #[] #[] := fun f => hc _ (by intro t e; cases e)
    have h1 : ρ (.tmp 1) = .int .u64 (n : Int) := ho 1 (by kernel_rfl)
    exact Lin.Runs.value Lin.keeps (Lin.exec_move rfl) h1
  · intro ρ wq hb ho hc hd
    have hC : ∀ v, ρ (.const v) = v := fun v => hc _ (by intro t e; cases e)
    have hF : ∀ f, ρ (.func f) = .func (.func f) #[] #[] := fun f => hc _ (by intro t e; cases e)
    have h6 := hd 6 (by kernel_rfl)
    have h7 : ρ (.tmp 7) = .int .u64 (n : Int) := hd 7 (by kernel_rfl)
    refine Lin.Runs.call Lin.keeps (f := 85) (args := #[ρ (.tmp 6), .int .u64 (n : Int), .int .i64 8]) (by simp [execOp, go_sem, hC, hF, h7]) ?_
    exact (put_p n 8 h6 (by simp) hn (by omega) (by omega)).mono fun e w2 ⟨v, he, hb2, hv⟩ => ⟨v, he, hb2, hv.eqlen (by rw [List.length_append, be_len]; rfl)⟩
  · intro ρ wq hb ho hc hd
    have hC : ∀ v, ρ (.const v) = v := fun v => hc _ (by intro t e; cases e)
    have hF : ∀ f, ρ (.func f) = .func (.func f) #[] #[] := fun f => hc _ (by intro t e; cases e)
    have h5 : ρ (.tmp 5) = .agg cs := hd 5 (by kernel_rfl)
    have h8 := hd 8 (by kernel_rfl)
    obtain ⟨A2, c2, e2, l2, b2, r2, r3, _⟩ := h8
    refine Lin.Runs.call Lin.keeps (f := 97) (args := #[.agg cs, .slice A2 9 c2]) (by simp [execOp, go_sem, hC, hF, h5, e2]) ?_
    have h := sum_any key ([1] ++ be n 8) cs A2 9 c2 wq HCS.out HKL.out HKO.out b2 l2 r2 (Octets.app (Octets.ofAll (by decide)) (be_ok _ _)) (by omega) r3
    rw [S1.out] at h
    exact h.mono fun e w2 ⟨he, hb2⟩ => ⟨_, he, hb2, rfl⟩
  · intro ρ wq hb ho hc hd
    have hC : ∀ v, ρ (.const v) = v := fun v => hc _ (by intro t e; cases e)
    have hF : ∀ f, ρ (.func f) = .func (.func f) #[] #[] := fun f => hc _ (by intro t e; cases e)
    have h2 : ρ (.tmp 2) = .pointer (some ⟨w.heap.size, 0, none⟩) := ho 2 (by kernel_rfl)
    exact Lin.Runs.load_row Lin.keeps 43 (.tmp 2) rfl w.heap.size h2 43 cs (HI.out.below hb HI.out.lt) _ Try.underlying43 rfl (by rw [HSZ.out]; kernel_rfl) rfl
  · intro ρ wq hb ho hc hd
    have hC : ∀ v, ρ (.const v) = v := fun v => hc _ (by intro t e; cases e)
    have hF : ∀ f, ρ (.func f) = .func (.func f) #[] #[] := fun f => hc _ (by intro t e; cases e)
    refine Lin.Runs.made (v := .slice (some ⟨wq.heap.size, 0, none⟩) 1 1) (w' := wq.alloc (.cells #[.int .u8 2] 5)) (by simp [execOp, go_sem, hC, hF]) ((Below.refl _ _).alloc (Nat.le_refl _) _) (isb_one wq 2)
  · intro ρ wq hb ho hc hd
    have hC : ∀ v, ρ (.const v) = v := fun v => hc _ (by intro t e; cases e)
    have hF : ∀ f, ρ (.func f) = .func (.func f) #[] #[] := fun f => hc _ (by intro t e; cases e)
    have h1 : ρ (.tmp 1) = .int .u64 (n : Int) := ho 1 (by kernel_rfl)
    exact Lin.Runs.value Lin.keeps (Lin.exec_move rfl) h1
  · intro ρ wq hb ho hc hd
    have hC : ∀ v, ρ (.const v) = v := fun v => hc _ (by intro t e; cases e)
    have hF : ∀ f, ρ (.func f) = .func (.func f) #[] #[] := fun f => hc _ (by intro t e; cases e)
    have h11 := hd 11 (by kernel_rfl)
    have h12 : ρ (.tmp 12) = .int .u64 (n : Int) := hd 12 (by kernel_rfl)
    refine Lin.Runs.call Lin.keeps (f := 85) (args := #[ρ (.tmp 11), .int .u64 (n : Int), .int .i64 8]) (by simp [execOp, go_sem, hC, hF, h12]) ?_
    exact (put_p n 8 h11 (by simp) hn (by omega) (by omega)).mono fun e w2 ⟨v, he, hb2, hv⟩ => ⟨v, he, hb2, hv.eqlen (by rw [List.length_append, be_len]; rfl)⟩
  · intro ρ wq hb ho hc hd
    have hC : ∀ v, ρ (.const v) = v := fun v => hc _ (by intro t e; cases e)
    have hF : ∀ f, ρ (.func f) = .func (.func f) #[] #[] := fun f => hc _ (by intro t e; cases e)
    have h10 : ρ (.tmp 10) = .agg cs := hd 10 (by kernel_rfl)
    have h13 := hd 13 (by kernel_rfl)
    obtain ⟨A2, c2, e2, l2, b2, r2, r3, _⟩ := h13
    refine Lin.Runs.call Lin.keeps (f := 97) (args := #[.agg cs, .slice A2 9 c2]) (by simp [execOp, go_sem, hC, hF, h10, e2]) ?_
    have h := sum_any key ([2] ++ be n 8) cs A2 9 c2 wq HCS.out HKL.out HKO.out b2 l2 r2 (Octets.app (Octets.ofAll (by decide)) (be_ok _ _)) (by omega) r3
    rw [S2.out] at h
    exact h.mono fun e w2 ⟨he, hb2⟩ => ⟨_, he, hb2, rfl⟩
  · intro ρ wq hb ho hc hd
    have hC : ∀ v, ρ (.const v) = v := fun v => hc _ (by intro t e; cases e)
    have hF : ∀ f, ρ (.func f) = .func (.func f) #[] #[] := fun f => hc _ (by intro t e; cases e)
    have h9 : ρ (.tmp 9) = .int .u64 (s1 : Int) := hd 9 (by kernel_rfl)
    have h14 : ρ (.tmp 14) = .int .u64 (s2 : Int) := hd 14 (by kernel_rfl)
    refine Lin.Runs.call Lin.keeps (f := 128) (args := #[.int .u64 (s1 : Int), .int .u64 (s2 : Int)]) (by simp [execOp, go_sem, hC, hF, h9, h14]) ?_
    exact (of_any s1 s2 wq S1L.out S2L.out).mono fun e w2 ⟨he, hb2⟩ => ⟨_, he, hb2, rfl⟩
  · intro vals w2 hb2 hv
    have e15 : vals 15 = .agg (u8s (kof s1 s2)).toArray := hv 15 (by kernel_rfl)
    change wpList _ _ _ [_] _ _
    simp only [Lin.putAll, Option.getD_some, List.take_succ_cons, List.take_zero, List.drop_succ_cons, List.drop_zero]
    rw [e15]
    have i1 := (Is.new (w.alloc (.cells cs 43)) 43 (u8s (List.replicate 16 0)).toArray).below hb2 (by simp)
    rw [show (w.alloc (.cells cs 43)).heap.size = w.heap.size + 1 from by simp] at i1
    have hbw := (((Below.refl w.heap.size w).alloc (Nat.le_refl _) (.cells cs 43)).alloc (by simp) (.cells (u8s (List.replicate 16 0)).toArray 43)).trans (hb2.mono (by simp; omega))
    have J0 := Lib.hid i1; have HBW := Lib.hid hbw; have KSZ : Hid ((u8s (kof s1 s2)).toArray.size = 16) := hide (by simp [u8s, kof_len])
    clear hv hb2 i1 hbw e15
    go_simp
    generalize vals = vv
    go_wp2_with (with_reducible show wpList _ _ _ (⟨none, _, _, _, _, _⟩ :: _) _ _; go_loud (refine Go.wpList_store_row rfl 43 (.tmp 4) (.tmp 15) rfl (w.heap.size + 1) (u8s (kof s1 s2)).toArray rfl rfl 43 (u8s (List.replicate 16 0)).toArray (is_raw J0.out) (by rw [KSZ.out]; kernel_rfl) (by rw [KSZ.out]; simp [u8s]) (one_u8s _) ?_))
    refine bodyPost_ret (v := .agg (u8s (kof s1 s2)).toArray) ?_ rfl ⟨rfl, below_setRow HBW.out (Nat.le_succ _) _⟩
    exact (results_cell_row Try.results106 _ _ (w.heap.size + 1) 43 (u8s (kof s1 s2)).toArray (0, 0) _ rfl (is_raw (is_row J0.out)) Try.underlying43 rfl (by rw [KSZ.out]; kernel_rfl))
end Go.Proofs.Ythjkjohmaemmiaa
