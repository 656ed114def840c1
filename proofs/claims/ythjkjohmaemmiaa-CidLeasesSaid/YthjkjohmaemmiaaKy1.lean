/-
  Of and Derive of package siphash: what a call returns. Helper of the claims on layer 10.
-/
import Derived.Test.YthjkjohmaemmiaaK16
import Derived.Laws.CopyOwn
namespace Go.Proofs.Ythjkjohmaemmiaa
open Go.ChangeShapes Go.WideShapes Go.ChangeAt Go.RowKit
set_option linter.unusedSimpArgs false
set_option linter.unusedVariables false
/-- The key of two halves. -/
def kof (h l : Nat) : List Int := be h 8 ++ be l 8
theorem kof_len (h l : Nat) : (kof h l).length = 16 := by unfold kof; rw [List.length_append, be_len, be_len]
theorem kof_ok (h l : Nat) : Octets (kof h l) := Octets.app (be_ok _ _) (be_ok _ _)
theorem of_facts {H : Nat} {t : TypeId} {w w2 w3 : World} {p : List Int} {cs : Array Value} (hg : Hid (w3.heap[H + 1]? = some (.cells (splice (u8s (List.replicate 16 0)) 0 (u8s p)).toArray t (0, 0)))) (hb : Below (H + 1) w2 w3)
    (h0 : Is w2 H t cs) (hbw : Below H w w2) (hp : p.length = 16) : Hid (Is w3 (H + 1) t (u8s p).toArray) ∧ Hid (Is w3 H t cs) ∧ Hid (Below H w w3) := by
  refine ⟨hide ?_, hide (h0.below hb (Nat.lt_succ_self _)), hide (hbw.trans (hb.mono (Nat.le_succ _)))⟩
  have := hg.out
  rw [u8s_splice] at this
  have e : splice (List.replicate 16 (0 : Int)) 0 p = p := by
    unfold splice; rw [hp]; simp
  rw [e] at this
  exact this
theorem is_row {w : World} {g : Nat} {t : TypeId} {cs cs' : Array Value} (h : Is w g t cs) : Is (w.setRow g cs') g t cs' := by
  have hl := h.lt
  unfold Is at *
  exact setRow_heap w g cs cs' t (0, 0) h
theorem one_u8s (p : List Int) : ((u8s p).toArray.all (·.oneCell')) = true := by
  rw [Array.all_eq_true_iff_forall_mem]
  intro v hv
  exact u8s_one p v (by simpa using hv)
set_option maxRecDepth 100000 in
set_option maxHeartbeats 4000000 in
theorem of_any (h l : Nat) (w : World) (hh : h < 18446744073709551616) (hl : l < 18446744073709551616) :
    Calls Try.prog 128 #[.int .u64 (h : Int), .int .u64 (l : Int)] w fun e w' => e = .returned (.agg (u8s (kof h l)).toArray) ∧ Below w.heap.size w w' := by
  have hksz : (u8s (kof h l)).toArray.size = 16 := by simp [u8s, kof_len]
  have KSZ := Lib.hid hksz
  clear hksz
  go_enter Try.func128, Try.ntmps128
  go_wp2_with fail
  refine Lin.wp_region_lin_tail Lin.keeps (n := 13) 5 (fun slotq => match slotq with | 6 => Lin.Spec.val (.slice (some ⟨w.heap.size + 1, 0, none⟩) 16 16) | 7 => Lin.Spec.val (.int .u64 (h : Int)) | 8 => Lin.Spec.sl (be h 8) 8 | 9 => Lin.Spec.val (.int .u64 (l : Int)) | 10 => Lin.Spec.sl (kof h l) 16 | _ => Lin.Spec.any) (by kernel_rfl) rfl (by kernel_rfl) ⟨?_, ?_, ?_, ?_, ?_, trivial⟩ ?_
  · intro ρ wq hb ho hc hd
    have hC : ∀ v, ρ (.const v) = v := fun v => hc _ (by intro t e; cases e)
    have hF : ∀ f, ρ (.func f) = .func (.func f) #[] #[] := fun f => hc _ (by intro t e; cases e)
    have h5 : ρ (.tmp 5) = .pointer (some ⟨w.heap.size + 1, 0, none⟩) := ho 5 (by kernel_rfl)
    exact Lin.Runs.value Lin.keeps (v := .slice (some ⟨w.heap.size + 1, 0, none⟩) 16 16) (by simp [execOp, go_sem, hC, hF, h5]) rfl
  · intro ρ wq hb ho hc hd
    have hC : ∀ v, ρ (.const v) = v := fun v => hc _ (by intro t e; cases e)
    have hF : ∀ f, ρ (.func f) = .func (.func f) #[] #[] := fun f => hc _ (by intro t e; cases e)
    have h0 : ρ (.tmp 0) = .int .u64 (h : Int) := ho 0 (by kernel_rfl)
    exact Lin.Runs.value Lin.keeps (Lin.exec_move rfl) h0
  · intro ρ wq hb ho hc hd
    have hC : ∀ v, ρ (.const v) = v := fun v => hc _ (by intro t e; cases e)
    have hF : ∀ f, ρ (.func f) = .func (.func f) #[] #[] := fun f => hc _ (by intro t e; cases e)
    have h7 : ρ (.tmp 7) = .int .u64 (h : Int) := hd 7 (by kernel_rfl)
    refine Lin.Runs.call Lin.keeps (f := 85) (args := #[.slice none 0 0, .int .u64 (h : Int), .int .i64 8]) (by simp [execOp, go_sem, hC, hF, h7]) ?_
    exact (put_nil h 8 8 wq hh (by omega) (by omega) rfl).mono fun e w2 ⟨A, c, he, ho, hb2⟩ => ⟨_, he, hb2, IsB.own ho⟩
  · intro ρ wq hb ho hc hd
    have hC : ∀ v, ρ (.const v) = v := fun v => hc _ (by intro t e; cases e)
    have hF : ∀ f, ρ (.func f) = .func (.func f) #[] #[] := fun f => hc _ (by intro t e; cases e)
    have h1 : ρ (.tmp 1) = .int .u64 (l : Int) := ho 1 (by kernel_rfl)
    exact Lin.Runs.value Lin.keeps (Lin.exec_move rfl) h1
  · intro ρ wq hb ho hc hd
    have hC : ∀ v, ρ (.const v) = v := fun v => hc _ (by intro t e; cases e)
    have hF : ∀ f, ρ (.func f) = .func (.func f) #[] #[] := fun f => hc _ (by intro t e; cases e)
    have h8 := hd 8 (by kernel_rfl)
    have h9 : ρ (.tmp 9) = .int .u64 (l : Int) := hd 9 (by kernel_rfl)
    refine Lin.Runs.call Lin.keeps (f := 85) (args := #[ρ (.tmp 8), .int .u64 (l : Int), .int .i64 8]) (by simp [execOp, go_sem, hC, hF, h9]) ?_
    exact (put_p l 8 h8 (by rw [be_len]; omega) hl (by omega) (by omega)).mono fun e w2 ⟨v, he, hb2, hv⟩ => ⟨v, he, hb2, hv.eqlen (by rw [List.length_append, be_len, be_len]; rfl)⟩
  · intro vals w2 hb2 hv
    have e6 : vals 6 = .slice (some ⟨w.heap.size + 1, 0, none⟩) 16 16 := hv 6 (by kernel_rfl)
    obtain ⟨A2, c2, e10, hlen, hby, hc2, hc3, hc4⟩ := (show IsB (kof h l) 16 (vals 10) w2 from hv 10 (by kernel_rfl))
    change wpList _ _ _ [_] _ _
    simp only [Lin.putAll, Option.getD_some, List.take_succ_cons, List.take_zero, List.drop_succ_cons, List.drop_zero]
    rw [e6, e10]
    have i1 := (Is.new (w.alloc (.cells (u8s (List.replicate 16 0)).toArray 43)) 43 (u8s (List.replicate 16 0)).toArray).below hb2 (by simp)
    rw [show (w.alloc (.cells (u8s (List.replicate 16 0)).toArray 43)).heap.size = w.heap.size + 1 from by simp] at i1
    have i0 := ((Is.new w 43 (u8s (List.replicate 16 0)).toArray).alloc (.cells (u8s (List.replicate 16 0)).toArray 43)).below hb2 (by simp; omega)
    have hbw := (((Below.refl w.heap.size w).alloc (Nat.le_refl _) (.cells (u8s (List.replicate 16 0)).toArray 43)).alloc (by simp) (.cells (u8s (List.replicate 16 0)).toArray 43)).trans (hb2.mono (by simp; omega))
    have I1 := Lib.hid i1; have I0 := Lib.hid i0; have HBW := Lib.hid hbw; have HBY := Lib.hid hby
    clear hv hb2 i1 i0 hbw hby e6 e10 hc4
    go_simp
    generalize vals = vv
    go_wp2_with (first | (with_reducible show wpList _ _ _ (⟨some 11, _, _, _, _, _⟩ :: _) _ _; go_loud (refine wpList_copy_splice rfl (.tmp 6) (.tmp 10) 22 22 rfl 5 Try.underlying22 (by kernel_rfl) (some ⟨w.heap.size + 1, 0, none⟩) A2 16 16 16 c2 rfl rfl (w.heap.size + 1) 0 (u8s (List.replicate 16 0)) 43 (is_raw I1.out) (u8s (kof h l)) (by rw [u8s_len, hlen]; exact (Nat.min_self 16).symm) (fun h0 => ⟨rfl, HBY.out.src h0⟩) (by rw [u8s_len, u8s_len, hlen, List.length_replicate]; omega) (u8s_one _) (w.heap.size + 1) w2 (Below.refl _ _) (Nat.le_refl _) ?_); intro w3 hg3 hb3; obtain ⟨J1, J0, HB3⟩ := of_facts hg3 hb3 I0.out HBW.out hlen; clear hg3 hb3) | (with_reducible show wpList _ _ _ (⟨some 12, _, _, _, _, _⟩ :: _) _ _; go_loud (refine Go.wpList_load_row rfl 43 (.tmp 5) rfl (w.heap.size + 1) rfl 43 (u8s (kof h l)).toArray (0, 0) _ (is_raw J1.out) Try.underlying43 rfl (by rw [KSZ.out]; kernel_rfl) ?_)) | (with_reducible show wpList _ _ _ (⟨none, _, _, _, _, _⟩ :: _) _ _; go_loud (refine Go.wpList_store_row rfl 43 (.tmp 4) (.tmp 12) rfl w.heap.size (u8s (kof h l)).toArray rfl rfl 43 (u8s (List.replicate 16 0)).toArray (is_raw J0.out) (by rw [KSZ.out]; kernel_rfl) (by rw [KSZ.out]; simp [u8s]) (one_u8s _) ?_)))
    refine bodyPost_ret (v := .agg (u8s (kof h l)).toArray) ?_ rfl ⟨rfl, below_setRow HB3.out (Nat.le_refl _) _⟩
    exact (results_cell_row Try.results128 _ _ w.heap.size 43 (u8s (kof h l)).toArray (0, 0) _ rfl (is_raw (is_row J0.out)) Try.underlying43 rfl (by rw [KSZ.out]; kernel_rfl))
end Go.Proofs.Ythjkjohmaemmiaa
