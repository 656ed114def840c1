/-
  IcmpReads (P8.1) answers true and leaves its argument as it was, for all bytes: Parse gives the message or the error that the document asks for. No condition.
-/
import Derived.Test.YtkdcaipadejchaaRows
import Derived.WalkKit
import Derived.ProofKit
import Derived.OpenShut
import Derived.ShutString
import Derived.ChangeOld
import Derived.Below
import Derived.Test.YtkdcaipadejchaaIcmpR
import Derived.Test.YtkdcaipadejchaaIcmpA
namespace Go.Proofs.Ytkdcaipadejchaa.icmpReads
open Go.ChangeShapes Go.WideShapes Go.ChangeAt Go.RowKit
open Go.ChangeMaps (open_string shut_string)
open Go.Proofs.Ytkdcaipadejchaa
set_option maxRecDepth 100000
set_option linter.unusedVariables false

theorem own : ownKnob Try.prog.godebug = none := by kernel_rfl
theorem laidOut : laidOutB Try.prog = true := by kernel_rfl


/-- A message as an operation yields it. -/
def IsN (t c s x : Int) (L : List Int) (n : Nat) (v : Value) (w : World) : Prop := ∃ u, v = msg8 t c s x u ∧ IsB L n u w
theorem IsN.st {t c s x : Int} {L : List Int} {n : Nat} {v : Value} {w w' : World} (h : IsN t c s x L n v w) (hb : Below w.heap.size w w') : IsN t c s x L n v w' := by
  obtain ⟨u, e, hu⟩ := h; exact ⟨u, e, hu.st hb⟩
def specN (t c s x : Int) (L : List Int) (n : Nat) : Lin.Spec Lin.Keeps := ⟨IsN t c s x L n, IsN.st⟩

set_option maxHeartbeats 4000000 in
theorem walk_ok (A : Option Addr) (c : Nat) (l : List Int) (w : World) (h : IsB l l.length (.slice A l.length c) w) (ho : Octets l) (hm : l.length ≤ 3000) (h8 : 8 ≤ l.length) :
    Calls Try.prog 7 #[.slice A l.length c] w fun e w' => e = .returned (.bool true) ∧ Below w.heap.size w w' := by
  have HI := hide h; have HO := hide ho
  obtain ⟨k0, hk0⟩ : ∃ k0, 8 + k0 = l.length ∨ l.length < 8 ∧ k0 = 0 := by
    by_cases q : 8 ≤ l.length
    · exact ⟨l.length - 8, .inl (by omega)⟩
    · exact ⟨0, .inr ⟨by omega, rfl⟩⟩
  have HK0 := Lib.hid (show 8 + k0 = l.length by omega)
  clear h ho hk0
  go_enter Try.func7, Try.ntmps7
  go_wp2_with fail
  refine (iparse_ok A c l k0 w HI.out HO.out (by omega) HK0.out).mono ?_
  
  rintro e w1 ⟨v, rfl, hb1, hv⟩
  obtain ⟨A1, c1, rfl⟩ := hv.shape
  have HV := hide hv
  have HB1 := Lib.hid hb1
  unfold msg8
  clear hv hb1
  obtain ⟨t, ht⟩ : ∃ t, nw l 0 1 = t := ⟨_, rfl⟩
  obtain ⟨d, hd⟩ : ∃ d, nw l 1 1 = d := ⟨_, rfl⟩
  obtain ⟨s, hs⟩ : ∃ s, nw l 2 2 = s := ⟨_, rfl⟩
  obtain ⟨x, hx⟩ : ∃ x, nw l 4 4 = x := ⟨_, rfl⟩
  obtain ⟨L, hL⟩ : ∃ L, l.drop 8 = L := ⟨_, rfl⟩
  obtain ⟨k, hk⟩ : ∃ k, k0 = k := ⟨_, rfl⟩
  have EQ := Lib.hid (show _ ∧ _ ∧ _ ∧ _ ∧ _ ∧ _ from ⟨ht, hd, hs, hx, hL, hk⟩)
  rw [ht, hd, hs, hx, hk]
  have HV0 : Hid (IsB L k (.slice A1 k c1) w1) := hide (by have h := HV.out; rw [hL, hk] at h; exact h)
  
  clear HV
  clear ht hd hs hx hL hk
  go_wp2_with fail
  have hb1 : Below w.heap.size w (w1.alloc (.cells #[.int .u8 t, .int .u8 d, .int .u16 s, .int .u32 x, .slice A1 k c1] 63)) := HB1.out.alloc HB1.out.size _
  have hg1 := Is.new w1 63 #[.int .u8 t, .int .u8 d, .int .u16 s, .int .u32 x, .slice A1 k c1]
  have hv1 := HV0.out.alloc (.cells #[.int .u8 t, .int .u8 d, .int .u16 s, .int .u32 x, .slice A1 k c1] 63)
  generalize w1.alloc (.cells #[.int .u8 t, .int .u8 d, .int .u16 s, .int .u32 x, .slice A1 k c1] 63) = W1 at *
  generalize w1.heap.size = g1 at *
  have HVa := hide hv1; have HGa := hide hg1; have HB2 := Lib.hid hb1
  clear hv1 hg1 hb1 HV0 HB1
  refine (riparse_ok A c l k0 _ (HI.out.st HB2.out) HO.out (by omega) HK0.out).mono ?_
  rintro e w2 ⟨u, rfl, hb2, hu⟩
  obtain ⟨A2, c2, rfl⟩ := hu.shape
  obtain ⟨ht, hd, hs, hx, hL, hk⟩ := EQ.out
  rw [ht, hd, hs, hx, hk]
  rw [hL, hk] at hu
  unfold msg8
  have HU := hide hu; have HVb := hide (HVa.out.st hb2); have HGb := hide (HGa.out.below hb2 HGa.out.lt); have HB3 := Lib.hid (HB2.out.trans (hb2.mono HB2.out.size))
  clear hu hb2 HVa HGa HB2 ht hd hs hx hL hk
  go_wp2_with fail
  have HB := Lib.hid (HB3.out.alloc HB3.out.size (.cells #[.int .u8 t, .int .u8 d, .int .u16 s, .int .u32 x, .slice A2 k c2] 66))
  have HV2 := hide (HU.out.alloc (.cells #[.int .u8 t, .int .u8 d, .int .u16 s, .int .u32 x, .slice A2 k c2] 66))
  have HV1 := hide (HVb.out.alloc (.cells #[.int .u8 t, .int .u8 d, .int .u16 s, .int .u32 x, .slice A2 k c2] 66))
  have hg1 := HGb.out.alloc (.cells #[.int .u8 t, .int .u8 d, .int .u16 s, .int .u32 x, .slice A2 k c2] 66)
  have hg2 := Is.new w2 66 #[.int .u8 t, .int .u8 d, .int .u16 s, .int .u32 x, .slice A2 k c2]
  generalize w2.alloc (.cells #[.int .u8 t, .int .u8 d, .int .u16 s, .int .u32 x, .slice A2 k c2] 66) = W at *
  generalize w2.heap.size = g2 at *
  have HG1 := Lib.hid (show _ ∧ _ ∧ _ ∧ _ ∧ _ from ⟨hg1.cell 0, hg1.cell 1, hg1.cell 2, hg1.cell 3, hg1.cell 4⟩)
  have HG2 := Lib.hid (show _ ∧ _ ∧ _ ∧ _ ∧ _ from ⟨hg2.cell 0, hg2.cell 1, hg2.cell 2, hg2.cell 3, hg2.cell 4⟩)
  have HG1L := hg1.lt
  have HG2L := hg2.lt
  clear hg1 hg2 HU HVb HGb HB3
  refine Lin.wp_region_lin Lin.keeps (n := 41)  (fun slotq => match slotq with | 21 => Lin.Spec.val (.agg #[.int .u8 t, .int .u8 d, .int .u16 s, .int .u32 x, .slice A1 k c1]) | 22 => specN t d s x L k | 23 => Lin.Spec.val (.agg #[.int .u8 t, .int .u8 d, .int .u16 s, .int .u32 x, .slice A2 k c2]) | 24 => Lin.Spec.val (.bool true) | 25 => Lin.Spec.val (.bool true) | 26 => Lin.Spec.val (.int .i64 0) | 27 => Lin.Spec.val (.bool true) | 28 => Lin.Spec.val (.bool true) | 29 => Lin.Spec.val (.bool true) | 30 => Lin.Spec.val (.bool true) | 31 => Lin.Spec.val (.bool true) | 32 => Lin.Spec.val (.bool true) | 33 => Lin.Spec.val (.bool true) | 34 => Lin.Spec.val (undef) | 35 => Lin.Spec.val (undef) | 36 => Lin.Spec.val (.bool true) | 37 => Lin.Spec.val (.bool true) | 38 => Lin.Spec.val (.bool true) | 39 => Lin.Spec.val (.bool true) | 40 => Lin.Spec.val (.bool true) | 2 => Lin.Spec.val (.bool true) | _ => Lin.Spec.any) (by kernel_rfl) rfl (by kernel_rfl) ⟨?_, ?_, ?_, ?_, ?_, ?_, ?_, ?_, ?_, ?_, ?_, ?_, ?_, ?_, ?_, ?_, ?_, ?_, ?_, ?_, ?_, trivial⟩ ?_
  · intro ρ wq hb ho hc hd
    have hC : ∀ v, ρ (.const v) = v := fun v => hc _ (by intro t e; cases e)
    have hF : ∀ f, ρ (.func f) = .func (.func f) #[] #[] := fun f => hc _ (by intro t e; cases e)
    have h3 : ρ (.tmp 3) = .pointer (some ⟨g1, 0, none⟩) := ho 3 (by kernel_rfl)
    obtain ⟨G0, G1, G2, G3, G4⟩ := HG1.out
    have q0 := (hb.cell (p := ⟨g1, 0, none⟩) HG1L).trans G0
    have q1 := (hb.cell (p := ⟨g1, 1, none⟩) HG1L).trans G1
    have q2 := (hb.cell (p := ⟨g1, 2, none⟩) HG1L).trans G2
    have q3 := (hb.cell (p := ⟨g1, 3, none⟩) HG1L).trans G3
    have q4 := (hb.cell (p := ⟨g1, 4, none⟩) HG1L).trans G4
    exact Lin.Runs.value Lin.keeps (v := .agg #[.int .u8 t, .int .u8 d, .int .u16 s, .int .u32 x, .slice A1 k c1]) (by simp [execOp, go_sem, hC, hF, h3, q0, q1, q2, q3, q4]) rfl
  · intro ρ wq hb ho hc hd
    have hC : ∀ v, ρ (.const v) = v := fun v => hc _ (by intro t e; cases e)
    have hF : ∀ f, ρ (.func f) = .func (.func f) #[] #[] := fun f => hc _ (by intro t e; cases e)
    have h21 : ρ (.tmp 21) = .agg #[.int .u8 t, .int .u8 d, .int .u16 s, .int .u32 x, .slice A1 k c1] := hd 21 (by kernel_rfl)
    refine Lin.Runs.call Lin.keeps (f := 40) (args := #[.agg #[.int .u8 t, .int .u8 d, .int .u16 s, .int .u32 x, .slice A1 k c1]]) (by simp [execOp, go_sem, hC, hF, h21]) ?_
    exact (of8 t d s x L k (.slice A1 k c1) wq (HV1.out.st hb)).mono fun e w9 ⟨u, he, hb9, hu⟩ => ⟨_, he, hb9, u, rfl, hu⟩
  · intro ρ wq hb ho hc hd
    have hC : ∀ v, ρ (.const v) = v := fun v => hc _ (by intro t e; cases e)
    have hF : ∀ f, ρ (.func f) = .func (.func f) #[] #[] := fun f => hc _ (by intro t e; cases e)
    have h5 : ρ (.tmp 5) = .pointer (some ⟨g2, 0, none⟩) := ho 5 (by kernel_rfl)
    obtain ⟨G0, G1, G2, G3, G4⟩ := HG2.out
    have q0 := (hb.cell (p := ⟨g2, 0, none⟩) HG2L).trans G0
    have q1 := (hb.cell (p := ⟨g2, 1, none⟩) HG2L).trans G1
    have q2 := (hb.cell (p := ⟨g2, 2, none⟩) HG2L).trans G2
    have q3 := (hb.cell (p := ⟨g2, 3, none⟩) HG2L).trans G3
    have q4 := (hb.cell (p := ⟨g2, 4, none⟩) HG2L).trans G4
    exact Lin.Runs.value Lin.keeps (v := .agg #[.int .u8 t, .int .u8 d, .int .u16 s, .int .u32 x, .slice A2 k c2]) (by simp [execOp, go_sem, hC, hF, h5, q0, q1, q2, q3, q4]) rfl
  · intro ρ wq hb ho hc hd
    have hC : ∀ v, ρ (.const v) = v := fun v => hc _ (by intro t e; cases e)
    have hF : ∀ f, ρ (.func f) = .func (.func f) #[] #[] := fun f => hc _ (by intro t e; cases e)
    have h22 := hd 22 (by kernel_rfl)
    have h23 : ρ (.tmp 23) = .agg #[.int .u8 t, .int .u8 d, .int .u16 s, .int .u32 x, .slice A2 k c2] := hd 23 (by kernel_rfl)
    obtain ⟨u, e22, hu⟩ := h22
    refine Lin.Runs.call Lin.keeps (f := 39) (args := #[msg8 t d s x u, .agg #[.int .u8 t, .int .u8 d, .int .u16 s, .int .u32 x, .slice A2 k c2]]) (by simp [execOp, go_sem, hC, hF, e22, h23]) ?_
    exact (same8 t d s x L k k u (.slice A2 k c2) wq hu (HV2.out.st hb)).mono fun e w9 ⟨he, hb9⟩ => ⟨_, he, hb9, rfl⟩
  · intro ρ wq hb ho hc hd
    have hC : ∀ v, ρ (.const v) = v := fun v => hc _ (by intro t e; cases e)
    have hF : ∀ f, ρ (.func f) = .func (.func f) #[] #[] := fun f => hc _ (by intro t e; cases e)
    have h24 : ρ (.tmp 24) = .bool true := hd 24 (by kernel_rfl)
    exact Lin.Runs.value Lin.keeps (Lin.exec_move rfl) h24
  · intro ρ wq hb ho hc hd
    have hC : ∀ v, ρ (.const v) = v := fun v => hc _ (by intro t e; cases e)
    have hF : ∀ f, ρ (.func f) = .func (.func f) #[] #[] := fun f => hc _ (by intro t e; cases e)
    intro t ht; cases (show some 25 = some t from ht)
    refine ⟨fun _ => ?_, fun hn => absurd (hd 25 (by kernel_rfl)) hn⟩
    have h4 : ρ (.tmp 4) = .int .i64 0 := ho 4 (by kernel_rfl)
    exact Lin.Runs.value Lin.keeps (Lin.exec_move rfl) h4
  · intro ρ wq hb ho hc hd
    have hC : ∀ v, ρ (.const v) = v := fun v => hc _ (by intro t e; cases e)
    have hF : ∀ f, ρ (.func f) = .func (.func f) #[] #[] := fun f => hc _ (by intro t e; cases e)
    intro t ht; cases (show some 25 = some t from ht)
    refine ⟨fun _ => ?_, fun hn => absurd (hd 25 (by kernel_rfl)) hn⟩
    have h26 : ρ (.tmp 26) = .int .i64 0 := hd 26 (by kernel_rfl)
    exact Lin.Runs.value Lin.keeps (v := .bool true) (by simp [execOp, go_sem, hC, hF, h26]) rfl
  · intro ρ wq hb ho hc hd
    have hC : ∀ v, ρ (.const v) = v := fun v => hc _ (by intro t e; cases e)
    have hF : ∀ f, ρ (.func f) = .func (.func f) #[] #[] := fun f => hc _ (by intro t e; cases e)
    intro t ht; cases (show some 25 = some t from ht)
    refine ⟨fun _ => ?_, fun hn => absurd (hd 25 (by kernel_rfl)) hn⟩
    have h6 : ρ (.tmp 6) = .bool true := ho 6 (by kernel_rfl)
    exact Lin.Runs.value Lin.keeps (Lin.exec_move rfl) h6
  · intro ρ wq hb ho hc hd
    have hC : ∀ v, ρ (.const v) = v := fun v => hc _ (by intro t e; cases e)
    have hF : ∀ f, ρ (.func f) = .func (.func f) #[] #[] := fun f => hc _ (by intro t e; cases e)
    intro t ht; cases (show some 25 = some t from ht)
    refine ⟨fun _ => ?_, fun hn => absurd (hd 25 (by kernel_rfl)) hn⟩
    have h27 : ρ (.tmp 27) = .bool true := hd 27 (by kernel_rfl)
    have h28 : ρ (.tmp 28) = .bool true := hd 28 (by kernel_rfl)
    exact Lin.Runs.value Lin.keeps (v := .bool true) (by simp [execOp, go_sem, hC, hF, h27, h28]) rfl
  · intro ρ wq hb ho hc hd
    have hC : ∀ v, ρ (.const v) = v := fun v => hc _ (by intro t e; cases e)
    have hF : ∀ f, ρ (.func f) = .func (.func f) #[] #[] := fun f => hc _ (by intro t e; cases e)
    have h25 : ρ (.tmp 25) = .bool true := hd 25 (by kernel_rfl)
    have h29 : ρ (.tmp 29) = .bool true := hd 29 (by kernel_rfl)
    exact Lin.Runs.value Lin.keeps (v := .bool true) (by simp [execOp, go_sem, hC, hF, h25, h29]) rfl
  · intro ρ wq hb ho hc hd
    have hC : ∀ v, ρ (.const v) = v := fun v => hc _ (by intro t e; cases e)
    have hF : ∀ f, ρ (.func f) = .func (.func f) #[] #[] := fun f => hc _ (by intro t e; cases e)
    have h30 : ρ (.tmp 30) = .bool true := hd 30 (by kernel_rfl)
    exact Lin.Runs.value Lin.keeps (Lin.exec_move rfl) h30
  · intro ρ wq hb ho hc hd
    have hC : ∀ v, ρ (.const v) = v := fun v => hc _ (by intro t e; cases e)
    have hF : ∀ f, ρ (.func f) = .func (.func f) #[] #[] := fun f => hc _ (by intro t e; cases e)
    intro t ht; cases (show some 31 = some t from ht)
    refine ⟨fun _ => ?_, fun hn => absurd (hd 31 (by kernel_rfl)) hn⟩
    have h6 : ρ (.tmp 6) = .bool true := ho 6 (by kernel_rfl)
    exact Lin.Runs.value Lin.keeps (Lin.exec_move rfl) h6
  · intro ρ wq hb ho hc hd
    have hC : ∀ v, ρ (.const v) = v := fun v => hc _ (by intro t e; cases e)
    have hF : ∀ f, ρ (.func f) = .func (.func f) #[] #[] := fun f => hc _ (by intro t e; cases e)
    intro t ht; cases (show some 31 = some t from ht)
    refine ⟨fun _ => ?_, fun hn => absurd (hd 31 (by kernel_rfl)) hn⟩
    have h32 : ρ (.tmp 32) = .bool true := hd 32 (by kernel_rfl)
    exact Lin.Runs.value Lin.keeps (Lin.exec_move rfl) h32
  · intro ρ wq hb ho hc hd
    have hC : ∀ v, ρ (.const v) = v := fun v => hc _ (by intro t e; cases e)
    have hF : ∀ f, ρ (.func f) = .func (.func f) #[] #[] := fun f => hc _ (by intro t e; cases e)
    intro t ht; cases (show some 33 = some t from ht)
    exact ⟨fun he => absurd (he.symm.trans (hd 33 (by kernel_rfl))) (by simp), fun _ => rfl⟩
  · intro ρ wq hb ho hc hd
    have hC : ∀ v, ρ (.const v) = v := fun v => hc _ (by intro t e; cases e)
    have hF : ∀ f, ρ (.func f) = .func (.func f) #[] #[] := fun f => hc _ (by intro t e; cases e)
    intro t ht; cases (show some 33 = some t from ht)
    exact ⟨fun he => absurd (he.symm.trans (hd 33 (by kernel_rfl))) (by simp), fun _ => rfl⟩
  · intro ρ wq hb ho hc hd
    have hC : ∀ v, ρ (.const v) = v := fun v => hc _ (by intro t e; cases e)
    have hF : ∀ f, ρ (.func f) = .func (.func f) #[] #[] := fun f => hc _ (by intro t e; cases e)
    intro t ht; cases (show some 31 = some t from ht)
    refine ⟨fun _ => ?_, fun hn => absurd (hd 31 (by kernel_rfl)) hn⟩
    have h33 : ρ (.tmp 33) = .bool true := hd 33 (by kernel_rfl)
    have h35 : ρ (.tmp 35) = undef := hd 35 (by kernel_rfl)
    exact Lin.Runs.value Lin.keeps (v := .bool true) (by simp [execOp, go_sem, hC, hF, h33, h35]) rfl
  · intro ρ wq hb ho hc hd
    have hC : ∀ v, ρ (.const v) = v := fun v => hc _ (by intro t e; cases e)
    have hF : ∀ f, ρ (.func f) = .func (.func f) #[] #[] := fun f => hc _ (by intro t e; cases e)
    have h31 : ρ (.tmp 31) = .bool true := hd 31 (by kernel_rfl)
    have h36 : ρ (.tmp 36) = .bool true := hd 36 (by kernel_rfl)
    exact Lin.Runs.value Lin.keeps (v := .bool true) (by simp [execOp, go_sem, hC, hF, h31, h36]) rfl
  · intro ρ wq hb ho hc hd
    have hC : ∀ v, ρ (.const v) = v := fun v => hc _ (by intro t e; cases e)
    have hF : ∀ f, ρ (.func f) = .func (.func f) #[] #[] := fun f => hc _ (by intro t e; cases e)
    have h37 : ρ (.tmp 37) = .bool true := hd 37 (by kernel_rfl)
    exact Lin.Runs.value Lin.keeps (Lin.exec_move rfl) h37
  · intro ρ wq hb ho hc hd
    have hC : ∀ v, ρ (.const v) = v := fun v => hc _ (by intro t e; cases e)
    have hF : ∀ f, ρ (.func f) = .func (.func f) #[] #[] := fun f => hc _ (by intro t e; cases e)
    intro t ht; cases (show some 38 = some t from ht)
    refine ⟨fun _ => ?_, fun hn => absurd (hd 38 (by kernel_rfl)) hn⟩
    refine Lin.Runs.call Lin.keeps (f := 36) (args := #[]) (by simp [execOp, go_sem, hC, hF]) ?_
    exact (awake08 wq).mono fun e w9 ⟨he, hb9⟩ => ⟨_, he, hb9, rfl⟩
  · intro ρ wq hb ho hc hd
    have hC : ∀ v, ρ (.const v) = v := fun v => hc _ (by intro t e; cases e)
    have hF : ∀ f, ρ (.func f) = .func (.func f) #[] #[] := fun f => hc _ (by intro t e; cases e)
    have h38 : ρ (.tmp 38) = .bool true := hd 38 (by kernel_rfl)
    have h39 : ρ (.tmp 39) = .bool true := hd 39 (by kernel_rfl)
    exact Lin.Runs.value Lin.keeps (v := .bool true) (by simp [execOp, go_sem, hC, hF, h38, h39]) rfl
  · intro ρ wq hb ho hc hd
    have hC : ∀ v, ρ (.const v) = v := fun v => hc _ (by intro t e; cases e)
    have hF : ∀ f, ρ (.func f) = .func (.func f) #[] #[] := fun f => hc _ (by intro t e; cases e)
    have h40 : ρ (.tmp 40) = .bool true := hd 40 (by kernel_rfl)
    exact Lin.Runs.value Lin.keeps (Lin.exec_assign rfl) h40
  · intro vals w9 hb9 hv
    have e2 : vals 2 = .bool true := hv 2 (by kernel_rfl)
    simp only [Lin.putAll, Option.getD_some]
    rw [e2]
    have HB9 := Lib.hid (HB.out.trans (hb9.mono HB.out.size))
    clear hv hb9
    go_simp
    generalize vals = vv
    go_wp2_with fail
    go_ret
    exact ⟨rfl, HB9.out⟩

set_option maxHeartbeats 4000000 in
theorem walk_no (A : Option Addr) (c : Nat) (l : List Int) (w : World) (h : IsB l l.length (.slice A l.length c) w) (ho : Octets l) (hm : l.length ≤ 3000) (h8 : l.length < 8) :
    Calls Try.prog 7 #[.slice A l.length c] w fun e w' => e = .returned (.bool true) ∧ Below w.heap.size w w' := by
  have HI := hide h; have HO := hide ho
  obtain ⟨k0, hk0⟩ : ∃ k0, 8 + k0 = l.length ∨ l.length < 8 ∧ k0 = 0 := by
    by_cases q : 8 ≤ l.length
    · exact ⟨l.length - 8, .inl (by omega)⟩
    · exact ⟨0, .inr ⟨by omega, rfl⟩⟩
  skip
  clear h ho hk0
  go_enter Try.func7, Try.ntmps7
  go_wp2_with fail
  refine (iparse_short A c l.length w h8).mono ?_
  
  rintro e w1 ⟨v, rfl, hb1, hv⟩
  obtain ⟨A1, c1, rfl⟩ := hv.shape
  have HV := hide hv
  have HB1 := Lib.hid hb1
  unfold msg8
  clear hv hb1
  
  have HV0 : Hid (IsB [] 0 (.slice A1 0 c1) w1) := hide (HV.out)
  
  clear HV
  go_wp2_with fail
  have hb1 : Below w.heap.size w (w1.alloc (.cells #[.int .u8 0, .int .u8 0, .int .u16 0, .int .u32 0, .slice A1 0 c1] 63)) := HB1.out.alloc HB1.out.size _
  have hg1 := Is.new w1 63 #[.int .u8 0, .int .u8 0, .int .u16 0, .int .u32 0, .slice A1 0 c1]
  have hv1 := HV0.out.alloc (.cells #[.int .u8 0, .int .u8 0, .int .u16 0, .int .u32 0, .slice A1 0 c1] 63)
  generalize w1.alloc (.cells #[.int .u8 0, .int .u8 0, .int .u16 0, .int .u32 0, .slice A1 0 c1] 63) = W1 at *
  generalize w1.heap.size = g1 at *
  have HVa := hide hv1; have HGa := hide hg1; have HB2 := Lib.hid hb1
  clear hv1 hg1 hb1 HV0 HB1
  refine (riparse_short A c l.length _ h8).mono ?_
  rintro e w2 ⟨u, rfl, hb2, hu⟩
  obtain ⟨A2, c2, rfl⟩ := hu.shape
  
  unfold msg8
  have HU := hide hu; have HVb := hide (HVa.out.st hb2); have HGb := hide (HGa.out.below hb2 HGa.out.lt); have HB3 := Lib.hid (HB2.out.trans (hb2.mono HB2.out.size))
  clear hu hb2 HVa HGa HB2
  go_wp2_with fail
  have HB := Lib.hid (HB3.out.alloc HB3.out.size (.cells #[.int .u8 0, .int .u8 0, .int .u16 0, .int .u32 0, .slice A2 0 c2] 66))
  have HV2 := hide (HU.out.alloc (.cells #[.int .u8 0, .int .u8 0, .int .u16 0, .int .u32 0, .slice A2 0 c2] 66))
  have HV1 := hide (HVb.out.alloc (.cells #[.int .u8 0, .int .u8 0, .int .u16 0, .int .u32 0, .slice A2 0 c2] 66))
  have hg1 := HGb.out.alloc (.cells #[.int .u8 0, .int .u8 0, .int .u16 0, .int .u32 0, .slice A2 0 c2] 66)
  have hg2 := Is.new w2 66 #[.int .u8 0, .int .u8 0, .int .u16 0, .int .u32 0, .slice A2 0 c2]
  generalize w2.alloc (.cells #[.int .u8 0, .int .u8 0, .int .u16 0, .int .u32 0, .slice A2 0 c2] 66) = W at *
  generalize w2.heap.size = g2 at *
  have HG1 := Lib.hid (show _ ∧ _ ∧ _ ∧ _ ∧ _ from ⟨hg1.cell 0, hg1.cell 1, hg1.cell 2, hg1.cell 3, hg1.cell 4⟩)
  have HG2 := Lib.hid (show _ ∧ _ ∧ _ ∧ _ ∧ _ from ⟨hg2.cell 0, hg2.cell 1, hg2.cell 2, hg2.cell 3, hg2.cell 4⟩)
  have HG1L := hg1.lt
  have HG2L := hg2.lt
  clear hg1 hg2 HU HVb HGb HB3
  refine Lin.wp_region_lin Lin.keeps (n := 41)  (fun slotq => match slotq with | 21 => Lin.Spec.val (.agg #[.int .u8 0, .int .u8 0, .int .u16 0, .int .u32 0, .slice A1 0 c1]) | 22 => specN 0 0 0 0 [] 0 | 23 => Lin.Spec.val (.agg #[.int .u8 0, .int .u8 0, .int .u16 0, .int .u32 0, .slice A2 0 c2]) | 24 => Lin.Spec.val (.bool true) | 25 => Lin.Spec.val (.bool true) | 26 => Lin.Spec.val (.int .i64 20) | 27 => Lin.Spec.val (.bool false) | 28 => Lin.Spec.val (.bool false) | 29 => Lin.Spec.val (.bool true) | 30 => Lin.Spec.val (.bool true) | 31 => Lin.Spec.val (.bool true) | 32 => Lin.Spec.val (.bool false) | 33 => Lin.Spec.val (.bool false) | 34 => Lin.Spec.val (.int .i64 20) | 35 => Lin.Spec.val (.bool true) | 36 => Lin.Spec.val (.bool true) | 37 => Lin.Spec.val (.bool true) | 38 => Lin.Spec.val (.bool true) | 39 => Lin.Spec.val (.bool true) | 40 => Lin.Spec.val (.bool true) | 2 => Lin.Spec.val (.bool true) | _ => Lin.Spec.any) (by kernel_rfl) rfl (by kernel_rfl) ⟨?_, ?_, ?_, ?_, ?_, ?_, ?_, ?_, ?_, ?_, ?_, ?_, ?_, ?_, ?_, ?_, ?_, ?_, ?_, ?_, ?_, trivial⟩ ?_
  · intro ρ wq hb ho hc hd
    have hC : ∀ v, ρ (.const v) = v := fun v => hc _ (by intro t e; cases e)
    have hF : ∀ f, ρ (.func f) = .func (.func f) #[] #[] := fun f => hc _ (by intro t e; cases e)
    have h3 : ρ (.tmp 3) = .pointer (some ⟨g1, 0, none⟩) := ho 3 (by kernel_rfl)
    obtain ⟨G0, G1, G2, G3, G4⟩ := HG1.out
    have q0 := (hb.cell (p := ⟨g1, 0, none⟩) HG1L).trans G0
    have q1 := (hb.cell (p := ⟨g1, 1, none⟩) HG1L).trans G1
    have q2 := (hb.cell (p := ⟨g1, 2, none⟩) HG1L).trans G2
    have q3 := (hb.cell (p := ⟨g1, 3, none⟩) HG1L).trans G3
    have q4 := (hb.cell (p := ⟨g1, 4, none⟩) HG1L).trans G4
    exact Lin.Runs.value Lin.keeps (v := .agg #[.int .u8 0, .int .u8 0, .int .u16 0, .int .u32 0, .slice A1 0 c1]) (by simp [execOp, go_sem, hC, hF, h3, q0, q1, q2, q3, q4]) rfl
  · intro ρ wq hb ho hc hd
    have hC : ∀ v, ρ (.const v) = v := fun v => hc _ (by intro t e; cases e)
    have hF : ∀ f, ρ (.func f) = .func (.func f) #[] #[] := fun f => hc _ (by intro t e; cases e)
    have h21 : ρ (.tmp 21) = .agg #[.int .u8 0, .int .u8 0, .int .u16 0, .int .u32 0, .slice A1 0 c1] := hd 21 (by kernel_rfl)
    refine Lin.Runs.call Lin.keeps (f := 40) (args := #[.agg #[.int .u8 0, .int .u8 0, .int .u16 0, .int .u32 0, .slice A1 0 c1]]) (by simp [execOp, go_sem, hC, hF, h21]) ?_
    exact (of8 0 0 0 0 [] 0 (.slice A1 0 c1) wq (HV1.out.st hb)).mono fun e w9 ⟨u, he, hb9, hu⟩ => ⟨_, he, hb9, u, rfl, hu⟩
  · intro ρ wq hb ho hc hd
    have hC : ∀ v, ρ (.const v) = v := fun v => hc _ (by intro t e; cases e)
    have hF : ∀ f, ρ (.func f) = .func (.func f) #[] #[] := fun f => hc _ (by intro t e; cases e)
    have h5 : ρ (.tmp 5) = .pointer (some ⟨g2, 0, none⟩) := ho 5 (by kernel_rfl)
    obtain ⟨G0, G1, G2, G3, G4⟩ := HG2.out
    have q0 := (hb.cell (p := ⟨g2, 0, none⟩) HG2L).trans G0
    have q1 := (hb.cell (p := ⟨g2, 1, none⟩) HG2L).trans G1
    have q2 := (hb.cell (p := ⟨g2, 2, none⟩) HG2L).trans G2
    have q3 := (hb.cell (p := ⟨g2, 3, none⟩) HG2L).trans G3
    have q4 := (hb.cell (p := ⟨g2, 4, none⟩) HG2L).trans G4
    exact Lin.Runs.value Lin.keeps (v := .agg #[.int .u8 0, .int .u8 0, .int .u16 0, .int .u32 0, .slice A2 0 c2]) (by simp [execOp, go_sem, hC, hF, h5, q0, q1, q2, q3, q4]) rfl
  · intro ρ wq hb ho hc hd
    have hC : ∀ v, ρ (.const v) = v := fun v => hc _ (by intro t e; cases e)
    have hF : ∀ f, ρ (.func f) = .func (.func f) #[] #[] := fun f => hc _ (by intro t e; cases e)
    have h22 := hd 22 (by kernel_rfl)
    have h23 : ρ (.tmp 23) = .agg #[.int .u8 0, .int .u8 0, .int .u16 0, .int .u32 0, .slice A2 0 c2] := hd 23 (by kernel_rfl)
    obtain ⟨u, e22, hu⟩ := h22
    refine Lin.Runs.call Lin.keeps (f := 39) (args := #[msg8 0 0 0 0 u, .agg #[.int .u8 0, .int .u8 0, .int .u16 0, .int .u32 0, .slice A2 0 c2]]) (by simp [execOp, go_sem, hC, hF, e22, h23]) ?_
    exact (same8 0 0 0 0 [] 0 0 u (.slice A2 0 c2) wq hu (HV2.out.st hb)).mono fun e w9 ⟨he, hb9⟩ => ⟨_, he, hb9, rfl⟩
  · intro ρ wq hb ho hc hd
    have hC : ∀ v, ρ (.const v) = v := fun v => hc _ (by intro t e; cases e)
    have hF : ∀ f, ρ (.func f) = .func (.func f) #[] #[] := fun f => hc _ (by intro t e; cases e)
    have h24 : ρ (.tmp 24) = .bool true := hd 24 (by kernel_rfl)
    exact Lin.Runs.value Lin.keeps (Lin.exec_move rfl) h24
  · intro ρ wq hb ho hc hd
    have hC : ∀ v, ρ (.const v) = v := fun v => hc _ (by intro t e; cases e)
    have hF : ∀ f, ρ (.func f) = .func (.func f) #[] #[] := fun f => hc _ (by intro t e; cases e)
    intro t ht; cases (show some 25 = some t from ht)
    refine ⟨fun _ => ?_, fun hn => absurd (hd 25 (by kernel_rfl)) hn⟩
    have h4 : ρ (.tmp 4) = .int .i64 20 := ho 4 (by kernel_rfl)
    exact Lin.Runs.value Lin.keeps (Lin.exec_move rfl) h4
  · intro ρ wq hb ho hc hd
    have hC : ∀ v, ρ (.const v) = v := fun v => hc _ (by intro t e; cases e)
    have hF : ∀ f, ρ (.func f) = .func (.func f) #[] #[] := fun f => hc _ (by intro t e; cases e)
    intro t ht; cases (show some 25 = some t from ht)
    refine ⟨fun _ => ?_, fun hn => absurd (hd 25 (by kernel_rfl)) hn⟩
    have h26 : ρ (.tmp 26) = .int .i64 20 := hd 26 (by kernel_rfl)
    exact Lin.Runs.value Lin.keeps (v := .bool false) (by simp [execOp, go_sem, hC, hF, h26]) rfl
  · intro ρ wq hb ho hc hd
    have hC : ∀ v, ρ (.const v) = v := fun v => hc _ (by intro t e; cases e)
    have hF : ∀ f, ρ (.func f) = .func (.func f) #[] #[] := fun f => hc _ (by intro t e; cases e)
    intro t ht; cases (show some 25 = some t from ht)
    refine ⟨fun _ => ?_, fun hn => absurd (hd 25 (by kernel_rfl)) hn⟩
    have h6 : ρ (.tmp 6) = .bool false := ho 6 (by kernel_rfl)
    exact Lin.Runs.value Lin.keeps (Lin.exec_move rfl) h6
  · intro ρ wq hb ho hc hd
    have hC : ∀ v, ρ (.const v) = v := fun v => hc _ (by intro t e; cases e)
    have hF : ∀ f, ρ (.func f) = .func (.func f) #[] #[] := fun f => hc _ (by intro t e; cases e)
    intro t ht; cases (show some 25 = some t from ht)
    refine ⟨fun _ => ?_, fun hn => absurd (hd 25 (by kernel_rfl)) hn⟩
    have h27 : ρ (.tmp 27) = .bool false := hd 27 (by kernel_rfl)
    have h28 : ρ (.tmp 28) = .bool false := hd 28 (by kernel_rfl)
    exact Lin.Runs.value Lin.keeps (v := .bool true) (by simp [execOp, go_sem, hC, hF, h27, h28]) rfl
  · intro ρ wq hb ho hc hd
    have hC : ∀ v, ρ (.const v) = v := fun v => hc _ (by intro t e; cases e)
    have hF : ∀ f, ρ (.func f) = .func (.func f) #[] #[] := fun f => hc _ (by intro t e; cases e)
    have h25 : ρ (.tmp 25) = .bool true := hd 25 (by kernel_rfl)
    have h29 : ρ (.tmp 29) = .bool true := hd 29 (by kernel_rfl)
    exact Lin.Runs.value Lin.keeps (v := .bool true) (by simp [execOp, go_sem, hC, hF, h25, h29]) rfl
  · intro ρ wq hb ho hc hd
    have hC : ∀ v, ρ (.const v) = v := fun v => hc _ (by intro t e; cases e)
    have hF : ∀ f, ρ (.func f) = .func (.func f) #[] #[] := fun f => hc _ (by intro t e; cases e)
    have h30 : ρ (.tmp 30) = .bool true := hd 30 (by kernel_rfl)
    exact Lin.Runs.value Lin.keeps (Lin.exec_move rfl) h30
  · intro ρ wq hb ho hc hd
    have hC : ∀ v, ρ (.const v) = v := fun v => hc _ (by intro t e; cases e)
    have hF : ∀ f, ρ (.func f) = .func (.func f) #[] #[] := fun f => hc _ (by intro t e; cases e)
    intro t ht; cases (show some 31 = some t from ht)
    refine ⟨fun _ => ?_, fun hn => absurd (hd 31 (by kernel_rfl)) hn⟩
    have h6 : ρ (.tmp 6) = .bool false := ho 6 (by kernel_rfl)
    exact Lin.Runs.value Lin.keeps (Lin.exec_move rfl) h6
  · intro ρ wq hb ho hc hd
    have hC : ∀ v, ρ (.const v) = v := fun v => hc _ (by intro t e; cases e)
    have hF : ∀ f, ρ (.func f) = .func (.func f) #[] #[] := fun f => hc _ (by intro t e; cases e)
    intro t ht; cases (show some 31 = some t from ht)
    refine ⟨fun _ => ?_, fun hn => absurd (hd 31 (by kernel_rfl)) hn⟩
    have h32 : ρ (.tmp 32) = .bool false := hd 32 (by kernel_rfl)
    exact Lin.Runs.value Lin.keeps (Lin.exec_move rfl) h32
  · intro ρ wq hb ho hc hd
    have hC : ∀ v, ρ (.const v) = v := fun v => hc _ (by intro t e; cases e)
    have hF : ∀ f, ρ (.func f) = .func (.func f) #[] #[] := fun f => hc _ (by intro t e; cases e)
    intro t ht; cases (show some 33 = some t from ht)
    refine ⟨fun _ => ?_, fun hn => absurd (hd 33 (by kernel_rfl)) hn⟩
    have h4 : ρ (.tmp 4) = .int .i64 20 := ho 4 (by kernel_rfl)
    exact Lin.Runs.value Lin.keeps (Lin.exec_move rfl) h4
  · intro ρ wq hb ho hc hd
    have hC : ∀ v, ρ (.const v) = v := fun v => hc _ (by intro t e; cases e)
    have hF : ∀ f, ρ (.func f) = .func (.func f) #[] #[] := fun f => hc _ (by intro t e; cases e)
    intro t ht; cases (show some 33 = some t from ht)
    refine ⟨fun _ => ?_, fun hn => absurd (hd 33 (by kernel_rfl)) hn⟩
    have h34 : ρ (.tmp 34) = .int .i64 20 := hd 34 (by kernel_rfl)
    exact Lin.Runs.value Lin.keeps (v := .bool true) (by simp [execOp, go_sem, hC, hF, h34]) rfl
  · intro ρ wq hb ho hc hd
    have hC : ∀ v, ρ (.const v) = v := fun v => hc _ (by intro t e; cases e)
    have hF : ∀ f, ρ (.func f) = .func (.func f) #[] #[] := fun f => hc _ (by intro t e; cases e)
    intro t ht; cases (show some 31 = some t from ht)
    refine ⟨fun _ => ?_, fun hn => absurd (hd 31 (by kernel_rfl)) hn⟩
    have h33 : ρ (.tmp 33) = .bool false := hd 33 (by kernel_rfl)
    have h35 : ρ (.tmp 35) = .bool true := hd 35 (by kernel_rfl)
    exact Lin.Runs.value Lin.keeps (v := .bool true) (by simp [execOp, go_sem, hC, hF, h33, h35]) rfl
  · intro ρ wq hb ho hc hd
    have hC : ∀ v, ρ (.const v) = v := fun v => hc _ (by intro t e; cases e)
    have hF : ∀ f, ρ (.func f) = .func (.func f) #[] #[] := fun f => hc _ (by intro t e; cases e)
    have h31 : ρ (.tmp 31) = .bool true := hd 31 (by kernel_rfl)
    have h36 : ρ (.tmp 36) = .bool true := hd 36 (by kernel_rfl)
    exact Lin.Runs.value Lin.keeps (v := .bool true) (by simp [execOp, go_sem, hC, hF, h31, h36]) rfl
  · intro ρ wq hb ho hc hd
    have hC : ∀ v, ρ (.const v) = v := fun v => hc _ (by intro t e; cases e)
    have hF : ∀ f, ρ (.func f) = .func (.func f) #[] #[] := fun f => hc _ (by intro t e; cases e)
    have h37 : ρ (.tmp 37) = .bool true := hd 37 (by kernel_rfl)
    exact Lin.Runs.value Lin.keeps (Lin.exec_move rfl) h37
  · intro ρ wq hb ho hc hd
    have hC : ∀ v, ρ (.const v) = v := fun v => hc _ (by intro t e; cases e)
    have hF : ∀ f, ρ (.func f) = .func (.func f) #[] #[] := fun f => hc _ (by intro t e; cases e)
    intro t ht; cases (show some 38 = some t from ht)
    refine ⟨fun _ => ?_, fun hn => absurd (hd 38 (by kernel_rfl)) hn⟩
    refine Lin.Runs.call Lin.keeps (f := 36) (args := #[]) (by simp [execOp, go_sem, hC, hF]) ?_
    exact (awake08 wq).mono fun e w9 ⟨he, hb9⟩ => ⟨_, he, hb9, rfl⟩
  · intro ρ wq hb ho hc hd
    have hC : ∀ v, ρ (.const v) = v := fun v => hc _ (by intro t e; cases e)
    have hF : ∀ f, ρ (.func f) = .func (.func f) #[] #[] := fun f => hc _ (by intro t e; cases e)
    have h38 : ρ (.tmp 38) = .bool true := hd 38 (by kernel_rfl)
    have h39 : ρ (.tmp 39) = .bool true := hd 39 (by kernel_rfl)
    exact Lin.Runs.value Lin.keeps (v := .bool true) (by simp [execOp, go_sem, hC, hF, h38, h39]) rfl
  · intro ρ wq hb ho hc hd
    have hC : ∀ v, ρ (.const v) = v := fun v => hc _ (by intro t e; cases e)
    have hF : ∀ f, ρ (.func f) = .func (.func f) #[] #[] := fun f => hc _ (by intro t e; cases e)
    have h40 : ρ (.tmp 40) = .bool true := hd 40 (by kernel_rfl)
    exact Lin.Runs.value Lin.keeps (Lin.exec_assign rfl) h40
  · intro vals w9 hb9 hv
    have e2 : vals 2 = .bool true := hv 2 (by kernel_rfl)
    simp only [Lin.putAll, Option.getD_some]
    rw [e2]
    have HB9 := Lib.hid (HB.out.trans (hb9.mono HB.out.size))
    clear hv hb9
    go_simp
    generalize vals = vv
    go_wp2_with fail
    go_ret
    exact ⟨rfl, HB9.out⟩

set_option maxHeartbeats 1000000 in
theorem walk (A : Option Addr) (c : Nat) (l : List Int) (w : World) (h : IsB l l.length (.slice A l.length c) w) (ho : Octets l) (hlm : l.length ≤ maxLen) :
    Calls Try.prog 7 #[.slice A l.length c] w fun e w' => e = .returned (.bool true) ∧ Below w.heap.size w w' := by
  unfold maxLen at hlm
  by_cases q : 3000 < l.length
  · clear h ho
    go_enter Try.func7, Try.ntmps7
    go_wp2_with fail
    refine (awake08 _).mono ?_
    rintro e w1 ⟨rfl, hb⟩
    go_wp2_with fail
    go_ret
    exact ⟨rfl, hb⟩
  · by_cases h8 : 8 ≤ l.length
    · exact walk_ok A c l w h ho (by omega) h8
    · exact walk_no A c l w h ho (by omega) (by omega)

/-! ### The step from the walk to the row -/
set_option maxRecDepth 100000 in
theorem lifted (os : Os) (started : os.Started) (H : Type) (enc : TypeId × Value → H) :
    ReturnsInHanded {} Try.checked os 7 .any (Rows.icmpReadsSpec.pre6 enc Try.prog Try.f7 Rows.icmpReadsRow.domain false) (Rows.icmpReadsSpec.post enc Try.prog Try.f7 false true false false) := by
  refine returnsInHanded_of_change (C := Try.checked) own started (by kernel_rfl) Try.func7
    (ChangeSpec.witness6 (enc := enc) (C := Try.checked) false ⟨#[], #[.slice none 0 0], []⟩ 8 (by kernel_rfl) (by kernel_rfl) (by kernel_rfl) (by kernel_rfl)) ?_
  intro W base args ds gs before hval0 hW hcnd _
  have hval : ∀ (j : Nat) t v, Try.f7.params[j]? = some t → args[j]? = some v → Value.okWide Try.prog W .any base t v := hval0
  have hW' := hW
  obtain ⟨p, q, hA0, hV, rfl, hfz, hnd⟩ := hW
  have hA : DataW.TrodAll enc Try.prog W 0 (fun _ => true) true Try.f7.params.toList args.toList ds p := hA0
  rw [Try.params7] at hA hval
  obtain ⟨v0, vs0, d0, ds0, p0, q0, hargs, rfl, rfl, h0, r0⟩ := trodAll_cons hA
  obtain ⟨rfl, rfl, rfl⟩ := trodAll_nil r0
  obtain rfl : args = #[v0] := by cases args; simp_all
  obtain ⟨rfl, rfl⟩ := trodVars_none hV
  have k0 := h0
  have lt0 : ∀ x ∈ p0, x.block < W.heap.size := by obtain ⟨m, hm⟩ := k0; exact DataW.trod_lt m _ _ _ hm
  have ok0 := hval 0 22 v0 rfl rfl
  clear hA0 hval0
  obtain ⟨A, na, c, rfl⟩ := okWide_slice Try.underlying22 ok0
  obtain ⟨l, rfl, ob, ha, hba⟩ := open_isb (e := 5) Try.underlying22 Try.underlying5 (by kernel_rfl) h0
  have m0 := ha.maxlen
  refine (walk A c l W ha ob m0).mono fun e W' ⟨he, bel⟩ => ?_
  subst he
  exact ⟨_, rfl, _, _, _, [], _, [], hW', trodAll_mk1 (shut_bool Try.underlying4 _), (trodAll_cons_mk (Below.trod laidOut (by kernel_rfl) (of_decide_eq_true (by kernel_rfl)) k0 bel lt0) trodAll_mk0), rfl, bel.frame _, fun h => by cases h⟩

theorem over : Rows.icmpReadsRow.holds Try.pinned (OpenSpec.ofChange Rows.icmpReadsSpec) :=
  OpenClaim.holds_of_wide 7 Try.f7 rfl rfl rfl rfl rfl rfl rfl ⟨rfl, rfl, rfl, rfl, rfl⟩ rfl rfl rfl rfl rfl (by kernel_rfl) Try.func7 (by kernel_rfl)
    (of_decide_eq_true (by kernel_rfl)) (by unfold Func.isWrapper; first | (rw [if_pos (by decide +kernel)]; kernel_rfl) | (rw [if_neg (by decide +kernel)]; exact ⟨rfl, rfl⟩))
    (fun os started H enc _ => lifted os started H enc)

theorem proved : Rows.IcmpReadsSaid := over
#print axioms proved
end Go.Proofs.Ytkdcaipadejchaa.icmpReads
