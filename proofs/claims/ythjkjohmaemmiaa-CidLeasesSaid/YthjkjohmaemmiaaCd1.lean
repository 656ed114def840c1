/-
  Masks and tags of package cid and of its reference. Helper of the claims of layer 13. No condition.
-/
import Derived.Test.YthjkjohmaemmiaaCk
import Derived.Test.YthjkjohmaemmiaaRq
namespace Go.Proofs.Ythjkjohmaemmiaa
open Go.ChangeShapes Go.WideShapes Go.ChangeAt Go.RowKit
set_option linter.unusedSimpArgs false
set_option linter.unusedVariables false
set_option maxRecDepth 100000
/-- What hides a word, and the tag of bytes, under a key. -/
def mkc (key l : List Int) : Nat := sip key ([3] ++ l) % 32768
def tgc (key l : List Int) : List Int := be (sip key ([4] ++ l)) 5
theorem mkc_lt (key l : List Int) : mkc key l < 32768 := Nat.mod_lt _ (by omega)
theorem tgc_len (key l : List Int) : (tgc key l).length = 5 := be_len _ _
theorem tgc_ok (key l : List Int) : Octets (tgc key l) := be_ok _ _
theorem num_q {W : World} {g i : Nat} {l : List Int} {w : World} (k j : Nat) (x : Int) (h : RS W g l i w) (ho : Octets l) (hj : i + k = j) (hn : j ≤ l.length) (h8 : k ≤ 8) (hx : nw l i k = x) :
    Calls Try.prog 75 #[.pointer (some ⟨g, 0, none⟩), .int .i64 (k : Int)] w (RNext W g l j w (.int .u64 x)) := by
  subst hx
  exact (num_ok g _ false k w h.1 (ho.drop i) (by rw [List.length_drop]; omega) h8).mono fun e w' ⟨h1, h2, h3⟩ => ⟨h1, h.step h2 h3 hj, h3⟩
set_option maxHeartbeats 1000000 in
theorem cmask13 (key : List Int) (hk : key.length = 16) (ho : Octets key) (l : List Int) (m c : Nat) (A : Option Addr) (hlo : Octets l) (hmm : m ≤ 100) (w : World) (hl : IsB l (m + 1) (.slice A (m + 1) c) w) : Calls Try.prog 79 #[.agg (u8s key).toArray, .slice A (m + 1) c] w fun e w' => e = .returned (.int .u16 ((mkc key l : Nat) : Int)) ∧ Below w.heap.size w w' := by
  have KSZ := Lib.hid (key_size hk)
  have hs := sip_lt ho ((Octets.ofAll (l := [3]) (by decide)).app hlo)
  unfold mkc
  have HK := Lib.hid hk; have HO := Lib.hid ho; have HLO := Lib.hid hlo
  have HBY : Hid (Bytes w w.heap.size A l) := hide (by obtain ⟨A', c', e, h1, h2, _⟩ := hl; injection e with e1 e2 e3; subst e1; exact h2)
  have HLEN : Hid (l.length = m + 1) := hide (by obtain ⟨A', c', e, h1, _⟩ := hl; exact h1)
  clear hk ho hlo hl
  generalize hks : (u8s key).toArray = ks at KSZ ⊢
  have KEQ := hide hks.symm
  clear hks
  generalize hsq : sip key ([3] ++ l) = s at hs ⊢
  have HS := hide hsq
  clear hsq
  have R0 := Lib.hid (Is.new w 43 ks); have HB0 := Lib.hid (show Below w.heap.size w (w.alloc (.cells ks 43)) from (Below.refl _ _).alloc (Nat.le_refl _) _)
  go_enter Try.func79, Try.ntmps79
  go_wp2_with fail
  refine Lin.wp_region_lin Lin.keeps (n := 12)  (fun slotq => match slotq with | 5 => Lin.Spec.val (.agg ks) | 6 => OneB 3 | 7 => Lin.Spec.val (.slice A (m + 1) c) | 8 => Lin.Spec.sl ([3] ++ l) (1 + (m + 1)) | 9 => Lin.Spec.val (.int .u64 (s : Int)) | 10 => Lin.Spec.val (.int .u64 ((s % 32768 : Nat) : Int)) | 11 => Lin.Spec.val (.int .u16 ((s % 32768 : Nat) : Int)) | 4 => Lin.Spec.val (.int .u16 ((s % 32768 : Nat) : Int)) | _ => Lin.Spec.any) (by kernel_rfl) rfl (by kernel_rfl) ⟨?_, ?_, ?_, ?_, ?_, ?_, ?_, ?_, trivial⟩ ?_
  · intro ρ wq hb ho hc hd
    have hC : ∀ v, ρ (.const v) = v := fun v => hc _ (by intro t e; cases e)
    have hF : ∀ f, ρ (.func f) = .func (.func f) #[] #[] := fun f => hc _ (by intro t e; cases e)
    have h2 : ρ (.tmp 2) = .pointer (some ⟨w.heap.size, 0, none⟩) := ho 2 (by kernel_rfl)
    exact Lin.Runs.load_row Lin.keeps 43 (.tmp 2) rfl w.heap.size h2 43 ks (R0.out.below hb R0.out.lt) _ Try.underlying43 rfl (by rw [KSZ.out]; kernel_rfl) rfl
  · intro ρ wq hb ho hc hd
    have hC : ∀ v, ρ (.const v) = v := fun v => hc _ (by intro t e; cases e)
    have hF : ∀ f, ρ (.func f) = .func (.func f) #[] #[] := fun f => hc _ (by intro t e; cases e)
    refine Lin.Runs.made (v := .slice (some ⟨wq.heap.size, 0, none⟩) 1 1) (w' := wq.alloc (.cells #[.int .u8 3] 5)) (by simp [execOp, go_sem, hC]) ((Below.refl _ _).alloc (Nat.le_refl _) _) (oneb_new wq 3)
  · intro ρ wq hb ho hc hd
    have hC : ∀ v, ρ (.const v) = v := fun v => hc _ (by intro t e; cases e)
    have hF : ∀ f, ρ (.func f) = .func (.func f) #[] #[] := fun f => hc _ (by intro t e; cases e)
    have h1 : ρ (.tmp 1) = .slice A (m + 1) c := ho 1 (by kernel_rfl)
    exact Lin.Runs.value Lin.keeps (Lin.exec_move rfl) h1
  · intro ρ wq hb ho hc hd
    have hC : ∀ v, ρ (.const v) = v := fun v => hc _ (by intro t e; cases e)
    have hF : ∀ f, ρ (.func f) = .func (.func f) #[] #[] := fun f => hc _ (by intro t e; cases e)
    have h6 := hd 6 (by kernel_rfl)
    have h7 : ρ (.tmp 7) = .slice A (m + 1) c := hd 7 (by kernel_rfl)
    obtain ⟨b9, e9, hy9⟩ := h6
    obtain ⟨A', c', w', hr, hb2, his⟩ := grow_one (T := 22) Try.underlying22 info8 hy9 (HBY.out.below (HB0.out.trans (hb.mono HB0.out.size))) c HLEN.out
    exact Lin.Runs.made (by unfold execOp; simp only [resolve, invoke, builtin, Sem.run_bind, Sem.run_pure, Result.andThen_ok, List.map_toArray, List.map_cons, List.map_nil, e9, h7, hr]) hb2 his
  · intro ρ wq hb ho hc hd
    have hC : ∀ v, ρ (.const v) = v := fun v => hc _ (by intro t e; cases e)
    have hF : ∀ f, ρ (.func f) = .func (.func f) #[] #[] := fun f => hc _ (by intro t e; cases e)
    have h5 : ρ (.tmp 5) = .agg ks := hd 5 (by kernel_rfl)
    have h8 := hd 8 (by kernel_rfl)
    obtain ⟨A2, c2, e2, l2, b2, r2, r3, _⟩ := h8
    refine Lin.Runs.call Lin.keeps (f := 97) (args := #[.agg ks, .slice A2 (1 + (m + 1)) c2]) (by simp [execOp, go_sem, hF, h5, e2]) ?_
    have h := sum_any key ([3] ++ l) ks A2 (1 + (m + 1)) c2 wq KEQ.out HK.out HO.out b2 l2 r2 (Octets.app (Octets.ofAll (by decide)) HLO.out) (by omega) r3
    rw [HS.out] at h
    exact h.mono fun e w2 ⟨he, hb2⟩ => ⟨_, he, hb2, rfl⟩
  · intro ρ wq hb ho hc hd
    have hC : ∀ v, ρ (.const v) = v := fun v => hc _ (by intro t e; cases e)
    have hF : ∀ f, ρ (.func f) = .func (.func f) #[] #[] := fun f => hc _ (by intro t e; cases e)
    have h9 : ρ (.tmp 9) = .int .u64 (s : Int) := hd 9 (by kernel_rfl)
    refine Lin.Runs.call Lin.keeps (f := 107) (args := #[.int .u64 (s : Int), .int .i64 15]) (by simp [execOp, go_sem, hC, hF, h9]) ?_
    exact (fold_mid s 15 wq (by omega) (by omega) hs).mono fun e w9 h => ⟨_, h.1, by rw [← h.2]; exact Below.refl _ _, rfl⟩
  · intro ρ wq hb ho hc hd
    have hC : ∀ v, ρ (.const v) = v := fun v => hc _ (by intro t e; cases e)
    have hF : ∀ f, ρ (.func f) = .func (.func f) #[] #[] := fun f => hc _ (by intro t e; cases e)
    have h10 : ρ (.tmp 10) = .int .u64 ((s % 32768 : Nat) : Int) := hd 10 (by kernel_rfl)
    exact Lin.Runs.value Lin.keeps (v := .int .u16 ((s % 32768 : Nat) : Int)) (by simp [execOp, go_sem, h10]; first | done | exact IntWalk.u16_in _ (by omega)) rfl
  · intro ρ wq hb ho hc hd
    have hC : ∀ v, ρ (.const v) = v := fun v => hc _ (by intro t e; cases e)
    have hF : ∀ f, ρ (.func f) = .func (.func f) #[] #[] := fun f => hc _ (by intro t e; cases e)
    have h11 : ρ (.tmp 11) = .int .u16 ((s % 32768 : Nat) : Int) := hd 11 (by kernel_rfl)
    exact Lin.Runs.value Lin.keeps (Lin.exec_assign rfl) h11
  · intro vals w5 hb2 hv
    have ee : vals 4 = .int .u16 ((s % 32768 : Nat) : Int) := hv 4 (by kernel_rfl)
    have HB5 := Lib.hid (HB0.out.trans (hb2.mono HB0.out.size))
    clear hb2 hv
    simp only [Lin.putAll, Option.getD_some]
    rw [ee]
    clear ee
    go_simp
    generalize vals = vq
    go_wp2_with fail
    go_ret
    exact ⟨rfl, HB5.out⟩
set_option maxHeartbeats 1000000 in
theorem ctag13 (key : List Int) (hk : key.length = 16) (ho : Octets key) (l : List Int) (m c : Nat) (A : Option Addr) (hlo : Octets l) (hmm : m ≤ 100) (w : World) (hl : IsB l (m + 1) (.slice A (m + 1) c) w) : Calls Try.prog 78 #[.agg (u8s key).toArray, .slice A (m + 1) c] w fun e w' => ∃ v, e = .returned v ∧ Below w.heap.size w w' ∧ OwnP w.heap.size (tgc key l) 5 v w' := by
  have KSZ := Lib.hid (key_size hk)
  have hs := sip_lt ho ((Octets.ofAll (l := [4]) (by decide)).app hlo)
  unfold tgc
  have HK := Lib.hid hk; have HO := Lib.hid ho; have HLO := Lib.hid hlo
  have HBY : Hid (Bytes w w.heap.size A l) := hide (by obtain ⟨A', c', e, h1, h2, _⟩ := hl; injection e with e1 e2 e3; subst e1; exact h2)
  have HLEN : Hid (l.length = m + 1) := hide (by obtain ⟨A', c', e, h1, _⟩ := hl; exact h1)
  clear hk ho hlo hl
  generalize hks : (u8s key).toArray = ks at KSZ ⊢
  have KEQ := hide hks.symm
  clear hks
  generalize hsq : sip key ([4] ++ l) = s at hs ⊢
  have HS := hide hsq
  clear hsq
  have R0 := Lib.hid (Is.new w 43 ks); have HB0 := Lib.hid (show Below w.heap.size w (w.alloc (.cells ks 43)) from (Below.refl _ _).alloc (Nat.le_refl _) _)
  go_enter Try.func78, Try.ntmps78
  go_wp2_with fail
  refine Lin.wp_region_lin Lin.keeps (n := 11)  (fun slotq => match slotq with | 5 => Lin.Spec.val (.agg ks) | 6 => OneB 4 | 7 => Lin.Spec.val (.slice A (m + 1) c) | 8 => Lin.Spec.sl ([4] ++ l) (1 + (m + 1)) | 9 => Lin.Spec.val (.int .u64 (s : Int)) | 10 => Lin.Spec.own (w.alloc (.cells ks 43)).heap.size (be s 5) 5 | 4 => Lin.Spec.own (w.alloc (.cells ks 43)).heap.size (be s 5) 5 | _ => Lin.Spec.any) (by kernel_rfl) rfl (by kernel_rfl) ⟨?_, ?_, ?_, ?_, ?_, ?_, ?_, trivial⟩ ?_
  · intro ρ wq hb ho hc hd
    have hC : ∀ v, ρ (.const v) = v := fun v => hc _ (by intro t e; cases e)
    have hF : ∀ f, ρ (.func f) = .func (.func f) #[] #[] := fun f => hc _ (by intro t e; cases e)
    have h2 : ρ (.tmp 2) = .pointer (some ⟨w.heap.size, 0, none⟩) := ho 2 (by kernel_rfl)
    exact Lin.Runs.load_row Lin.keeps 43 (.tmp 2) rfl w.heap.size h2 43 ks (R0.out.below hb R0.out.lt) _ Try.underlying43 rfl (by rw [KSZ.out]; kernel_rfl) rfl
  · intro ρ wq hb ho hc hd
    have hC : ∀ v, ρ (.const v) = v := fun v => hc _ (by intro t e; cases e)
    have hF : ∀ f, ρ (.func f) = .func (.func f) #[] #[] := fun f => hc _ (by intro t e; cases e)
    refine Lin.Runs.made (v := .slice (some ⟨wq.heap.size, 0, none⟩) 1 1) (w' := wq.alloc (.cells #[.int .u8 4] 5)) (by simp [execOp, go_sem, hC]) ((Below.refl _ _).alloc (Nat.le_refl _) _) (oneb_new wq 4)
  · intro ρ wq hb ho hc hd
    have hC : ∀ v, ρ (.const v) = v := fun v => hc _ (by intro t e; cases e)
    have hF : ∀ f, ρ (.func f) = .func (.func f) #[] #[] := fun f => hc _ (by intro t e; cases e)
    have h1 : ρ (.tmp 1) = .slice A (m + 1) c := ho 1 (by kernel_rfl)
    exact Lin.Runs.value Lin.keeps (Lin.exec_move rfl) h1
  · intro ρ wq hb ho hc hd
    have hC : ∀ v, ρ (.const v) = v := fun v => hc _ (by intro t e; cases e)
    have hF : ∀ f, ρ (.func f) = .func (.func f) #[] #[] := fun f => hc _ (by intro t e; cases e)
    have h6 := hd 6 (by kernel_rfl)
    have h7 : ρ (.tmp 7) = .slice A (m + 1) c := hd 7 (by kernel_rfl)
    obtain ⟨b9, e9, hy9⟩ := h6
    obtain ⟨A', c', w', hr, hb2, his⟩ := grow_one (T := 22) Try.underlying22 info8 hy9 (HBY.out.below (HB0.out.trans (hb.mono HB0.out.size))) c HLEN.out
    exact Lin.Runs.made (by unfold execOp; simp only [resolve, invoke, builtin, Sem.run_bind, Sem.run_pure, Result.andThen_ok, List.map_toArray, List.map_cons, List.map_nil, e9, h7, hr]) hb2 his
  · intro ρ wq hb ho hc hd
    have hC : ∀ v, ρ (.const v) = v := fun v => hc _ (by intro t e; cases e)
    have hF : ∀ f, ρ (.func f) = .func (.func f) #[] #[] := fun f => hc _ (by intro t e; cases e)
    have h5 : ρ (.tmp 5) = .agg ks := hd 5 (by kernel_rfl)
    have h8 := hd 8 (by kernel_rfl)
    obtain ⟨A2, c2, e2, l2, b2, r2, r3, _⟩ := h8
    refine Lin.Runs.call Lin.keeps (f := 97) (args := #[.agg ks, .slice A2 (1 + (m + 1)) c2]) (by simp [execOp, go_sem, hF, h5, e2]) ?_
    have h := sum_any key ([4] ++ l) ks A2 (1 + (m + 1)) c2 wq KEQ.out HK.out HO.out b2 l2 r2 (Octets.app (Octets.ofAll (by decide)) HLO.out) (by omega) r3
    rw [HS.out] at h
    exact h.mono fun e w2 ⟨he, hb2⟩ => ⟨_, he, hb2, rfl⟩
  · intro ρ wq hb ho hc hd
    have hC : ∀ v, ρ (.const v) = v := fun v => hc _ (by intro t e; cases e)
    have hF : ∀ f, ρ (.func f) = .func (.func f) #[] #[] := fun f => hc _ (by intro t e; cases e)
    have h9 : ρ (.tmp 9) = .int .u64 (s : Int) := hd 9 (by kernel_rfl)
    refine Lin.Runs.call Lin.keeps (f := 85) (args := #[.slice none 0 0, .int .u64 (s : Int), .int .i64 5]) (by simp [execOp, go_sem, hC, hF, h9]) ?_
    exact (put_nil s 5 5 wq hs (by omega) (by omega) rfl).mono fun e w9 ⟨A9, c9, h1, h2, h3⟩ => ⟨_, h1, h3, A9, c9, rfl, h2.lower hb.size⟩
  · intro ρ wq hb ho hc hd
    have hC : ∀ v, ρ (.const v) = v := fun v => hc _ (by intro t e; cases e)
    have hF : ∀ f, ρ (.func f) = .func (.func f) #[] #[] := fun f => hc _ (by intro t e; cases e)
    have h10 := hd 10 (by kernel_rfl)
    exact Lin.Runs.value Lin.keeps (Lin.exec_assign rfl) h10
  · intro vals w5 hb2 hv
    obtain ⟨A9, c9, e2, ho9⟩ := hv 4 (by kernel_rfl)
    have HO9 := hide (ho9.lower HB0.out.size)
    have HB5 := Lib.hid (HB0.out.trans (hb2.mono HB0.out.size))
    clear hb2 hv ho9
    simp only [Lin.putAll, Option.getD_some]
    rw [e2]
    clear e2
    go_simp
    generalize vals = vq
    go_wp2_with fail
    go_ret
    exact ⟨_, rfl, HB5.out, A9, c9, rfl, HO9.out⟩
set_option maxHeartbeats 1000000 in
theorem rtag13 (key : List Int) (hk : key.length = 16) (ho : Octets key) (l : List Int) (m c : Nat) (A : Option Addr) (hlo : Octets l) (hmm : m ≤ 100) (w : World) (hl : IsB l (m + 1) (.slice A (m + 1) c) w) : Calls Try.prog 82 #[.agg (u8s key).toArray, .slice A (m + 1) c] w fun e w' => ∃ v, e = .returned v ∧ Below w.heap.size w w' ∧ OwnP w.heap.size (tgc key l) 5 v w' := by
  have KSZ := Lib.hid (key_size hk)
  have hs := sip_lt ho ((Octets.ofAll (l := [4]) (by decide)).app hlo)
  unfold tgc
  have HK := Lib.hid hk; have HO := Lib.hid ho; have HLO := Lib.hid hlo
  have HBY : Hid (Bytes w w.heap.size A l) := hide (by obtain ⟨A', c', e, h1, h2, _⟩ := hl; injection e with e1 e2 e3; subst e1; exact h2)
  have HLEN : Hid (l.length = m + 1) := hide (by obtain ⟨A', c', e, h1, _⟩ := hl; exact h1)
  clear hk ho hlo hl
  generalize hks : (u8s key).toArray = ks at KSZ ⊢
  have KEQ := hide hks.symm
  clear hks
  generalize hsq : sip key ([4] ++ l) = s at hs ⊢
  have HS := hide hsq
  clear hsq
  have R0 := Lib.hid (Is.new w 36 ks); have HB0 := Lib.hid (show Below w.heap.size w (w.alloc (.cells ks 36)) from (Below.refl _ _).alloc (Nat.le_refl _) _)
  go_enter Try.func82, Try.ntmps82
  go_wp2_with fail
  refine Lin.wp_region_lin Lin.keeps (n := 11)  (fun slotq => match slotq with | 5 => Lin.Spec.val (.agg ks) | 6 => OneB 4 | 7 => Lin.Spec.val (.slice A (m + 1) c) | 8 => Lin.Spec.sl ([4] ++ l) (1 + (m + 1)) | 9 => Lin.Spec.val (.int .u64 (s : Int)) | 10 => Lin.Spec.own (w.alloc (.cells ks 36)).heap.size (be s 5) 5 | 4 => Lin.Spec.own (w.alloc (.cells ks 36)).heap.size (be s 5) 5 | _ => Lin.Spec.any) (by kernel_rfl) rfl (by kernel_rfl) ⟨?_, ?_, ?_, ?_, ?_, ?_, ?_, trivial⟩ ?_
  · intro ρ wq hb ho hc hd
    have hC : ∀ v, ρ (.const v) = v := fun v => hc _ (by intro t e; cases e)
    have hF : ∀ f, ρ (.func f) = .func (.func f) #[] #[] := fun f => hc _ (by intro t e; cases e)
    have h2 : ρ (.tmp 2) = .pointer (some ⟨w.heap.size, 0, none⟩) := ho 2 (by kernel_rfl)
    exact Lin.Runs.load_row Lin.keeps 36 (.tmp 2) rfl w.heap.size h2 36 ks (R0.out.below hb R0.out.lt) _ Try.underlying36 rfl (by rw [KSZ.out]; kernel_rfl) rfl
  · intro ρ wq hb ho hc hd
    have hC : ∀ v, ρ (.const v) = v := fun v => hc _ (by intro t e; cases e)
    have hF : ∀ f, ρ (.func f) = .func (.func f) #[] #[] := fun f => hc _ (by intro t e; cases e)
    refine Lin.Runs.made (v := .slice (some ⟨wq.heap.size, 0, none⟩) 1 1) (w' := wq.alloc (.cells #[.int .u8 4] 5)) (by simp [execOp, go_sem, hC]) ((Below.refl _ _).alloc (Nat.le_refl _) _) (oneb_new wq 4)
  · intro ρ wq hb ho hc hd
    have hC : ∀ v, ρ (.const v) = v := fun v => hc _ (by intro t e; cases e)
    have hF : ∀ f, ρ (.func f) = .func (.func f) #[] #[] := fun f => hc _ (by intro t e; cases e)
    have h1 : ρ (.tmp 1) = .slice A (m + 1) c := ho 1 (by kernel_rfl)
    exact Lin.Runs.value Lin.keeps (Lin.exec_move rfl) h1
  · intro ρ wq hb ho hc hd
    have hC : ∀ v, ρ (.const v) = v := fun v => hc _ (by intro t e; cases e)
    have hF : ∀ f, ρ (.func f) = .func (.func f) #[] #[] := fun f => hc _ (by intro t e; cases e)
    have h6 := hd 6 (by kernel_rfl)
    have h7 : ρ (.tmp 7) = .slice A (m + 1) c := hd 7 (by kernel_rfl)
    obtain ⟨b9, e9, hy9⟩ := h6
    obtain ⟨A', c', w', hr, hb2, his⟩ := grow_one (T := 22) Try.underlying22 info8 hy9 (HBY.out.below (HB0.out.trans (hb.mono HB0.out.size))) c HLEN.out
    exact Lin.Runs.made (by unfold execOp; simp only [resolve, invoke, builtin, Sem.run_bind, Sem.run_pure, Result.andThen_ok, List.map_toArray, List.map_cons, List.map_nil, e9, h7, hr]) hb2 his
  · intro ρ wq hb ho hc hd
    have hC : ∀ v, ρ (.const v) = v := fun v => hc _ (by intro t e; cases e)
    have hF : ∀ f, ρ (.func f) = .func (.func f) #[] #[] := fun f => hc _ (by intro t e; cases e)
    have h5 : ρ (.tmp 5) = .agg ks := hd 5 (by kernel_rfl)
    have h8 := hd 8 (by kernel_rfl)
    obtain ⟨A2, c2, e2, l2, b2, r2, r3, _⟩ := h8
    refine Lin.Runs.call Lin.keeps (f := 61) (args := #[.agg ks, .slice A2 (1 + (m + 1)) c2]) (by simp [execOp, go_sem, hF, h5, e2]) ?_
    have h := rsum_any key ([4] ++ l) ks A2 (1 + (m + 1)) c2 wq KEQ.out HK.out HO.out b2 l2 r2 (Octets.app (Octets.ofAll (by decide)) HLO.out) (by omega) r3
    rw [HS.out] at h
    exact h.mono fun e w2 ⟨he, hb2⟩ => ⟨_, he, hb2, rfl⟩
  · intro ρ wq hb ho hc hd
    have hC : ∀ v, ρ (.const v) = v := fun v => hc _ (by intro t e; cases e)
    have hF : ∀ f, ρ (.func f) = .func (.func f) #[] #[] := fun f => hc _ (by intro t e; cases e)
    have h9 : ρ (.tmp 9) = .int .u64 (s : Int) := hd 9 (by kernel_rfl)
    refine Lin.Runs.call Lin.keeps (f := 68) (args := #[.int .u64 (s : Int), .int .i64 5]) (by simp [execOp, go_sem, hC, hF, h9]) ?_
    exact (rb_6 s 5 wq (by omega) hs).mono fun e w9 ⟨A9, c9, h1, h2, h3⟩ => ⟨_, h1, h3, A9, c9, rfl, h2.lower hb.size⟩
  · intro ρ wq hb ho hc hd
    have hC : ∀ v, ρ (.const v) = v := fun v => hc _ (by intro t e; cases e)
    have hF : ∀ f, ρ (.func f) = .func (.func f) #[] #[] := fun f => hc _ (by intro t e; cases e)
    have h10 := hd 10 (by kernel_rfl)
    exact Lin.Runs.value Lin.keeps (Lin.exec_assign rfl) h10
  · intro vals w5 hb2 hv
    obtain ⟨A9, c9, e2, ho9⟩ := hv 4 (by kernel_rfl)
    have HO9 := hide (ho9.lower HB0.out.size)
    have HB5 := Lib.hid (HB0.out.trans (hb2.mono HB0.out.size))
    clear hb2 hv ho9
    simp only [Lin.putAll, Option.getD_some]
    rw [e2]
    clear e2
    go_simp
    generalize vals = vq
    go_wp2_with fail
    go_ret
    exact ⟨_, rfl, HB5.out, A9, c9, rfl, HO9.out⟩
set_option maxHeartbeats 1000000 in
theorem rhidden13 (key : List Int) (hk : key.length = 16) (ho : Octets key) (l : List Int) (m c : Nat) (A : Option Addr) (hlo : Octets l) (hmm : m ≤ 100) (x : Nat) (hx : x < 65536) (w : World) (hl : IsB l (m + 1) (.slice A (m + 1) c) w) : Calls Try.prog 83 #[.agg (u8s key).toArray, .slice A (m + 1) c, .int .u16 (x : Int)] w fun e w' => e = .returned (.int .u16 ((x % 32768 ^^^ mkc key l : Nat) : Int)) ∧ Below w.heap.size w w' := by
  have KSZ := Lib.hid (key_size hk)
  have hs := sip_lt ho ((Octets.ofAll (l := [3]) (by decide)).app hlo)
  unfold mkc
  have HK := Lib.hid hk; have HO := Lib.hid ho; have HLO := Lib.hid hlo
  have HBY : Hid (Bytes w w.heap.size A l) := hide (by obtain ⟨A', c', e, h1, h2, _⟩ := hl; injection e with e1 e2 e3; subst e1; exact h2)
  have HLEN : Hid (l.length = m + 1) := hide (by obtain ⟨A', c', e, h1, _⟩ := hl; exact h1)
  clear hk ho hlo hl
  generalize hks : (u8s key).toArray = ks at KSZ ⊢
  have KEQ := hide hks.symm
  clear hks
  generalize hsq : sip key ([3] ++ l) = s at hs ⊢
  have HS := hide hsq
  clear hsq
  have hy : x % 32768 < 32768 := by omega
  have ht : s % 32768 < 32768 := by omega
  have q1 : (x : Int).tmod 32768 = ((x % 32768 : Nat) : Int) := by rw [Int.tmod_eq_emod_of_nonneg (by omega)]; omega
  have q2 : (x : Int) % 32768 = ((x % 32768 : Nat) : Int) := by omega
  have q3 : (s : Int).tmod 32768 = ((s % 32768 : Nat) : Int) := by rw [Int.tmod_eq_emod_of_nonneg (by omega)]; omega
  have q4 : (s : Int) % 32768 = ((s % 32768 : Nat) : Int) := by omega
  have q6 : bits .xor .u16 ((x % 32768 : Nat) : Int) ((s % 32768 : Nat) : Int) = ((x % 32768 ^^^ s % 32768 : Nat) : Int) := by
    have e := u16_xor ((x % 32768 : Nat) : Int) ((s % 32768 : Nat) : Int) (by omega) (by omega) (by omega) (by omega)
    rw [e, Int.toNat_natCast, Int.toNat_natCast]
  generalize x % 32768 = y at *
  generalize s % 32768 = t at *
  have q5 : IntKind.u16.wrap (t : Int) = (t : Int) := by rw [IntKind.wrap_u16]; omega
  generalize y ^^^ t = z at *
  have R0 := Lib.hid (Is.new w 36 ks); have HB0 := Lib.hid (show Below w.heap.size w (w.alloc (.cells ks 36)) from (Below.refl _ _).alloc (Nat.le_refl _) _)
  go_enter Try.func83, Try.ntmps83
  go_wp2_with fail
  refine Lin.wp_region_lin Lin.keeps (n := 17)  (fun slotq => match slotq with | 7 => Lin.Spec.val (.int .u16 (x : Int)) | 8 => Lin.Spec.val (.int .u16 (y : Int)) | 9 => Lin.Spec.val (.agg ks) | 10 => OneB 3 | 11 => Lin.Spec.val (.slice A (m + 1) c) | 12 => Lin.Spec.sl ([3] ++ l) (1 + (m + 1)) | 13 => Lin.Spec.val (.int .u64 (s : Int)) | 14 => Lin.Spec.val (.int .u64 (t : Int)) | 15 => Lin.Spec.val (.int .u16 (t : Int)) | 16 => Lin.Spec.val (.int .u16 (z : Int)) | 6 => Lin.Spec.val (.int .u16 (z : Int)) | _ => Lin.Spec.any) (by kernel_rfl) rfl (by kernel_rfl) ⟨?_, ?_, ?_, ?_, ?_, ?_, ?_, ?_, ?_, ?_, ?_, trivial⟩ ?_
  · intro ρ wq hb ho hc hd
    have hC : ∀ v, ρ (.const v) = v := fun v => hc _ (by intro t e; cases e)
    have hF : ∀ f, ρ (.func f) = .func (.func f) #[] #[] := fun f => hc _ (by intro t e; cases e)
    have h2 : ρ (.tmp 2) = .int .u16 (x : Int) := ho 2 (by kernel_rfl)
    exact Lin.Runs.value Lin.keeps (Lin.exec_move rfl) h2
  · intro ρ wq hb ho hc hd
    have hC : ∀ v, ρ (.const v) = v := fun v => hc _ (by intro t e; cases e)
    have hF : ∀ f, ρ (.func f) = .func (.func f) #[] #[] := fun f => hc _ (by intro t e; cases e)
    have h7 : ρ (.tmp 7) = .int .u16 (x : Int) := hd 7 (by kernel_rfl)
    exact Lin.Runs.value Lin.keeps (v := .int .u16 (y : Int)) (by simp [execOp, go_sem, hC, h7, q1, q2]) rfl
  · intro ρ wq hb ho hc hd
    have hC : ∀ v, ρ (.const v) = v := fun v => hc _ (by intro t e; cases e)
    have hF : ∀ f, ρ (.func f) = .func (.func f) #[] #[] := fun f => hc _ (by intro t e; cases e)
    have h3 : ρ (.tmp 3) = .pointer (some ⟨w.heap.size, 0, none⟩) := ho 3 (by kernel_rfl)
    exact Lin.Runs.load_row Lin.keeps 36 (.tmp 3) rfl w.heap.size h3 36 ks (R0.out.below hb R0.out.lt) _ Try.underlying36 rfl (by rw [KSZ.out]; kernel_rfl) rfl
  · intro ρ wq hb ho hc hd
    have hC : ∀ v, ρ (.const v) = v := fun v => hc _ (by intro t e; cases e)
    have hF : ∀ f, ρ (.func f) = .func (.func f) #[] #[] := fun f => hc _ (by intro t e; cases e)
    refine Lin.Runs.made (v := .slice (some ⟨wq.heap.size, 0, none⟩) 1 1) (w' := wq.alloc (.cells #[.int .u8 3] 5)) (by simp [execOp, go_sem, hC]) ((Below.refl _ _).alloc (Nat.le_refl _) _) (oneb_new wq 3)
  · intro ρ wq hb ho hc hd
    have hC : ∀ v, ρ (.const v) = v := fun v => hc _ (by intro t e; cases e)
    have hF : ∀ f, ρ (.func f) = .func (.func f) #[] #[] := fun f => hc _ (by intro t e; cases e)
    have h1 : ρ (.tmp 1) = .slice A (m + 1) c := ho 1 (by kernel_rfl)
    exact Lin.Runs.value Lin.keeps (Lin.exec_move rfl) h1
  · intro ρ wq hb ho hc hd
    have hC : ∀ v, ρ (.const v) = v := fun v => hc _ (by intro t e; cases e)
    have hF : ∀ f, ρ (.func f) = .func (.func f) #[] #[] := fun f => hc _ (by intro t e; cases e)
    have h10 := hd 10 (by kernel_rfl)
    have h11 : ρ (.tmp 11) = .slice A (m + 1) c := hd 11 (by kernel_rfl)
    obtain ⟨b9, e9, hy9⟩ := h10
    obtain ⟨A', c', w', hr, hb2, his⟩ := grow_one (T := 22) Try.underlying22 info8 hy9 (HBY.out.below (HB0.out.trans (hb.mono HB0.out.size))) c HLEN.out
    exact Lin.Runs.made (by unfold execOp; simp only [resolve, invoke, builtin, Sem.run_bind, Sem.run_pure, Result.andThen_ok, List.map_toArray, List.map_cons, List.map_nil, e9, h11, hr]) hb2 his
  · intro ρ wq hb ho hc hd
    have hC : ∀ v, ρ (.const v) = v := fun v => hc _ (by intro t e; cases e)
    have hF : ∀ f, ρ (.func f) = .func (.func f) #[] #[] := fun f => hc _ (by intro t e; cases e)
    have h9 : ρ (.tmp 9) = .agg ks := hd 9 (by kernel_rfl)
    have h12 := hd 12 (by kernel_rfl)
    obtain ⟨A2, c2, e2, l2, b2, r2, r3, _⟩ := h12
    refine Lin.Runs.call Lin.keeps (f := 61) (args := #[.agg ks, .slice A2 (1 + (m + 1)) c2]) (by simp [execOp, go_sem, hF, h9, e2]) ?_
    have h := rsum_any key ([3] ++ l) ks A2 (1 + (m + 1)) c2 wq KEQ.out HK.out HO.out b2 l2 r2 (Octets.app (Octets.ofAll (by decide)) HLO.out) (by omega) r3
    rw [HS.out] at h
    exact h.mono fun e w2 ⟨he, hb2⟩ => ⟨_, he, hb2, rfl⟩
  · intro ρ wq hb ho hc hd
    have hC : ∀ v, ρ (.const v) = v := fun v => hc _ (by intro t e; cases e)
    have hF : ∀ f, ρ (.func f) = .func (.func f) #[] #[] := fun f => hc _ (by intro t e; cases e)
    have h13 : ρ (.tmp 13) = .int .u64 (s : Int) := hd 13 (by kernel_rfl)
    exact Lin.Runs.value Lin.keeps (v := .int .u64 (t : Int)) (by simp [execOp, go_sem, hC, h13, q3, q4]) rfl
  · intro ρ wq hb ho hc hd
    have hC : ∀ v, ρ (.const v) = v := fun v => hc _ (by intro t e; cases e)
    have hF : ∀ f, ρ (.func f) = .func (.func f) #[] #[] := fun f => hc _ (by intro t e; cases e)
    have h14 : ρ (.tmp 14) = .int .u64 (t : Int) := hd 14 (by kernel_rfl)
    exact Lin.Runs.value Lin.keeps (v := .int .u16 (t : Int)) (by simp [execOp, go_sem, h14, q5]) rfl
  · intro ρ wq hb ho hc hd
    have hC : ∀ v, ρ (.const v) = v := fun v => hc _ (by intro t e; cases e)
    have hF : ∀ f, ρ (.func f) = .func (.func f) #[] #[] := fun f => hc _ (by intro t e; cases e)
    have h8 : ρ (.tmp 8) = .int .u16 (y : Int) := hd 8 (by kernel_rfl)
    have h15 : ρ (.tmp 15) = .int .u16 (t : Int) := hd 15 (by kernel_rfl)
    exact Lin.Runs.value Lin.keeps (v := .int .u16 (z : Int)) (by simp [execOp, go_sem, h8, h15, q6]) rfl
  · intro ρ wq hb ho hc hd
    have hC : ∀ v, ρ (.const v) = v := fun v => hc _ (by intro t e; cases e)
    have hF : ∀ f, ρ (.func f) = .func (.func f) #[] #[] := fun f => hc _ (by intro t e; cases e)
    have h16 : ρ (.tmp 16) = .int .u16 (z : Int) := hd 16 (by kernel_rfl)
    exact Lin.Runs.value Lin.keeps (Lin.exec_assign rfl) h16
  · intro vals w5 hb2 hv
    have ee : vals 6 = .int .u16 (z : Int) := hv 6 (by kernel_rfl)
    have HB5 := Lib.hid (HB0.out.trans (hb2.mono HB0.out.size))
    clear hb2 hv
    simp only [Lin.putAll, Option.getD_some]
    rw [ee]
    clear ee
    go_simp
    generalize vals = vq
    go_wp2_with fail
    go_ret
    exact ⟨rfl, HB5.out⟩
end Go.Proofs.Ythjkjohmaemmiaa
