/-
  The document's answer Parse of layer 7. Helper of the claim UdpReads. No condition.
-/
import Derived.Test.YtmgendgfdhhgfaaUdp
import Derived.Test.YtmgendgfdhhgfaaGrow
import Derived.IntWalk
namespace Go.Proofs.Ytmgendgfdhhgfaa
open Go.ChangeShapes Go.WideShapes Go.ChangeAt Go.RowKit
set_option linter.unusedSimpArgs false
set_option linter.unusedVariables false
set_option maxRecDepth 100000

set_option maxHeartbeats 1000000 in
theorem ruparse_short (A : Option Addr) (c n : Nat) (w : World) (h8 : n < 8) :
    Calls Try.prog 117 #[.slice A n c] w (Dg w 0 0 0 [] 0 20) := by
  go_enter Try.func117, Try.ntmps117
  go_wp2_with fail
  exact bodyPost_ret (v := .tuple #[dg7 0 0 0 (.slice none 0 0), .int .i64 20]) (by simp [results, Try.results117, go_sem, dg7]) rfl ⟨_, rfl, (Below.refl _ _).alloc (Nat.le_refl _) _, IsB.nil0 _⟩

set_option maxHeartbeats 2000000 in
theorem ruparse_form (A : Option Addr) (c : Nat) (l : List Int) (w : World) (hi : IsB l l.length (.slice A l.length c) w) (ho : Octets l) (hm : l.length ≤ 3000) (h8 : 8 ≤ l.length) (n : Int) (hn : nw l 4 2 = n) (hn8 : n < 8) :
    Calls Try.prog 117 #[.slice A l.length c] w (Dg w 0 0 0 [] 0 21) := by
  have HI := hide hi; have HO := hide ho
  have b4 := nw2_bd (i := 4) (by omega) ho
  rw [hn] at b4
  have HN := hide hn
  clear hi ho hn
  go_enter Try.func117, Try.ntmps117
  go_wp2_with fail
  have hr0 := Is.new w 102 #[.int .u16 0, .int .u16 0, .int .u16 0, .slice none 0 0]
  have hw0 : Below w.heap.size w (w.alloc (.cells #[.int .u16 0, .int .u16 0, .int .u16 0, .slice none 0 0] 102)) := (Below.refl _ _).alloc (Nat.le_refl _) _
  have HI0 := hide (HI.out.st hw0)
  have hlt : w.heap.size < (w.alloc (.cells #[.int .u16 0, .int .u16 0, .int .u16 0, .slice none 0 0] 102)).heap.size := by simp
  generalize w.alloc (.cells #[.int .u16 0, .int .u16 0, .int .u16 0, .slice none 0 0] 102) = W at *
  have HR0 := hide hr0; have HW0 := Lib.hid hw0
  clear hr0 hw0
  refine (get_q 4 2 n HI0.out HO.out (by omega) (by omega) HN.out).mono ?_
  rintro e w1 ⟨rfl, rfl⟩
  have hr4 := HR0.out
  have r0 := hr4.cell 0
  have r1 := hr4.cell 1
  have r2 := hr4.cell 2
  have r3 := hr4.cell 3
  have fr := hr4.free
  have lr := hr4.lt
  simp at r0 r1 r2 r3 fr
  clear hr4
  go_wp2_with fail
  refine bodyPost_ret (v := .tuple #[dg7 0 0 0 (.slice none 0 0), .int .i64 21]) (by simp [results, Try.results117, go_sem, dg7, r0, r1, r2, r3]) rfl ⟨_, rfl, ?_, IsB.nil0 _⟩
  have ob := HW0.out
  repeat' first | with_reducible exact ob | with_reducible apply Below.set1
  all_goals omega

set_option maxHeartbeats 2000000 in
theorem ruparse_long (A : Option Addr) (c : Nat) (l : List Int) (w : World) (hi : IsB l l.length (.slice A l.length c) w) (ho : Octets l) (hm : l.length ≤ 3000) (h8 : 8 ≤ l.length) (n : Int) (hn : nw l 4 2 = n) (hn8 : (l.length : Int) < n) :
    Calls Try.prog 117 #[.slice A l.length c] w (Dg w 0 0 0 [] 0 20) := by
  have HI := hide hi; have HO := hide ho
  have b4 := nw2_bd (i := 4) (by omega) ho
  rw [hn] at b4
  have HN := hide hn
  clear hi ho hn
  go_enter Try.func117, Try.ntmps117
  go_wp2_with fail
  have hr0 := Is.new w 102 #[.int .u16 0, .int .u16 0, .int .u16 0, .slice none 0 0]
  have hw0 : Below w.heap.size w (w.alloc (.cells #[.int .u16 0, .int .u16 0, .int .u16 0, .slice none 0 0] 102)) := (Below.refl _ _).alloc (Nat.le_refl _) _
  have HI0 := hide (HI.out.st hw0)
  have hlt : w.heap.size < (w.alloc (.cells #[.int .u16 0, .int .u16 0, .int .u16 0, .slice none 0 0] 102)).heap.size := by simp
  generalize w.alloc (.cells #[.int .u16 0, .int .u16 0, .int .u16 0, .slice none 0 0] 102) = W at *
  have HR0 := hide hr0; have HW0 := Lib.hid hw0
  clear hr0 hw0
  refine (get_q 4 2 n HI0.out HO.out (by omega) (by omega) HN.out).mono ?_
  rintro e w1 ⟨rfl, rfl⟩
  have hr4 := HR0.out
  have r0 := hr4.cell 0
  have r1 := hr4.cell 1
  have r2 := hr4.cell 2
  have r3 := hr4.cell 3
  have fr := hr4.free
  have lr := hr4.lt
  simp at r0 r1 r2 r3 fr
  clear hr4
  go_wp2_with fail
  refine bodyPost_ret (v := .tuple #[dg7 0 0 0 (.slice none 0 0), .int .i64 20]) (by simp [results, Try.results117, go_sem, dg7, r0, r1, r2, r3]) rfl ⟨_, rfl, ?_, IsB.nil0 _⟩
  have ob := HW0.out
  repeat' first | with_reducible exact ob | with_reducible apply Below.set1
  all_goals omega

/-- A datagram as an operation yields it. -/
def IsD (B : Nat) (s d m : Int) (L : List Int) (n : Nat) (v : Value) (w : World) : Prop := ∃ u, v = dg7 s d m u ∧ OwnP B L n u w
theorem IsD.st {B : Nat} {s d m : Int} {L : List Int} {n : Nat} {v : Value} {w w' : World} (h : IsD B s d m L n v w) (hb : Below w.heap.size w w') : IsD B s d m L n v w' := by
  obtain ⟨u, e, hu⟩ := h; exact ⟨u, e, hu.st hb⟩
def specD (B : Nat) (s d m : Int) (L : List Int) (n : Nat) : Lin.Spec Lin.Keeps := ⟨IsD B s d m L n, IsD.st⟩

set_option maxHeartbeats 2000000 in
theorem ruparse_ok (A : Option Addr) (c : Nat) (l : List Int) (w : World) (hi : IsB l l.length (.slice A l.length c) w) (ho : Octets l) (hm : l.length ≤ 3000) (h8 : 8 ≤ l.length) (k : Nat) (hn : nw l 4 2 = ((8 + k : Nat) : Int)) (hk : 8 + k ≤ l.length) :
    Calls Try.prog 117 #[.slice A l.length c] w (Dg w (nw l 0 2) (nw l 2 2) (nw l 6 2) ((l.drop 8).take k) k 0) := by
  have HI := hide hi; have HO := hide ho
  have b4 := nw2_bd (i := 4) (by omega) ho
  rw [hn] at b4
  have HN := hide hn
  have b0 := nw2_bd (i := 0) (by omega) ho
  have b2 := nw2_bd (i := 2) (by omega) ho
  have b6 := nw2_bd (i := 6) (by omega) ho
  obtain ⟨s, hs⟩ : ∃ s, nw l 0 2 = s := ⟨_, rfl⟩
  obtain ⟨d, hd⟩ : ∃ d, nw l 2 2 = d := ⟨_, rfl⟩
  obtain ⟨m, hmm⟩ : ∃ m, nw l 6 2 = m := ⟨_, rfl⟩
  rw [hs, hd, hmm]
  rw [hs] at b0; rw [hd] at b2; rw [hmm] at b6
  have HS := hide hs; have HD := hide hd; have HM := hide hmm
  obtain ⟨q1, q2⟩ := hi.caps
  unfold maxLen at q2
  have hpart := hi.part (i := 8) (k := k) hk
  obtain ⟨_, _, e9, hpl, hpb, _⟩ := hpart
  injection e9 with e91 e92 e93
  subst e91
  have HPL := Lib.hid hpl
  have HPB0 := Lib.hid hpb
  clear hs hd hmm hpl hpb e92 e93
  clear hi ho hn
  go_enter Try.func117, Try.ntmps117
  go_wp2_with fail
  have hr0 := Is.new w 102 #[.int .u16 0, .int .u16 0, .int .u16 0, .slice none 0 0]
  have hw0 : Below w.heap.size w (w.alloc (.cells #[.int .u16 0, .int .u16 0, .int .u16 0, .slice none 0 0] 102)) := (Below.refl _ _).alloc (Nat.le_refl _) _
  have HI0 := hide (HI.out.st hw0)
  have hlt : w.heap.size < (w.alloc (.cells #[.int .u16 0, .int .u16 0, .int .u16 0, .slice none 0 0] 102)).heap.size := by simp
  generalize w.alloc (.cells #[.int .u16 0, .int .u16 0, .int .u16 0, .slice none 0 0] 102) = W at *
  have HR0 := hide hr0; have HW0 := Lib.hid hw0
  clear hr0 hw0
  refine (get_q 4 2 ((8 + k : Nat) : Int) HI0.out HO.out (by omega) (by omega) HN.out).mono ?_
  rintro e w1 ⟨rfl, rfl⟩
  have HPB := Lib.hid (HPB0.out.below HW0.out)
  have hWW : w.heap.size ≤ W.heap.size := by omega
  have s1 : (0 : Int) ≤ 8 + (k : Int) := by omega
  have s2 : 8 + (k : Int) ≤ (c : Int) := by omega
  have s3 : (8 : Int) ≤ max (8 + (k : Int)) 0 := by omega
  have s4 : (8 + (k : Int)).toNat - 8 = k := by omega
  have hr4 := HR0.out
  have r0 := hr4.cell 0
  have r1 := hr4.cell 1
  have r2 := hr4.cell 2
  have r3 := hr4.cell 3
  have fr := hr4.free
  have lr := hr4.lt
  simp at r0 r1 r2 r3 fr
  clear hr4
  go_wp2_with fail
  refine Lin.wp_region_lin_tail Lin.keeps (n := 35) 15 (fun slotq => match slotq with | 20 => Lin.Spec.val (.slice A l.length c) | 21 => Lin.Spec.val (.int .u64 s) | 22 => Lin.Spec.val (.int .u16 s) | 23 => Lin.Spec.val (.slice A l.length c) | 24 => Lin.Spec.val (.int .u64 d) | 25 => Lin.Spec.val (.int .u16 d) | 26 => Lin.Spec.val (.slice A l.length c) | 27 => Lin.Spec.val (.int .u64 m) | 28 => Lin.Spec.val (.int .u16 m) | 29 => Lin.Spec.noneb W.heap.size | 30 => Lin.Spec.val (.slice A l.length c) | 31 => Lin.Spec.val (.int .i64 (8 + (k : Int))) | 32 => Lin.Spec.val (.slice (if c = 8 then A else A.map (·.add 8)) k (c - 8)) | 33 => Lin.Spec.own W.heap.size ((l.drop 8).take k) k | 34 => specD W.heap.size s d m ((l.drop 8).take k) k | _ => Lin.Spec.any) (by kernel_rfl) rfl (by kernel_rfl) ⟨?_, ?_, ?_, ?_, ?_, ?_, ?_, ?_, ?_, ?_, ?_, ?_, ?_, ?_, ?_, trivial⟩ ?_
  · intro ρ wq hb ho hc hd
    have hC : ∀ v, ρ (.const v) = v := fun v => hc _ (by intro t e; cases e)
    have hF : ∀ f, ρ (.func f) = .func (.func f) #[] #[] := fun f => hc _ (by intro t e; cases e)
    have h0 : ρ (.tmp 0) = .slice A l.length c := ho 0 (by kernel_rfl)
    exact Lin.Runs.value Lin.keeps (Lin.exec_move rfl) h0
  · intro ρ wq hb ho hc hd
    have hC : ∀ v, ρ (.const v) = v := fun v => hc _ (by intro t e; cases e)
    have hF : ∀ f, ρ (.func f) = .func (.func f) #[] #[] := fun f => hc _ (by intro t e; cases e)
    have h20 : ρ (.tmp 20) = .slice A l.length c := hd 20 (by kernel_rfl)
    refine Lin.Runs.call Lin.keeps (f := 63) (args := #[.slice A l.length c, .int .i64 0, .int .i64 2]) (by simp [execOp, go_sem, hC, hF, h20]) ?_
    exact (get_q 0 2 s (HI0.out.st hb) HO.out (by omega) (by omega) HS.out).mono fun e w9 ⟨h1, h2⟩ => ⟨_, h1, by subst h2; exact Below.refl _ _, rfl⟩
  · intro ρ wq hb ho hc hd
    have hC : ∀ v, ρ (.const v) = v := fun v => hc _ (by intro t e; cases e)
    have hF : ∀ f, ρ (.func f) = .func (.func f) #[] #[] := fun f => hc _ (by intro t e; cases e)
    have h21 : ρ (.tmp 21) = .int .u64 s := hd 21 (by kernel_rfl)
    exact Lin.Runs.value Lin.keeps (v := .int .u16 s) (by simp [execOp, go_sem, hC, hF, h21]; first | done | exact IntWalk.u16_in _ (by omega)) rfl
  · intro ρ wq hb ho hc hd
    have hC : ∀ v, ρ (.const v) = v := fun v => hc _ (by intro t e; cases e)
    have hF : ∀ f, ρ (.func f) = .func (.func f) #[] #[] := fun f => hc _ (by intro t e; cases e)
    have h0 : ρ (.tmp 0) = .slice A l.length c := ho 0 (by kernel_rfl)
    exact Lin.Runs.value Lin.keeps (Lin.exec_move rfl) h0
  · intro ρ wq hb ho hc hd
    have hC : ∀ v, ρ (.const v) = v := fun v => hc _ (by intro t e; cases e)
    have hF : ∀ f, ρ (.func f) = .func (.func f) #[] #[] := fun f => hc _ (by intro t e; cases e)
    have h23 : ρ (.tmp 23) = .slice A l.length c := hd 23 (by kernel_rfl)
    refine Lin.Runs.call Lin.keeps (f := 63) (args := #[.slice A l.length c, .int .i64 2, .int .i64 2]) (by simp [execOp, go_sem, hC, hF, h23]) ?_
    exact (get_q 2 2 d (HI0.out.st hb) HO.out (by omega) (by omega) HD.out).mono fun e w9 ⟨h1, h2⟩ => ⟨_, h1, by subst h2; exact Below.refl _ _, rfl⟩
  · intro ρ wq hb ho hc hd
    have hC : ∀ v, ρ (.const v) = v := fun v => hc _ (by intro t e; cases e)
    have hF : ∀ f, ρ (.func f) = .func (.func f) #[] #[] := fun f => hc _ (by intro t e; cases e)
    have h24 : ρ (.tmp 24) = .int .u64 d := hd 24 (by kernel_rfl)
    exact Lin.Runs.value Lin.keeps (v := .int .u16 d) (by simp [execOp, go_sem, hC, hF, h24]; first | done | exact IntWalk.u16_in _ (by omega)) rfl
  · intro ρ wq hb ho hc hd
    have hC : ∀ v, ρ (.const v) = v := fun v => hc _ (by intro t e; cases e)
    have hF : ∀ f, ρ (.func f) = .func (.func f) #[] #[] := fun f => hc _ (by intro t e; cases e)
    have h0 : ρ (.tmp 0) = .slice A l.length c := ho 0 (by kernel_rfl)
    exact Lin.Runs.value Lin.keeps (Lin.exec_move rfl) h0
  · intro ρ wq hb ho hc hd
    have hC : ∀ v, ρ (.const v) = v := fun v => hc _ (by intro t e; cases e)
    have hF : ∀ f, ρ (.func f) = .func (.func f) #[] #[] := fun f => hc _ (by intro t e; cases e)
    have h26 : ρ (.tmp 26) = .slice A l.length c := hd 26 (by kernel_rfl)
    refine Lin.Runs.call Lin.keeps (f := 63) (args := #[.slice A l.length c, .int .i64 6, .int .i64 2]) (by simp [execOp, go_sem, hC, hF, h26]) ?_
    exact (get_q 6 2 m (HI0.out.st hb) HO.out (by omega) (by omega) HM.out).mono fun e w9 ⟨h1, h2⟩ => ⟨_, h1, by subst h2; exact Below.refl _ _, rfl⟩
  · intro ρ wq hb ho hc hd
    have hC : ∀ v, ρ (.const v) = v := fun v => hc _ (by intro t e; cases e)
    have hF : ∀ f, ρ (.func f) = .func (.func f) #[] #[] := fun f => hc _ (by intro t e; cases e)
    have h27 : ρ (.tmp 27) = .int .u64 m := hd 27 (by kernel_rfl)
    exact Lin.Runs.value Lin.keeps (v := .int .u16 m) (by simp [execOp, go_sem, hC, hF, h27]; first | done | exact IntWalk.u16_in _ (by omega)) rfl
  · intro ρ wq hb ho hc hd
    have hC : ∀ v, ρ (.const v) = v := fun v => hc _ (by intro t e; cases e)
    have hF : ∀ f, ρ (.func f) = .func (.func f) #[] #[] := fun f => hc _ (by intro t e; cases e)
    exact Lin.Runs.made (v := .slice (some ⟨wq.heap.size, 0, none⟩) 0 0) (w' := wq.alloc (.cells #[] 5)) (by simp [execOp, go_sem, hC, hF]) ((Below.refl _ _).alloc (Nat.le_refl _) _) (NoneP.new hb.size)
  · intro ρ wq hb ho hc hd
    have hC : ∀ v, ρ (.const v) = v := fun v => hc _ (by intro t e; cases e)
    have hF : ∀ f, ρ (.func f) = .func (.func f) #[] #[] := fun f => hc _ (by intro t e; cases e)
    have h0 : ρ (.tmp 0) = .slice A l.length c := ho 0 (by kernel_rfl)
    exact Lin.Runs.value Lin.keeps (Lin.exec_move rfl) h0
  · intro ρ wq hb ho hc hd
    have hC : ∀ v, ρ (.const v) = v := fun v => hc _ (by intro t e; cases e)
    have hF : ∀ f, ρ (.func f) = .func (.func f) #[] #[] := fun f => hc _ (by intro t e; cases e)
    have h4 : ρ (.tmp 4) = .int .i64 (8 + (k : Int)) := ho 4 (by kernel_rfl)
    exact Lin.Runs.value Lin.keeps (Lin.exec_move rfl) h4
  · intro ρ wq hb ho hc hd
    have hC : ∀ v, ρ (.const v) = v := fun v => hc _ (by intro t e; cases e)
    have hF : ∀ f, ρ (.func f) = .func (.func f) #[] #[] := fun f => hc _ (by intro t e; cases e)
    have h30 : ρ (.tmp 30) = .slice A l.length c := hd 30 (by kernel_rfl)
    have h31 : ρ (.tmp 31) = .int .i64 (8 + (k : Int)) := hd 31 (by kernel_rfl)
    exact Lin.Runs.value Lin.keeps (v := .slice (if c = 8 then A else A.map (·.add 8)) k (c - 8)) (by simp [execOp, go_sem, hC, hF, h30, h31, s1, s2, s3, s4]) rfl
  · intro ρ wq hb ho hc hd
    have hC : ∀ v, ρ (.const v) = v := fun v => hc _ (by intro t e; cases e)
    have hF : ∀ f, ρ (.func f) = .func (.func f) #[] #[] := fun f => hc _ (by intro t e; cases e)
    have h29 := hd 29 (by kernel_rfl)
    have h32 : ρ (.tmp 32) = .slice (if c = 8 then A else A.map (·.add 8)) k (c - 8) := hd 32 (by kernel_rfl)
    obtain ⟨v9, w9, hr, hb2, his⟩ := grow_nil (T := 22) h29 Try.underlying22 info8 (HPB.out.below (hb.mono hWW)) (c - 8) HPL.out (by omega)
    exact Lin.Runs.made (by unfold execOp; simp only [resolve, invoke, builtin, Sem.run_bind, Sem.run_pure, Result.andThen_ok, List.map_toArray, List.map_cons, List.map_nil, h32, hr]) hb2 his
  · intro ρ wq hb ho hc hd
    have hC : ∀ v, ρ (.const v) = v := fun v => hc _ (by intro t e; cases e)
    have hF : ∀ f, ρ (.func f) = .func (.func f) #[] #[] := fun f => hc _ (by intro t e; cases e)
    have h22 : ρ (.tmp 22) = .int .u16 s := hd 22 (by kernel_rfl)
    have h25 : ρ (.tmp 25) = .int .u16 d := hd 25 (by kernel_rfl)
    have h28 : ρ (.tmp 28) = .int .u16 m := hd 28 (by kernel_rfl)
    have h33 := hd 33 (by kernel_rfl)
    obtain ⟨A3, c3, e33⟩ := h33.shape
    exact Lin.Runs.value Lin.keeps (v := dg7 s d m (.slice A3 k c3)) (by simp [execOp, go_sem, hC, hF, h22, h25, h28, e33, dg7]) ⟨_, rfl, by rw [e33] at h33; exact h33⟩
  · intro vals w2 hb2 hv
    obtain ⟨v34, e34, h34⟩ := hv 34 (by kernel_rfl)
    obtain ⟨A3, c3, e33⟩ := h34.shape
    subst e33
    change wpList _ _ _ [_, _] _ _
    simp only [Lin.putAll, Option.getD_some, List.take_succ_cons, List.take_zero, List.drop_succ_cons, List.drop_zero]
    rw [e34]
    unfold dg7
    have hr4 := HR0.out.below hb2 HR0.out.lt
    have HB2 := Lib.hid (HW0.out.trans (hb2.mono HW0.out.size))
    have H34 := hide h34
    clear hv hb2 h34 e34 r0 r1 r2 r3 fr lr
    have r0 := hr4.cell 0
    have r1 := hr4.cell 1
    have r2 := hr4.cell 2
    have r3 := hr4.cell 3
    have fr := hr4.free
    have lr := hr4.lt
    simp at r0 r1 r2 r3 fr
    clear hr4
    go_simp
    generalize vals = vv
    go_wp2_with fail
    refine bodyPost_ret (v := .tuple #[dg7 s d m (.slice A3 k c3), .int .i64 0]) (by simp [results, Try.results117, go_sem, dg7, r0, r1, r2, r3]) rfl ⟨_, rfl, ?_, OwnP.isb (B := W.heap.size) ?_⟩
    · have ob := HB2.out
      repeat' first | with_reducible exact ob | with_reducible apply Below.set1
      all_goals omega
    · have ob := H34.out
      repeat' first | with_reducible exact ob | with_reducible apply OwnP.set1
      all_goals omega
end Go.Proofs.Ytmgendgfdhhgfaa
