/-
  TurnTwo (P18.3) answers true and leaves its arguments as they were, for all candidates and any two draws: Two names the candidate that the document names. No condition.
-/
import Derived.Test.YtkebgkjopfdafaaRows
import Derived.WalkKit
import Derived.ProofKit
import Derived.OpenShut
import Derived.ShutString
import Derived.ChangeOld
import Derived.Below
import Derived.Test.YtkebgkjopfdafaaTwo
namespace Go.Proofs.Ytkebgkjopfdafaa.turnTwo
open Go.ChangeShapes Go.WideShapes Go.ChangeAt Go.RowKit
open Go.ChangeMaps (open_string shut_string)
open Go.Proofs.Ytkebgkjopfdafaa
set_option maxRecDepth 100000
set_option linter.unusedVariables false

theorem own : ownKnob Try.prog.godebug = none := by kernel_rfl
theorem laidOut : laidOutB Try.prog = true := by kernel_rfl


theorem cells_at {w : World} {B : Nat} {A : Option Addr} {l : List Cand} {b off k : Nat} (hA : A = some ⟨b, off, none⟩) (h : Cands w B A l) (hk : k < l.length) :
    (w.cell? ⟨b, off + k * 4, none⟩ = some (.int .i64 (nth l k).slot) ∧ w.cell? ⟨b, off + k * 4 + 1, none⟩ = some (.int .i64 (nth l k).backend) ∧ w.cell? ⟨b, off + k * 4 + 2, none⟩ = some (.int .i64 (nth l k).weight) ∧ w.cell? ⟨b, off + k * 4 + 3, none⟩ = some (.int .u32 (nth l k).load)) ∧ b < B := by
  obtain ⟨b', off', e, hb, hc⟩ := h (by omega)
  rw [hA] at e; injection e with e; injection e with e1 e2; subst e1; subst e2
  exact ⟨cell4 hk hc, hb⟩
/-- In candidates that ascend, the earlier one is at the smaller slot. -/
theorem slots_up : ∀ (l : List Cand) (last : Int), rightFrom last l = true → ∀ (i k : Nat), i < k → k < l.length → (nth l i).slot < (nth l k).slot ∧ last < (nth l i).slot := by
  intro l
  induction l with
  | nil => intro last h i k hik hk; simp at hk
  | cons c l ih =>
    intro last h i k hik hk
    have hc : ¬ (c.slot ≤ last ∨ 4095 < c.slot ∨ c.weight < 0 ∨ 100 < c.weight) := by
      intro hc; rw [right_no hc] at h; cases h
    rw [right_go hc] at h
    obtain ⟨k, rfl⟩ : ∃ k', k = k' + 1 := ⟨k - 1, by omega⟩
    have hk' : k < l.length := by simpa using hk
    have e2 : nth (c :: l) (k + 1) = nth l k := by simp [nth]
    cases i with
    | zero =>
      have e1 : nth (c :: l) 0 = c := by simp [nth]
      rw [e1, e2]
      refine ⟨?_, by omega⟩
      by_cases h0 : 0 < k
      · have := ih c.slot h 0 k h0 hk'; omega
      · obtain rfl : k = 0 := by omega
        cases l with
        | nil => simp at hk'
        | cons d l =>
          have e3 : nth (d :: l) 0 = d := by simp [nth]
          rw [e3]
          have hd : ¬ (d.slot ≤ c.slot ∨ 4095 < d.slot ∨ d.weight < 0 ∨ 100 < d.weight) := by
            intro hd; rw [right_no hd] at h; cases h
          omega
    | succ i =>
      have e1 : nth (c :: l) (i + 1) = nth l i := by simp [nth]
      rw [e1, e2]
      have := ih c.slot h i k (by omega) hk'
      omega
/-- Both ways to choose lead to one candidate. -/
theorem two_same {l : List Cand} (hr : rightB l = true) {i k : Nat} (hi : i < l.length) (hk : k < l.length) :
    ((nth l k).load < (nth l i).load ∨ ((nth l k).load = (nth l i).load ∧ (nth l k).slot < (nth l i).slot)) ∧ twoIx l i k = k ∨
    ¬ ((nth l k).load < (nth l i).load ∨ ((nth l k).load = (nth l i).load ∧ (nth l k).slot < (nth l i).slot)) ∧ twoIx l i k = i := by
  unfold twoIx
  by_cases h1 : (nth l i).load < (nth l k).load
  · right; rw [if_pos h1]; exact ⟨by omega, rfl⟩
  · rw [if_neg h1]
    by_cases h2 : (nth l k).load < (nth l i).load
    · left; rw [if_pos h2]; exact ⟨by omega, rfl⟩
    · rw [if_neg h2]
      rcases Nat.lt_trichotomy i k with h | rfl | h
      · have := (slots_up l (-1) hr i k h hk).1
        right; exact ⟨by omega, by omega⟩
      · right; exact ⟨by omega, by omega⟩
      · have := (slots_up l (-1) hr k i h hi).1
        left; exact ⟨by omega, by omega⟩
theorem two_any (A : Option Addr) (c : Nat) (l : List Cand) (a b i k : Nat) (w : World) (hr : rightB l = true) (h : Cands w w.heap.size A l) (hm : l.length ≤ 1000) (h0 : 0 < l.length) (ha : a ≤ 4294967295) (hb : b ≤ 4294967295) (hi : a % l.length = i) (hk : b % l.length = k) :
    Calls Try.prog 18 #[.slice A l.length c, .int .u32 (a : Int), .int .u32 (b : Int)] w fun e w' => e = .returned (.tuple #[(nth l (twoIx l i k)).val, .bool true]) ∧ Below w.heap.size w w' := by
  have hil : i < l.length := by subst hi; exact Nat.mod_lt _ h0
  have hkl : k < l.length := by subst hk; exact Nat.mod_lt _ h0
  rcases two_same hr hil hkl with ⟨h1, h2⟩ | ⟨h1, h2⟩
  · rw [h2]; exact two_y A c l a b i k w h hm h0 ha hb hi hk h1
  · rw [h2]; exact two_x A c l a b i k w h hm h0 ha hb hi hk h1
theorem ix_lt {l : List Cand} {i k : Nat} (hi : i < l.length) (hk : k < l.length) : twoIx l i k < l.length := by
  unfold twoIx; split
  · exact hi
  · split
    · exact hk
    · omega
set_option maxHeartbeats 1000000 in
theorem two_nil (A : Option Addr) (c n : Nat) (a b : Int) (w : World) (hn : n = 0) :
    Calls Try.prog 18 #[.slice A n c, .int .u32 a, .int .u32 b] w fun e w' => e = .returned (.tuple #[.agg #[.int .i64 0, .int .i64 0, .int .i64 0, .int .u32 0], .bool false]) ∧ Below w.heap.size w w' := by
  subst hn
  go_enter Try.func18, Try.ntmps18
  go_wp2_with fail
  exact bodyPost_ret (v := .tuple #[.agg #[.int .i64 0, .int .i64 0, .int .i64 0, .int .u32 0], .bool false]) (by simp [results, Try.results18, go_sem]) rfl ⟨rfl, (Below.refl _ _).alloc (Nat.le_refl _) _⟩
set_option maxHeartbeats 1000000 in
theorem walk_none (A : Option Addr) (c : Nat) (l : List Cand) (a b : Int) (w : World) (h : Cands w w.heap.size A l) (hm : l.length ≤ maxLen) (hn : 70 < l.length ∨ rightB l = false) :
    Calls Try.prog 3 #[.slice A l.length c, .int .u32 a, .int .u32 b] w fun e w' => e = .returned (.bool true) ∧ Below w.heap.size w w' := by
  by_cases h7 : 70 < l.length
  · unfold maxLen at hm
    clear h hn
    go_enter Try.func3, Try.ntmps3
    go_wp2_with fail
    refine (awake18 _).mono ?_
    rintro e w1 ⟨rfl, hb⟩
    go_wp2_with fail
    go_ret
    exact ⟨rfl, hb⟩
  · have hr : rightB l = false := by rcases hn with h | h; exact absurd h h7; exact h
    have HR := Lib.hid hr; have HA := Lib.hid h
    clear hn h hr
    go_enter Try.func3, Try.ntmps3
    go_wp2_with fail
    refine (rright_any A c l _ w HA.out hm).mono ?_
    rintro e w1 ⟨rfl, rfl⟩
    rw [HR.out]
    go_wp2_with fail
    refine (awake18 _).mono ?_
    rintro e w1 ⟨rfl, hb⟩
    go_wp2_with fail
    go_ret
    exact ⟨rfl, hb⟩
set_option maxHeartbeats 2000000 in
theorem walk_nil (A : Option Addr) (c : Nat) (l : List Cand) (a b : Int) (w : World) (h : Cands w w.heap.size A l) (hn : l = []) :
    Calls Try.prog 3 #[.slice A l.length c, .int .u32 a, .int .u32 b] w fun e w' => e = .returned (.bool true) ∧ Below w.heap.size w w' := by
  have HN := Lib.hid hn; have HA := Lib.hid h
  have HZ := Lib.hid (show l.length = 0 by rw [hn]; rfl)
  have hz : l.length ≤ 0 := by rw [hn]; exact Nat.le_refl _
  clear hn h
  go_enter Try.func3, Try.ntmps3
  go_wp2_with fail
  refine (rright_any A c l _ w HA.out (by unfold maxLen; omega)).mono ?_
  rintro e w1 ⟨rfl, rfl⟩
  rw [show rightB l = true from by rw [HN.out]; rfl]
  go_wp2_with fail
  refine (to_any A c l w HA.out (by omega)).mono ?_
  rintro e w1 ⟨v, rfl, ho, hb1⟩
  obtain ⟨X, cx, rfl⟩ := own_shape ho
  have HB1 := Lib.hid hb1
  clear ho hb1
  go_wp2_with fail
  refine (two_nil X cx l.length a b w1 HZ.out).mono ?_
  rintro e w2 ⟨rfl, hb2⟩
  have HB2 := Lib.hid (HB1.out.trans (hb2.mono HB1.out.size))
  clear hb2 HB1
  go_wp2_with fail
  refine (awake18 _).mono ?_
  rintro e w3 ⟨rfl, hb3⟩
  have HB3 := Lib.hid ((HB2.out.alloc HB2.out.size _).trans (hb3.mono (by have := HB2.out.size; simp; omega)))
  clear hb3
  go_wp2_with fail
  go_ret
  exact ⟨rfl, HB3.out⟩
set_option maxHeartbeats 4000000 in
theorem walk_some (A : Option Addr) (c : Nat) (l : List Cand) (a b : Nat) (w : World) (h : Cands w w.heap.size A l) (hm : l.length ≤ 70) (hr : rightB l = true) (h0 : 0 < l.length) (ha : a ≤ 4294967295) (hb0 : b ≤ 4294967295) :
    Calls Try.prog 3 #[.slice A l.length c, .int .u32 (a : Int), .int .u32 (b : Int)] w fun e w' => e = .returned (.bool true) ∧ Below w.heap.size w w' := by
  obtain ⟨i, hi⟩ : ∃ i, a % l.length = i := ⟨_, rfl⟩
  obtain ⟨k, hk⟩ : ∃ k, b % l.length = k := ⟨_, rfl⟩
  obtain ⟨p, hp⟩ : ∃ p, twoIx l i k = p := ⟨_, rfl⟩
  have hpl : p < l.length := by
    subst hp; exact ix_lt (by subst hi; exact Nat.mod_lt _ h0) (by subst hk; exact Nat.mod_lt _ h0)
  have HI := Lib.hid hi; have HK := Lib.hid hk; have HP := Lib.hid hp
  have HR := Lib.hid hr; have HL := Lib.hid h
  have nz : ((l.length : Int) == 0) = false := by rw [beq_eq_false_iff_ne]; omega
  have p0 : (0 : Int) ≤ (p : Int) := by omega
  have pl : (p : Int) < (l.length : Int) := by omega
  clear hi hk hp hr h
  go_enter Try.func3, Try.ntmps3
  go_wp2_with fail
  refine (rright_any A c l _ w HL.out (by unfold maxLen; omega)).mono ?_
  rintro e w1 ⟨rfl, rfl⟩
  rw [HR.out]
  go_wp2_with fail
  refine (to_any A c l w HL.out (by omega)).mono ?_
  rintro e w1 ⟨v, rfl, ho, hb1⟩
  obtain ⟨X, cx, rfl⟩ := own_shape ho
  have hX := cands_of_own ho
  have HB1 := Lib.hid hb1
  obtain ⟨bx, ox, rfl, lx1, _⟩ := id hX h0
  have HX1 := Lib.hid hX
  clear ho hb1 hX
  go_wp2_with fail
  refine (two_any _ cx l a b i k w1 HR.out HX1.out (by omega) h0 ha hb0 HI.out HK.out).mono ?_
  rintro e w2 ⟨rfl, hb2⟩
  rw [HP.out]
  have hx2 := ((cells_at rfl (HX1.out.below hb2) hpl).1)
  have hz2 := hb2.size
  have HB2 := Lib.hid (HB1.out.trans (hb2.mono HB1.out.size))
  unfold Cand.val
  clear hb2 HX1 HB1
  generalize nth l p = q at *
  have HX2 := Lib.hid hx2
  clear hx2
  go_wp2_with fail
  have HB := Lib.hid (HB2.out.alloc HB2.out.size (.cells #[.int .i64 q.slot, .int .i64 q.backend, .int .i64 q.weight, .int .u32 q.load] 29))
  have hg := Is.new w2 29 #[.int .i64 q.slot, .int .i64 q.backend, .int .i64 q.weight, .int .u32 q.load]
  have lx2 : bx < w2.heap.size := by omega
  have HG := Lib.hid (show _ ∧ _ ∧ _ ∧ _ from ⟨hg.cell 0, hg.cell 1, hg.cell 2, hg.cell 3⟩)
  have hbz : Below w2.heap.size w2 (w2.alloc (.cells #[.int .i64 q.slot, .int .i64 q.backend, .int .i64 q.weight, .int .u32 q.load] 29)) := (Below.refl _ _).alloc (Nat.le_refl _) _
  have HX := Lib.hid (show _ ∧ _ ∧ _ ∧ _ from ⟨(hbz.cell (p := ⟨bx, ox + p * 4, none⟩) lx2).trans HX2.out.1, (hbz.cell (p := ⟨bx, ox + p * 4 + 1, none⟩) lx2).trans HX2.out.2.1, (hbz.cell (p := ⟨bx, ox + p * 4 + 2, none⟩) lx2).trans HX2.out.2.2.1, (hbz.cell (p := ⟨bx, ox + p * 4 + 3, none⟩) lx2).trans HX2.out.2.2.2⟩)
  have lg := hg.lt
  have lx : bx < (w2.alloc (.cells #[.int .i64 q.slot, .int .i64 q.backend, .int .i64 q.weight, .int .u32 q.load] 29)).heap.size := Nat.lt_of_lt_of_le lx2 hbz.size
  clear hg hbz HX2 lx2 HB2 hz2 lx1
  generalize hgc : w2.heap.size = gc at *
  generalize w2.alloc (.cells #[.int .i64 q.slot, .int .i64 q.backend, .int .i64 q.weight, .int .u32 q.load] 29) = w3 at *
  clear hgc
  refine Lin.wp_region_lin Lin.keeps (n := 56)  (fun slotq => match slotq with | 41 => Lin.Spec.val (.bool true) | 42 => Lin.Spec.val (.bool true) | 43 => Lin.Spec.val (.agg #[.int .i64 q.slot, .int .i64 q.backend, .int .i64 q.weight, .int .u32 q.load]) | 44 => Lin.Spec.val (.slice (some ⟨bx, ox, none⟩) l.length cx) | 45 => Lin.Spec.val (.slice A l.length c) | 46 => Lin.Spec.val (.int .u32 (a : Int)) | 47 => Lin.Spec.val (.int .u32 (b : Int)) | 48 => Lin.Spec.val (.int .i64 (p : Int)) | 49 => Lin.Spec.val (.pointer (some ⟨bx, ox + p * 4, none⟩)) | 50 => Lin.Spec.val (.agg #[.int .i64 q.slot, .int .i64 q.backend, .int .i64 q.weight, .int .u32 q.load]) | 51 => Lin.Spec.val (.bool true) | 52 => Lin.Spec.val (.bool true) | 53 => Lin.Spec.val (.bool true) | 54 => Lin.Spec.val (.bool true) | 55 => Lin.Spec.val (.bool true) | 6 => Lin.Spec.val (.bool true) | _ => Lin.Spec.any) (by kernel_rfl) rfl (by kernel_rfl) ⟨?_, ?_, ?_, ?_, ?_, ?_, ?_, ?_, ?_, ?_, ?_, ?_, ?_, ?_, ?_, ?_, trivial⟩ ?_
  · intro ρ wq hb ho hc hd
    have hC : ∀ v, ρ (.const v) = v := fun v => hc _ (by intro t e; cases e)
    have hF : ∀ f, ρ (.func f) = .func (.func f) #[] #[] := fun f => hc _ (by intro t e; cases e)
    have h9 : ρ (.tmp 9) = .bool true := ho 9 (by kernel_rfl)
    exact Lin.Runs.value Lin.keeps (Lin.exec_move rfl) h9
  · intro ρ wq hb ho hc hd
    have hC : ∀ v, ρ (.const v) = v := fun v => hc _ (by intro t e; cases e)
    have hF : ∀ f, ρ (.func f) = .func (.func f) #[] #[] := fun f => hc _ (by intro t e; cases e)
    have h41 : ρ (.tmp 41) = .bool true := hd 41 (by kernel_rfl)
    exact Lin.Runs.value Lin.keeps (Lin.exec_move rfl) h41
  · intro ρ wq hb ho hc hd
    have hC : ∀ v, ρ (.const v) = v := fun v => hc _ (by intro t e; cases e)
    have hF : ∀ f, ρ (.func f) = .func (.func f) #[] #[] := fun f => hc _ (by intro t e; cases e)
    intro t ht; cases (show some 42 = some t from ht)
    refine ⟨fun _ => ?_, fun hn => absurd (hd 42 (by kernel_rfl)) hn⟩
    have h8 : ρ (.tmp 8) = .pointer (some ⟨gc, 0, none⟩) := ho 8 (by kernel_rfl)
    obtain ⟨G0, G1, G2, G3⟩ := HG.out
    have g0 := (hb.cell (p := ⟨gc, 0, none⟩) lg).trans G0
    have g1 := (hb.cell (p := ⟨gc, 1, none⟩) lg).trans G1
    have g2 := (hb.cell (p := ⟨gc, 2, none⟩) lg).trans G2
    have g3 := (hb.cell (p := ⟨gc, 3, none⟩) lg).trans G3
    exact Lin.Runs.value Lin.keeps (v := .agg #[.int .i64 q.slot, .int .i64 q.backend, .int .i64 q.weight, .int .u32 q.load]) (by simp [execOp, go_sem, hC, hF, h8, g0, g1, g2, g3]) rfl
  · intro ρ wq hb ho hc hd
    have hC : ∀ v, ρ (.const v) = v := fun v => hc _ (by intro t e; cases e)
    have hF : ∀ f, ρ (.func f) = .func (.func f) #[] #[] := fun f => hc _ (by intro t e; cases e)
    intro t ht; cases (show some 42 = some t from ht)
    refine ⟨fun _ => ?_, fun hn => absurd (hd 42 (by kernel_rfl)) hn⟩
    have h7 : ρ (.tmp 7) = .slice (some ⟨bx, ox, none⟩) l.length cx := ho 7 (by kernel_rfl)
    exact Lin.Runs.value Lin.keeps (Lin.exec_move rfl) h7
  · intro ρ wq hb ho hc hd
    have hC : ∀ v, ρ (.const v) = v := fun v => hc _ (by intro t e; cases e)
    have hF : ∀ f, ρ (.func f) = .func (.func f) #[] #[] := fun f => hc _ (by intro t e; cases e)
    intro t ht; cases (show some 42 = some t from ht)
    refine ⟨fun _ => ?_, fun hn => absurd (hd 42 (by kernel_rfl)) hn⟩
    have h0 : ρ (.tmp 0) = .slice A l.length c := ho 0 (by kernel_rfl)
    exact Lin.Runs.value Lin.keeps (Lin.exec_move rfl) h0
  · intro ρ wq hb ho hc hd
    have hC : ∀ v, ρ (.const v) = v := fun v => hc _ (by intro t e; cases e)
    have hF : ∀ f, ρ (.func f) = .func (.func f) #[] #[] := fun f => hc _ (by intro t e; cases e)
    intro t ht; cases (show some 42 = some t from ht)
    refine ⟨fun _ => ?_, fun hn => absurd (hd 42 (by kernel_rfl)) hn⟩
    have h1 : ρ (.tmp 1) = .int .u32 (a : Int) := ho 1 (by kernel_rfl)
    exact Lin.Runs.value Lin.keeps (Lin.exec_move rfl) h1
  · intro ρ wq hb ho hc hd
    have hC : ∀ v, ρ (.const v) = v := fun v => hc _ (by intro t e; cases e)
    have hF : ∀ f, ρ (.func f) = .func (.func f) #[] #[] := fun f => hc _ (by intro t e; cases e)
    intro t ht; cases (show some 42 = some t from ht)
    refine ⟨fun _ => ?_, fun hn => absurd (hd 42 (by kernel_rfl)) hn⟩
    have h2 : ρ (.tmp 2) = .int .u32 (b : Int) := ho 2 (by kernel_rfl)
    exact Lin.Runs.value Lin.keeps (Lin.exec_move rfl) h2
  · intro ρ wq hb ho hc hd
    have hC : ∀ v, ρ (.const v) = v := fun v => hc _ (by intro t e; cases e)
    have hF : ∀ f, ρ (.func f) = .func (.func f) #[] #[] := fun f => hc _ (by intro t e; cases e)
    intro t ht; cases (show some 42 = some t from ht)
    refine ⟨fun _ => ?_, fun hn => absurd (hd 42 (by kernel_rfl)) hn⟩
    have h45 : ρ (.tmp 45) = .slice A l.length c := hd 45 (by kernel_rfl)
    have h46 : ρ (.tmp 46) = .int .u32 (a : Int) := hd 46 (by kernel_rfl)
    have h47 : ρ (.tmp 47) = .int .u32 (b : Int) := hd 47 (by kernel_rfl)
    refine Lin.Runs.call Lin.keeps (f := 19) (args := #[.slice A l.length c, .int .u32 (a : Int), .int .u32 (b : Int)]) (by simp [execOp, go_sem, hC, hF, h45, h46, h47]) ?_
    refine (rtwo_any A c l a b i k wq (((HL.out.below (HB.out.trans (hb.mono HB.out.size))).more (HB.out.trans (hb.mono HB.out.size)).size)) (by omega) h0 ha hb0 HI.out HK.out).mono ?_
    rintro e w9 ⟨rfl, hb9⟩
    exact ⟨_, rfl, hb9, by show Value.int .i64 _ = Value.int .i64 _; rw [HP.out]⟩
  · intro ρ wq hb ho hc hd
    have hC : ∀ v, ρ (.const v) = v := fun v => hc _ (by intro t e; cases e)
    have hF : ∀ f, ρ (.func f) = .func (.func f) #[] #[] := fun f => hc _ (by intro t e; cases e)
    intro t ht; cases (show some 42 = some t from ht)
    refine ⟨fun _ => ?_, fun hn => absurd (hd 42 (by kernel_rfl)) hn⟩
    have h44 : ρ (.tmp 44) = .slice (some ⟨bx, ox, none⟩) l.length cx := hd 44 (by kernel_rfl)
    have h48 : ρ (.tmp 48) = .int .i64 (p : Int) := hd 48 (by kernel_rfl)
    exact Lin.Runs.value Lin.keeps (v := .pointer (some ⟨bx, ox + p * 4, none⟩)) (by simp [execOp, go_sem, hC, hF, h44, h48, p0, pl]) rfl
  · intro ρ wq hb ho hc hd
    have hC : ∀ v, ρ (.const v) = v := fun v => hc _ (by intro t e; cases e)
    have hF : ∀ f, ρ (.func f) = .func (.func f) #[] #[] := fun f => hc _ (by intro t e; cases e)
    intro t ht; cases (show some 42 = some t from ht)
    refine ⟨fun _ => ?_, fun hn => absurd (hd 42 (by kernel_rfl)) hn⟩
    have h49 : ρ (.tmp 49) = .pointer (some ⟨bx, ox + p * 4, none⟩) := hd 49 (by kernel_rfl)
    obtain ⟨X0, X1, X2, X3⟩ := HX.out
    have x0 := (hb.cell (p := ⟨bx, ox + p * 4, none⟩) lx).trans X0
    have x1 := (hb.cell (p := ⟨bx, ox + p * 4 + 1, none⟩) lx).trans X1
    have x2 := (hb.cell (p := ⟨bx, ox + p * 4 + 2, none⟩) lx).trans X2
    have x3 := (hb.cell (p := ⟨bx, ox + p * 4 + 3, none⟩) lx).trans X3
    exact Lin.Runs.value Lin.keeps (v := .agg #[.int .i64 q.slot, .int .i64 q.backend, .int .i64 q.weight, .int .u32 q.load]) (by simp [execOp, go_sem, hC, hF, h49, x0, x1, x2, x3]) rfl
  · intro ρ wq hb ho hc hd
    have hC : ∀ v, ρ (.const v) = v := fun v => hc _ (by intro t e; cases e)
    have hF : ∀ f, ρ (.func f) = .func (.func f) #[] #[] := fun f => hc _ (by intro t e; cases e)
    intro t ht; cases (show some 42 = some t from ht)
    refine ⟨fun _ => ?_, fun hn => absurd (hd 42 (by kernel_rfl)) hn⟩
    have h43 : ρ (.tmp 43) = .agg #[.int .i64 q.slot, .int .i64 q.backend, .int .i64 q.weight, .int .u32 q.load] := hd 43 (by kernel_rfl)
    have h50 : ρ (.tmp 50) = .agg #[.int .i64 q.slot, .int .i64 q.backend, .int .i64 q.weight, .int .u32 q.load] := hd 50 (by kernel_rfl)
    exact Lin.Runs.value Lin.keeps (v := .bool true) (by simp [execOp, go_sem, hC, hF, h43, h50]) rfl
  · intro ρ wq hb ho hc hd
    have hC : ∀ v, ρ (.const v) = v := fun v => hc _ (by intro t e; cases e)
    have hF : ∀ f, ρ (.func f) = .func (.func f) #[] #[] := fun f => hc _ (by intro t e; cases e)
    have h42 : ρ (.tmp 42) = .bool true := hd 42 (by kernel_rfl)
    have h51 : ρ (.tmp 51) = .bool true := hd 51 (by kernel_rfl)
    exact Lin.Runs.value Lin.keeps (v := .bool true) (by simp [execOp, go_sem, hC, hF, h42, h51]) rfl
  · intro ρ wq hb ho hc hd
    have hC : ∀ v, ρ (.const v) = v := fun v => hc _ (by intro t e; cases e)
    have hF : ∀ f, ρ (.func f) = .func (.func f) #[] #[] := fun f => hc _ (by intro t e; cases e)
    have h52 : ρ (.tmp 52) = .bool true := hd 52 (by kernel_rfl)
    exact Lin.Runs.value Lin.keeps (Lin.exec_move rfl) h52
  · intro ρ wq hb ho hc hd
    have hC : ∀ v, ρ (.const v) = v := fun v => hc _ (by intro t e; cases e)
    have hF : ∀ f, ρ (.func f) = .func (.func f) #[] #[] := fun f => hc _ (by intro t e; cases e)
    intro t ht; cases (show some 53 = some t from ht)
    refine ⟨fun _ => ?_, fun hn => absurd (hd 53 (by kernel_rfl)) hn⟩
    refine Lin.Runs.call Lin.keeps (f := 16) (args := #[]) (by simp [execOp, go_sem, hC, hF]) ?_
    refine (awake18 wq).mono ?_
    rintro e w9 ⟨rfl, hb9⟩
    exact ⟨_, rfl, hb9, rfl⟩
  · intro ρ wq hb ho hc hd
    have hC : ∀ v, ρ (.const v) = v := fun v => hc _ (by intro t e; cases e)
    have hF : ∀ f, ρ (.func f) = .func (.func f) #[] #[] := fun f => hc _ (by intro t e; cases e)
    have h53 : ρ (.tmp 53) = .bool true := hd 53 (by kernel_rfl)
    have h54 : ρ (.tmp 54) = .bool true := hd 54 (by kernel_rfl)
    exact Lin.Runs.value Lin.keeps (v := .bool true) (by simp [execOp, go_sem, hC, hF, h53, h54]) rfl
  · intro ρ wq hb ho hc hd
    have hC : ∀ v, ρ (.const v) = v := fun v => hc _ (by intro t e; cases e)
    have hF : ∀ f, ρ (.func f) = .func (.func f) #[] #[] := fun f => hc _ (by intro t e; cases e)
    have h55 : ρ (.tmp 55) = .bool true := hd 55 (by kernel_rfl)
    exact Lin.Runs.value Lin.keeps (Lin.exec_assign rfl) h55
  · intro vals w9 hb9 hv
    have e6 : vals 6 = .bool true := hv 6 (by kernel_rfl)
    simp only [Lin.putAll, Option.getD_some]
    rw [e6]
    have HB9 := Lib.hid (HB.out.trans (hb9.mono HB.out.size))
    clear hv hb9
    go_simp
    generalize vals = vv
    go_wp2_with fail
    go_ret
    exact ⟨rfl, HB9.out⟩

theorem walk (A : Option Addr) (c : Nat) (l : List Cand) (a b : Int) (w : World) (h : Cands w w.heap.size A l) (hm : l.length ≤ maxLen) (a0 : 0 ≤ a) (a1 : a < 4294967296) (b0 : 0 ≤ b) (b1 : b < 4294967296) :
    Calls Try.prog 3 #[.slice A l.length c, .int .u32 a, .int .u32 b] w fun e w' => e = .returned (.bool true) ∧ Below w.heap.size w w' := by
  by_cases h1 : 70 < l.length
  · exact walk_none A c l a b w h hm (.inl h1)
  · cases hr : rightB l with
    | false => exact walk_none A c l a b w h hm (.inr hr)
    | true =>
      by_cases h0 : 0 < l.length
      · obtain ⟨x, rfl⟩ := Int.eq_ofNat_of_zero_le a0
        obtain ⟨y, rfl⟩ := Int.eq_ofNat_of_zero_le b0
        exact walk_some A c l x y w h (by omega) hr h0 (by omega) (by omega)
      · exact walk_nil A c l a b w h (List.eq_nil_of_length_eq_zero (by omega))

/-! ### The step from the walk to the row -/
set_option maxRecDepth 100000 in
theorem lifted (os : Os) (started : os.Started) (H : Type) (enc : TypeId × Value → H) :
    ReturnsInHanded {} Try.checked os 3 .any (Rows.turnTwoSpec.pre6 enc Try.prog Try.f3 Rows.turnTwoRow.domain false) (Rows.turnTwoSpec.post enc Try.prog Try.f3 false true false false) := by
  refine returnsInHanded_of_change (C := Try.checked) own started (by kernel_rfl) Try.func3
    (ChangeSpec.witness6 (enc := enc) (C := Try.checked) false ⟨#[], #[.slice none 0 0, .int .u32 0, .int .u32 0], []⟩ 8 (by kernel_rfl) (by kernel_rfl) (by kernel_rfl) (by kernel_rfl)) ?_
  intro W base args ds gs before hval0 hW hcnd _
  have hval : ∀ (j : Nat) t v, Try.f3.params[j]? = some t → args[j]? = some v → Value.okWide Try.prog W .any base t v := hval0
  have hW' := hW
  obtain ⟨p, q, hA0, hV, rfl, hfz, hnd⟩ := hW
  have hA : DataW.TrodAll enc Try.prog W 0 (fun _ => true) true Try.f3.params.toList args.toList ds p := hA0
  rw [Try.params3] at hA hval
  obtain ⟨v0, vs0, d0, ds0, p0, q0, hargs, rfl, rfl, h0, r0⟩ := trodAll_cons hA
  obtain ⟨v1, vs1, d1, ds1, p1, q1, rfl, rfl, rfl, h1, r1⟩ := trodAll_cons r0
  obtain ⟨v2, vs2, d2, ds2, p2, q2, rfl, rfl, rfl, h2, r2⟩ := trodAll_cons r1
  obtain ⟨rfl, rfl, rfl⟩ := trodAll_nil r2
  obtain rfl : args = #[v0, v1, v2] := by cases args; simp_all
  obtain ⟨rfl, rfl⟩ := trodVars_none hV
  have k0 := h0
  have lt0 : ∀ x ∈ p0, x.block < W.heap.size := by obtain ⟨m, hm⟩ := k0; exact DataW.trod_lt m _ _ _ hm
  have ok0 := hval 0 22 v0 rfl rfl
  have k1 := h1
  have lt1 : ∀ x ∈ p1, x.block < W.heap.size := by obtain ⟨m, hm⟩ := k1; exact DataW.trod_lt m _ _ _ hm
  have ok1 := hval 1 23 v1 rfl rfl
  have k2 := h2
  have lt2 : ∀ x ∈ p2, x.block < W.heap.size := by obtain ⟨m, hm⟩ := k2; exact DataW.trod_lt m _ _ _ hm
  have ok2 := hval 2 23 v2 rfl rfl
  clear hA0 hval0
  obtain ⟨A, n, c, rfl⟩ := okWide_slice Try.underlying22 ok0
  obtain ⟨l, rfl, hc⟩ := open_cands h0
  obtain ⟨_, hcm, hlm⟩ : l.length ≤ c ∧ c ≤ maxLen ∧ True := by
    obtain ⟨g1, g2, _⟩ := open_els (e := 63) (sz := 4) Try.underlying22 (by kernel_rfl) (by omega) h0
    exact ⟨g1, g2, trivial⟩
  obtain ⟨a, rfl, rfl, rfl, w1⟩ := open_int Try.underlying23 ok1 h1
  obtain ⟨b, rfl, rfl, rfl, w2⟩ := open_int Try.underlying23 ok2 h2
  refine (walk A c l a b W hc (by omega) (bounds_u32 w1).1 (by have := (bounds_u32 w1).2; omega) (bounds_u32 w2).1 (by have := (bounds_u32 w2).2; omega)).mono fun e W' ⟨he, bel⟩ => ?_
  subst he
  exact ⟨_, rfl, _, _, _, [], _, [], hW', trodAll_mk1 (shut_bool Try.underlying4 _), (trodAll_cons_mk (Below.trod laidOut (by kernel_rfl) (of_decide_eq_true (by kernel_rfl)) k0 bel lt0) (trodAll_cons_mk (Below.trod laidOut (by kernel_rfl) (of_decide_eq_true (by kernel_rfl)) k1 bel lt1) (trodAll_cons_mk (Below.trod laidOut (by kernel_rfl) (of_decide_eq_true (by kernel_rfl)) k2 bel lt2) trodAll_mk0))), rfl, bel.frame _, fun h => by cases h⟩

theorem over : Rows.turnTwoRow.holds Try.pinned (OpenSpec.ofChange Rows.turnTwoSpec) :=
  OpenClaim.holds_of_wide 3 Try.f3 rfl rfl rfl rfl rfl rfl rfl ⟨rfl, rfl, rfl, rfl, rfl⟩ rfl rfl rfl rfl rfl (by kernel_rfl) Try.func3 (by kernel_rfl)
    (of_decide_eq_true (by kernel_rfl)) (by unfold Func.isWrapper; first | (rw [if_pos (by decide +kernel)]; kernel_rfl) | (rw [if_neg (by decide +kernel)]; exact ⟨rfl, rfl⟩))
    (fun os started H enc _ => lifted os started H enc)

theorem proved : Rows.TurnTwoSaid := over
#print axioms proved
end Go.Proofs.Ytkebgkjopfdafaa.turnTwo
