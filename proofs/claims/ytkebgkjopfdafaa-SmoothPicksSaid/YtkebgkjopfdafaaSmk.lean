/-
  knows of package smooth, for any two lists. Helper of the claim SmoothPicks. No condition.
-/
import Derived.Test.YtkebgkjopfdafaaSm4
namespace Go.Proofs.Ytkebgkjopfdafaa
open Go.ChangeShapes Go.WideShapes Go.ChangeAt Go.RowKit
set_option linter.unusedSimpArgs false
set_option linter.unusedVariables false
set_option maxRecDepth 100000
/-- The shares of one list are those of another. -/
def SameSh (m n : Nat) (kl pl : List Cand) : Prop := m = n ∧ ∀ i, i < m → (nth pl i).backend = (nth kl i).backend ∧ (nth pl i).weight = (nth kl i).weight
open Classical in
noncomputable def smB (m n : Nat) (kl pl : List Cand) : Bool := decide (SameSh m n kl pl)
theorem sm_no {m n : Nat} {kl pl : List Cand} (h : ¬ SameSh m n kl pl) : smB m n kl pl = false := by unfold smB; simp only [decide_eq_false_iff_not]; exact h
theorem sm_yes {m n : Nat} {kl pl : List Cand} (h : SameSh m n kl pl) : smB m n kl pl = true := by unfold smB; simp only [decide_eq_true_eq]; exact h
theorem knows_len (gs m n c cap : Nat) (A As : Option Addr) (kl pl : List Cand) (w : World) (hs : Is w gs 62 #[.slice As n cap]) (hn : m ≠ n) :
    Calls Try.prog 78 #[.pointer (some ⟨gs, 0, none⟩), .slice A m c] w fun e w' => e = .returned (.bool (smB m n kl pl)) ∧ w = w' := by
  have s0 := hs.cell 0
  simp at s0
  have hq : ((m : Int) == (n : Int)) = false := by rw [beq_eq_false_iff_ne]; omega
  have HN := Lib.hid hn
  clear hs hn
  go_enter Try.func78, Try.ntmps78
  go_wp2_with fail
  go_ret
  exact ⟨ret_bool (by rw [sm_no (fun h => HN.out h.1)]), rfl⟩
def KmR (w : World) (m : Nat) (kl pl : List Cand) (v : Value) (wr : World) : Prop := ∃ k : Nat, k ≤ m ∧ v = .int .i64 (k : Int) ∧ (∀ i, i < k → (nth pl i).backend = (nth kl i).backend ∧ (nth pl i).weight = (nth kl i).weight) ∧ Below w.heap.size w wr
set_option maxHeartbeats 4000000 in
theorem knows_same (gs c cap : Nat) (A As : Option Addr) (kl pl : List Cand) (m base : Nat) (cr : Nat → Int) (w : World) (hm : kl.length = m) (h0 : 0 < m) (hmm : m ≤ 1000) (h : Cands w w.heap.size A kl) (hs : Is w gs 62 #[.slice As m cap]) (ho : w.ownsRow base 136 3 (.slice As m cap) m (shc pl cr m)) :
    Calls Try.prog 78 #[.pointer (some ⟨gs, 0, none⟩), .slice A m c] w fun e w' => e = .returned (.bool (smB m m kl pl)) ∧ Below w.heap.size w w' := by
  obtain ⟨g, rfl, hcap, hbg, hg, hcells⟩ := own_sh ho h0
  have s0' := hs.cell 0
  simp at s0'
  have LGS' := Lib.hid hs.lt; have LG' := Lib.hid hg; have HCE := hide hcells; have HC := Lib.hid h; have HM := Lib.hid hm
  clear ho h hs hg hcells hbg hm
  go_enter Try.func78, Try.ntmps78
  go_wp2_with fail
  have S0 := Lib.hid s0'
  clear s0'
  go_loopw [17] (fun v wr => KmR w m kl pl v wr) (fun v _ => m - (intOf v).toNat)
  case atStart => exact ⟨0, Nat.zero_le _, rfl, fun i hi => absurd hi (by omega), Below.refl _ _⟩
  case round =>
    obtain ⟨k, hk, rfl, hsm, hbel⟩ := hrel
    have HB := Lib.hid hbel; have HSM := Lib.hid hsm
    clear hbel hsm
    by_cases hlt : k < m
    · obtain ⟨b, off, rfl, hbs, hc⟩ := HC.out (by have := HM.out; omega)
      obtain ⟨c0, c1, c2, c3⟩ := cell4 (show k < kl.length by have := HM.out; omega) hc
      obtain ⟨q0, q1, q2⟩ := (unhide HCE) k hlt
      have d0 := (HB.out.cell (p := ⟨b, off + k * 4, none⟩) hbs).trans c0
      have d1 := (HB.out.cell (p := ⟨b, off + k * 4 + 1, none⟩) hbs).trans c1
      have d2 := (HB.out.cell (p := ⟨b, off + k * 4 + 2, none⟩) hbs).trans c2
      have d3 := (HB.out.cell (p := ⟨b, off + k * 4 + 3, none⟩) hbs).trans c3
      have k0 : (0 : Int) ≤ (k : Int) := Int.natCast_nonneg _
      have klz : (k : Int) < (m : Int) := by omega
      have k1000 : k ≤ 1000 := by omega
      have hk0 := k0
      generalize hxk : nth kl k = x at *
      have HXK := Lib.hid hxk
      clear hxk
      obtain ⟨xs, xb, xw, xl⟩ := x
      generalize hyb : (nth pl k).backend = yb at *
      generalize hyw : (nth pl k).weight = yw at *
      have HYB := Lib.hid hyb; have HYW := Lib.hid hyw
      clear hyb hyw
      simp only at d0 d1 d2 d3
      have HB4 := Lib.hid (HB.out.alloc HB.out.size (.cells #[.int .i64 xs, .int .i64 xb, .int .i64 xw, .int .u32 xl] 29))
      have s0 := (HB4.out.cell (p := ⟨gs, 0, none⟩) LGS'.out).trans S0.out
      have e0 := (HB4.out.cell (p := ⟨g, k * 3, none⟩) LG'.out).trans q0
      have e1 := (HB4.out.cell (p := ⟨g, k * 3 + 1, none⟩) LG'.out).trans q1
      have T4 := Is.new wr 29 #[.int .i64 xs, .int .i64 xb, .int .i64 xw, .int .u32 xl]
      have t1 : (wr.alloc (.cells #[.int .i64 xs, .int .i64 xb, .int .i64 xw, .int .u32 xl] 29)).cell? ⟨wr.heap.size, 1, none⟩ = some (.int .i64 xb) := T4.cell 1
      have t2 : (wr.alloc (.cells #[.int .i64 xs, .int .i64 xb, .int .i64 xw, .int .u32 xl] 29)).cell? ⟨wr.heap.size, 2, none⟩ = some (.int .i64 xw) := T4.cell 2
      have LT := Lib.hid T4.lt; have LGS := Lib.hid (Nat.lt_of_lt_of_le LGS'.out HB4.out.size); have LG := Lib.hid (Nat.lt_of_lt_of_le LG'.out HB4.out.size)
      have HLT := Lib.hid hlt
      clear c0 c1 c2 c3 hc hbs hlt hk q0 q1 q2 T4 HB
      have e0 := Lib.hid e0; have e1 := Lib.hid e1; have t1 := Lib.hid t1; have t2 := Lib.hid t2; have s0 := Lib.hid s0
      go_wp2_with fail
      generalize wr.alloc (.cells #[.int .i64 xs, .int .i64 xb, .int .i64 xw, .int .u32 xl] 29) = V at *
      generalize wr.heap.size = t6 at *
      clear d0 d1 d2 d3
      have e0 := e0.out; have e1 := e1.out; have t1 := t1.out; have t2 := t2.out; have s0 := s0.out
      by_cases hb1 : yb = xb
      · by_cases hw1 : yw = xw
        · have EQ := Lib.hid (show (nth pl k).backend = (nth kl k).backend ∧ (nth pl k).weight = (nth kl k).weight from by rw [HYB.out, HYW.out, HXK.out]; exact ⟨hb1, hw1⟩)
          have NB := Lib.hid hb1
          have NW2 := Lib.hid hw1
          clear hb1 hw1
          refine Lin.wp_region_lin Lin.keeps (n := 47)  (fun slotq => match slotq with | 22 => Lin.Spec.val (.pointer (some ⟨gs, 0, none⟩)) | 23 => Lin.Spec.val (.pointer (some ⟨gs, 0, none⟩)) | 24 => Lin.Spec.val (.pointer (some ⟨gs, 0, none⟩)) | 25 => Lin.Spec.val (.slice (some ⟨g, 0, none⟩) m cap) | 26 => Lin.Spec.val (.int .i64 (k : Int)) | 27 => Lin.Spec.val (.pointer (some ⟨g, k * 3, none⟩)) | 28 => Lin.Spec.val (.pointer (some ⟨g, k * 3, none⟩)) | 29 => Lin.Spec.val (.int .i64 yb) | 30 => Lin.Spec.val (.pointer (some ⟨t6, 1, none⟩)) | 31 => Lin.Spec.val (.int .i64 xb) | 32 => Lin.Spec.val (.bool false) | 33 => Lin.Spec.val (.bool false) | 34 => Lin.Spec.val (.pointer (some ⟨gs, 0, none⟩)) | 35 => Lin.Spec.val (.pointer (some ⟨gs, 0, none⟩)) | 36 => Lin.Spec.val (.pointer (some ⟨gs, 0, none⟩)) | 37 => Lin.Spec.val (.slice (some ⟨g, 0, none⟩) m cap) | 38 => Lin.Spec.val (.int .i64 (k : Int)) | 39 => Lin.Spec.val (.pointer (some ⟨g, k * 3, none⟩)) | 40 => Lin.Spec.val (.pointer (some ⟨g, k * 3 + 1, none⟩)) | 41 => Lin.Spec.val (.int .i64 yw) | 42 => Lin.Spec.val (.pointer (some ⟨t6, 2, none⟩)) | 43 => Lin.Spec.val (.int .i64 xw) | 44 => Lin.Spec.val (.bool false) | 45 => Lin.Spec.val (.bool false) | _ => Lin.Spec.any) (by kernel_rfl) rfl (by kernel_rfl) ⟨?_, ?_, ?_, ?_, ?_, ?_, ?_, ?_, ?_, ?_, ?_, ?_, ?_, ?_, ?_, ?_, ?_, ?_, ?_, ?_, ?_, ?_, ?_, ?_, trivial⟩ ?_
          · intro ρ wq hb ho hc hd
            have hC : ∀ v, ρ (.const v) = v := fun v => hc _ (by intro t e; cases e)
            have hF : ∀ f, ρ (.func f) = .func (.func f) #[] #[] := fun f => hc _ (by intro t e; cases e)
            have h0 : ρ (.tmp 0) = .pointer (some ⟨gs, 0, none⟩) := ho 0 (by kernel_rfl)
            exact Lin.Runs.value Lin.keeps (Lin.exec_move rfl) h0
          · intro ρ wq hb ho hc hd
            have hC : ∀ v, ρ (.const v) = v := fun v => hc _ (by intro t e; cases e)
            have hF : ∀ f, ρ (.func f) = .func (.func f) #[] #[] := fun f => hc _ (by intro t e; cases e)
            have h22 : ρ (.tmp 22) = .pointer (some ⟨gs, 0, none⟩) := hd 22 (by kernel_rfl)
            exact Lin.Runs.value Lin.keeps (v := .pointer (some ⟨gs, 0, none⟩)) (by simp [execOp, go_sem, h22]) rfl
          · intro ρ wq hb ho hc hd
            have hC : ∀ v, ρ (.const v) = v := fun v => hc _ (by intro t e; cases e)
            have hF : ∀ f, ρ (.func f) = .func (.func f) #[] #[] := fun f => hc _ (by intro t e; cases e)
            have h23 : ρ (.tmp 23) = .pointer (some ⟨gs, 0, none⟩) := hd 23 (by kernel_rfl)
            exact Lin.Runs.value Lin.keeps (v := .pointer (some ⟨gs, 0, none⟩)) (by simp [execOp, go_sem, h23]) rfl
          · intro ρ wq hb ho hc hd
            have hC : ∀ v, ρ (.const v) = v := fun v => hc _ (by intro t e; cases e)
            have hF : ∀ f, ρ (.func f) = .func (.func f) #[] #[] := fun f => hc _ (by intro t e; cases e)
            have h24 : ρ (.tmp 24) = .pointer (some ⟨gs, 0, none⟩) := hd 24 (by kernel_rfl)
            have dd := (hb.cell (p := ⟨gs, 0, none⟩) LGS.out).trans s0
            exact Lin.Runs.value Lin.keeps (v := .slice (some ⟨g, 0, none⟩) m cap) (by simp [execOp, go_sem, h24, dd]) rfl
          · intro ρ wq hb ho hc hd
            have hC : ∀ v, ρ (.const v) = v := fun v => hc _ (by intro t e; cases e)
            have hF : ∀ f, ρ (.func f) = .func (.func f) #[] #[] := fun f => hc _ (by intro t e; cases e)
            have h5 : ρ (.tmp 5) = .int .i64 (k : Int) := ho 5 (by kernel_rfl)
            exact Lin.Runs.value Lin.keeps (Lin.exec_move rfl) h5
          · intro ρ wq hb ho hc hd
            have hC : ∀ v, ρ (.const v) = v := fun v => hc _ (by intro t e; cases e)
            have hF : ∀ f, ρ (.func f) = .func (.func f) #[] #[] := fun f => hc _ (by intro t e; cases e)
            have h25 : ρ (.tmp 25) = .slice (some ⟨g, 0, none⟩) m cap := hd 25 (by kernel_rfl)
            have h26 : ρ (.tmp 26) = .int .i64 (k : Int) := hd 26 (by kernel_rfl)
            exact Lin.Runs.value Lin.keeps (v := .pointer (some ⟨g, k * 3, none⟩)) (by simp [execOp, go_sem, h25, h26, k0, klz]) rfl
          · intro ρ wq hb ho hc hd
            have hC : ∀ v, ρ (.const v) = v := fun v => hc _ (by intro t e; cases e)
            have hF : ∀ f, ρ (.func f) = .func (.func f) #[] #[] := fun f => hc _ (by intro t e; cases e)
            have h27 : ρ (.tmp 27) = .pointer (some ⟨g, k * 3, none⟩) := hd 27 (by kernel_rfl)
            exact Lin.Runs.value Lin.keeps (v := .pointer (some ⟨g, k * 3, none⟩)) (by simp [execOp, go_sem, h27]) rfl
          · intro ρ wq hb ho hc hd
            have hC : ∀ v, ρ (.const v) = v := fun v => hc _ (by intro t e; cases e)
            have hF : ∀ f, ρ (.func f) = .func (.func f) #[] #[] := fun f => hc _ (by intro t e; cases e)
            have h28 : ρ (.tmp 28) = .pointer (some ⟨g, k * 3, none⟩) := hd 28 (by kernel_rfl)
            have dd := (hb.cell (p := ⟨g, k * 3, none⟩) LG.out).trans e0
            exact Lin.Runs.value Lin.keeps (v := .int .i64 yb) (by simp [execOp, go_sem, h28, dd]) rfl
          · intro ρ wq hb ho hc hd
            have hC : ∀ v, ρ (.const v) = v := fun v => hc _ (by intro t e; cases e)
            have hF : ∀ f, ρ (.func f) = .func (.func f) #[] #[] := fun f => hc _ (by intro t e; cases e)
            have h6 : ρ (.tmp 6) = .pointer (some ⟨t6, 0, none⟩) := ho 6 (by kernel_rfl)
            exact Lin.Runs.value Lin.keeps (v := .pointer (some ⟨t6, 1, none⟩)) (by simp [execOp, go_sem, h6]) rfl
          · intro ρ wq hb ho hc hd
            have hC : ∀ v, ρ (.const v) = v := fun v => hc _ (by intro t e; cases e)
            have hF : ∀ f, ρ (.func f) = .func (.func f) #[] #[] := fun f => hc _ (by intro t e; cases e)
            have h30 : ρ (.tmp 30) = .pointer (some ⟨t6, 1, none⟩) := hd 30 (by kernel_rfl)
            have dd := (hb.cell (p := ⟨t6, 1, none⟩) LT.out).trans t1
            exact Lin.Runs.value Lin.keeps (v := .int .i64 xb) (by simp [execOp, go_sem, h30, dd]) rfl
          · intro ρ wq hb ho hc hd
            have hC : ∀ v, ρ (.const v) = v := fun v => hc _ (by intro t e; cases e)
            have hF : ∀ f, ρ (.func f) = .func (.func f) #[] #[] := fun f => hc _ (by intro t e; cases e)
            have h29 : ρ (.tmp 29) = .int .i64 yb := hd 29 (by kernel_rfl)
            have h31 : ρ (.tmp 31) = .int .i64 xb := hd 31 (by kernel_rfl)
            have nb := NB.out
            exact Lin.Runs.value Lin.keeps (v := .bool false) (by simp [execOp, go_sem, h29, h31, nb]) rfl
          · intro ρ wq hb ho hc hd
            have hC : ∀ v, ρ (.const v) = v := fun v => hc _ (by intro t e; cases e)
            have hF : ∀ f, ρ (.func f) = .func (.func f) #[] #[] := fun f => hc _ (by intro t e; cases e)
            have h32 : ρ (.tmp 32) = .bool false := hd 32 (by kernel_rfl)
            exact Lin.Runs.value Lin.keeps (Lin.exec_move rfl) h32
          · intro ρ wq hb ho hc hd
            have hC : ∀ v, ρ (.const v) = v := fun v => hc _ (by intro t e; cases e)
            have hF : ∀ f, ρ (.func f) = .func (.func f) #[] #[] := fun f => hc _ (by intro t e; cases e)
            intro t ht; cases (show some 33 = some t from ht)
            refine ⟨fun _ => ?_, fun hn => absurd (hd 33 (by kernel_rfl)) hn⟩
            have h0 : ρ (.tmp 0) = .pointer (some ⟨gs, 0, none⟩) := ho 0 (by kernel_rfl)
            exact Lin.Runs.value Lin.keeps (Lin.exec_move rfl) h0
          · intro ρ wq hb ho hc hd
            have hC : ∀ v, ρ (.const v) = v := fun v => hc _ (by intro t e; cases e)
            have hF : ∀ f, ρ (.func f) = .func (.func f) #[] #[] := fun f => hc _ (by intro t e; cases e)
            intro t ht; cases (show some 33 = some t from ht)
            refine ⟨fun _ => ?_, fun hn => absurd (hd 33 (by kernel_rfl)) hn⟩
            have h34 : ρ (.tmp 34) = .pointer (some ⟨gs, 0, none⟩) := hd 34 (by kernel_rfl)
            exact Lin.Runs.value Lin.keeps (v := .pointer (some ⟨gs, 0, none⟩)) (by simp [execOp, go_sem, h34]) rfl
          · intro ρ wq hb ho hc hd
            have hC : ∀ v, ρ (.const v) = v := fun v => hc _ (by intro t e; cases e)
            have hF : ∀ f, ρ (.func f) = .func (.func f) #[] #[] := fun f => hc _ (by intro t e; cases e)
            intro t ht; cases (show some 33 = some t from ht)
            refine ⟨fun _ => ?_, fun hn => absurd (hd 33 (by kernel_rfl)) hn⟩
            have h35 : ρ (.tmp 35) = .pointer (some ⟨gs, 0, none⟩) := hd 35 (by kernel_rfl)
            exact Lin.Runs.value Lin.keeps (v := .pointer (some ⟨gs, 0, none⟩)) (by simp [execOp, go_sem, h35]) rfl
          · intro ρ wq hb ho hc hd
            have hC : ∀ v, ρ (.const v) = v := fun v => hc _ (by intro t e; cases e)
            have hF : ∀ f, ρ (.func f) = .func (.func f) #[] #[] := fun f => hc _ (by intro t e; cases e)
            intro t ht; cases (show some 33 = some t from ht)
            refine ⟨fun _ => ?_, fun hn => absurd (hd 33 (by kernel_rfl)) hn⟩
            have h36 : ρ (.tmp 36) = .pointer (some ⟨gs, 0, none⟩) := hd 36 (by kernel_rfl)
            have dd := (hb.cell (p := ⟨gs, 0, none⟩) LGS.out).trans s0
            exact Lin.Runs.value Lin.keeps (v := .slice (some ⟨g, 0, none⟩) m cap) (by simp [execOp, go_sem, h36, dd]) rfl
          · intro ρ wq hb ho hc hd
            have hC : ∀ v, ρ (.const v) = v := fun v => hc _ (by intro t e; cases e)
            have hF : ∀ f, ρ (.func f) = .func (.func f) #[] #[] := fun f => hc _ (by intro t e; cases e)
            intro t ht; cases (show some 33 = some t from ht)
            refine ⟨fun _ => ?_, fun hn => absurd (hd 33 (by kernel_rfl)) hn⟩
            have h5 : ρ (.tmp 5) = .int .i64 (k : Int) := ho 5 (by kernel_rfl)
            exact Lin.Runs.value Lin.keeps (Lin.exec_move rfl) h5
          · intro ρ wq hb ho hc hd
            have hC : ∀ v, ρ (.const v) = v := fun v => hc _ (by intro t e; cases e)
            have hF : ∀ f, ρ (.func f) = .func (.func f) #[] #[] := fun f => hc _ (by intro t e; cases e)
            intro t ht; cases (show some 33 = some t from ht)
            refine ⟨fun _ => ?_, fun hn => absurd (hd 33 (by kernel_rfl)) hn⟩
            have h37 : ρ (.tmp 37) = .slice (some ⟨g, 0, none⟩) m cap := hd 37 (by kernel_rfl)
            have h38 : ρ (.tmp 38) = .int .i64 (k : Int) := hd 38 (by kernel_rfl)
            exact Lin.Runs.value Lin.keeps (v := .pointer (some ⟨g, k * 3, none⟩)) (by simp [execOp, go_sem, h37, h38, k0, klz]) rfl
          · intro ρ wq hb ho hc hd
            have hC : ∀ v, ρ (.const v) = v := fun v => hc _ (by intro t e; cases e)
            have hF : ∀ f, ρ (.func f) = .func (.func f) #[] #[] := fun f => hc _ (by intro t e; cases e)
            intro t ht; cases (show some 33 = some t from ht)
            refine ⟨fun _ => ?_, fun hn => absurd (hd 33 (by kernel_rfl)) hn⟩
            have h39 : ρ (.tmp 39) = .pointer (some ⟨g, k * 3, none⟩) := hd 39 (by kernel_rfl)
            exact Lin.Runs.value Lin.keeps (v := .pointer (some ⟨g, k * 3 + 1, none⟩)) (by simp [execOp, go_sem, h39]) rfl
          · intro ρ wq hb ho hc hd
            have hC : ∀ v, ρ (.const v) = v := fun v => hc _ (by intro t e; cases e)
            have hF : ∀ f, ρ (.func f) = .func (.func f) #[] #[] := fun f => hc _ (by intro t e; cases e)
            intro t ht; cases (show some 33 = some t from ht)
            refine ⟨fun _ => ?_, fun hn => absurd (hd 33 (by kernel_rfl)) hn⟩
            have h40 : ρ (.tmp 40) = .pointer (some ⟨g, k * 3 + 1, none⟩) := hd 40 (by kernel_rfl)
            have dd := (hb.cell (p := ⟨g, k * 3 + 1, none⟩) LG.out).trans e1
            exact Lin.Runs.value Lin.keeps (v := .int .i64 yw) (by simp [execOp, go_sem, h40, dd]) rfl
          · intro ρ wq hb ho hc hd
            have hC : ∀ v, ρ (.const v) = v := fun v => hc _ (by intro t e; cases e)
            have hF : ∀ f, ρ (.func f) = .func (.func f) #[] #[] := fun f => hc _ (by intro t e; cases e)
            intro t ht; cases (show some 33 = some t from ht)
            refine ⟨fun _ => ?_, fun hn => absurd (hd 33 (by kernel_rfl)) hn⟩
            have h6 : ρ (.tmp 6) = .pointer (some ⟨t6, 0, none⟩) := ho 6 (by kernel_rfl)
            exact Lin.Runs.value Lin.keeps (v := .pointer (some ⟨t6, 2, none⟩)) (by simp [execOp, go_sem, h6]) rfl
          · intro ρ wq hb ho hc hd
            have hC : ∀ v, ρ (.const v) = v := fun v => hc _ (by intro t e; cases e)
            have hF : ∀ f, ρ (.func f) = .func (.func f) #[] #[] := fun f => hc _ (by intro t e; cases e)
            intro t ht; cases (show some 33 = some t from ht)
            refine ⟨fun _ => ?_, fun hn => absurd (hd 33 (by kernel_rfl)) hn⟩
            have h42 : ρ (.tmp 42) = .pointer (some ⟨t6, 2, none⟩) := hd 42 (by kernel_rfl)
            have dd := (hb.cell (p := ⟨t6, 2, none⟩) LT.out).trans t2
            exact Lin.Runs.value Lin.keeps (v := .int .i64 xw) (by simp [execOp, go_sem, h42, dd]) rfl
          · intro ρ wq hb ho hc hd
            have hC : ∀ v, ρ (.const v) = v := fun v => hc _ (by intro t e; cases e)
            have hF : ∀ f, ρ (.func f) = .func (.func f) #[] #[] := fun f => hc _ (by intro t e; cases e)
            intro t ht; cases (show some 33 = some t from ht)
            refine ⟨fun _ => ?_, fun hn => absurd (hd 33 (by kernel_rfl)) hn⟩
            have h41 : ρ (.tmp 41) = .int .i64 yw := hd 41 (by kernel_rfl)
            have h43 : ρ (.tmp 43) = .int .i64 xw := hd 43 (by kernel_rfl)
            have nw2 := NW2.out
            exact Lin.Runs.value Lin.keeps (v := .bool false) (by simp [execOp, go_sem, h41, h43, nw2]) rfl
          · intro ρ wq hb ho hc hd
            have hC : ∀ v, ρ (.const v) = v := fun v => hc _ (by intro t e; cases e)
            have hF : ∀ f, ρ (.func f) = .func (.func f) #[] #[] := fun f => hc _ (by intro t e; cases e)
            have h33 : ρ (.tmp 33) = .bool false := hd 33 (by kernel_rfl)
            have h44 : ρ (.tmp 44) = .bool false := hd 44 (by kernel_rfl)
            exact Lin.Runs.value Lin.keeps (v := .bool false) (by simp [execOp, go_sem, hC, h33, h44]) rfl
          · intro vals w5 hb2 hv
            have ee := hv 45 (by kernel_rfl)
            have HB5 := Lib.hid (HB4.out.trans (hb2.mono HB4.out.size))
            clear hb2
            simp only [Lin.putAll, Option.getD_some]
            rw [show vals 45 = .bool false from ee]
            clear ee hv
            go_simp
            generalize vals = vv
            go_wp2_with fail
            go_roundw
            case rel => exact ⟨k + 1, HLT.out, by go_num, lt_snoc HSM.out EQ.out, HB5.out⟩
            case measure => have := HLT.out; simp [intOf]; omega
        · have NE := Lib.hid (show ¬ ((nth pl k).backend = (nth kl k).backend ∧ (nth pl k).weight = (nth kl k).weight) from by rw [HYB.out, HYW.out, HXK.out]; exact fun h => hw1 h.2)
          have NB := Lib.hid hb1
          have NW2 := Lib.hid hw1
          clear hb1 hw1
          refine Lin.wp_region_lin Lin.keeps (n := 47)  (fun slotq => match slotq with | 22 => Lin.Spec.val (.pointer (some ⟨gs, 0, none⟩)) | 23 => Lin.Spec.val (.pointer (some ⟨gs, 0, none⟩)) | 24 => Lin.Spec.val (.pointer (some ⟨gs, 0, none⟩)) | 25 => Lin.Spec.val (.slice (some ⟨g, 0, none⟩) m cap) | 26 => Lin.Spec.val (.int .i64 (k : Int)) | 27 => Lin.Spec.val (.pointer (some ⟨g, k * 3, none⟩)) | 28 => Lin.Spec.val (.pointer (some ⟨g, k * 3, none⟩)) | 29 => Lin.Spec.val (.int .i64 yb) | 30 => Lin.Spec.val (.pointer (some ⟨t6, 1, none⟩)) | 31 => Lin.Spec.val (.int .i64 xb) | 32 => Lin.Spec.val (.bool false) | 33 => Lin.Spec.val (.bool false) | 34 => Lin.Spec.val (.pointer (some ⟨gs, 0, none⟩)) | 35 => Lin.Spec.val (.pointer (some ⟨gs, 0, none⟩)) | 36 => Lin.Spec.val (.pointer (some ⟨gs, 0, none⟩)) | 37 => Lin.Spec.val (.slice (some ⟨g, 0, none⟩) m cap) | 38 => Lin.Spec.val (.int .i64 (k : Int)) | 39 => Lin.Spec.val (.pointer (some ⟨g, k * 3, none⟩)) | 40 => Lin.Spec.val (.pointer (some ⟨g, k * 3 + 1, none⟩)) | 41 => Lin.Spec.val (.int .i64 yw) | 42 => Lin.Spec.val (.pointer (some ⟨t6, 2, none⟩)) | 43 => Lin.Spec.val (.int .i64 xw) | 44 => Lin.Spec.val (.bool true) | 45 => Lin.Spec.val (.bool true) | _ => Lin.Spec.any) (by kernel_rfl) rfl (by kernel_rfl) ⟨?_, ?_, ?_, ?_, ?_, ?_, ?_, ?_, ?_, ?_, ?_, ?_, ?_, ?_, ?_, ?_, ?_, ?_, ?_, ?_, ?_, ?_, ?_, ?_, trivial⟩ ?_
          · intro ρ wq hb ho hc hd
            have hC : ∀ v, ρ (.const v) = v := fun v => hc _ (by intro t e; cases e)
            have hF : ∀ f, ρ (.func f) = .func (.func f) #[] #[] := fun f => hc _ (by intro t e; cases e)
            have h0 : ρ (.tmp 0) = .pointer (some ⟨gs, 0, none⟩) := ho 0 (by kernel_rfl)
            exact Lin.Runs.value Lin.keeps (Lin.exec_move rfl) h0
          · intro ρ wq hb ho hc hd
            have hC : ∀ v, ρ (.const v) = v := fun v => hc _ (by intro t e; cases e)
            have hF : ∀ f, ρ (.func f) = .func (.func f) #[] #[] := fun f => hc _ (by intro t e; cases e)
            have h22 : ρ (.tmp 22) = .pointer (some ⟨gs, 0, none⟩) := hd 22 (by kernel_rfl)
            exact Lin.Runs.value Lin.keeps (v := .pointer (some ⟨gs, 0, none⟩)) (by simp [execOp, go_sem, h22]) rfl
          · intro ρ wq hb ho hc hd
            have hC : ∀ v, ρ (.const v) = v := fun v => hc _ (by intro t e; cases e)
            have hF : ∀ f, ρ (.func f) = .func (.func f) #[] #[] := fun f => hc _ (by intro t e; cases e)
            have h23 : ρ (.tmp 23) = .pointer (some ⟨gs, 0, none⟩) := hd 23 (by kernel_rfl)
            exact Lin.Runs.value Lin.keeps (v := .pointer (some ⟨gs, 0, none⟩)) (by simp [execOp, go_sem, h23]) rfl
          · intro ρ wq hb ho hc hd
            have hC : ∀ v, ρ (.const v) = v := fun v => hc _ (by intro t e; cases e)
            have hF : ∀ f, ρ (.func f) = .func (.func f) #[] #[] := fun f => hc _ (by intro t e; cases e)
            have h24 : ρ (.tmp 24) = .pointer (some ⟨gs, 0, none⟩) := hd 24 (by kernel_rfl)
            have dd := (hb.cell (p := ⟨gs, 0, none⟩) LGS.out).trans s0
            exact Lin.Runs.value Lin.keeps (v := .slice (some ⟨g, 0, none⟩) m cap) (by simp [execOp, go_sem, h24, dd]) rfl
          · intro ρ wq hb ho hc hd
            have hC : ∀ v, ρ (.const v) = v := fun v => hc _ (by intro t e; cases e)
            have hF : ∀ f, ρ (.func f) = .func (.func f) #[] #[] := fun f => hc _ (by intro t e; cases e)
            have h5 : ρ (.tmp 5) = .int .i64 (k : Int) := ho 5 (by kernel_rfl)
            exact Lin.Runs.value Lin.keeps (Lin.exec_move rfl) h5
          · intro ρ wq hb ho hc hd
            have hC : ∀ v, ρ (.const v) = v := fun v => hc _ (by intro t e; cases e)
            have hF : ∀ f, ρ (.func f) = .func (.func f) #[] #[] := fun f => hc _ (by intro t e; cases e)
            have h25 : ρ (.tmp 25) = .slice (some ⟨g, 0, none⟩) m cap := hd 25 (by kernel_rfl)
            have h26 : ρ (.tmp 26) = .int .i64 (k : Int) := hd 26 (by kernel_rfl)
            exact Lin.Runs.value Lin.keeps (v := .pointer (some ⟨g, k * 3, none⟩)) (by simp [execOp, go_sem, h25, h26, k0, klz]) rfl
          · intro ρ wq hb ho hc hd
            have hC : ∀ v, ρ (.const v) = v := fun v => hc _ (by intro t e; cases e)
            have hF : ∀ f, ρ (.func f) = .func (.func f) #[] #[] := fun f => hc _ (by intro t e; cases e)
            have h27 : ρ (.tmp 27) = .pointer (some ⟨g, k * 3, none⟩) := hd 27 (by kernel_rfl)
            exact Lin.Runs.value Lin.keeps (v := .pointer (some ⟨g, k * 3, none⟩)) (by simp [execOp, go_sem, h27]) rfl
          · intro ρ wq hb ho hc hd
            have hC : ∀ v, ρ (.const v) = v := fun v => hc _ (by intro t e; cases e)
            have hF : ∀ f, ρ (.func f) = .func (.func f) #[] #[] := fun f => hc _ (by intro t e; cases e)
            have h28 : ρ (.tmp 28) = .pointer (some ⟨g, k * 3, none⟩) := hd 28 (by kernel_rfl)
            have dd := (hb.cell (p := ⟨g, k * 3, none⟩) LG.out).trans e0
            exact Lin.Runs.value Lin.keeps (v := .int .i64 yb) (by simp [execOp, go_sem, h28, dd]) rfl
          · intro ρ wq hb ho hc hd
            have hC : ∀ v, ρ (.const v) = v := fun v => hc _ (by intro t e; cases e)
            have hF : ∀ f, ρ (.func f) = .func (.func f) #[] #[] := fun f => hc _ (by intro t e; cases e)
            have h6 : ρ (.tmp 6) = .pointer (some ⟨t6, 0, none⟩) := ho 6 (by kernel_rfl)
            exact Lin.Runs.value Lin.keeps (v := .pointer (some ⟨t6, 1, none⟩)) (by simp [execOp, go_sem, h6]) rfl
          · intro ρ wq hb ho hc hd
            have hC : ∀ v, ρ (.const v) = v := fun v => hc _ (by intro t e; cases e)
            have hF : ∀ f, ρ (.func f) = .func (.func f) #[] #[] := fun f => hc _ (by intro t e; cases e)
            have h30 : ρ (.tmp 30) = .pointer (some ⟨t6, 1, none⟩) := hd 30 (by kernel_rfl)
            have dd := (hb.cell (p := ⟨t6, 1, none⟩) LT.out).trans t1
            exact Lin.Runs.value Lin.keeps (v := .int .i64 xb) (by simp [execOp, go_sem, h30, dd]) rfl
          · intro ρ wq hb ho hc hd
            have hC : ∀ v, ρ (.const v) = v := fun v => hc _ (by intro t e; cases e)
            have hF : ∀ f, ρ (.func f) = .func (.func f) #[] #[] := fun f => hc _ (by intro t e; cases e)
            have h29 : ρ (.tmp 29) = .int .i64 yb := hd 29 (by kernel_rfl)
            have h31 : ρ (.tmp 31) = .int .i64 xb := hd 31 (by kernel_rfl)
            have nb := NB.out
            exact Lin.Runs.value Lin.keeps (v := .bool false) (by simp [execOp, go_sem, h29, h31, nb]) rfl
          · intro ρ wq hb ho hc hd
            have hC : ∀ v, ρ (.const v) = v := fun v => hc _ (by intro t e; cases e)
            have hF : ∀ f, ρ (.func f) = .func (.func f) #[] #[] := fun f => hc _ (by intro t e; cases e)
            have h32 : ρ (.tmp 32) = .bool false := hd 32 (by kernel_rfl)
            exact Lin.Runs.value Lin.keeps (Lin.exec_move rfl) h32
          · intro ρ wq hb ho hc hd
            have hC : ∀ v, ρ (.const v) = v := fun v => hc _ (by intro t e; cases e)
            have hF : ∀ f, ρ (.func f) = .func (.func f) #[] #[] := fun f => hc _ (by intro t e; cases e)
            intro t ht; cases (show some 33 = some t from ht)
            refine ⟨fun _ => ?_, fun hn => absurd (hd 33 (by kernel_rfl)) hn⟩
            have h0 : ρ (.tmp 0) = .pointer (some ⟨gs, 0, none⟩) := ho 0 (by kernel_rfl)
            exact Lin.Runs.value Lin.keeps (Lin.exec_move rfl) h0
          · intro ρ wq hb ho hc hd
            have hC : ∀ v, ρ (.const v) = v := fun v => hc _ (by intro t e; cases e)
            have hF : ∀ f, ρ (.func f) = .func (.func f) #[] #[] := fun f => hc _ (by intro t e; cases e)
            intro t ht; cases (show some 33 = some t from ht)
            refine ⟨fun _ => ?_, fun hn => absurd (hd 33 (by kernel_rfl)) hn⟩
            have h34 : ρ (.tmp 34) = .pointer (some ⟨gs, 0, none⟩) := hd 34 (by kernel_rfl)
            exact Lin.Runs.value Lin.keeps (v := .pointer (some ⟨gs, 0, none⟩)) (by simp [execOp, go_sem, h34]) rfl
          · intro ρ wq hb ho hc hd
            have hC : ∀ v, ρ (.const v) = v := fun v => hc _ (by intro t e; cases e)
            have hF : ∀ f, ρ (.func f) = .func (.func f) #[] #[] := fun f => hc _ (by intro t e; cases e)
            intro t ht; cases (show some 33 = some t from ht)
            refine ⟨fun _ => ?_, fun hn => absurd (hd 33 (by kernel_rfl)) hn⟩
            have h35 : ρ (.tmp 35) = .pointer (some ⟨gs, 0, none⟩) := hd 35 (by kernel_rfl)
            exact Lin.Runs.value Lin.keeps (v := .pointer (some ⟨gs, 0, none⟩)) (by simp [execOp, go_sem, h35]) rfl
          · intro ρ wq hb ho hc hd
            have hC : ∀ v, ρ (.const v) = v := fun v => hc _ (by intro t e; cases e)
            have hF : ∀ f, ρ (.func f) = .func (.func f) #[] #[] := fun f => hc _ (by intro t e; cases e)
            intro t ht; cases (show some 33 = some t from ht)
            refine ⟨fun _ => ?_, fun hn => absurd (hd 33 (by kernel_rfl)) hn⟩
            have h36 : ρ (.tmp 36) = .pointer (some ⟨gs, 0, none⟩) := hd 36 (by kernel_rfl)
            have dd := (hb.cell (p := ⟨gs, 0, none⟩) LGS.out).trans s0
            exact Lin.Runs.value Lin.keeps (v := .slice (some ⟨g, 0, none⟩) m cap) (by simp [execOp, go_sem, h36, dd]) rfl
          · intro ρ wq hb ho hc hd
            have hC : ∀ v, ρ (.const v) = v := fun v => hc _ (by intro t e; cases e)
            have hF : ∀ f, ρ (.func f) = .func (.func f) #[] #[] := fun f => hc _ (by intro t e; cases e)
            intro t ht; cases (show some 33 = some t from ht)
            refine ⟨fun _ => ?_, fun hn => absurd (hd 33 (by kernel_rfl)) hn⟩
            have h5 : ρ (.tmp 5) = .int .i64 (k : Int) := ho 5 (by kernel_rfl)
            exact Lin.Runs.value Lin.keeps (Lin.exec_move rfl) h5
          · intro ρ wq hb ho hc hd
            have hC : ∀ v, ρ (.const v) = v := fun v => hc _ (by intro t e; cases e)
            have hF : ∀ f, ρ (.func f) = .func (.func f) #[] #[] := fun f => hc _ (by intro t e; cases e)
            intro t ht; cases (show some 33 = some t from ht)
            refine ⟨fun _ => ?_, fun hn => absurd (hd 33 (by kernel_rfl)) hn⟩
            have h37 : ρ (.tmp 37) = .slice (some ⟨g, 0, none⟩) m cap := hd 37 (by kernel_rfl)
            have h38 : ρ (.tmp 38) = .int .i64 (k : Int) := hd 38 (by kernel_rfl)
            exact Lin.Runs.value Lin.keeps (v := .pointer (some ⟨g, k * 3, none⟩)) (by simp [execOp, go_sem, h37, h38, k0, klz]) rfl
          · intro ρ wq hb ho hc hd
            have hC : ∀ v, ρ (.const v) = v := fun v => hc _ (by intro t e; cases e)
            have hF : ∀ f, ρ (.func f) = .func (.func f) #[] #[] := fun f => hc _ (by intro t e; cases e)
            intro t ht; cases (show some 33 = some t from ht)
            refine ⟨fun _ => ?_, fun hn => absurd (hd 33 (by kernel_rfl)) hn⟩
            have h39 : ρ (.tmp 39) = .pointer (some ⟨g, k * 3, none⟩) := hd 39 (by kernel_rfl)
            exact Lin.Runs.value Lin.keeps (v := .pointer (some ⟨g, k * 3 + 1, none⟩)) (by simp [execOp, go_sem, h39]) rfl
          · intro ρ wq hb ho hc hd
            have hC : ∀ v, ρ (.const v) = v := fun v => hc _ (by intro t e; cases e)
            have hF : ∀ f, ρ (.func f) = .func (.func f) #[] #[] := fun f => hc _ (by intro t e; cases e)
            intro t ht; cases (show some 33 = some t from ht)
            refine ⟨fun _ => ?_, fun hn => absurd (hd 33 (by kernel_rfl)) hn⟩
            have h40 : ρ (.tmp 40) = .pointer (some ⟨g, k * 3 + 1, none⟩) := hd 40 (by kernel_rfl)
            have dd := (hb.cell (p := ⟨g, k * 3 + 1, none⟩) LG.out).trans e1
            exact Lin.Runs.value Lin.keeps (v := .int .i64 yw) (by simp [execOp, go_sem, h40, dd]) rfl
          · intro ρ wq hb ho hc hd
            have hC : ∀ v, ρ (.const v) = v := fun v => hc _ (by intro t e; cases e)
            have hF : ∀ f, ρ (.func f) = .func (.func f) #[] #[] := fun f => hc _ (by intro t e; cases e)
            intro t ht; cases (show some 33 = some t from ht)
            refine ⟨fun _ => ?_, fun hn => absurd (hd 33 (by kernel_rfl)) hn⟩
            have h6 : ρ (.tmp 6) = .pointer (some ⟨t6, 0, none⟩) := ho 6 (by kernel_rfl)
            exact Lin.Runs.value Lin.keeps (v := .pointer (some ⟨t6, 2, none⟩)) (by simp [execOp, go_sem, h6]) rfl
          · intro ρ wq hb ho hc hd
            have hC : ∀ v, ρ (.const v) = v := fun v => hc _ (by intro t e; cases e)
            have hF : ∀ f, ρ (.func f) = .func (.func f) #[] #[] := fun f => hc _ (by intro t e; cases e)
            intro t ht; cases (show some 33 = some t from ht)
            refine ⟨fun _ => ?_, fun hn => absurd (hd 33 (by kernel_rfl)) hn⟩
            have h42 : ρ (.tmp 42) = .pointer (some ⟨t6, 2, none⟩) := hd 42 (by kernel_rfl)
            have dd := (hb.cell (p := ⟨t6, 2, none⟩) LT.out).trans t2
            exact Lin.Runs.value Lin.keeps (v := .int .i64 xw) (by simp [execOp, go_sem, h42, dd]) rfl
          · intro ρ wq hb ho hc hd
            have hC : ∀ v, ρ (.const v) = v := fun v => hc _ (by intro t e; cases e)
            have hF : ∀ f, ρ (.func f) = .func (.func f) #[] #[] := fun f => hc _ (by intro t e; cases e)
            intro t ht; cases (show some 33 = some t from ht)
            refine ⟨fun _ => ?_, fun hn => absurd (hd 33 (by kernel_rfl)) hn⟩
            have h41 : ρ (.tmp 41) = .int .i64 yw := hd 41 (by kernel_rfl)
            have h43 : ρ (.tmp 43) = .int .i64 xw := hd 43 (by kernel_rfl)
            have nw2 := NW2.out
            exact Lin.Runs.value Lin.keeps (v := .bool true) (by simp [execOp, go_sem, h41, h43, nw2]) rfl
          · intro ρ wq hb ho hc hd
            have hC : ∀ v, ρ (.const v) = v := fun v => hc _ (by intro t e; cases e)
            have hF : ∀ f, ρ (.func f) = .func (.func f) #[] #[] := fun f => hc _ (by intro t e; cases e)
            have h33 : ρ (.tmp 33) = .bool false := hd 33 (by kernel_rfl)
            have h44 : ρ (.tmp 44) = .bool true := hd 44 (by kernel_rfl)
            exact Lin.Runs.value Lin.keeps (v := .bool true) (by simp [execOp, go_sem, hC, h33, h44]) rfl
          · intro vals w5 hb2 hv
            have ee := hv 45 (by kernel_rfl)
            have HB5 := Lib.hid (HB4.out.trans (hb2.mono HB4.out.size))
            clear hb2
            simp only [Lin.putAll, Option.getD_some]
            rw [show vals 45 = .bool true from ee]
            clear ee hv
            go_simp
            generalize vals = vv
            go_wp2_with fail
            go_ret
            exact ⟨ret_bool (by rw [sm_no (fun h => NE.out (h.2 k HLT.out))]), HB5.out⟩
      · have NE := Lib.hid (show ¬ ((nth pl k).backend = (nth kl k).backend ∧ (nth pl k).weight = (nth kl k).weight) from by rw [HYB.out, HYW.out, HXK.out]; exact fun h => hb1 h.1)
        have NB := Lib.hid hb1
        clear hb1
        refine Lin.wp_region_lin Lin.keeps (n := 47)  (fun slotq => match slotq with | 22 => Lin.Spec.val (.pointer (some ⟨gs, 0, none⟩)) | 23 => Lin.Spec.val (.pointer (some ⟨gs, 0, none⟩)) | 24 => Lin.Spec.val (.pointer (some ⟨gs, 0, none⟩)) | 25 => Lin.Spec.val (.slice (some ⟨g, 0, none⟩) m cap) | 26 => Lin.Spec.val (.int .i64 (k : Int)) | 27 => Lin.Spec.val (.pointer (some ⟨g, k * 3, none⟩)) | 28 => Lin.Spec.val (.pointer (some ⟨g, k * 3, none⟩)) | 29 => Lin.Spec.val (.int .i64 yb) | 30 => Lin.Spec.val (.pointer (some ⟨t6, 1, none⟩)) | 31 => Lin.Spec.val (.int .i64 xb) | 32 => Lin.Spec.val (.bool true) | 33 => Lin.Spec.val (.bool true) | 34 => Lin.Spec.val (undef) | 35 => Lin.Spec.val (undef) | 36 => Lin.Spec.val (undef) | 37 => Lin.Spec.val (undef) | 38 => Lin.Spec.val (undef) | 39 => Lin.Spec.val (undef) | 40 => Lin.Spec.val (undef) | 41 => Lin.Spec.val (undef) | 42 => Lin.Spec.val (undef) | 43 => Lin.Spec.val (undef) | 44 => Lin.Spec.val (undef) | 45 => Lin.Spec.val (.bool true) | _ => Lin.Spec.any) (by kernel_rfl) rfl (by kernel_rfl) ⟨?_, ?_, ?_, ?_, ?_, ?_, ?_, ?_, ?_, ?_, ?_, ?_, ?_, ?_, ?_, ?_, ?_, ?_, ?_, ?_, ?_, ?_, ?_, ?_, trivial⟩ ?_
        · intro ρ wq hb ho hc hd
          have hC : ∀ v, ρ (.const v) = v := fun v => hc _ (by intro t e; cases e)
          have hF : ∀ f, ρ (.func f) = .func (.func f) #[] #[] := fun f => hc _ (by intro t e; cases e)
          have h0 : ρ (.tmp 0) = .pointer (some ⟨gs, 0, none⟩) := ho 0 (by kernel_rfl)
          exact Lin.Runs.value Lin.keeps (Lin.exec_move rfl) h0
        · intro ρ wq hb ho hc hd
          have hC : ∀ v, ρ (.const v) = v := fun v => hc _ (by intro t e; cases e)
          have hF : ∀ f, ρ (.func f) = .func (.func f) #[] #[] := fun f => hc _ (by intro t e; cases e)
          have h22 : ρ (.tmp 22) = .pointer (some ⟨gs, 0, none⟩) := hd 22 (by kernel_rfl)
          exact Lin.Runs.value Lin.keeps (v := .pointer (some ⟨gs, 0, none⟩)) (by simp [execOp, go_sem, h22]) rfl
        · intro ρ wq hb ho hc hd
          have hC : ∀ v, ρ (.const v) = v := fun v => hc _ (by intro t e; cases e)
          have hF : ∀ f, ρ (.func f) = .func (.func f) #[] #[] := fun f => hc _ (by intro t e; cases e)
          have h23 : ρ (.tmp 23) = .pointer (some ⟨gs, 0, none⟩) := hd 23 (by kernel_rfl)
          exact Lin.Runs.value Lin.keeps (v := .pointer (some ⟨gs, 0, none⟩)) (by simp [execOp, go_sem, h23]) rfl
        · intro ρ wq hb ho hc hd
          have hC : ∀ v, ρ (.const v) = v := fun v => hc _ (by intro t e; cases e)
          have hF : ∀ f, ρ (.func f) = .func (.func f) #[] #[] := fun f => hc _ (by intro t e; cases e)
          have h24 : ρ (.tmp 24) = .pointer (some ⟨gs, 0, none⟩) := hd 24 (by kernel_rfl)
          have dd := (hb.cell (p := ⟨gs, 0, none⟩) LGS.out).trans s0
          exact Lin.Runs.value Lin.keeps (v := .slice (some ⟨g, 0, none⟩) m cap) (by simp [execOp, go_sem, h24, dd]) rfl
        · intro ρ wq hb ho hc hd
          have hC : ∀ v, ρ (.const v) = v := fun v => hc _ (by intro t e; cases e)
          have hF : ∀ f, ρ (.func f) = .func (.func f) #[] #[] := fun f => hc _ (by intro t e; cases e)
          have h5 : ρ (.tmp 5) = .int .i64 (k : Int) := ho 5 (by kernel_rfl)
          exact Lin.Runs.value Lin.keeps (Lin.exec_move rfl) h5
        · intro ρ wq hb ho hc hd
          have hC : ∀ v, ρ (.const v) = v := fun v => hc _ (by intro t e; cases e)
          have hF : ∀ f, ρ (.func f) = .func (.func f) #[] #[] := fun f => hc _ (by intro t e; cases e)
          have h25 : ρ (.tmp 25) = .slice (some ⟨g, 0, none⟩) m cap := hd 25 (by kernel_rfl)
          have h26 : ρ (.tmp 26) = .int .i64 (k : Int) := hd 26 (by kernel_rfl)
          exact Lin.Runs.value Lin.keeps (v := .pointer (some ⟨g, k * 3, none⟩)) (by simp [execOp, go_sem, h25, h26, k0, klz]) rfl
        · intro ρ wq hb ho hc hd
          have hC : ∀ v, ρ (.const v) = v := fun v => hc _ (by intro t e; cases e)
          have hF : ∀ f, ρ (.func f) = .func (.func f) #[] #[] := fun f => hc _ (by intro t e; cases e)
          have h27 : ρ (.tmp 27) = .pointer (some ⟨g, k * 3, none⟩) := hd 27 (by kernel_rfl)
          exact Lin.Runs.value Lin.keeps (v := .pointer (some ⟨g, k * 3, none⟩)) (by simp [execOp, go_sem, h27]) rfl
        · intro ρ wq hb ho hc hd
          have hC : ∀ v, ρ (.const v) = v := fun v => hc _ (by intro t e; cases e)
          have hF : ∀ f, ρ (.func f) = .func (.func f) #[] #[] := fun f => hc _ (by intro t e; cases e)
          have h28 : ρ (.tmp 28) = .pointer (some ⟨g, k * 3, none⟩) := hd 28 (by kernel_rfl)
          have dd := (hb.cell (p := ⟨g, k * 3, none⟩) LG.out).trans e0
          exact Lin.Runs.value Lin.keeps (v := .int .i64 yb) (by simp [execOp, go_sem, h28, dd]) rfl
        · intro ρ wq hb ho hc hd
          have hC : ∀ v, ρ (.const v) = v := fun v => hc _ (by intro t e; cases e)
          have hF : ∀ f, ρ (.func f) = .func (.func f) #[] #[] := fun f => hc _ (by intro t e; cases e)
          have h6 : ρ (.tmp 6) = .pointer (some ⟨t6, 0, none⟩) := ho 6 (by kernel_rfl)
          exact Lin.Runs.value Lin.keeps (v := .pointer (some ⟨t6, 1, none⟩)) (by simp [execOp, go_sem, h6]) rfl
        · intro ρ wq hb ho hc hd
          have hC : ∀ v, ρ (.const v) = v := fun v => hc _ (by intro t e; cases e)
          have hF : ∀ f, ρ (.func f) = .func (.func f) #[] #[] := fun f => hc _ (by intro t e; cases e)
          have h30 : ρ (.tmp 30) = .pointer (some ⟨t6, 1, none⟩) := hd 30 (by kernel_rfl)
          have dd := (hb.cell (p := ⟨t6, 1, none⟩) LT.out).trans t1
          exact Lin.Runs.value Lin.keeps (v := .int .i64 xb) (by simp [execOp, go_sem, h30, dd]) rfl
        · intro ρ wq hb ho hc hd
          have hC : ∀ v, ρ (.const v) = v := fun v => hc _ (by intro t e; cases e)
          have hF : ∀ f, ρ (.func f) = .func (.func f) #[] #[] := fun f => hc _ (by intro t e; cases e)
          have h29 : ρ (.tmp 29) = .int .i64 yb := hd 29 (by kernel_rfl)
          have h31 : ρ (.tmp 31) = .int .i64 xb := hd 31 (by kernel_rfl)
          have nb := NB.out
          exact Lin.Runs.value Lin.keeps (v := .bool true) (by simp [execOp, go_sem, h29, h31, nb]) rfl
        · intro ρ wq hb ho hc hd
          have hC : ∀ v, ρ (.const v) = v := fun v => hc _ (by intro t e; cases e)
          have hF : ∀ f, ρ (.func f) = .func (.func f) #[] #[] := fun f => hc _ (by intro t e; cases e)
          have h32 : ρ (.tmp 32) = .bool true := hd 32 (by kernel_rfl)
          exact Lin.Runs.value Lin.keeps (Lin.exec_move rfl) h32
        · intro ρ wq hb ho hc hd
          have hC : ∀ v, ρ (.const v) = v := fun v => hc _ (by intro t e; cases e)
          have hF : ∀ f, ρ (.func f) = .func (.func f) #[] #[] := fun f => hc _ (by intro t e; cases e)
          intro t ht; cases (show some 33 = some t from ht)
          exact ⟨fun he => absurd (he.symm.trans (hd 33 (by kernel_rfl))) (by first | simp | (intro h; cases h)), fun _ => rfl⟩
        · intro ρ wq hb ho hc hd
          have hC : ∀ v, ρ (.const v) = v := fun v => hc _ (by intro t e; cases e)
          have hF : ∀ f, ρ (.func f) = .func (.func f) #[] #[] := fun f => hc _ (by intro t e; cases e)
          intro t ht; cases (show some 33 = some t from ht)
          exact ⟨fun he => absurd (he.symm.trans (hd 33 (by kernel_rfl))) (by first | simp | (intro h; cases h)), fun _ => rfl⟩
        · intro ρ wq hb ho hc hd
          have hC : ∀ v, ρ (.const v) = v := fun v => hc _ (by intro t e; cases e)
          have hF : ∀ f, ρ (.func f) = .func (.func f) #[] #[] := fun f => hc _ (by intro t e; cases e)
          intro t ht; cases (show some 33 = some t from ht)
          exact ⟨fun he => absurd (he.symm.trans (hd 33 (by kernel_rfl))) (by first | simp | (intro h; cases h)), fun _ => rfl⟩
        · intro ρ wq hb ho hc hd
          have hC : ∀ v, ρ (.const v) = v := fun v => hc _ (by intro t e; cases e)
          have hF : ∀ f, ρ (.func f) = .func (.func f) #[] #[] := fun f => hc _ (by intro t e; cases e)
          intro t ht; cases (show some 33 = some t from ht)
          exact ⟨fun he => absurd (he.symm.trans (hd 33 (by kernel_rfl))) (by first | simp | (intro h; cases h)), fun _ => rfl⟩
        · intro ρ wq hb ho hc hd
          have hC : ∀ v, ρ (.const v) = v := fun v => hc _ (by intro t e; cases e)
          have hF : ∀ f, ρ (.func f) = .func (.func f) #[] #[] := fun f => hc _ (by intro t e; cases e)
          intro t ht; cases (show some 33 = some t from ht)
          exact ⟨fun he => absurd (he.symm.trans (hd 33 (by kernel_rfl))) (by first | simp | (intro h; cases h)), fun _ => rfl⟩
        · intro ρ wq hb ho hc hd
          have hC : ∀ v, ρ (.const v) = v := fun v => hc _ (by intro t e; cases e)
          have hF : ∀ f, ρ (.func f) = .func (.func f) #[] #[] := fun f => hc _ (by intro t e; cases e)
          intro t ht; cases (show some 33 = some t from ht)
          exact ⟨fun he => absurd (he.symm.trans (hd 33 (by kernel_rfl))) (by first | simp | (intro h; cases h)), fun _ => rfl⟩
        · intro ρ wq hb ho hc hd
          have hC : ∀ v, ρ (.const v) = v := fun v => hc _ (by intro t e; cases e)
          have hF : ∀ f, ρ (.func f) = .func (.func f) #[] #[] := fun f => hc _ (by intro t e; cases e)
          intro t ht; cases (show some 33 = some t from ht)
          exact ⟨fun he => absurd (he.symm.trans (hd 33 (by kernel_rfl))) (by first | simp | (intro h; cases h)), fun _ => rfl⟩
        · intro ρ wq hb ho hc hd
          have hC : ∀ v, ρ (.const v) = v := fun v => hc _ (by intro t e; cases e)
          have hF : ∀ f, ρ (.func f) = .func (.func f) #[] #[] := fun f => hc _ (by intro t e; cases e)
          intro t ht; cases (show some 33 = some t from ht)
          exact ⟨fun he => absurd (he.symm.trans (hd 33 (by kernel_rfl))) (by first | simp | (intro h; cases h)), fun _ => rfl⟩
        · intro ρ wq hb ho hc hd
          have hC : ∀ v, ρ (.const v) = v := fun v => hc _ (by intro t e; cases e)
          have hF : ∀ f, ρ (.func f) = .func (.func f) #[] #[] := fun f => hc _ (by intro t e; cases e)
          intro t ht; cases (show some 33 = some t from ht)
          exact ⟨fun he => absurd (he.symm.trans (hd 33 (by kernel_rfl))) (by first | simp | (intro h; cases h)), fun _ => rfl⟩
        · intro ρ wq hb ho hc hd
          have hC : ∀ v, ρ (.const v) = v := fun v => hc _ (by intro t e; cases e)
          have hF : ∀ f, ρ (.func f) = .func (.func f) #[] #[] := fun f => hc _ (by intro t e; cases e)
          intro t ht; cases (show some 33 = some t from ht)
          exact ⟨fun he => absurd (he.symm.trans (hd 33 (by kernel_rfl))) (by first | simp | (intro h; cases h)), fun _ => rfl⟩
        · intro ρ wq hb ho hc hd
          have hC : ∀ v, ρ (.const v) = v := fun v => hc _ (by intro t e; cases e)
          have hF : ∀ f, ρ (.func f) = .func (.func f) #[] #[] := fun f => hc _ (by intro t e; cases e)
          intro t ht; cases (show some 33 = some t from ht)
          exact ⟨fun he => absurd (he.symm.trans (hd 33 (by kernel_rfl))) (by first | simp | (intro h; cases h)), fun _ => rfl⟩
        · intro ρ wq hb ho hc hd
          have hC : ∀ v, ρ (.const v) = v := fun v => hc _ (by intro t e; cases e)
          have hF : ∀ f, ρ (.func f) = .func (.func f) #[] #[] := fun f => hc _ (by intro t e; cases e)
          have h33 : ρ (.tmp 33) = .bool true := hd 33 (by kernel_rfl)
          have h44 : ρ (.tmp 44) = undef := hd 44 (by kernel_rfl)
          exact Lin.Runs.value Lin.keeps (v := .bool true) (by simp [execOp, go_sem, hC, h33, h44]) rfl
        · intro vals w5 hb2 hv
          have ee := hv 45 (by kernel_rfl)
          have HB5 := Lib.hid (HB4.out.trans (hb2.mono HB4.out.size))
          clear hb2
          simp only [Lin.putAll, Option.getD_some]
          rw [show vals 45 = .bool true from ee]
          clear ee hv
          go_simp
          generalize vals = vv
          go_wp2_with fail
          go_ret
          exact ⟨ret_bool (by rw [sm_no (fun h => NE.out (h.2 k HLT.out))]), HB5.out⟩
    · obtain rfl : k = m := by omega
      have hge : ¬ (k : Int) < (k : Int) := by omega
      clear hk hlt
      go_wp2_with fail
      go_ret
      exact ⟨ret_bool (by rw [sm_yes ⟨rfl, HSM.out⟩]), HB.out⟩
end Go.Proofs.Ytkebgkjopfdafaa
