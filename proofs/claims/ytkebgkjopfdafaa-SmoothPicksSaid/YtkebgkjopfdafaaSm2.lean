/-
  knows and remember of package smooth. Helper of the claims SmoothShares and SmoothPicks. No condition.
-/
import Derived.Test.YtkebgkjopfdafaaSm1
import Derived.Test.YtkebgkjopfdafaaLin5
namespace Go.Proofs.Ytkebgkjopfdafaa
open Go.ChangeShapes Go.WideShapes Go.ChangeAt Go.RowKit
set_option linter.unusedSimpArgs false
set_option linter.unusedVariables false
set_option maxRecDepth 100000
/-- The shares of candidates, with what each is owed. -/
def shc (kl : List Cand) (c : Nat → Int) (n : Nat) : List Value := (List.range n).flatMap fun i => [.int .i64 (nth kl i).backend, .int .i64 (nth kl i).weight, .int .i64 (c i)]
theorem shc_get {kl : List Cand} {c : Nat → Int} {n i j : Nat} (hi : i < n) (hj : j < 3) : (shc kl c n)[i * 3 + j]? = [Value.int .i64 (nth kl i).backend, .int .i64 (nth kl i).weight, .int .i64 (c i)][j]? :=
  flat_get (fun i => [Value.int .i64 (nth kl i).backend, .int .i64 (nth kl i).weight, .int .i64 (c i)]) 3 (fun _ => rfl) (List.range n) i j i (by simp [hi]) hj
theorem shc_snoc (kl : List Cand) (c : Nat → Int) (n : Nat) : shc kl c n ++ [.int .i64 (nth kl n).backend, .int .i64 (nth kl n).weight, .int .i64 (c n)] = shc kl c (n + 1) := by simp [shc, List.range_succ]
theorem own_sh {w : World} {base m c : Nat} {A : Option Addr} {kl : List Cand} {cr : Nat → Int} (h : w.ownsRow base 136 3 (.slice A m c) m (shc kl cr m)) (h0 : 0 < m) : ∃ g, A = some ⟨g, 0, none⟩ ∧ m ≤ c ∧ base ≤ g ∧ g < w.heap.size ∧
    ∀ k, k < m → w.cell? ⟨g, k * 3, none⟩ = some (.int .i64 (nth kl k).backend) ∧ w.cell? ⟨g, k * 3 + 1, none⟩ = some (.int .i64 (nth kl k).weight) ∧ w.cell? ⟨g, k * 3 + 2, none⟩ = some (.int .i64 (cr k)) := by
  obtain ⟨hl, h2⟩ := h
  rcases h2 with ⟨_, h00⟩ | ⟨g, cap, cur, hv, hg, hh, hnc, hm, hs, ht⟩
  · omega
  · injection hv with e1 e2 e3
    refine ⟨g, e1, by omega, hg, Is.lt hh, fun k hk => ?_⟩
    have key : ∀ j, j < 3 → w.cell? ⟨g, k * 3 + j, none⟩ = (shc kl cr m)[k * 3 + j]? := fun j hj => by
      rw [Is.cell hh, ← ht, List.getElem?_take, if_pos (by omega)]; simp
    refine ⟨?_, ?_, ?_⟩
    · have := key 0 (by omega); rw [shc_get hk (by omega)] at this; exact this
    · have := key 1 (by omega); rw [shc_get hk (by omega)] at this; exact this
    · have := key 2 (by omega); rw [shc_get hk (by omega)] at this; exact this
/-- Only block g may have changed, of the first n. -/
structure RmR (n g : Nat) (w w' : World) : Prop where
  os : w'.os = w.os
  tape : w'.tape = w.tape
  output : w'.output = w.output
  size : w.heap.size ≤ w'.heap.size
  block : ∀ i, i < n → i ≠ g → w'.heap[i]? = w.heap[i]?
theorem rm_rel (n g : Nat) : Lin.Rel (RmR n g) := ⟨fun w => ⟨rfl, rfl, rfl, Nat.le_refl _, fun _ _ _ => rfl⟩,
  fun {a b c} h k => ⟨k.os.trans h.os, k.tape.trans h.tape, k.output.trans h.output, Nat.le_trans h.size k.size, fun i hi h1 => (k.block i hi h1).trans (h.block i hi h1)⟩,
  fun w => ⟨rfl, rfl, rfl, Nat.le_refl _, fun _ _ _ => rfl⟩⟩
theorem rm_keeps {n g : Nat} {w w' : World} (k : Below w.heap.size w w') (hn : n ≤ w.heap.size) : RmR n g w w' := ⟨k.os, k.tape, k.output, k.size, fun i hi _ => k.block i (by omega)⟩
theorem rm_grown {n g : Nat} {w w' : World} {row : Option Nat} (k : w.grownBy w' row) (hn : n ≤ w.heap.size) (hr : ∀ q, row = some q → n ≤ q ∨ q = g) : RmR n g w w' := ⟨k.os, k.tape, k.output, k.size, fun i hi h1 => k.block i (by omega) (by
    intro e
    rcases hr i e.symm with h | h
    · omega
    · exact h1 h)⟩
def Lit3 (cs : Array Value) : Lin.Spec Lin.Keeps := ⟨fun v w => ∃ g, v = .slice (some ⟨g, 0, none⟩) 1 1 ∧ Is w g 136 cs, fun h hb => by
  obtain ⟨g, e, hi⟩ := h
  exact ⟨g, e, hi.below hb hi.lt⟩⟩
def Own3 (B n : Nat) (xs : List Value) : Lin.Spec Lin.Keeps := ⟨fun v w => w.ownsRow B 136 3 v n xs, fun h hb => own_below h hb⟩
def Sto3 (gs B n : Nat) (xs : List Value) : Lin.Spec Lin.Keeps := ⟨fun _ w => ∃ v, Is w gs 62 #[v] ∧ w.ownsRow B 136 3 v n xs, fun h hb => by
  obtain ⟨v, h1, h2⟩ := h
  exact ⟨v, h1.below hb h1.lt, own_below h2 hb⟩⟩
theorem knows_no (gs n c : Nat) (A : Option Addr) (w : World) (hs : Is w gs 62 #[.slice none 0 0]) (hn : 0 < n) :
    Calls Try.prog 78 #[.pointer (some ⟨gs, 0, none⟩), .slice A n c] w fun e w' => e = .returned (.bool false) ∧ w = w' := by
  have s0 := hs.cell 0
  simp at s0
  have hq : ((n : Int) == 0) = false := by rw [beq_eq_false_iff_ne]; omega
  clear hs hn
  go_enter Try.func78, Try.ntmps78
  go_wp2_with fail
  go_ret
  exact ⟨rfl, rfl⟩
def KnR (w : World) (m : Nat) (v : Value) (wr : World) : Prop := ∃ k : Nat, k ≤ m ∧ v = .int .i64 (k : Int) ∧ Below w.heap.size w wr
set_option maxHeartbeats 4000000 in
theorem knows_yes (gs c cap : Nat) (A As : Option Addr) (kl : List Cand) (m base : Nat) (cr : Nat → Int) (w : World) (hm : kl.length = m) (h0 : 0 < m) (hmm : m ≤ 1000) (h : Cands w w.heap.size A kl) (hs : Is w gs 62 #[.slice As m cap]) (ho : w.ownsRow base 136 3 (.slice As m cap) m (shc kl cr m)) :
    Calls Try.prog 78 #[.pointer (some ⟨gs, 0, none⟩), .slice A m c] w fun e w' => e = .returned (.bool true) ∧ Below w.heap.size w w' := by
  obtain ⟨g, rfl, hcap, hbg, hg, hcells⟩ := own_sh ho h0
  have s0' := hs.cell 0
  simp at s0'
  have LGS' := Lib.hid hs.lt; have LG' := Lib.hid hg; have HCE := hide hcells; have HC := Lib.hid h; have HM := Lib.hid hm
  clear ho h hs hg hcells hbg hm
  go_enter Try.func78, Try.ntmps78
  go_wp2_with fail
  have S0 := Lib.hid s0'
  clear s0'
  go_loopw [17] (fun v wr => KnR w m v wr) (fun v _ => m - (intOf v).toNat)
  case atStart => exact ⟨0, Nat.zero_le _, rfl, Below.refl _ _⟩
  case round =>
    obtain ⟨k, hk, rfl, hbel⟩ := hrel
    have HB := Lib.hid hbel
    clear hbel
    by_cases hlt : k < m
    · obtain ⟨b, off, rfl, hbs, hc⟩ := HC.out (by have := HM.out; omega)
      obtain ⟨c0, c1, c2, c3⟩ := cell4 (show k < kl.length by have := HM.out; omega) hc
      obtain ⟨q0, q1, q2⟩ := (unhide HCE) k hlt
      have d0 := (HB.out.cell (p := ⟨b, off + k * 4, none⟩) hbs).trans c0
      have d1 := (HB.out.cell (p := ⟨b, off + k * 4 + 1, none⟩) hbs).trans c1
      have d2 := (HB.out.cell (p := ⟨b, off + k * 4 + 2, none⟩) hbs).trans c2
      have d3 := (HB.out.cell (p := ⟨b, off + k * 4 + 3, none⟩) hbs).trans c3
      have k0 : (0 : Int) ≤ (k : Int) := Int.natCast_nonneg _
      have kl : (k : Int) < (m : Int) := by omega
      have hk0 := k0
      generalize nth _ k = x at *
      obtain ⟨xs, xb, xw, xl⟩ := x
      simp only at d0 d1 d2 d3 q0 q1
      have HB4 := Lib.hid (HB.out.alloc HB.out.size (.cells #[.int .i64 xs, .int .i64 xb, .int .i64 xw, .int .u32 xl] 29))
      have s0 := (HB4.out.cell (p := ⟨gs, 0, none⟩) LGS'.out).trans S0.out
      have e0 := (HB4.out.cell (p := ⟨g, k * 3, none⟩) LG'.out).trans q0
      have e1 := (HB4.out.cell (p := ⟨g, k * 3 + 1, none⟩) LG'.out).trans q1
      have T4 := Is.new wr 29 #[.int .i64 xs, .int .i64 xb, .int .i64 xw, .int .u32 xl]
      have t1 : (wr.alloc (.cells #[.int .i64 xs, .int .i64 xb, .int .i64 xw, .int .u32 xl] 29)).cell? ⟨wr.heap.size, 1, none⟩ = some (.int .i64 xb) := T4.cell 1
      have t2 : (wr.alloc (.cells #[.int .i64 xs, .int .i64 xb, .int .i64 xw, .int .u32 xl] 29)).cell? ⟨wr.heap.size, 2, none⟩ = some (.int .i64 xw) := T4.cell 2
      have LT := Lib.hid T4.lt; have LGS := Lib.hid (Nat.lt_of_lt_of_le LGS'.out HB4.out.size); have LG := Lib.hid (Nat.lt_of_lt_of_le LG'.out HB4.out.size)
      have HLT := Lib.hid hlt
      clear c0 c1 c2 c3 hc hbs hlt hk q0 q1 q2 T4 HB
      have e0 := Lib.hid e0; have e1 := Lib.hid e1; have t1 := Lib.hid t1; have t2 := Lib.hid t2; have s0 := Lib.hid s0
      go_wp2_with fail
      generalize wr.alloc (.cells #[.int .i64 xs, .int .i64 xb, .int .i64 xw, .int .u32 xl] 29) = V at *
      generalize wr.heap.size = t6 at *
      clear d0 d1 d2 d3
      have e0 := e0.out; have e1 := e1.out; have t1 := t1.out; have t2 := t2.out; have s0 := s0.out
      refine Lin.wp_region_lin Lin.keeps (n := 47)  (fun slotq => match slotq with | 22 => Lin.Spec.val (.pointer (some ⟨gs, 0, none⟩)) | 23 => Lin.Spec.val (.pointer (some ⟨gs, 0, none⟩)) | 24 => Lin.Spec.val (.pointer (some ⟨gs, 0, none⟩)) | 25 => Lin.Spec.val (.slice (some ⟨g, 0, none⟩) m cap) | 26 => Lin.Spec.val (.int .i64 (k : Int)) | 27 => Lin.Spec.val (.pointer (some ⟨g, k * 3, none⟩)) | 28 => Lin.Spec.val (.pointer (some ⟨g, k * 3, none⟩)) | 29 => Lin.Spec.val (.int .i64 xb) | 30 => Lin.Spec.val (.pointer (some ⟨t6, 1, none⟩)) | 31 => Lin.Spec.val (.int .i64 xb) | 32 => Lin.Spec.val (.bool false) | 33 => Lin.Spec.val (.bool false) | 34 => Lin.Spec.val (.pointer (some ⟨gs, 0, none⟩)) | 35 => Lin.Spec.val (.pointer (some ⟨gs, 0, none⟩)) | 36 => Lin.Spec.val (.pointer (some ⟨gs, 0, none⟩)) | 37 => Lin.Spec.val (.slice (some ⟨g, 0, none⟩) m cap) | 38 => Lin.Spec.val (.int .i64 (k : Int)) | 39 => Lin.Spec.val (.pointer (some ⟨g, k * 3, none⟩)) | 40 => Lin.Spec.val (.pointer (some ⟨g, k * 3 + 1, none⟩)) | 41 => Lin.Spec.val (.int .i64 xw) | 42 => Lin.Spec.val (.pointer (some ⟨t6, 2, none⟩)) | 43 => Lin.Spec.val (.int .i64 xw) | 44 => Lin.Spec.val (.bool false) | 45 => Lin.Spec.val (.bool false) | _ => Lin.Spec.any) (by kernel_rfl) rfl (by kernel_rfl) ⟨?_, ?_, ?_, ?_, ?_, ?_, ?_, ?_, ?_, ?_, ?_, ?_, ?_, ?_, ?_, ?_, ?_, ?_, ?_, ?_, ?_, ?_, ?_, ?_, trivial⟩ ?_
      · intro ρ wq hb ho hc hd
        have hC : ∀ v, ρ (.const v) = v := fun v => hc _ (by intro t e; cases e)
        have hF : ∀ f, ρ (.func f) = .func (.func f) #[] #[] := fun f => hc _ (by intro t e; cases e)
        have h0 : ρ (.tmp 0) = .pointer (some ⟨gs, 0, none⟩) := ho 0 (by kernel_rfl)
        exact Lin.Runs.value Lin.keeps (Lin.exec_move rfl) h0
      · intro ρ wq hb ho hc hd
        have hC : ∀ v, ρ (.const v) = v := fun v => hc _ (by intro t e; cases e)
        have hF : ∀ f, ρ (.func f) = .func (.func f) #[] #[] := fun f => hc _ (by intro t e; cases e)
        have h22 : ρ (.tmp 22) = .pointer (some ⟨gs, 0, none⟩) := hd 22 (by kernel_rfl)
        exact Lin.Runs.value Lin.keeps (v := .pointer (some ⟨gs, 0, none⟩)) (by simp [execOp, go_sem, h22]) rfl
      · intro ρ wq hb ho hc hd
        have hC : ∀ v, ρ (.const v) = v := fun v => hc _ (by intro t e; cases e)
        have hF : ∀ f, ρ (.func f) = .func (.func f) #[] #[] := fun f => hc _ (by intro t e; cases e)
        have h23 : ρ (.tmp 23) = .pointer (some ⟨gs, 0, none⟩) := hd 23 (by kernel_rfl)
        exact Lin.Runs.value Lin.keeps (v := .pointer (some ⟨gs, 0, none⟩)) (by simp [execOp, go_sem, h23]) rfl
      · intro ρ wq hb ho hc hd
        have hC : ∀ v, ρ (.const v) = v := fun v => hc _ (by intro t e; cases e)
        have hF : ∀ f, ρ (.func f) = .func (.func f) #[] #[] := fun f => hc _ (by intro t e; cases e)
        have h24 : ρ (.tmp 24) = .pointer (some ⟨gs, 0, none⟩) := hd 24 (by kernel_rfl)
        have dd := (hb.cell (p := ⟨gs, 0, none⟩) LGS.out).trans s0
        exact Lin.Runs.value Lin.keeps (v := .slice (some ⟨g, 0, none⟩) m cap) (by simp [execOp, go_sem, h24, dd]) rfl
      · intro ρ wq hb ho hc hd
        have hC : ∀ v, ρ (.const v) = v := fun v => hc _ (by intro t e; cases e)
        have hF : ∀ f, ρ (.func f) = .func (.func f) #[] #[] := fun f => hc _ (by intro t e; cases e)
        have h5 : ρ (.tmp 5) = .int .i64 (k : Int) := ho 5 (by kernel_rfl)
        exact Lin.Runs.value Lin.keeps (Lin.exec_move rfl) h5
      · intro ρ wq hb ho hc hd
        have hC : ∀ v, ρ (.const v) = v := fun v => hc _ (by intro t e; cases e)
        have hF : ∀ f, ρ (.func f) = .func (.func f) #[] #[] := fun f => hc _ (by intro t e; cases e)
        have h25 : ρ (.tmp 25) = .slice (some ⟨g, 0, none⟩) m cap := hd 25 (by kernel_rfl)
        have h26 : ρ (.tmp 26) = .int .i64 (k : Int) := hd 26 (by kernel_rfl)
        exact Lin.Runs.value Lin.keeps (v := .pointer (some ⟨g, k * 3, none⟩)) (by simp [execOp, go_sem, h25, h26, k0, kl]) rfl
      · intro ρ wq hb ho hc hd
        have hC : ∀ v, ρ (.const v) = v := fun v => hc _ (by intro t e; cases e)
        have hF : ∀ f, ρ (.func f) = .func (.func f) #[] #[] := fun f => hc _ (by intro t e; cases e)
        have h27 : ρ (.tmp 27) = .pointer (some ⟨g, k * 3, none⟩) := hd 27 (by kernel_rfl)
        exact Lin.Runs.value Lin.keeps (v := .pointer (some ⟨g, k * 3, none⟩)) (by simp [execOp, go_sem, h27]) rfl
      · intro ρ wq hb ho hc hd
        have hC : ∀ v, ρ (.const v) = v := fun v => hc _ (by intro t e; cases e)
        have hF : ∀ f, ρ (.func f) = .func (.func f) #[] #[] := fun f => hc _ (by intro t e; cases e)
        have h28 : ρ (.tmp 28) = .pointer (some ⟨g, k * 3, none⟩) := hd 28 (by kernel_rfl)
        have dd := (hb.cell (p := ⟨g, k * 3, none⟩) LG.out).trans e0
        exact Lin.Runs.value Lin.keeps (v := .int .i64 xb) (by simp [execOp, go_sem, h28, dd]) rfl
      · intro ρ wq hb ho hc hd
        have hC : ∀ v, ρ (.const v) = v := fun v => hc _ (by intro t e; cases e)
        have hF : ∀ f, ρ (.func f) = .func (.func f) #[] #[] := fun f => hc _ (by intro t e; cases e)
        have h6 : ρ (.tmp 6) = .pointer (some ⟨t6, 0, none⟩) := ho 6 (by kernel_rfl)
        exact Lin.Runs.value Lin.keeps (v := .pointer (some ⟨t6, 1, none⟩)) (by simp [execOp, go_sem, h6]) rfl
      · intro ρ wq hb ho hc hd
        have hC : ∀ v, ρ (.const v) = v := fun v => hc _ (by intro t e; cases e)
        have hF : ∀ f, ρ (.func f) = .func (.func f) #[] #[] := fun f => hc _ (by intro t e; cases e)
        have h30 : ρ (.tmp 30) = .pointer (some ⟨t6, 1, none⟩) := hd 30 (by kernel_rfl)
        have dd := (hb.cell (p := ⟨t6, 1, none⟩) LT.out).trans t1
        exact Lin.Runs.value Lin.keeps (v := .int .i64 xb) (by simp [execOp, go_sem, h30, dd]) rfl
      · intro ρ wq hb ho hc hd
        have hC : ∀ v, ρ (.const v) = v := fun v => hc _ (by intro t e; cases e)
        have hF : ∀ f, ρ (.func f) = .func (.func f) #[] #[] := fun f => hc _ (by intro t e; cases e)
        have h29 : ρ (.tmp 29) = .int .i64 xb := hd 29 (by kernel_rfl)
        have h31 : ρ (.tmp 31) = .int .i64 xb := hd 31 (by kernel_rfl)
        exact Lin.Runs.value Lin.keeps (v := .bool false) (by simp [execOp, go_sem, h29, h31]) rfl
      · intro ρ wq hb ho hc hd
        have hC : ∀ v, ρ (.const v) = v := fun v => hc _ (by intro t e; cases e)
        have hF : ∀ f, ρ (.func f) = .func (.func f) #[] #[] := fun f => hc _ (by intro t e; cases e)
        have h32 : ρ (.tmp 32) = .bool false := hd 32 (by kernel_rfl)
        exact Lin.Runs.value Lin.keeps (Lin.exec_move rfl) h32
      · intro ρ wq hb ho hc hd
        have hC : ∀ v, ρ (.const v) = v := fun v => hc _ (by intro t e; cases e)
        have hF : ∀ f, ρ (.func f) = .func (.func f) #[] #[] := fun f => hc _ (by intro t e; cases e)
        intro t ht; cases (show some 33 = some t from ht)
        refine ⟨fun _ => ?_, fun hn => absurd (hd 33 (by kernel_rfl)) hn⟩
        have h0 : ρ (.tmp 0) = .pointer (some ⟨gs, 0, none⟩) := ho 0 (by kernel_rfl)
        exact Lin.Runs.value Lin.keeps (Lin.exec_move rfl) h0
      · intro ρ wq hb ho hc hd
        have hC : ∀ v, ρ (.const v) = v := fun v => hc _ (by intro t e; cases e)
        have hF : ∀ f, ρ (.func f) = .func (.func f) #[] #[] := fun f => hc _ (by intro t e; cases e)
        intro t ht; cases (show some 33 = some t from ht)
        refine ⟨fun _ => ?_, fun hn => absurd (hd 33 (by kernel_rfl)) hn⟩
        have h34 : ρ (.tmp 34) = .pointer (some ⟨gs, 0, none⟩) := hd 34 (by kernel_rfl)
        exact Lin.Runs.value Lin.keeps (v := .pointer (some ⟨gs, 0, none⟩)) (by simp [execOp, go_sem, h34]) rfl
      · intro ρ wq hb ho hc hd
        have hC : ∀ v, ρ (.const v) = v := fun v => hc _ (by intro t e; cases e)
        have hF : ∀ f, ρ (.func f) = .func (.func f) #[] #[] := fun f => hc _ (by intro t e; cases e)
        intro t ht; cases (show some 33 = some t from ht)
        refine ⟨fun _ => ?_, fun hn => absurd (hd 33 (by kernel_rfl)) hn⟩
        have h35 : ρ (.tmp 35) = .pointer (some ⟨gs, 0, none⟩) := hd 35 (by kernel_rfl)
        exact Lin.Runs.value Lin.keeps (v := .pointer (some ⟨gs, 0, none⟩)) (by simp [execOp, go_sem, h35]) rfl
      · intro ρ wq hb ho hc hd
        have hC : ∀ v, ρ (.const v) = v := fun v => hc _ (by intro t e; cases e)
        have hF : ∀ f, ρ (.func f) = .func (.func f) #[] #[] := fun f => hc _ (by intro t e; cases e)
        intro t ht; cases (show some 33 = some t from ht)
        refine ⟨fun _ => ?_, fun hn => absurd (hd 33 (by kernel_rfl)) hn⟩
        have h36 : ρ (.tmp 36) = .pointer (some ⟨gs, 0, none⟩) := hd 36 (by kernel_rfl)
        have dd := (hb.cell (p := ⟨gs, 0, none⟩) LGS.out).trans s0
        exact Lin.Runs.value Lin.keeps (v := .slice (some ⟨g, 0, none⟩) m cap) (by simp [execOp, go_sem, h36, dd]) rfl
      · intro ρ wq hb ho hc hd
        have hC : ∀ v, ρ (.const v) = v := fun v => hc _ (by intro t e; cases e)
        have hF : ∀ f, ρ (.func f) = .func (.func f) #[] #[] := fun f => hc _ (by intro t e; cases e)
        intro t ht; cases (show some 33 = some t from ht)
        refine ⟨fun _ => ?_, fun hn => absurd (hd 33 (by kernel_rfl)) hn⟩
        have h5 : ρ (.tmp 5) = .int .i64 (k : Int) := ho 5 (by kernel_rfl)
        exact Lin.Runs.value Lin.keeps (Lin.exec_move rfl) h5
      · intro ρ wq hb ho hc hd
        have hC : ∀ v, ρ (.const v) = v := fun v => hc _ (by intro t e; cases e)
        have hF : ∀ f, ρ (.func f) = .func (.func f) #[] #[] := fun f => hc _ (by intro t e; cases e)
        intro t ht; cases (show some 33 = some t from ht)
        refine ⟨fun _ => ?_, fun hn => absurd (hd 33 (by kernel_rfl)) hn⟩
        have h37 : ρ (.tmp 37) = .slice (some ⟨g, 0, none⟩) m cap := hd 37 (by kernel_rfl)
        have h38 : ρ (.tmp 38) = .int .i64 (k : Int) := hd 38 (by kernel_rfl)
        exact Lin.Runs.value Lin.keeps (v := .pointer (some ⟨g, k * 3, none⟩)) (by simp [execOp, go_sem, h37, h38, k0, kl]) rfl
      · intro ρ wq hb ho hc hd
        have hC : ∀ v, ρ (.const v) = v := fun v => hc _ (by intro t e; cases e)
        have hF : ∀ f, ρ (.func f) = .func (.func f) #[] #[] := fun f => hc _ (by intro t e; cases e)
        intro t ht; cases (show some 33 = some t from ht)
        refine ⟨fun _ => ?_, fun hn => absurd (hd 33 (by kernel_rfl)) hn⟩
        have h39 : ρ (.tmp 39) = .pointer (some ⟨g, k * 3, none⟩) := hd 39 (by kernel_rfl)
        exact Lin.Runs.value Lin.keeps (v := .pointer (some ⟨g, k * 3 + 1, none⟩)) (by simp [execOp, go_sem, h39]) rfl
      · intro ρ wq hb ho hc hd
        have hC : ∀ v, ρ (.const v) = v := fun v => hc _ (by intro t e; cases e)
        have hF : ∀ f, ρ (.func f) = .func (.func f) #[] #[] := fun f => hc _ (by intro t e; cases e)
        intro t ht; cases (show some 33 = some t from ht)
        refine ⟨fun _ => ?_, fun hn => absurd (hd 33 (by kernel_rfl)) hn⟩
        have h40 : ρ (.tmp 40) = .pointer (some ⟨g, k * 3 + 1, none⟩) := hd 40 (by kernel_rfl)
        have dd := (hb.cell (p := ⟨g, k * 3 + 1, none⟩) LG.out).trans e1
        exact Lin.Runs.value Lin.keeps (v := .int .i64 xw) (by simp [execOp, go_sem, h40, dd]) rfl
      · intro ρ wq hb ho hc hd
        have hC : ∀ v, ρ (.const v) = v := fun v => hc _ (by intro t e; cases e)
        have hF : ∀ f, ρ (.func f) = .func (.func f) #[] #[] := fun f => hc _ (by intro t e; cases e)
        intro t ht; cases (show some 33 = some t from ht)
        refine ⟨fun _ => ?_, fun hn => absurd (hd 33 (by kernel_rfl)) hn⟩
        have h6 : ρ (.tmp 6) = .pointer (some ⟨t6, 0, none⟩) := ho 6 (by kernel_rfl)
        exact Lin.Runs.value Lin.keeps (v := .pointer (some ⟨t6, 2, none⟩)) (by simp [execOp, go_sem, h6]) rfl
      · intro ρ wq hb ho hc hd
        have hC : ∀ v, ρ (.const v) = v := fun v => hc _ (by intro t e; cases e)
        have hF : ∀ f, ρ (.func f) = .func (.func f) #[] #[] := fun f => hc _ (by intro t e; cases e)
        intro t ht; cases (show some 33 = some t from ht)
        refine ⟨fun _ => ?_, fun hn => absurd (hd 33 (by kernel_rfl)) hn⟩
        have h42 : ρ (.tmp 42) = .pointer (some ⟨t6, 2, none⟩) := hd 42 (by kernel_rfl)
        have dd := (hb.cell (p := ⟨t6, 2, none⟩) LT.out).trans t2
        exact Lin.Runs.value Lin.keeps (v := .int .i64 xw) (by simp [execOp, go_sem, h42, dd]) rfl
      · intro ρ wq hb ho hc hd
        have hC : ∀ v, ρ (.const v) = v := fun v => hc _ (by intro t e; cases e)
        have hF : ∀ f, ρ (.func f) = .func (.func f) #[] #[] := fun f => hc _ (by intro t e; cases e)
        intro t ht; cases (show some 33 = some t from ht)
        refine ⟨fun _ => ?_, fun hn => absurd (hd 33 (by kernel_rfl)) hn⟩
        have h41 : ρ (.tmp 41) = .int .i64 xw := hd 41 (by kernel_rfl)
        have h43 : ρ (.tmp 43) = .int .i64 xw := hd 43 (by kernel_rfl)
        exact Lin.Runs.value Lin.keeps (v := .bool false) (by simp [execOp, go_sem, h41, h43]) rfl
      · intro ρ wq hb ho hc hd
        have hC : ∀ v, ρ (.const v) = v := fun v => hc _ (by intro t e; cases e)
        have hF : ∀ f, ρ (.func f) = .func (.func f) #[] #[] := fun f => hc _ (by intro t e; cases e)
        have h33 : ρ (.tmp 33) = .bool false := hd 33 (by kernel_rfl)
        have h44 : ρ (.tmp 44) = .bool false := hd 44 (by kernel_rfl)
        exact Lin.Runs.value Lin.keeps (v := .bool false) (by simp [execOp, go_sem, hC, h33, h44]) rfl
      · intro vals w5 hb2 hv
        have ee := hv 45 (by kernel_rfl)
        have HB5 := Lib.hid (HB4.out.trans (hb2.mono HB4.out.size))
        clear hb2
        simp only [Lin.putAll, Option.getD_some]
        rw [show vals 45 = .bool false from ee]
        clear ee hv
        go_simp
        generalize vals = vv
        go_wp2_with fail
        go_roundw
        case rel => exact ⟨k + 1, HLT.out, by go_num, HB5.out⟩
        case measure => have := HLT.out; simp [intOf]; omega
    · obtain rfl : k = m := by omega
      have hge : ¬ (k : Int) < (k : Int) := by omega
      clear hk hlt
      go_wp2_with fail
      go_ret
      exact ⟨rfl, HB.out⟩
theorem own_in5 {w : World} {base e sz n k : Nat} {v : Value} {xs : List Value} (h : w.ownsRow base e sz v n xs) (hk : v.ownBlock = some k) : base ≤ k := by
  apply Decidable.byContradiction; intro hn; exact own_far h (by omega) hk
def Own3g (gs : Nat) (v0 : Value) (B n : Nat) (xs : List Value) : Lin.Spec Lin.Keeps := ⟨fun v w => w.ownsRow B 136 3 v n xs ∧ Is w gs 62 #[v0], fun h hb => ⟨own_below h.1 hb, h.2.below hb h.2.lt⟩⟩
theorem info_sh : (Try.prog.info? 136).map (fun i => (i.zero, i.size, i.bytes)) = some (some (.agg #[.int .i64 0, .int .i64 0, .int .i64 0]), 3, 24) := by kernel_rfl
def RmL (w : World) (gs m : Nat) (kl : List Cand) (v : Value) (wr : World) : Prop :=
  ∃ k : Nat, k ≤ m ∧ v = .int .i64 (k : Int) ∧ (∃ v, Is wr gs 62 #[v] ∧ wr.ownsRow w.heap.size 136 3 v k (shc kl (fun _ => 0) k)) ∧ RmR w.heap.size gs w wr
set_option maxHeartbeats 4000000 in
theorem remember_any (gs c m : Nat) (A : Option Addr) (kl : List Cand) (v0 : Value) (w : World) (hm : kl.length = m) (hmm : m ≤ 1000) (h : Cands w w.heap.size A kl) (hs : Is w gs 62 #[v0]) (hA : ∀ x, A = some x → x.block ≠ gs) :
    Calls Try.prog 79 #[.pointer (some ⟨gs, 0, none⟩), .slice A m c] w fun e w' => e = .returned (.tuple #[]) ∧ (∃ v, Is w' gs 62 #[v] ∧ w'.ownsRow w.heap.size 136 3 v m (shc kl (fun _ => 0) m)) ∧ RmR w.heap.size gs w w' := by
  obtain ⟨i0, hi0, hz0, hz1, hz2⟩ := info_parts info_sh
  have HI0 := Lib.hid hi0; have HZ0 := Lib.hid hz0; have HZ1 := Lib.hid hz1; have HZ2 := Lib.hid hz2
  have s0 := hs.cell 0
  have f0 := hs.free 0
  simp at s0
  have HA := hide hA; have HC := Lib.hid h; have HM := Lib.hid hm; have HS := Lib.hid hs; have LG0 := Lib.hid hs.lt
  clear h hs hm hA hi0 hz0 hz1 hz2
  go_enter Try.func79, Try.ntmps79
  go_wp2_with fail
  clear s0 f0
  go_loopw [11] (fun v wr => RmL w gs m kl v wr) (fun v _ => m - (intOf v).toNat)
  case atStart => exact ⟨0, Nat.zero_le _, rfl, ⟨_, HS.out.put1 _, World.ownsRow_nil _ _ _ _⟩, rm_grown (only_set (only_refl _ (some gs)) (.inl rfl) _) (Nat.le_refl _) (fun q hq => .inr (by injection hq with e; exact e.symm))⟩
  case round =>
    obtain ⟨k, hk, rfl, ⟨v, hiv, hov⟩, hrm⟩ := hrel
    have HV := Lib.hid hiv; have HOV := Lib.hid hov; have HR := Lib.hid hrm
    clear hiv hov hrm HS
    by_cases hlt : k < m
    · obtain ⟨b, off, rfl, hbs, hc⟩ := HC.out (by have := HM.out; omega)
      obtain ⟨c0, c1, c2, c3⟩ := cell4 (show k < kl.length by have := HM.out; omega) hc
      have hne : b ≠ gs := (unhide HA) _ rfl
      have hbl := HR.out.block b hbs hne
      have d0 := (World.cell?_of_block (a := ⟨b, off + k * 4, none⟩) hbl).trans c0
      have d1 := (World.cell?_of_block (a := ⟨b, off + k * 4 + 1, none⟩) hbl).trans c1
      have d2 := (World.cell?_of_block (a := ⟨b, off + k * 4 + 2, none⟩) hbl).trans c2
      have d3 := (World.cell?_of_block (a := ⟨b, off + k * 4 + 3, none⟩) hbl).trans c3
      have KSN := Lib.hid (shc_snoc kl (fun _ => 0) k)
      have k0 : (0 : Int) ≤ (k : Int) := Int.natCast_nonneg _
      have kl' : (k : Int) < (m : Int) := by omega
      have hk0 := k0
      generalize hx : nth kl k = x at *
      clear hx
      obtain ⟨xs, xb, xw, xl⟩ := x
      simp only at d0 d1 d2 d3 KSN
      have HSZ := Lib.hid (show w.heap.size ≤ (wr.alloc (.cells #[.int .i64 xs, .int .i64 xb, .int .i64 xw, .int .u32 xl] 29)).heap.size from Nat.le_trans HR.out.size (by simp))
      have HR4 := Lib.hid ((rm_rel _ _).trans HR.out (rm_keeps ((Below.refl _ _).alloc (Nat.le_refl _) (.cells #[.int .i64 xs, .int .i64 xb, .int .i64 xw, .int .u32 xl] 29)) HR.out.size))
      have S4 := Lib.hid (HV.out.alloc (.cells #[.int .i64 xs, .int .i64 xb, .int .i64 xw, .int .u32 xl] 29))
      have HO := Lib.hid (World.ownsRow.alloc HOV.out (.cells #[.int .i64 xs, .int .i64 xb, .int .i64 xw, .int .u32 xl] 29))
      have s0 := S4.out.cell 0
      have T4 := Is.new wr 29 #[.int .i64 xs, .int .i64 xb, .int .i64 xw, .int .u32 xl]
      have t1 : (wr.alloc (.cells #[.int .i64 xs, .int .i64 xb, .int .i64 xw, .int .u32 xl] 29)).cell? ⟨wr.heap.size, 1, none⟩ = some (.int .i64 xb) := T4.cell 1
      have t2 : (wr.alloc (.cells #[.int .i64 xs, .int .i64 xb, .int .i64 xw, .int .u32 xl] 29)).cell? ⟨wr.heap.size, 2, none⟩ = some (.int .i64 xw) := T4.cell 2
      have LT := Lib.hid T4.lt; have LGS := Lib.hid S4.out.lt
      have HLT := Lib.hid hlt; have KM := Lib.hid (show k ≤ 1000 from by omega)
      clear c0 c1 c2 c3 hc hbs hlt hk hbl T4 HV HOV HR hne
      have t1 := Lib.hid t1; have t2 := Lib.hid t2; have s0 := Lib.hid s0
      go_wp2_with fail
      generalize wr.alloc (.cells #[.int .i64 xs, .int .i64 xb, .int .i64 xw, .int .u32 xl] 29) = V at *
      generalize wr.heap.size = t5 at *
      clear d0 d1 d2 d3
      have t1 := t1.out; have t2 := t2.out; have s0 : V.cell? ⟨gs, 0, none⟩ = some v := s0.out
      refine Lin5.wp_region_lin4 (n := 30) (fun slotq => match slotq with | 15 => Lin.Spec.val (.pointer (some ⟨gs, 0, none⟩)) | 16 => Lin.Spec.val (.pointer (some ⟨gs, 0, none⟩)) | 17 => Lin.Spec.val (.pointer (some ⟨gs, 0, none⟩)) | 18 => Lin.Spec.val (.pointer (some ⟨gs, 0, none⟩)) | 19 => Lin.Spec.val (v) | 20 => Lin.Spec.val (.pointer (some ⟨t5, 1, none⟩)) | 21 => Lin.Spec.val (.int .i64 xb) | 22 => Lin.Spec.val (.pointer (some ⟨t5, 2, none⟩)) | 23 => Lin.Spec.val (.int .i64 xw) | 24 => Lin.Spec.val (.agg #[.int .i64 xb, .int .i64 xw, .int .i64 0]) | 25 => (Lit3 #[.int .i64 xb, .int .i64 xw, .int .i64 0]) | 26 => (Own3g gs v w.heap.size (k + 1) (shc kl (fun _ => 0) (k + 1))) | 27 => Lin.Spec.val (.pointer (some ⟨gs, 0, none⟩)) | 28 => Lin.Spec.val (.pointer (some ⟨gs, 0, none⟩)) | 1014 => (Sto3 gs w.heap.size (k + 1) (shc kl (fun _ => 0) (k + 1))) | _ => Lin.Spec.any) (RmR w.heap.size gs) [(11, [25]), (14, [25, 26])] (by kernel_rfl) rfl (by kernel_rfl) (by kernel_rfl) (rm_rel _ _) (fun {a b} h k => rm_keeps k (Nat.le_trans HSZ.out h.size)) ⟨.inr (Lin5.firm_val _ _), .inr (Lin5.firm_val _ _), .inr (Lin5.firm_val _ _), .inr (Lin5.firm_val _ _), .inr (Lin5.firm_val _ _), .inr (Lin5.firm_val _ _), .inr (Lin5.firm_val _ _), .inr (Lin5.firm_val _ _), .inr (Lin5.firm_val _ _), .inr (Lin5.firm_val _ _), .inl (by kernel_rfl), .inl (by kernel_rfl), .inr (Lin5.firm_val _ _), .inr (Lin5.firm_val _ _), .inl (by kernel_rfl), trivial⟩ ⟨?_, ?_, ?_, ?_, ?_, ?_, ?_, ?_, ?_, ?_, ?_, ?_, ?_, ?_, ?_, trivial⟩ ?_
      · refine Lin5.stepR (by kernel_rfl) ?_
        intro ρ wq hb hk ho hc hd hs
        have hC : ∀ v, ρ (.const v) = v := fun v => hc _ (by intro t e; cases e)
        have hF : ∀ f, ρ (.func f) = .func (.func f) #[] #[] := fun f => hc _ (by intro t e; cases e)
        have h0 : ρ (.tmp 0) = .pointer (some ⟨gs, 0, none⟩) := ho 0 (by kernel_rfl)
        exact Lin.Runs.value Lin.keeps (Lin.exec_move rfl) h0
      · refine Lin5.stepR (by kernel_rfl) ?_
        intro ρ wq hb hk ho hc hd hs
        have hC : ∀ v, ρ (.const v) = v := fun v => hc _ (by intro t e; cases e)
        have hF : ∀ f, ρ (.func f) = .func (.func f) #[] #[] := fun f => hc _ (by intro t e; cases e)
        have h0 : ρ (.tmp 0) = .pointer (some ⟨gs, 0, none⟩) := ho 0 (by kernel_rfl)
        exact Lin.Runs.value Lin.keeps (Lin.exec_move rfl) h0
      · refine Lin5.stepR (by kernel_rfl) ?_
        intro ρ wq hb hk ho hc hd hs
        have hC : ∀ v, ρ (.const v) = v := fun v => hc _ (by intro t e; cases e)
        have hF : ∀ f, ρ (.func f) = .func (.func f) #[] #[] := fun f => hc _ (by intro t e; cases e)
        have h16 : ρ (.tmp 16) = .pointer (some ⟨gs, 0, none⟩) := hd 16 (by kernel_rfl)
        exact Lin.Runs.value Lin.keeps (v := .pointer (some ⟨gs, 0, none⟩)) (by simp [execOp, go_sem, h16]) rfl
      · refine Lin5.stepR (by kernel_rfl) ?_
        intro ρ wq hb hk ho hc hd hs
        have hC : ∀ v, ρ (.const v) = v := fun v => hc _ (by intro t e; cases e)
        have hF : ∀ f, ρ (.func f) = .func (.func f) #[] #[] := fun f => hc _ (by intro t e; cases e)
        have h17 : ρ (.tmp 17) = .pointer (some ⟨gs, 0, none⟩) := hd 17 (by kernel_rfl)
        exact Lin.Runs.value Lin.keeps (v := .pointer (some ⟨gs, 0, none⟩)) (by simp [execOp, go_sem, h17]) rfl
      · refine Lin5.stepR (by kernel_rfl) ?_
        intro ρ wq hb hk ho hc hd hs
        have hC : ∀ v, ρ (.const v) = v := fun v => hc _ (by intro t e; cases e)
        have hF : ∀ f, ρ (.func f) = .func (.func f) #[] #[] := fun f => hc _ (by intro t e; cases e)
        have h18 : ρ (.tmp 18) = .pointer (some ⟨gs, 0, none⟩) := hd 18 (by kernel_rfl)
        have dd := ((hk (by kernel_rfl)).cell (p := ⟨gs, 0, none⟩) LGS.out).trans s0
        exact Lin.Runs.value Lin.keeps (v := v) (by simp [execOp, go_sem, h18, dd]) rfl
      · refine Lin5.stepR (by kernel_rfl) ?_
        intro ρ wq hb hk ho hc hd hs
        have hC : ∀ v, ρ (.const v) = v := fun v => hc _ (by intro t e; cases e)
        have hF : ∀ f, ρ (.func f) = .func (.func f) #[] #[] := fun f => hc _ (by intro t e; cases e)
        have h5 : ρ (.tmp 5) = .pointer (some ⟨t5, 0, none⟩) := ho 5 (by kernel_rfl)
        exact Lin.Runs.value Lin.keeps (v := .pointer (some ⟨t5, 1, none⟩)) (by simp [execOp, go_sem, h5]) rfl
      · refine Lin5.stepR (by kernel_rfl) ?_
        intro ρ wq hb hk ho hc hd hs
        have hC : ∀ v, ρ (.const v) = v := fun v => hc _ (by intro t e; cases e)
        have hF : ∀ f, ρ (.func f) = .func (.func f) #[] #[] := fun f => hc _ (by intro t e; cases e)
        have h20 : ρ (.tmp 20) = .pointer (some ⟨t5, 1, none⟩) := hd 20 (by kernel_rfl)
        have dd := ((hk (by kernel_rfl)).cell (p := ⟨t5, 1, none⟩) LT.out).trans t1
        exact Lin.Runs.value Lin.keeps (v := .int .i64 xb) (by simp [execOp, go_sem, h20, dd]) rfl
      · refine Lin5.stepR (by kernel_rfl) ?_
        intro ρ wq hb hk ho hc hd hs
        have hC : ∀ v, ρ (.const v) = v := fun v => hc _ (by intro t e; cases e)
        have hF : ∀ f, ρ (.func f) = .func (.func f) #[] #[] := fun f => hc _ (by intro t e; cases e)
        have h5 : ρ (.tmp 5) = .pointer (some ⟨t5, 0, none⟩) := ho 5 (by kernel_rfl)
        exact Lin.Runs.value Lin.keeps (v := .pointer (some ⟨t5, 2, none⟩)) (by simp [execOp, go_sem, h5]) rfl
      · refine Lin5.stepR (by kernel_rfl) ?_
        intro ρ wq hb hk ho hc hd hs
        have hC : ∀ v, ρ (.const v) = v := fun v => hc _ (by intro t e; cases e)
        have hF : ∀ f, ρ (.func f) = .func (.func f) #[] #[] := fun f => hc _ (by intro t e; cases e)
        have h22 : ρ (.tmp 22) = .pointer (some ⟨t5, 2, none⟩) := hd 22 (by kernel_rfl)
        have dd := ((hk (by kernel_rfl)).cell (p := ⟨t5, 2, none⟩) LT.out).trans t2
        exact Lin.Runs.value Lin.keeps (v := .int .i64 xw) (by simp [execOp, go_sem, h22, dd]) rfl
      · refine Lin5.stepR (by kernel_rfl) ?_
        intro ρ wq hb hk ho hc hd hs
        have hC : ∀ v, ρ (.const v) = v := fun v => hc _ (by intro t e; cases e)
        have hF : ∀ f, ρ (.func f) = .func (.func f) #[] #[] := fun f => hc _ (by intro t e; cases e)
        have h21 : ρ (.tmp 21) = .int .i64 xb := hd 21 (by kernel_rfl)
        have h23 : ρ (.tmp 23) = .int .i64 xw := hd 23 (by kernel_rfl)
        exact Lin.Runs.value Lin.keeps (v := .agg #[.int .i64 xb, .int .i64 xw, .int .i64 0]) (by simp [execOp, go_sem, h21, h23]) rfl
      · refine Lin5.stepR (by kernel_rfl) ?_
        intro ρ wq hb hk ho hc hd hs
        have hC : ∀ v, ρ (.const v) = v := fun v => hc _ (by intro t e; cases e)
        have hF : ∀ f, ρ (.func f) = .func (.func f) #[] #[] := fun f => hc _ (by intro t e; cases e)
        have h24 : ρ (.tmp 24) = .agg #[.int .i64 xb, .int .i64 xw, .int .i64 0] := hd 24 (by kernel_rfl)
        refine Lin.Runs.made (v := .slice (some ⟨wq.heap.size, 0, none⟩) 1 1) (w' := wq.alloc (.cells #[.int .i64 xb, .int .i64 xw, .int .i64 0] 136)) (by simp [execOp, go_sem, h24]) ((Below.refl _ _).alloc (Nat.le_refl _) _) ⟨_, rfl, Is.new wq 136 #[.int .i64 xb, .int .i64 xw, .int .i64 0]⟩
      · refine Lin5.stepW (by kernel_rfl) ?_
        intro ρ wq hb hk ho hc hd hs
        have hC : ∀ v, ρ (.const v) = v := fun v => hc _ (by intro t e; cases e)
        have hF : ∀ f, ρ (.func f) = .func (.func f) #[] #[] := fun f => hc _ (by intro t e; cases e)
        have h19 : ρ (.tmp 19) = v := hd 19 (by kernel_rfl)
        have h25 := hd 25 (by kernel_rfl)
        obtain ⟨g9, e9, hi9⟩ := h25
        obtain ⟨ga, ca, w', hr, ho1, hg1, hat1, hl1⟩ := run_append_lies (P := Try.prog) wq 60 60 w.heap.size 136 i0 _ 3 24 Try.underlying60 HI0.out HZ0.out HZ1.out HZ2.out rfl (by omega) v k (shc kl (fun _ => 0) k) (own_below HO.out (hk (by kernel_rfl))) ⟨g9, 0, none⟩ 1 1 (#[.int .i64 xb, .int .i64 xw, .int .i64 0] : Array Value).toList rfl (World.news_of_block hi9) (by simp [Value.oneCell']) (by omega) (by have := KM.out; unfold maxLen; omega) (by have := KM.out; omega) (Nat.le_trans HSZ.out hb.size) _ rfl
        rw [KSN.out] at ho1
        have hi1 := (S4.out.below (hk (by kernel_rfl)) S4.out.lt).only hg1 (fun e => absurd (own_in5 HO.out e.symm) (by have := LG0.out; omega))
        exact Lin5.RunsB.made (by unfold execOp; simp only [resolve, invoke, builtin, Sem.run_bind, Sem.run_pure, Result.andThen_ok, List.map_toArray, List.map_cons, List.map_nil, e9, h19, hr]) (rm_grown hg1 (Nat.le_trans HSZ.out hb.size) (fun q hq => .inl (own_in5 HO.out hq))) ⟨ho1, hi1⟩
      · refine Lin5.stepR (by kernel_rfl) ?_
        intro ρ wq hb hk ho hc hd hs
        have hC : ∀ v, ρ (.const v) = v := fun v => hc _ (by intro t e; cases e)
        have hF : ∀ f, ρ (.func f) = .func (.func f) #[] #[] := fun f => hc _ (by intro t e; cases e)
        have h15 : ρ (.tmp 15) = .pointer (some ⟨gs, 0, none⟩) := hd 15 (by kernel_rfl)
        exact Lin.Runs.value Lin.keeps (v := .pointer (some ⟨gs, 0, none⟩)) (by simp [execOp, go_sem, h15]) rfl
      · refine Lin5.stepR (by kernel_rfl) ?_
        intro ρ wq hb hk ho hc hd hs
        have hC : ∀ v, ρ (.const v) = v := fun v => hc _ (by intro t e; cases e)
        have hF : ∀ f, ρ (.func f) = .func (.func f) #[] #[] := fun f => hc _ (by intro t e; cases e)
        have h27 : ρ (.tmp 27) = .pointer (some ⟨gs, 0, none⟩) := hd 27 (by kernel_rfl)
        exact Lin.Runs.value Lin.keeps (v := .pointer (some ⟨gs, 0, none⟩)) (by simp [execOp, go_sem, h27]) rfl
      · refine Lin5.stepW (by kernel_rfl) ?_
        intro ρ wq hb hk ho hc hd hs
        have hC : ∀ v, ρ (.const v) = v := fun v => hc _ (by intro t e; cases e)
        have hF : ∀ f, ρ (.func f) = .func (.func f) #[] #[] := fun f => hc _ (by intro t e; cases e)
        have h26 := hd 26 (by kernel_rfl)
        have h28 : ρ (.tmp 28) = .pointer (some ⟨gs, 0, none⟩) := hd 28 (by kernel_rfl)
        obtain ⟨ho1, hi1⟩ := h26
        obtain ⟨A9, c9, e26⟩ := own_shape ho1
        have z0 := hi1.cell 0
        have f0 := hi1.free 0
        simp at z0
        exact Lin5.RunsB.store (w' := wq.setCell ⟨gs, 0, none⟩ (ρ (.tmp 26))) (by simp [execOp, go_sem, h28, e26, z0, f0]) (rm_grown (only_set (only_refl _ (some gs)) (.inl rfl) _) (Nat.le_trans HSZ.out hb.size) (fun q hq => .inr (by injection hq with e; exact e.symm))) ⟨_, hi1.put1 _, own_set ho1 (own_far ho1 LG0.out) _⟩
      · intro vals w9 hb2 hv hs
        have hp := hs 14 _ rfl rfl (by kernel_rfl)
        have HP := Lib.hid hp
        have HR9 := Lib.hid ((rm_rel _ _).trans HR4.out hb2)
        clear hp hv hb2 hs
        simp only [Lin.putAll, Option.getD_some]
        go_simp
        generalize vals = vv
        go_wp2_with fail
        go_roundw
        case rel => exact ⟨k + 1, HLT.out, by go_num, HP.out, HR9.out⟩
        case measure => have := HLT.out; simp [intOf]; omega
    · obtain rfl : k = m := by omega
      have hge : ¬ (k : Int) < (k : Int) := by omega
      clear hk hlt
      go_wp2_with fail
      go_end0
      exact ⟨rfl, ⟨_, HV.out, HOV.out⟩, HR.out⟩
end Go.Proofs.Ytkebgkjopfdafaa
