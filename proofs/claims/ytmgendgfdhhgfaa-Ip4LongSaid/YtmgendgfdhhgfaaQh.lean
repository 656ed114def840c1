/-
  Right of package ip4 where all is right. Helper of the claims of layer 4.
-/
import Derived.Test.YtmgendgfdhhgfaaQg
namespace Go.Proofs.Ytmgendgfdhhgfaa
open Go.ChangeShapes Go.WideShapes Go.ChangeAt Go.RowKit
set_option linter.unusedSimpArgs false
set_option linter.unusedVariables false
set_option maxRecDepth 100000
set_option maxHeartbeats 4000000 in
theorem right4_yes (ts le id : Int) (st mo : Bool) (ofs tt pr sm sl dl : Int) (A : Option Addr) (n c : Nat) (w : World) (hn : n ≤ 40) (h4 : n % 4 = 0) (hl : (20 + n : Nat) ≤ le) (hl2 : le ≤ 65535) (ho : 0 ≤ ofs) (ho2 : ofs ≤ 8191) (s0 : 0 ≤ sl) (s1 : sl ≤ 4294967295) (d0 : 0 ≤ dl) (d1 : dl ≤ 4294967295) :
    Calls Try.prog 20 #[hv4 ts le id st mo ofs tt pr sm false 0 sl false 0 dl (.slice A n c)] w fun e w' => e = .returned (.bool true) ∧ Below w.heap.size w w' := by
  have HB := Lib.hid ((Below.refl w.heap.size w).alloc (Nat.le_refl _) (.cells #[.int .u8 ts, .int .i64 le, .int .u16 id, .bool st, .bool mo, .int .i64 ofs, .int .u8 tt, .int .u8 pr, .int .u16 sm, .bool false, .int .u64 0, .int .u64 sl, .bool false, .int .u64 0, .int .u64 dl, .slice A n c] 28))
  have P1 := hide (Is.new w 28 #[.int .u8 ts, .int .i64 le, .int .u16 id, .bool st, .bool mo, .int .i64 ofs, .int .u8 tt, .int .u8 pr, .int .u16 sm, .bool false, .int .u64 0, .int .u64 sl, .bool false, .int .u64 0, .int .u64 dl, .slice A n c])
  have n0 : (0 : Int) ≤ (n : Int) := Int.natCast_nonneg _
  have m4 : (n : Int) % 4 = 0 := by omega
  have m4b : (n : Int).tmod 4 = 0 := by rw [Int.tmod_eq_emod_of_nonneg n0]; exact m4
  have n40 : ¬ (40 : Int) < (n : Int) := by omega
  have NB := Lib.hid hn
  have B1 := Lib.hid (show 20 + (n : Int) ≤ le by omega); have B2 := Lib.hid (show le ≤ 65535 by omega); have B3 := Lib.hid (show 0 ≤ ofs by omega); have B4 := Lib.hid (show ofs ≤ 8191 by omega)
  have hw4 : IntKind.i64.wrap ((n : Int) % 4) = (n : Int) % 4 := IntWalk.i64_in _ (by omega)
  clear hl hl2 ho ho2 h4
  unfold hv4
  go_enter Try.func20, Try.ntmps20
  go_wp2_with fail
  generalize w.alloc (.cells #[.int .u8 ts, .int .i64 le, .int .u16 id, .bool st, .bool mo, .int .i64 ofs, .int .u8 tt, .int .u8 pr, .int .u16 sm, .bool false, .int .u64 0, .int .u64 sl, .bool false, .int .u64 0, .int .u64 dl, .slice A n c] 28) = W at *
  have c0 := P1.out.cell 0
  have c1 := P1.out.cell 1
  have c2 := P1.out.cell 2
  have c3 := P1.out.cell 3
  have c4 := P1.out.cell 4
  have c5 := P1.out.cell 5
  have c6 := P1.out.cell 6
  have c7 := P1.out.cell 7
  have c8 := P1.out.cell 8
  have c9 := P1.out.cell 9
  have c10 := P1.out.cell 10
  have c11 := P1.out.cell 11
  have c12 := P1.out.cell 12
  have c13 := P1.out.cell 13
  have c14 := P1.out.cell 14
  have c15 := P1.out.cell 15
  simp at c0 c1 c2 c3 c4 c5 c6 c7 c8 c9 c10 c11 c12 c13 c14 c15
  have C0 := Lib.hid c0
  have C1 := Lib.hid c1
  have C2 := Lib.hid c2
  have C3 := Lib.hid c3
  have C4 := Lib.hid c4
  have C5 := Lib.hid c5
  have C6 := Lib.hid c6
  have C7 := Lib.hid c7
  have C8 := Lib.hid c8
  have C9 := Lib.hid c9
  have C10 := Lib.hid c10
  have C11 := Lib.hid c11
  have C12 := Lib.hid c12
  have C13 := Lib.hid c13
  have C14 := Lib.hid c14
  have C15 := Lib.hid c15
  have LW := Lib.hid P1.out.lt
  clear c0 c1 c2 c3 c4 c5 c6 c7 c8 c9 c10 c11 c12 c13 c14 c15
  refine Lin.wp_region_lin Lin.keeps (n := 42)  (fun slotq => match slotq with | 14 => Lin.Spec.val (.pointer (some ⟨w.heap.size, 1, none⟩)) | 15 => Lin.Spec.val (.int .i64 le) | 16 => Lin.Spec.val (.agg #[.int .u8 ts, .int .i64 le, .int .u16 id, .bool st, .bool mo, .int .i64 ofs, .int .u8 tt, .int .u8 pr, .int .u16 sm, .bool false, .int .u64 0, .int .u64 sl, .bool false, .int .u64 0, .int .u64 dl, .slice A n c]) | 17 => Lin.Spec.val (.int .i64 ((20 + n : Nat) : Int)) | 18 => Lin.Spec.val (.bool false) | 19 => Lin.Spec.val (.bool false) | 20 => Lin.Spec.val (.pointer (some ⟨w.heap.size, 1, none⟩)) | 21 => Lin.Spec.val (.int .i64 le) | 22 => Lin.Spec.val (.bool false) | 23 => Lin.Spec.val (.bool false) | 24 => Lin.Spec.val (.bool false) | 25 => Lin.Spec.val (.pointer (some ⟨w.heap.size, 5, none⟩)) | 26 => Lin.Spec.val (.int .i64 ofs) | 27 => Lin.Spec.val (.bool false) | 28 => Lin.Spec.val (.bool false) | 29 => Lin.Spec.val (.bool false) | 30 => Lin.Spec.val (.pointer (some ⟨w.heap.size, 5, none⟩)) | 31 => Lin.Spec.val (.int .i64 ofs) | 32 => Lin.Spec.val (.bool false) | 33 => Lin.Spec.val (.bool false) | _ => Lin.Spec.any) (by kernel_rfl) rfl (by kernel_rfl) ⟨?_, ?_, ?_, ?_, ?_, ?_, ?_, ?_, ?_, ?_, ?_, ?_, ?_, ?_, ?_, ?_, ?_, ?_, ?_, ?_, trivial⟩ ?_
  · intro ρ wq hb ho hc hd
    have hC : ∀ v, ρ (.const v) = v := fun v => hc _ (by intro t e; cases e)
    have hF : ∀ f, ρ (.func f) = .func (.func f) #[] #[] := fun f => hc _ (by intro t e; cases e)
    have h1 : ρ (.tmp 1) = .pointer (some ⟨w.heap.size, 0, none⟩) := ho 1 (by kernel_rfl)
    exact Lin.Runs.value Lin.keeps (v := .pointer (some ⟨w.heap.size, 1, none⟩)) (by simp [execOp, go_sem, h1]) rfl
  · intro ρ wq hb ho hc hd
    have hC : ∀ v, ρ (.const v) = v := fun v => hc _ (by intro t e; cases e)
    have hF : ∀ f, ρ (.func f) = .func (.func f) #[] #[] := fun f => hc _ (by intro t e; cases e)
    have h14 : ρ (.tmp 14) = .pointer (some ⟨w.heap.size, 1, none⟩) := hd 14 (by kernel_rfl)
    have dd := (hb.cell (p := ⟨w.heap.size, 1, none⟩) LW.out).trans C1.out
    exact Lin.Runs.value Lin.keeps (v := .int .i64 le) (by simp [execOp, go_sem, h14, dd]) rfl
  · intro ρ wq hb ho hc hd
    have hC : ∀ v, ρ (.const v) = v := fun v => hc _ (by intro t e; cases e)
    have hF : ∀ f, ρ (.func f) = .func (.func f) #[] #[] := fun f => hc _ (by intro t e; cases e)
    have h1 : ρ (.tmp 1) = .pointer (some ⟨w.heap.size, 0, none⟩) := ho 1 (by kernel_rfl)
    have q0 := (hb.cell (p := ⟨w.heap.size, 0, none⟩) LW.out).trans C0.out
    have q1 := (hb.cell (p := ⟨w.heap.size, 1, none⟩) LW.out).trans C1.out
    have q2 := (hb.cell (p := ⟨w.heap.size, 2, none⟩) LW.out).trans C2.out
    have q3 := (hb.cell (p := ⟨w.heap.size, 3, none⟩) LW.out).trans C3.out
    have q4 := (hb.cell (p := ⟨w.heap.size, 4, none⟩) LW.out).trans C4.out
    have q5 := (hb.cell (p := ⟨w.heap.size, 5, none⟩) LW.out).trans C5.out
    have q6 := (hb.cell (p := ⟨w.heap.size, 6, none⟩) LW.out).trans C6.out
    have q7 := (hb.cell (p := ⟨w.heap.size, 7, none⟩) LW.out).trans C7.out
    have q8 := (hb.cell (p := ⟨w.heap.size, 8, none⟩) LW.out).trans C8.out
    have q9 := (hb.cell (p := ⟨w.heap.size, 9, none⟩) LW.out).trans C9.out
    have q10 := (hb.cell (p := ⟨w.heap.size, 10, none⟩) LW.out).trans C10.out
    have q11 := (hb.cell (p := ⟨w.heap.size, 11, none⟩) LW.out).trans C11.out
    have q12 := (hb.cell (p := ⟨w.heap.size, 12, none⟩) LW.out).trans C12.out
    have q13 := (hb.cell (p := ⟨w.heap.size, 13, none⟩) LW.out).trans C13.out
    have q14 := (hb.cell (p := ⟨w.heap.size, 14, none⟩) LW.out).trans C14.out
    have q15 := (hb.cell (p := ⟨w.heap.size, 15, none⟩) LW.out).trans C15.out
    exact Lin.Runs.value Lin.keeps (v := .agg #[.int .u8 ts, .int .i64 le, .int .u16 id, .bool st, .bool mo, .int .i64 ofs, .int .u8 tt, .int .u8 pr, .int .u16 sm, .bool false, .int .u64 0, .int .u64 sl, .bool false, .int .u64 0, .int .u64 dl, .slice A n c]) (by simp [execOp, go_sem, h1, q0, q1, q2, q3, q4, q5, q6, q7, q8, q9, q10, q11, q12, q13, q14, q15]) rfl
  · intro ρ wq hb ho hc hd
    have hC : ∀ v, ρ (.const v) = v := fun v => hc _ (by intro t e; cases e)
    have hF : ∀ f, ρ (.func f) = .func (.func f) #[] #[] := fun f => hc _ (by intro t e; cases e)
    have h16 : ρ (.tmp 16) = .agg #[.int .u8 ts, .int .i64 le, .int .u16 id, .bool st, .bool mo, .int .i64 ofs, .int .u8 tt, .int .u8 pr, .int .u16 sm, .bool false, .int .u64 0, .int .u64 sl, .bool false, .int .u64 0, .int .u64 dl, .slice A n c] := hd 16 (by kernel_rfl)
    exact Lin.Runs.call Lin.keeps (f := 12) (args := #[hv4 ts le id st mo ofs tt pr sm false 0 sl false 0 dl (.slice A n c)]) (by simp [execOp, go_sem, hF, h16, hv4]) ((size4 ts le id st mo ofs tt pr sm false 0 sl false 0 dl A n c wq (by have := NB.out; omega)).mono fun e w9 h => ⟨_, h.1, h.2, rfl⟩)
  · intro ρ wq hb ho hc hd
    have hC : ∀ v, ρ (.const v) = v := fun v => hc _ (by intro t e; cases e)
    have hF : ∀ f, ρ (.func f) = .func (.func f) #[] #[] := fun f => hc _ (by intro t e; cases e)
    have h15 : ρ (.tmp 15) = .int .i64 le := hd 15 (by kernel_rfl)
    have h17 : ρ (.tmp 17) = .int .i64 ((20 + n : Nat) : Int) := hd 17 (by kernel_rfl)
    have b1 := B1.out
    exact Lin.Runs.value Lin.keeps (v := .bool false) (by simp [execOp, go_sem, h15, h17, b1]) rfl
  · intro ρ wq hb ho hc hd
    have hC : ∀ v, ρ (.const v) = v := fun v => hc _ (by intro t e; cases e)
    have hF : ∀ f, ρ (.func f) = .func (.func f) #[] #[] := fun f => hc _ (by intro t e; cases e)
    have h18 : ρ (.tmp 18) = .bool false := hd 18 (by kernel_rfl)
    exact Lin.Runs.value Lin.keeps (Lin.exec_move rfl) h18
  · intro ρ wq hb ho hc hd
    have hC : ∀ v, ρ (.const v) = v := fun v => hc _ (by intro t e; cases e)
    have hF : ∀ f, ρ (.func f) = .func (.func f) #[] #[] := fun f => hc _ (by intro t e; cases e)
    intro t ht; cases (show some 19 = some t from ht)
    refine ⟨fun _ => ?_, fun hn => absurd (hd 19 (by kernel_rfl)) hn⟩
    have h1 : ρ (.tmp 1) = .pointer (some ⟨w.heap.size, 0, none⟩) := ho 1 (by kernel_rfl)
    exact Lin.Runs.value Lin.keeps (v := .pointer (some ⟨w.heap.size, 1, none⟩)) (by simp [execOp, go_sem, h1]) rfl
  · intro ρ wq hb ho hc hd
    have hC : ∀ v, ρ (.const v) = v := fun v => hc _ (by intro t e; cases e)
    have hF : ∀ f, ρ (.func f) = .func (.func f) #[] #[] := fun f => hc _ (by intro t e; cases e)
    intro t ht; cases (show some 19 = some t from ht)
    refine ⟨fun _ => ?_, fun hn => absurd (hd 19 (by kernel_rfl)) hn⟩
    have h20 : ρ (.tmp 20) = .pointer (some ⟨w.heap.size, 1, none⟩) := hd 20 (by kernel_rfl)
    have dd := (hb.cell (p := ⟨w.heap.size, 1, none⟩) LW.out).trans C1.out
    exact Lin.Runs.value Lin.keeps (v := .int .i64 le) (by simp [execOp, go_sem, h20, dd]) rfl
  · intro ρ wq hb ho hc hd
    have hC : ∀ v, ρ (.const v) = v := fun v => hc _ (by intro t e; cases e)
    have hF : ∀ f, ρ (.func f) = .func (.func f) #[] #[] := fun f => hc _ (by intro t e; cases e)
    intro t ht; cases (show some 19 = some t from ht)
    refine ⟨fun _ => ?_, fun hn => absurd (hd 19 (by kernel_rfl)) hn⟩
    have h21 : ρ (.tmp 21) = .int .i64 le := hd 21 (by kernel_rfl)
    have b2 := B2.out
    exact Lin.Runs.value Lin.keeps (v := .bool false) (by simp [execOp, go_sem, hC, h21, b2]) rfl
  · intro ρ wq hb ho hc hd
    have hC : ∀ v, ρ (.const v) = v := fun v => hc _ (by intro t e; cases e)
    have hF : ∀ f, ρ (.func f) = .func (.func f) #[] #[] := fun f => hc _ (by intro t e; cases e)
    have h19 : ρ (.tmp 19) = .bool false := hd 19 (by kernel_rfl)
    have h22 : ρ (.tmp 22) = .bool false := hd 22 (by kernel_rfl)
    exact Lin.Runs.value Lin.keeps (v := .bool false) (by simp [execOp, go_sem, hC, h19, h22]) rfl
  · intro ρ wq hb ho hc hd
    have hC : ∀ v, ρ (.const v) = v := fun v => hc _ (by intro t e; cases e)
    have hF : ∀ f, ρ (.func f) = .func (.func f) #[] #[] := fun f => hc _ (by intro t e; cases e)
    have h23 : ρ (.tmp 23) = .bool false := hd 23 (by kernel_rfl)
    exact Lin.Runs.value Lin.keeps (Lin.exec_move rfl) h23
  · intro ρ wq hb ho hc hd
    have hC : ∀ v, ρ (.const v) = v := fun v => hc _ (by intro t e; cases e)
    have hF : ∀ f, ρ (.func f) = .func (.func f) #[] #[] := fun f => hc _ (by intro t e; cases e)
    intro t ht; cases (show some 24 = some t from ht)
    refine ⟨fun _ => ?_, fun hn => absurd (hd 24 (by kernel_rfl)) hn⟩
    have h1 : ρ (.tmp 1) = .pointer (some ⟨w.heap.size, 0, none⟩) := ho 1 (by kernel_rfl)
    exact Lin.Runs.value Lin.keeps (v := .pointer (some ⟨w.heap.size, 5, none⟩)) (by simp [execOp, go_sem, h1]) rfl
  · intro ρ wq hb ho hc hd
    have hC : ∀ v, ρ (.const v) = v := fun v => hc _ (by intro t e; cases e)
    have hF : ∀ f, ρ (.func f) = .func (.func f) #[] #[] := fun f => hc _ (by intro t e; cases e)
    intro t ht; cases (show some 24 = some t from ht)
    refine ⟨fun _ => ?_, fun hn => absurd (hd 24 (by kernel_rfl)) hn⟩
    have h25 : ρ (.tmp 25) = .pointer (some ⟨w.heap.size, 5, none⟩) := hd 25 (by kernel_rfl)
    have dd := (hb.cell (p := ⟨w.heap.size, 5, none⟩) LW.out).trans C5.out
    exact Lin.Runs.value Lin.keeps (v := .int .i64 ofs) (by simp [execOp, go_sem, h25, dd]) rfl
  · intro ρ wq hb ho hc hd
    have hC : ∀ v, ρ (.const v) = v := fun v => hc _ (by intro t e; cases e)
    have hF : ∀ f, ρ (.func f) = .func (.func f) #[] #[] := fun f => hc _ (by intro t e; cases e)
    intro t ht; cases (show some 24 = some t from ht)
    refine ⟨fun _ => ?_, fun hn => absurd (hd 24 (by kernel_rfl)) hn⟩
    have h26 : ρ (.tmp 26) = .int .i64 ofs := hd 26 (by kernel_rfl)
    have b3 := B3.out
    exact Lin.Runs.value Lin.keeps (v := .bool false) (by simp [execOp, go_sem, hC, h26, b3]) rfl
  · intro ρ wq hb ho hc hd
    have hC : ∀ v, ρ (.const v) = v := fun v => hc _ (by intro t e; cases e)
    have hF : ∀ f, ρ (.func f) = .func (.func f) #[] #[] := fun f => hc _ (by intro t e; cases e)
    have h24 : ρ (.tmp 24) = .bool false := hd 24 (by kernel_rfl)
    have h27 : ρ (.tmp 27) = .bool false := hd 27 (by kernel_rfl)
    exact Lin.Runs.value Lin.keeps (v := .bool false) (by simp [execOp, go_sem, hC, h24, h27]) rfl
  · intro ρ wq hb ho hc hd
    have hC : ∀ v, ρ (.const v) = v := fun v => hc _ (by intro t e; cases e)
    have hF : ∀ f, ρ (.func f) = .func (.func f) #[] #[] := fun f => hc _ (by intro t e; cases e)
    have h28 : ρ (.tmp 28) = .bool false := hd 28 (by kernel_rfl)
    exact Lin.Runs.value Lin.keeps (Lin.exec_move rfl) h28
  · intro ρ wq hb ho hc hd
    have hC : ∀ v, ρ (.const v) = v := fun v => hc _ (by intro t e; cases e)
    have hF : ∀ f, ρ (.func f) = .func (.func f) #[] #[] := fun f => hc _ (by intro t e; cases e)
    intro t ht; cases (show some 29 = some t from ht)
    refine ⟨fun _ => ?_, fun hn => absurd (hd 29 (by kernel_rfl)) hn⟩
    have h1 : ρ (.tmp 1) = .pointer (some ⟨w.heap.size, 0, none⟩) := ho 1 (by kernel_rfl)
    exact Lin.Runs.value Lin.keeps (v := .pointer (some ⟨w.heap.size, 5, none⟩)) (by simp [execOp, go_sem, h1]) rfl
  · intro ρ wq hb ho hc hd
    have hC : ∀ v, ρ (.const v) = v := fun v => hc _ (by intro t e; cases e)
    have hF : ∀ f, ρ (.func f) = .func (.func f) #[] #[] := fun f => hc _ (by intro t e; cases e)
    intro t ht; cases (show some 29 = some t from ht)
    refine ⟨fun _ => ?_, fun hn => absurd (hd 29 (by kernel_rfl)) hn⟩
    have h30 : ρ (.tmp 30) = .pointer (some ⟨w.heap.size, 5, none⟩) := hd 30 (by kernel_rfl)
    have dd := (hb.cell (p := ⟨w.heap.size, 5, none⟩) LW.out).trans C5.out
    exact Lin.Runs.value Lin.keeps (v := .int .i64 ofs) (by simp [execOp, go_sem, h30, dd]) rfl
  · intro ρ wq hb ho hc hd
    have hC : ∀ v, ρ (.const v) = v := fun v => hc _ (by intro t e; cases e)
    have hF : ∀ f, ρ (.func f) = .func (.func f) #[] #[] := fun f => hc _ (by intro t e; cases e)
    intro t ht; cases (show some 29 = some t from ht)
    refine ⟨fun _ => ?_, fun hn => absurd (hd 29 (by kernel_rfl)) hn⟩
    have h31 : ρ (.tmp 31) = .int .i64 ofs := hd 31 (by kernel_rfl)
    have b4 := B4.out
    exact Lin.Runs.value Lin.keeps (v := .bool false) (by simp [execOp, go_sem, hC, h31, b4]) rfl
  · intro ρ wq hb ho hc hd
    have hC : ∀ v, ρ (.const v) = v := fun v => hc _ (by intro t e; cases e)
    have hF : ∀ f, ρ (.func f) = .func (.func f) #[] #[] := fun f => hc _ (by intro t e; cases e)
    have h29 : ρ (.tmp 29) = .bool false := hd 29 (by kernel_rfl)
    have h32 : ρ (.tmp 32) = .bool false := hd 32 (by kernel_rfl)
    exact Lin.Runs.value Lin.keeps (v := .bool false) (by simp [execOp, go_sem, hC, h29, h32]) rfl
  · intro vals w5 hb2 hv
    have ee := hv 33 (by kernel_rfl)
    have HB5 := Lib.hid (HB.out.trans (hb2.mono HB.out.size)); have P5 := hide (P1.out.below hb2 P1.out.lt)
    clear hb2 HB P1
    simp only [Lin.putAll, Option.getD_some]
    rw [show vals 33 = .bool false from ee]
    clear ee hv
    go_simp
    generalize vals = vv
    have a9 := P5.out.cell 9; have a10 := P5.out.cell 10; have a11 := P5.out.cell 11; have a12 := P5.out.cell 12; have a13 := P5.out.cell 13; have a14 := P5.out.cell 14
    simp at a9 a10 a11 a12 a13 a14
    go_wp2_with fail
    refine (valid4 sl _ s0 s1).mono ?_
    rintro e w6 ⟨rfl, hb⟩
    have HB6 := Lib.hid (HB5.out.trans (hb.mono HB5.out.size)); have P6 := hide (P5.out.below hb P5.out.lt)
    clear hb HB5 P5 a9 a10 a11 a12 a13 a14
    have a12 := P6.out.cell 12; have a13 := P6.out.cell 13; have a14 := P6.out.cell 14
    simp at a12 a13 a14
    go_wp2_with fail
    refine (valid4 dl _ d0 d1).mono ?_
    rintro e w7 ⟨rfl, hb⟩
    have HB7 := Lib.hid (HB6.out.trans (hb.mono HB6.out.size))
    go_wp2_with fail
    go_ret
    exact ⟨rfl, HB7.out⟩
end Go.Proofs.Ytmgendgfdhhgfaa
