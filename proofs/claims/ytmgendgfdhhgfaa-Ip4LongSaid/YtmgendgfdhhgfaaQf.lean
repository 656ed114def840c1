/-
  Parse of the reference of layer 4, where the first byte is right. Helper of the claims of layer 4.
-/
import Derived.Test.YtmgendgfdhhgfaaQe
import Derived.Test.YtmgendgfdhhgfaaGrow
import Derived.BigRegion
namespace Go.Proofs.Ytmgendgfdhhgfaa
open Go.ChangeShapes Go.WideShapes Go.ChangeAt Go.RowKit
set_option linter.unusedSimpArgs false
set_option linter.unusedVariables false
set_option maxRecDepth 100000
theorem OwnB.blt {w : World} {g n cap : Nat} {base : Nat} {l : List Int} (h : OwnB w base (.slice (some ⟨g, 0, none⟩) n cap) l) : g < w.heap.size := (World.ownsRow.lt h g rfl).2
def PtZ (B : Nat) : Lin.Spec Lin.Keeps := ⟨fun v w => ∃ g, v = .pointer (some ⟨g, 0, none⟩) ∧ B ≤ g ∧ Is w g 37 #[.int .u8 0, .int .i64 0, .int .u16 0, .bool false, .bool false, .int .i64 0, .int .u8 0, .int .u8 0, .int .u16 0, .bool false, .int .u64 0, .int .u64 0, .bool false, .int .u64 0, .int .u64 0, .slice none 0 0], fun h hb => by
  obtain ⟨g, e, h1, h2⟩ := h
  exact ⟨g, e, h1, h2.below hb h2.lt⟩⟩
/-- What Parse answers. -/
def Par4 (w : World) (l : List Int) (e : Ending) (w' : World) : Prop := Below w.heap.size w w' ∧ ((code4 l ≠ 0 ∧ e = .returned (.tuple #[hz4, .slice none 0 0, .int .i64 (code4 l)])) ∨ (code4 l = 0 ∧ ∃ vo vl, e = .returned (.tuple #[hdr4 l vo, vl, .int .i64 0]) ∧ OwnP w.heap.size (opt4 l) (sz4 l - 20) vo w' ∧ OwnP w.heap.size (load4 l) ((nw l 2 2).toNat - sz4 l) vl w'))
theorem code_form {l : List Int} (h : 20 ≤ l.length) (hf : ¬ form4 l) : code4 l = 21 := by unfold code4; rw [if_neg (by omega), if_pos hf]
theorem code_short {l : List Int} (h : 20 ≤ l.length) (hf : form4 l) (h2 : (l.length : Int) < nw l 2 2) : code4 l = 20 := by unfold code4; rw [if_neg (by omega), if_neg (fun h => h hf), if_pos h2]
theorem code_sum {l : List Int} (h : 20 ≤ l.length) (hf : form4 l) (h2 : ¬ (l.length : Int) < nw l 2 2) (h3 : S2.sumOf (l.take (sz4 l)) ≠ 0) : code4 l = 22 := by unfold code4; rw [if_neg (by omega), if_neg (fun h => h hf), if_neg h2, if_pos h3]
theorem code_ok {l : List Int} (h : 20 ≤ l.length) (hf : form4 l) (h2 : ¬ (l.length : Int) < nw l 2 2) (h3 : S2.sumOf (l.take (sz4 l)) = 0) : code4 l = 0 := by unfold code4; rw [if_neg (by omega), if_neg (fun h => h hf), if_neg h2, if_neg (fun h => h h3)]
set_option maxHeartbeats 8000000 in
theorem rparse4_rest (A : Option Addr) (c n : Nat) (l : List Int) (w : World) (hv : IsB l n (.slice A n c) w) (ho : Octets l) (hn : n ≤ 70000) (h20 : 20 ≤ n) (h : at0 l 0 / 16 = 4) (h2 : 20 ≤ sz4 l) :
    Calls Try.prog 16 #[.slice A n c] w (Par4 w l) := by
  have hlen : l.length = n := by obtain ⟨_, _, _, e, _⟩ := hv; exact e
  have hb0 : Below w.heap.size w (w.alloc (.cells #[.int .u8 0, .int .i64 0, .int .u16 0, .bool false, .bool false, .int .i64 0, .int .u8 0, .int .u8 0, .int .u16 0, .bool false, .int .u64 0, .int .u64 0, .bool false, .int .u64 0, .int .u64 0, .slice none 0 0] 37)) := (Below.refl _ _).alloc (Nat.le_refl _) _
  have HB := Lib.hid hb0
  have hg0 := Is.new w 37 #[.int .u8 0, .int .i64 0, .int .u16 0, .bool false, .bool false, .int .i64 0, .int .u8 0, .int .u8 0, .int .u16 0, .bool false, .int .u64 0, .int .u64 0, .bool false, .int .u64 0, .int .u64 0, .slice none 0 0]
  have hby : Bytes w w.heap.size A l := by obtain ⟨A', c', e, _, h, _⟩ := hv; injection e with e; subst e; exact h
  obtain ⟨b, off, rfl, hbl, hcl⟩ := hby.cells (by omega)
  have d0 := (hb0.cell (p := ⟨b, off + 0, none⟩) hbl).trans (hcl 0 (by omega))
  have d1 := (hb0.cell (p := ⟨b, off + 1, none⟩) hbl).trans (hcl 1 (by omega))
  have d8 := (hb0.cell (p := ⟨b, off + 8, none⟩) hbl).trans (hcl 8 (by omega))
  have d9 := (hb0.cell (p := ⟨b, off + 9, none⟩) hbl).trans (hcl 9 (by omega))
  simp only [Nat.add_zero] at d0
  obtain ⟨u0, v0⟩ := ho 0
  obtain ⟨u6, v6⟩ := ho 6
  obtain ⟨u7, v7⟩ := ho 7
  have hN1 := nw_one (l := l) (i := 1) (by omega) ho; have hN8 := nw_one (l := l) (i := 8) (by omega) ho; have hN9 := nw_one (l := l) (i := 9) (by omega) ho
  have hN6 : nw l 6 2 = at0 l 6 * 256 + at0 l 7 := nw_two (l := l) (i := 6) (by omega) ho
  have b2 := nw2_bd (l := l) (i := 2) (by omega) ho; have b4 := nw2_bd (l := l) (i := 4) (by omega) ho; have b10 := nw2_bd (l := l) (i := 10) (by omega) ho
  have b12 := nw4_bd (l := l) (i := 12) (by omega) ho; have b16 := nw4_bd (l := l) (i := 16) (by omega) ho
  have n20 : ¬ (n : Int) < 20 := by omega
  have n0z : (0 : Int) < (n : Int) := by omega
  have n1z : (1 : Int) < (n : Int) := by omega
  have n8z : (8 : Int) < (n : Int) := by omega
  have n9z : (9 : Int) < (n : Int) := by omega
  have HV := hide (hv.st hb0)
  have HO := Lib.hid ho
  rw [← hN1] at d1
  rw [← hN8] at d8
  rw [← hN9] at d9
  obtain ⟨q, hq⟩ : ∃ q : Nat, at0 l 0 % 16 = (q : Int) := ⟨(at0 l 0 % 16).toNat, by omega⟩
  have hS : sz4 l = q * 4 := by unfold sz4; rw [hq]; simp
  have q16 : q ≤ 15 := by omega
  obtain ⟨S, hSq⟩ : ∃ S : Nat, q * 4 = S := ⟨_, rfl⟩
  have hmul : (q : Int) * 4 = (S : Int) := by omega
  have S60 : S ≤ 60 := by omega
  rw [hSq] at hS
  have HS := Lib.hid hS
  obtain ⟨L, hLn⟩ : ∃ L : Nat, nw l 2 2 = (L : Int) := ⟨(nw l 2 2).toNat, by omega⟩
  have HL := Lib.hid hLn
  have L64 : L ≤ 65535 := by omega
  have P6 := Lib.hid (show 0 ≤ nw l 6 2 ∧ nw l 6 2 ≤ 65535 from by omega)
  have g2 : ¬ (S : Int) < 20 := by omega
  have H20 := Lib.hid (show 20 ≤ S by omega)
  have hcap := hv.caps
  have hcd : w.heap.size ≠ b := by omega
  have HG := hide hg0
  have M0 := Lib.hid (rfl : nw l 1 1 = nw l 1 1)
  have LNL := Lib.hid hlen
  have LN20 := Lib.hid (show 20 ≤ l.length by omega)
  have HV0 := hide hv
  have FORM := Lib.hid (show form4 l ↔ ¬ 32767 < nw l 6 2 ∧ S ≤ L from by
    unfold form4; rw [HS.out, HL.out]
    constructor
    · rintro ⟨_, _, h3, h4⟩; omega
    · rintro ⟨h3, h4⟩; exact ⟨h, by omega, by omega, by omega⟩)
  obtain ⟨x1, hx1⟩ : ∃ x, nw l 1 1 = x := ⟨_, rfl⟩
  obtain ⟨x8, hx8⟩ : ∃ x, nw l 8 1 = x := ⟨_, rfl⟩
  obtain ⟨x9, hx9⟩ : ∃ x, nw l 9 1 = x := ⟨_, rfl⟩
  obtain ⟨x4, hx4⟩ : ∃ x, nw l 4 2 = x := ⟨_, rfl⟩
  obtain ⟨x6, hx6⟩ : ∃ x, nw l 6 2 = x := ⟨_, rfl⟩
  obtain ⟨x10, hx10⟩ : ∃ x, nw l 10 2 = x := ⟨_, rfl⟩
  obtain ⟨x12, hx12⟩ : ∃ x, nw l 12 4 = x := ⟨_, rfl⟩
  obtain ⟨x16, hx16⟩ : ∃ x, nw l 16 4 = x := ⟨_, rfl⟩
  rw [hx1] at d1
  rw [hx8] at d8
  rw [hx9] at d9
  rw [hx4] at b4
  rw [hx10] at b10
  rw [hx12] at b12
  rw [hx16] at b16
  rw [hx6] at FORM P6
  have X4 := Lib.hid hx4; have X6 := Lib.hid hx6; have X10 := Lib.hid hx10; have X12 := Lib.hid hx12; have X16 := Lib.hid hx16
  have HH := Lib.hid (show ∀ vo, hdr4 l vo = hv4 x1 (L : Int) x4 (stB x6) (moB x6) (x6 % 8192) x8 x9 x10 false 0 x12 false 0 x16 vo from fun vo => by unfold hdr4; rw [hx1, hx8, hx9, hx4, hx6, hx10, hx12, hx16, HL.out])
  have p6 := P6.out
  have D1 := Lib.hid d1; have D8 := Lib.hid d8; have D9 := Lib.hid d9; have LBW := Lib.hid (Nat.lt_of_lt_of_le hbl hb0.size)
  have T1 := Lib.hid (show x6.tdiv 16384 = x6 / 16384 from Int.tdiv_eq_ediv_of_nonneg (by omega)); have T2 := Lib.hid (show (x6 / 16384).tmod 2 = x6 / 16384 % 2 from Int.tmod_eq_emod_of_nonneg (by omega))
  have T3 := Lib.hid (show x6.tdiv 8192 = x6 / 8192 from Int.tdiv_eq_ediv_of_nonneg (by omega)); have T4 := Lib.hid (show (x6 / 8192).tmod 2 = x6 / 8192 % 2 from Int.tmod_eq_emod_of_nonneg (by omega))
  have T5 := Lib.hid (show x6.tmod 8192 = x6 % 8192 from Int.tmod_eq_emod_of_nonneg (by omega))
  have E1 := Lib.hid (show (x6 / 16384 % 2 == 1) = stB x6 from rfl); have E2 := Lib.hid (show (x6 / 8192 % 2 == 1) = moB x6 from rfl)
  have W8 := Lib.hid (show IntKind.i64.wrap (x6 % 8192) = x6 % 8192 from IntWalk.i64_in _ (by omega))
  clear hx1 hx8 hx9 hx4 hx6 hx10 hx12 hx16 d1 d8 d9
  clear hg0 hv hby hcl hN1 hN8 hN9 hN6 hSq hS hLn u6 v6 u7 v7 M0 h2 hlen ho
  generalize at0 l 0 = x0 at *
  go_enter Try.func16, Try.ntmps16
  go_wp2_with fail
  generalize w.alloc (.cells #[.int .u8 0, .int .i64 0, .int .u16 0, .bool false, .bool false, .int .i64 0, .int .u8 0, .int .u8 0, .int .u16 0, .bool false, .int .u64 0, .int .u64 0, .bool false, .int .u64 0, .int .u64 0, .slice none 0 0] 37) = W at *
  clear d0
  refine (get_q 6 2 x6 HV.out HO.out (by omega) (by omega) X6.out).mono ?_
  rintro e w6 ⟨rfl, rfl⟩
  go_wp2_with fail
  refine Lin.wp_region_lin_tail Lin.keeps (n := 103) 31 (fun slotq => match slotq with | 30 => Lin.Spec.val (.slice (some ⟨b, off, none⟩) n c) | 31 => Lin.Spec.val (.pointer (some ⟨b, off + 1, none⟩)) | 32 => Lin.Spec.val (.int .u8 x1) | 33 => Lin.Spec.val (.slice (some ⟨b, off, none⟩) n c) | 34 => Lin.Spec.val (.int .u64 (L : Int)) | 35 => Lin.Spec.val (.int .i64 (L : Int)) | 36 => Lin.Spec.val (.slice (some ⟨b, off, none⟩) n c) | 37 => Lin.Spec.val (.int .u64 x4) | 38 => Lin.Spec.val (.int .u16 x4) | 39 => Lin.Spec.val (.int .u64 x6) | 40 => Lin.Spec.val (.int .u64 (x6 / 16384)) | 41 => Lin.Spec.val (.int .u64 (x6 / 16384 % 2)) | 42 => Lin.Spec.val (.bool (stB x6)) | 43 => Lin.Spec.val (.int .u64 x6) | 44 => Lin.Spec.val (.int .u64 (x6 / 8192)) | 45 => Lin.Spec.val (.int .u64 (x6 / 8192 % 2)) | 46 => Lin.Spec.val (.bool (moB x6)) | 47 => Lin.Spec.val (.int .u64 x6) | 48 => Lin.Spec.val (.int .u64 (x6 % 8192)) | 49 => Lin.Spec.val (.int .i64 (x6 % 8192)) | 50 => Lin.Spec.val (.slice (some ⟨b, off, none⟩) n c) | 51 => Lin.Spec.val (.pointer (some ⟨b, off + 8, none⟩)) | 52 => Lin.Spec.val (.int .u8 x8) | 53 => Lin.Spec.val (.slice (some ⟨b, off, none⟩) n c) | 54 => Lin.Spec.val (.pointer (some ⟨b, off + 9, none⟩)) | 55 => Lin.Spec.val (.int .u8 x9) | 56 => Lin.Spec.val (.slice (some ⟨b, off, none⟩) n c) | 57 => Lin.Spec.val (.int .u64 x10) | 58 => Lin.Spec.val (.int .u16 x10) | 59 => Lin.Spec.val (.agg #[.int .u8 x1, .int .i64 (L : Int), .int .u16 x4, .bool (stB x6), .bool (moB x6), .int .i64 (x6 % 8192), .int .u8 x8, .int .u8 x9, .int .u16 x10, .bool false, .int .u64 0, .int .u64 0, .bool false, .int .u64 0, .int .u64 0, .slice none 0 0]) | 7 => (PtZ W.heap.size) | _ => Lin.Spec.any) (by kernel_rfl) rfl (by kernel_rfl) ⟨?_, ?_, ?_, ?_, ?_, ?_, ?_, ?_, ?_, ?_, ?_, ?_, ?_, ?_, ?_, ?_, ?_, ?_, ?_, ?_, ?_, ?_, ?_, ?_, ?_, ?_, ?_, ?_, ?_, ?_, ?_, trivial⟩ ?_
  · intro ρ wq hb ho hc hd
    have hC : ∀ v, ρ (.const v) = v := fun v => hc _ (by intro t e; cases e)
    have hF : ∀ f, ρ (.func f) = .func (.func f) #[] #[] := fun f => hc _ (by intro t e; cases e)
    have h0 : ρ (.tmp 0) = .slice (some ⟨b, off, none⟩) n c := ho 0 (by kernel_rfl)
    exact Lin.Runs.value Lin.keeps (Lin.exec_move rfl) h0
  · intro ρ wq hb ho hc hd
    have hC : ∀ v, ρ (.const v) = v := fun v => hc _ (by intro t e; cases e)
    have hF : ∀ f, ρ (.func f) = .func (.func f) #[] #[] := fun f => hc _ (by intro t e; cases e)
    have h30 : ρ (.tmp 30) = .slice (some ⟨b, off, none⟩) n c := hd 30 (by kernel_rfl)
    exact Lin.Runs.value Lin.keeps (v := .pointer (some ⟨b, off + 1, none⟩)) (by simp [execOp, go_sem, hC, h30, n1z]) rfl
  · intro ρ wq hb ho hc hd
    have hC : ∀ v, ρ (.const v) = v := fun v => hc _ (by intro t e; cases e)
    have hF : ∀ f, ρ (.func f) = .func (.func f) #[] #[] := fun f => hc _ (by intro t e; cases e)
    have h31 : ρ (.tmp 31) = .pointer (some ⟨b, off + 1, none⟩) := hd 31 (by kernel_rfl)
    have dd := (hb.cell (p := ⟨b, off + 1, none⟩) LBW.out).trans D1.out
    exact Lin.Runs.value Lin.keeps (v := .int .u8 x1) (by simp [execOp, go_sem, h31, dd]) rfl
  · intro ρ wq hb ho hc hd
    have hC : ∀ v, ρ (.const v) = v := fun v => hc _ (by intro t e; cases e)
    have hF : ∀ f, ρ (.func f) = .func (.func f) #[] #[] := fun f => hc _ (by intro t e; cases e)
    have h0 : ρ (.tmp 0) = .slice (some ⟨b, off, none⟩) n c := ho 0 (by kernel_rfl)
    exact Lin.Runs.value Lin.keeps (Lin.exec_move rfl) h0
  · intro ρ wq hb ho hc hd
    have hC : ∀ v, ρ (.const v) = v := fun v => hc _ (by intro t e; cases e)
    have hF : ∀ f, ρ (.func f) = .func (.func f) #[] #[] := fun f => hc _ (by intro t e; cases e)
    have h33 : ρ (.tmp 33) = .slice (some ⟨b, off, none⟩) n c := hd 33 (by kernel_rfl)
    refine Lin.Runs.call Lin.keeps (f := 63) (args := #[.slice (some ⟨b, off, none⟩) n c, .int .i64 2, .int .i64 2]) (by simp [execOp, go_sem, hC, hF, h33]) ?_
    exact (get_q 2 2 (L : Int) (HV.out.st hb) HO.out (by omega) (by omega) HL.out).mono fun e w9 ⟨h1, h2⟩ => ⟨_, h1, by subst h2; exact Below.refl _ _, rfl⟩
  · intro ρ wq hb ho hc hd
    have hC : ∀ v, ρ (.const v) = v := fun v => hc _ (by intro t e; cases e)
    have hF : ∀ f, ρ (.func f) = .func (.func f) #[] #[] := fun f => hc _ (by intro t e; cases e)
    have h34 : ρ (.tmp 34) = .int .u64 (L : Int) := hd 34 (by kernel_rfl)
    exact Lin.Runs.value Lin.keeps (v := .int .i64 (L : Int)) (by simp [execOp, go_sem, h34]; first | done | exact IntWalk.u16_in _ (by omega) | exact IntWalk.i64_in _ (by omega) | exact IntWalk.u64_in _ (by omega) | rfl | (unfold stB; simp; done) | (unfold moB; simp; done)) rfl
  · intro ρ wq hb ho hc hd
    have hC : ∀ v, ρ (.const v) = v := fun v => hc _ (by intro t e; cases e)
    have hF : ∀ f, ρ (.func f) = .func (.func f) #[] #[] := fun f => hc _ (by intro t e; cases e)
    have h0 : ρ (.tmp 0) = .slice (some ⟨b, off, none⟩) n c := ho 0 (by kernel_rfl)
    exact Lin.Runs.value Lin.keeps (Lin.exec_move rfl) h0
  · intro ρ wq hb ho hc hd
    have hC : ∀ v, ρ (.const v) = v := fun v => hc _ (by intro t e; cases e)
    have hF : ∀ f, ρ (.func f) = .func (.func f) #[] #[] := fun f => hc _ (by intro t e; cases e)
    have h36 : ρ (.tmp 36) = .slice (some ⟨b, off, none⟩) n c := hd 36 (by kernel_rfl)
    refine Lin.Runs.call Lin.keeps (f := 63) (args := #[.slice (some ⟨b, off, none⟩) n c, .int .i64 4, .int .i64 2]) (by simp [execOp, go_sem, hC, hF, h36]) ?_
    exact (get_q 4 2 x4 (HV.out.st hb) HO.out (by omega) (by omega) X4.out).mono fun e w9 ⟨h1, h2⟩ => ⟨_, h1, by subst h2; exact Below.refl _ _, rfl⟩
  · intro ρ wq hb ho hc hd
    have hC : ∀ v, ρ (.const v) = v := fun v => hc _ (by intro t e; cases e)
    have hF : ∀ f, ρ (.func f) = .func (.func f) #[] #[] := fun f => hc _ (by intro t e; cases e)
    have h37 : ρ (.tmp 37) = .int .u64 x4 := hd 37 (by kernel_rfl)
    exact Lin.Runs.value Lin.keeps (v := .int .u16 x4) (by simp [execOp, go_sem, h37]; first | done | exact IntWalk.u16_in _ (by omega) | exact IntWalk.i64_in _ (by omega) | exact IntWalk.u64_in _ (by omega) | rfl | (unfold stB; simp; done) | (unfold moB; simp; done)) rfl
  · intro ρ wq hb ho hc hd
    have hC : ∀ v, ρ (.const v) = v := fun v => hc _ (by intro t e; cases e)
    have hF : ∀ f, ρ (.func f) = .func (.func f) #[] #[] := fun f => hc _ (by intro t e; cases e)
    have h6 : ρ (.tmp 6) = .int .u64 x6 := ho 6 (by kernel_rfl)
    exact Lin.Runs.value Lin.keeps (Lin.exec_move rfl) h6
  · intro ρ wq hb ho hc hd
    have hC : ∀ v, ρ (.const v) = v := fun v => hc _ (by intro t e; cases e)
    have hF : ∀ f, ρ (.func f) = .func (.func f) #[] #[] := fun f => hc _ (by intro t e; cases e)
    have h39 : ρ (.tmp 39) = .int .u64 x6 := hd 39 (by kernel_rfl)
    have t1 := T1.out
    exact Lin.Runs.value Lin.keeps (v := .int .u64 (x6 / 16384)) (by simp [execOp, go_sem, hC, h39, t1]; first | done | exact IntWalk.u16_in _ (by omega) | exact IntWalk.i64_in _ (by omega) | exact IntWalk.u64_in _ (by omega) | rfl | (unfold stB; simp; done) | (unfold moB; simp; done)) rfl
  · intro ρ wq hb ho hc hd
    have hC : ∀ v, ρ (.const v) = v := fun v => hc _ (by intro t e; cases e)
    have hF : ∀ f, ρ (.func f) = .func (.func f) #[] #[] := fun f => hc _ (by intro t e; cases e)
    have h40 : ρ (.tmp 40) = .int .u64 (x6 / 16384) := hd 40 (by kernel_rfl)
    have t2 := T2.out
    exact Lin.Runs.value Lin.keeps (v := .int .u64 (x6 / 16384 % 2)) (by simp [execOp, go_sem, hC, h40, t2]; first | done | exact IntWalk.u16_in _ (by omega) | exact IntWalk.i64_in _ (by omega) | exact IntWalk.u64_in _ (by omega) | rfl | (unfold stB; simp; done) | (unfold moB; simp; done)) rfl
  · intro ρ wq hb ho hc hd
    have hC : ∀ v, ρ (.const v) = v := fun v => hc _ (by intro t e; cases e)
    have hF : ∀ f, ρ (.func f) = .func (.func f) #[] #[] := fun f => hc _ (by intro t e; cases e)
    have h41 : ρ (.tmp 41) = .int .u64 (x6 / 16384 % 2) := hd 41 (by kernel_rfl)
    have e1 := E1.out
    exact Lin.Runs.value Lin.keeps (v := .bool (stB x6)) (by simp [execOp, go_sem, hC, h41, e1]; first | done | exact IntWalk.u16_in _ (by omega) | exact IntWalk.i64_in _ (by omega) | exact IntWalk.u64_in _ (by omega) | rfl | (unfold stB; simp; done) | (unfold moB; simp; done)) rfl
  · intro ρ wq hb ho hc hd
    have hC : ∀ v, ρ (.const v) = v := fun v => hc _ (by intro t e; cases e)
    have hF : ∀ f, ρ (.func f) = .func (.func f) #[] #[] := fun f => hc _ (by intro t e; cases e)
    have h6 : ρ (.tmp 6) = .int .u64 x6 := ho 6 (by kernel_rfl)
    exact Lin.Runs.value Lin.keeps (Lin.exec_move rfl) h6
  · intro ρ wq hb ho hc hd
    have hC : ∀ v, ρ (.const v) = v := fun v => hc _ (by intro t e; cases e)
    have hF : ∀ f, ρ (.func f) = .func (.func f) #[] #[] := fun f => hc _ (by intro t e; cases e)
    have h43 : ρ (.tmp 43) = .int .u64 x6 := hd 43 (by kernel_rfl)
    have t3 := T3.out
    exact Lin.Runs.value Lin.keeps (v := .int .u64 (x6 / 8192)) (by simp [execOp, go_sem, hC, h43, t3]; first | done | exact IntWalk.u16_in _ (by omega) | exact IntWalk.i64_in _ (by omega) | exact IntWalk.u64_in _ (by omega) | rfl | (unfold stB; simp; done) | (unfold moB; simp; done)) rfl
  · intro ρ wq hb ho hc hd
    have hC : ∀ v, ρ (.const v) = v := fun v => hc _ (by intro t e; cases e)
    have hF : ∀ f, ρ (.func f) = .func (.func f) #[] #[] := fun f => hc _ (by intro t e; cases e)
    have h44 : ρ (.tmp 44) = .int .u64 (x6 / 8192) := hd 44 (by kernel_rfl)
    have t4 := T4.out
    exact Lin.Runs.value Lin.keeps (v := .int .u64 (x6 / 8192 % 2)) (by simp [execOp, go_sem, hC, h44, t4]; first | done | exact IntWalk.u16_in _ (by omega) | exact IntWalk.i64_in _ (by omega) | exact IntWalk.u64_in _ (by omega) | rfl | (unfold stB; simp; done) | (unfold moB; simp; done)) rfl
  · intro ρ wq hb ho hc hd
    have hC : ∀ v, ρ (.const v) = v := fun v => hc _ (by intro t e; cases e)
    have hF : ∀ f, ρ (.func f) = .func (.func f) #[] #[] := fun f => hc _ (by intro t e; cases e)
    have h45 : ρ (.tmp 45) = .int .u64 (x6 / 8192 % 2) := hd 45 (by kernel_rfl)
    have e2 := E2.out
    exact Lin.Runs.value Lin.keeps (v := .bool (moB x6)) (by simp [execOp, go_sem, hC, h45, e2]; first | done | exact IntWalk.u16_in _ (by omega) | exact IntWalk.i64_in _ (by omega) | exact IntWalk.u64_in _ (by omega) | rfl | (unfold stB; simp; done) | (unfold moB; simp; done)) rfl
  · intro ρ wq hb ho hc hd
    have hC : ∀ v, ρ (.const v) = v := fun v => hc _ (by intro t e; cases e)
    have hF : ∀ f, ρ (.func f) = .func (.func f) #[] #[] := fun f => hc _ (by intro t e; cases e)
    have h6 : ρ (.tmp 6) = .int .u64 x6 := ho 6 (by kernel_rfl)
    exact Lin.Runs.value Lin.keeps (Lin.exec_move rfl) h6
  · intro ρ wq hb ho hc hd
    have hC : ∀ v, ρ (.const v) = v := fun v => hc _ (by intro t e; cases e)
    have hF : ∀ f, ρ (.func f) = .func (.func f) #[] #[] := fun f => hc _ (by intro t e; cases e)
    have h47 : ρ (.tmp 47) = .int .u64 x6 := hd 47 (by kernel_rfl)
    have t5 := T5.out
    exact Lin.Runs.value Lin.keeps (v := .int .u64 (x6 % 8192)) (by simp [execOp, go_sem, hC, h47, t5]; first | done | exact IntWalk.u16_in _ (by omega) | exact IntWalk.i64_in _ (by omega) | exact IntWalk.u64_in _ (by omega) | rfl | (unfold stB; simp; done) | (unfold moB; simp; done)) rfl
  · intro ρ wq hb ho hc hd
    have hC : ∀ v, ρ (.const v) = v := fun v => hc _ (by intro t e; cases e)
    have hF : ∀ f, ρ (.func f) = .func (.func f) #[] #[] := fun f => hc _ (by intro t e; cases e)
    have h48 : ρ (.tmp 48) = .int .u64 (x6 % 8192) := hd 48 (by kernel_rfl)
    have w8 := W8.out
    exact Lin.Runs.value Lin.keeps (v := .int .i64 (x6 % 8192)) (by simp [execOp, go_sem, h48, w8]; first | done | exact IntWalk.u16_in _ (by omega) | exact IntWalk.i64_in _ (by omega) | exact IntWalk.u64_in _ (by omega) | rfl | (unfold stB; simp; done) | (unfold moB; simp; done)) rfl
  · intro ρ wq hb ho hc hd
    have hC : ∀ v, ρ (.const v) = v := fun v => hc _ (by intro t e; cases e)
    have hF : ∀ f, ρ (.func f) = .func (.func f) #[] #[] := fun f => hc _ (by intro t e; cases e)
    have h0 : ρ (.tmp 0) = .slice (some ⟨b, off, none⟩) n c := ho 0 (by kernel_rfl)
    exact Lin.Runs.value Lin.keeps (Lin.exec_move rfl) h0
  · intro ρ wq hb ho hc hd
    have hC : ∀ v, ρ (.const v) = v := fun v => hc _ (by intro t e; cases e)
    have hF : ∀ f, ρ (.func f) = .func (.func f) #[] #[] := fun f => hc _ (by intro t e; cases e)
    have h50 : ρ (.tmp 50) = .slice (some ⟨b, off, none⟩) n c := hd 50 (by kernel_rfl)
    exact Lin.Runs.value Lin.keeps (v := .pointer (some ⟨b, off + 8, none⟩)) (by simp [execOp, go_sem, hC, h50, n8z]) rfl
  · intro ρ wq hb ho hc hd
    have hC : ∀ v, ρ (.const v) = v := fun v => hc _ (by intro t e; cases e)
    have hF : ∀ f, ρ (.func f) = .func (.func f) #[] #[] := fun f => hc _ (by intro t e; cases e)
    have h51 : ρ (.tmp 51) = .pointer (some ⟨b, off + 8, none⟩) := hd 51 (by kernel_rfl)
    have dd := (hb.cell (p := ⟨b, off + 8, none⟩) LBW.out).trans D8.out
    exact Lin.Runs.value Lin.keeps (v := .int .u8 x8) (by simp [execOp, go_sem, h51, dd]) rfl
  · intro ρ wq hb ho hc hd
    have hC : ∀ v, ρ (.const v) = v := fun v => hc _ (by intro t e; cases e)
    have hF : ∀ f, ρ (.func f) = .func (.func f) #[] #[] := fun f => hc _ (by intro t e; cases e)
    have h0 : ρ (.tmp 0) = .slice (some ⟨b, off, none⟩) n c := ho 0 (by kernel_rfl)
    exact Lin.Runs.value Lin.keeps (Lin.exec_move rfl) h0
  · intro ρ wq hb ho hc hd
    have hC : ∀ v, ρ (.const v) = v := fun v => hc _ (by intro t e; cases e)
    have hF : ∀ f, ρ (.func f) = .func (.func f) #[] #[] := fun f => hc _ (by intro t e; cases e)
    have h53 : ρ (.tmp 53) = .slice (some ⟨b, off, none⟩) n c := hd 53 (by kernel_rfl)
    exact Lin.Runs.value Lin.keeps (v := .pointer (some ⟨b, off + 9, none⟩)) (by simp [execOp, go_sem, hC, h53, n9z]) rfl
  · intro ρ wq hb ho hc hd
    have hC : ∀ v, ρ (.const v) = v := fun v => hc _ (by intro t e; cases e)
    have hF : ∀ f, ρ (.func f) = .func (.func f) #[] #[] := fun f => hc _ (by intro t e; cases e)
    have h54 : ρ (.tmp 54) = .pointer (some ⟨b, off + 9, none⟩) := hd 54 (by kernel_rfl)
    have dd := (hb.cell (p := ⟨b, off + 9, none⟩) LBW.out).trans D9.out
    exact Lin.Runs.value Lin.keeps (v := .int .u8 x9) (by simp [execOp, go_sem, h54, dd]) rfl
  · intro ρ wq hb ho hc hd
    have hC : ∀ v, ρ (.const v) = v := fun v => hc _ (by intro t e; cases e)
    have hF : ∀ f, ρ (.func f) = .func (.func f) #[] #[] := fun f => hc _ (by intro t e; cases e)
    have h0 : ρ (.tmp 0) = .slice (some ⟨b, off, none⟩) n c := ho 0 (by kernel_rfl)
    exact Lin.Runs.value Lin.keeps (Lin.exec_move rfl) h0
  · intro ρ wq hb ho hc hd
    have hC : ∀ v, ρ (.const v) = v := fun v => hc _ (by intro t e; cases e)
    have hF : ∀ f, ρ (.func f) = .func (.func f) #[] #[] := fun f => hc _ (by intro t e; cases e)
    have h56 : ρ (.tmp 56) = .slice (some ⟨b, off, none⟩) n c := hd 56 (by kernel_rfl)
    refine Lin.Runs.call Lin.keeps (f := 63) (args := #[.slice (some ⟨b, off, none⟩) n c, .int .i64 10, .int .i64 2]) (by simp [execOp, go_sem, hC, hF, h56]) ?_
    exact (get_q 10 2 x10 (HV.out.st hb) HO.out (by omega) (by omega) X10.out).mono fun e w9 ⟨h1, h2⟩ => ⟨_, h1, by subst h2; exact Below.refl _ _, rfl⟩
  · intro ρ wq hb ho hc hd
    have hC : ∀ v, ρ (.const v) = v := fun v => hc _ (by intro t e; cases e)
    have hF : ∀ f, ρ (.func f) = .func (.func f) #[] #[] := fun f => hc _ (by intro t e; cases e)
    have h57 : ρ (.tmp 57) = .int .u64 x10 := hd 57 (by kernel_rfl)
    exact Lin.Runs.value Lin.keeps (v := .int .u16 x10) (by simp [execOp, go_sem, h57]; first | done | exact IntWalk.u16_in _ (by omega) | exact IntWalk.i64_in _ (by omega) | exact IntWalk.u64_in _ (by omega) | rfl | (unfold stB; simp; done) | (unfold moB; simp; done)) rfl
  · intro ρ wq hb ho hc hd
    have hC : ∀ v, ρ (.const v) = v := fun v => hc _ (by intro t e; cases e)
    have hF : ∀ f, ρ (.func f) = .func (.func f) #[] #[] := fun f => hc _ (by intro t e; cases e)
    have h32 : ρ (.tmp 32) = .int .u8 x1 := hd 32 (by kernel_rfl)
    have h35 : ρ (.tmp 35) = .int .i64 (L : Int) := hd 35 (by kernel_rfl)
    have h38 : ρ (.tmp 38) = .int .u16 x4 := hd 38 (by kernel_rfl)
    have h42 : ρ (.tmp 42) = .bool (stB x6) := hd 42 (by kernel_rfl)
    have h46 : ρ (.tmp 46) = .bool (moB x6) := hd 46 (by kernel_rfl)
    have h49 : ρ (.tmp 49) = .int .i64 (x6 % 8192) := hd 49 (by kernel_rfl)
    have h52 : ρ (.tmp 52) = .int .u8 x8 := hd 52 (by kernel_rfl)
    have h55 : ρ (.tmp 55) = .int .u8 x9 := hd 55 (by kernel_rfl)
    have h58 : ρ (.tmp 58) = .int .u16 x10 := hd 58 (by kernel_rfl)
    exact Lin.Runs.value Lin.keeps (v := .agg #[.int .u8 x1, .int .i64 (L : Int), .int .u16 x4, .bool (stB x6), .bool (moB x6), .int .i64 (x6 % 8192), .int .u8 x8, .int .u8 x9, .int .u16 x10, .bool false, .int .u64 0, .int .u64 0, .bool false, .int .u64 0, .int .u64 0, .slice none 0 0]) (by simp [execOp, go_sem, h32, h35, h38, h42, h46, h49, h52, h55, h58]) rfl
  · intro ρ wq hb ho hc hd
    have hC : ∀ v, ρ (.const v) = v := fun v => hc _ (by intro t e; cases e)
    have hF : ∀ f, ρ (.func f) = .func (.func f) #[] #[] := fun f => hc _ (by intro t e; cases e)
    exact Lin.Runs.made (v := .pointer (some ⟨wq.heap.size, 0, none⟩)) (w' := wq.alloc (.cells #[.int .u8 0, .int .i64 0, .int .u16 0, .bool false, .bool false, .int .i64 0, .int .u8 0, .int .u8 0, .int .u16 0, .bool false, .int .u64 0, .int .u64 0, .bool false, .int .u64 0, .int .u64 0, .slice none 0 0] 37)) (by simp [execOp, go_sem]) ((Below.refl _ _).alloc (Nat.le_refl _) _) ⟨_, rfl, hb.size, Is.new _ _ _⟩
  · intro vals w5 hb2 hv
    have e59 : vals 59 = .agg #[.int .u8 x1, .int .i64 (L : Int), .int .u16 x4, .bool (stB x6), .bool (moB x6), .int .i64 (x6 % 8192), .int .u8 x8, .int .u8 x9, .int .u16 x10, .bool false, .int .u64 0, .int .u64 0, .bool false, .int .u64 0, .int .u64 0, .slice none 0 0] := hv 59 (by kernel_rfl)
    obtain ⟨g7, e7, hB7, h7⟩ := hv 7 (by kernel_rfl)
    have h7 := hide h7
    have GLT := Lib.hid (show w.heap.size < g7 from by have := HG.out.lt; omega)
    have HB5 := Lib.hid (HB.out.trans (hb2.mono HB.out.size)); have HG5 := hide (HG.out.below hb2 HG.out.lt); have HV5 := hide (HV.out.st hb2)
    have LB5 := Lib.hid (Nat.lt_of_lt_of_le LBW.out hb2.size)
    clear HB HG HV LBW hb2
    change wpList _ _ _ [_] _ _
    simp only [Lin.putAll, Option.getD_some, List.take_succ_cons, List.take_zero, List.drop_succ_cons, List.drop_zero]
    rw [e59, e7]
    clear e59 e7 hv hB7
    go_simp
    generalize vals = vv
    go_wp2_with (
      (with_reducible show wpList _ _ _ (⟨none, _, _, _, _, _⟩ :: _) _ _)
      go_loud (refine Go.wpList_store_row rfl 37 (.tmp 7) (.tmp 59) rfl g7 #[.int .u8 x1, .int .i64 (L : Int), .int .u16 x4, .bool (stB x6), .bool (moB x6), .int .i64 (x6 % 8192), .int .u8 x8, .int .u8 x9, .int .u16 x10, .bool false, .int .u64 0, .int .u64 0, .bool false, .int .u64 0, .int .u64 0, .slice none 0 0] rfl rfl 37 #[.int .u8 0, .int .i64 0, .int .u16 0, .bool false, .bool false, .int .i64 0, .int .u8 0, .int .u8 0, .int .u16 0, .bool false, .int .u64 0, .int .u64 0, .bool false, .int .u64 0, .int .u64 0, .slice none 0 0] (is_raw h7.out) (by kernel_rfl) rfl (by simp [Value.oneCell']) ?_)
      have H7 := hide (is_row6 (cs' := #[.int .u8 x1, .int .i64 (L : Int), .int .u16 x4, .bool (stB x6), .bool (moB x6), .int .i64 (x6 % 8192), .int .u8 x8, .int .u8 x9, .int .u16 x10, .bool false, .int .u64 0, .int .u64 0, .bool false, .int .u64 0, .int .u64 0, .slice none 0 0]) h7.out)
      have HB6 := Lib.hid (below_setRow HB5.out (g := g7) (Nat.le_of_lt GLT.out) #[.int .u8 x1, .int .i64 (L : Int), .int .u16 x4, .bool (stB x6), .bool (moB x6), .int .i64 (x6 % 8192), .int .u8 x8, .int .u8 x9, .int .u16 x10, .bool false, .int .u64 0, .int .u64 0, .bool false, .int .u64 0, .int .u64 0, .slice none 0 0])
      have HG6 : Hid (Is (w5.setRow g7 #[.int .u8 x1, .int .i64 (L : Int), .int .u16 x4, .bool (stB x6), .bool (moB x6), .int .i64 (x6 % 8192), .int .u8 x8, .int .u8 x9, .int .u16 x10, .bool false, .int .u64 0, .int .u64 0, .bool false, .int .u64 0, .int .u64 0, .slice none 0 0]) w.heap.size 37 #[.int .u8 0, .int .i64 0, .int .u16 0, .bool false, .bool false, .int .i64 0, .int .u8 0, .int .u8 0, .int .u16 0, .bool false, .int .u64 0, .int .u64 0, .bool false, .int .u64 0, .int .u64 0, .slice none 0 0]) := hide ((setRow_other w5 g7 w.heap.size #[.int .u8 x1, .int .i64 (L : Int), .int .u16 x4, .bool (stB x6), .bool (moB x6), .int .i64 (x6 % 8192), .int .u8 x8, .int .u8 x9, .int .u16 x10, .bool false, .int .u64 0, .int .u64 0, .bool false, .int .u64 0, .int .u64 0, .slice none 0 0] (Nat.ne_of_lt GLT.out)).trans HG5.out)
      have HV6 := hide (HV0.out.st HB6.out)
      clear HB5 HG5 HV5 h7
      generalize w5.setRow g7 #[.int .u8 x1, .int .i64 (L : Int), .int .u16 x4, .bool (stB x6), .bool (moB x6), .int .i64 (x6 % 8192), .int .u8 x8, .int .u8 x9, .int .u16 x10, .bool false, .int .u64 0, .int .u64 0, .bool false, .int .u64 0, .int .u64 0, .slice none 0 0] = V6 at *)
    refine (get_q 12 4 x12 HV6.out HO.out (by omega) (by omega) X12.out).mono ?_
    rintro e w6 ⟨rfl, rfl⟩
    have c9 := H7.out.cell 9; have c10 := H7.out.cell 10; have c11 := H7.out.cell 11; have f9 := H7.out.free 9; have f10 := H7.out.free 10; have f11 := H7.out.free 11; have g7l := H7.out.lt
    simp at c9 c10 c11
    have H9 : Hid (Is (((V6.setCell ⟨g7, 9, none⟩ (.bool false)).setCell ⟨g7, 10, none⟩ (.int .u64 0)).setCell ⟨g7, 11, none⟩ (.int .u64 x12)) g7 37 #[.int .u8 x1, .int .i64 (L : Int), .int .u16 x4, .bool (stB x6), .bool (moB x6), .int .i64 (x6 % 8192), .int .u8 x8, .int .u8 x9, .int .u16 x10, .bool false, .int .u64 0, .int .u64 x12, .bool false, .int .u64 0, .int .u64 0, .slice none 0 0]) := hide (((H7.out.put 9 (.bool false)).put 10 (.int .u64 0)).put 11 (.int .u64 x12))
    have HB9 := Lib.hid (Below.set1 (Below.set1 (Below.set1 HB6.out (Nat.le_of_lt GLT.out) (i := 9) (.bool false)) (Nat.le_of_lt GLT.out) (i := 10) (.int .u64 0)) (Nat.le_of_lt GLT.out) (i := 11) (.int .u64 x12))
    have HG9 := hide (((HG6.out.other (p := ⟨g7, 9, none⟩) (Nat.ne_of_lt GLT.out) (.bool false)).other (p := ⟨g7, 10, none⟩) (Nat.ne_of_lt GLT.out) (.int .u64 0)).other (p := ⟨g7, 11, none⟩) (Nat.ne_of_lt GLT.out) (.int .u64 x12))
    have HV9 := hide (HV0.out.st HB9.out)
    clear H7 HB6 HG6 HV6
    have H7 := H9; have HB6 := HB9; have HG6 := HG9; have HV6 := HV9
    clear H9 HB9 HG9 HV9
    go_wp2_with fail
    generalize (((V6.setCell ⟨g7, 9, none⟩ (.bool false)).setCell ⟨g7, 10, none⟩ (.int .u64 0)).setCell ⟨g7, 11, none⟩ (.int .u64 x12)) = V7 at *
    clear c9 c10 c11 f9 f10 f11 g7l
    refine (get_q 16 4 x16 HV6.out HO.out (by omega) (by omega) X16.out).mono ?_
    rintro e w6 ⟨rfl, rfl⟩
    have c1 := H7.out.cell 1
    simp at c1
    have c12 := H7.out.cell 12; have c13 := H7.out.cell 13; have c14 := H7.out.cell 14; have f12 := H7.out.free 12; have f13 := H7.out.free 13; have f14 := H7.out.free 14; have g7l := H7.out.lt
    simp at c12 c13 c14
    have H9 : Hid (Is (((V7.setCell ⟨g7, 12, none⟩ (.bool false)).setCell ⟨g7, 13, none⟩ (.int .u64 0)).setCell ⟨g7, 14, none⟩ (.int .u64 x16)) g7 37 #[.int .u8 x1, .int .i64 (L : Int), .int .u16 x4, .bool (stB x6), .bool (moB x6), .int .i64 (x6 % 8192), .int .u8 x8, .int .u8 x9, .int .u16 x10, .bool false, .int .u64 0, .int .u64 x12, .bool false, .int .u64 0, .int .u64 x16, .slice none 0 0]) := hide (((H7.out.put 12 (.bool false)).put 13 (.int .u64 0)).put 14 (.int .u64 x16))
    have HB9 := Lib.hid (Below.set1 (Below.set1 (Below.set1 HB6.out (Nat.le_of_lt GLT.out) (i := 12) (.bool false)) (Nat.le_of_lt GLT.out) (i := 13) (.int .u64 0)) (Nat.le_of_lt GLT.out) (i := 14) (.int .u64 x16))
    have HG9 := hide (((HG6.out.other (p := ⟨g7, 12, none⟩) (Nat.ne_of_lt GLT.out) (.bool false)).other (p := ⟨g7, 13, none⟩) (Nat.ne_of_lt GLT.out) (.int .u64 0)).other (p := ⟨g7, 14, none⟩) (Nat.ne_of_lt GLT.out) (.int .u64 x16))
    have HV9 := hide (HV0.out.st HB9.out)
    clear H7 HB6 HG6 HV6
    have H7 := H9; have HB6 := HB9; have HG6 := HG9; have HV6 := HV9
    clear H9 HB9 HG9 HV9
    have HFN := Lib.hid (show form4 l ↔ ¬ 32767 < x6 ∧ S ≤ L from by
      have h9 := FORM.out
      constructor
      · intro h; have := h9.1 h; omega
      · intro h; exact h9.2 (by omega))
    by_cases h67 : 32767 < x6
    · have CD := Lib.hid (code_form (LN20.out) (fun h => (HFN.out.1 h).1 h67))
      go_wp2_with (
        (with_reducible show wpList _ _ _ (⟨none, .store _ (.tmp 2) _, _, _, _, _⟩ :: _) _ _)
        go_loud (refine Go.wpList_store_row rfl 37 (.tmp 2) (.tmp 76) rfl w.heap.size #[.int .u8 0, .int .i64 0, .int .u16 0, .bool false, .bool false, .int .i64 0, .int .u8 0, .int .u8 0, .int .u16 0, .bool false, .int .u64 0, .int .u64 0, .bool false, .int .u64 0, .int .u64 0, .slice none 0 0] rfl rfl 37 #[.int .u8 0, .int .i64 0, .int .u16 0, .bool false, .bool false, .int .i64 0, .int .u8 0, .int .u8 0, .int .u16 0, .bool false, .int .u64 0, .int .u64 0, .bool false, .int .u64 0, .int .u64 0, .slice none 0 0] (is_raw HG6.out) (by kernel_rfl) rfl (by simp [Value.oneCell']) ?_)
        have HG9 := hide (is_row6 (cs' := #[.int .u8 0, .int .i64 0, .int .u16 0, .bool false, .bool false, .int .i64 0, .int .u8 0, .int .u8 0, .int .u16 0, .bool false, .int .u64 0, .int .u64 0, .bool false, .int .u64 0, .int .u64 0, .slice none 0 0]) HG6.out); have HB9 := Lib.hid (below_setRow HB6.out (g := w.heap.size) (Nat.le_refl _) #[.int .u8 0, .int .i64 0, .int .u16 0, .bool false, .bool false, .int .i64 0, .int .u8 0, .int .u8 0, .int .u16 0, .bool false, .int .u64 0, .int .u64 0, .bool false, .int .u64 0, .int .u64 0, .slice none 0 0])
        generalize (((V7.setCell ⟨g7, 12, none⟩ (.bool false)).setCell ⟨g7, 13, none⟩ (.int .u64 0)).setCell ⟨g7, 14, none⟩ (.int .u64 x16)).setRow w.heap.size #[.int .u8 0, .int .i64 0, .int .u16 0, .bool false, .bool false, .int .i64 0, .int .u8 0, .int .u8 0, .int .u16 0, .bool false, .int .u64 0, .int .u64 0, .bool false, .int .u64 0, .int .u64 0, .slice none 0 0] = Wz at *)
      have z0 := HG9.out.cell 0; have y0 := HG9.out.free 0
      have z1 := HG9.out.cell 1; have y1 := HG9.out.free 1
      have z2 := HG9.out.cell 2; have y2 := HG9.out.free 2
      have z3 := HG9.out.cell 3; have y3 := HG9.out.free 3
      have z4 := HG9.out.cell 4; have y4 := HG9.out.free 4
      have z5 := HG9.out.cell 5; have y5 := HG9.out.free 5
      have z6 := HG9.out.cell 6; have y6 := HG9.out.free 6
      have z7 := HG9.out.cell 7; have y7 := HG9.out.free 7
      have z8 := HG9.out.cell 8; have y8 := HG9.out.free 8
      have z9 := HG9.out.cell 9; have y9 := HG9.out.free 9
      have z10 := HG9.out.cell 10; have y10 := HG9.out.free 10
      have z11 := HG9.out.cell 11; have y11 := HG9.out.free 11
      have z12 := HG9.out.cell 12; have y12 := HG9.out.free 12
      have z13 := HG9.out.cell 13; have y13 := HG9.out.free 13
      have z14 := HG9.out.cell 14; have y14 := HG9.out.free 14
      have z15 := HG9.out.cell 15; have y15 := HG9.out.free 15
      simp at z0 z1 z2 z3 z4 z5 z6 z7 z8 z9 z10 z11 z12 z13 z14 z15
      have zl := HG9.out.lt
      refine bodyPost_ret (v := .tuple #[hz4, .slice none 0 0, .int .i64 21]) (by simp [results, Try.results16, go_sem, hz4, z0, z1, z2, z3, z4, z5, z6, z7, z8, z9, z10, z11, z12, z13, z14, z15, zl]) rfl ⟨HB9.out, .inl ⟨by rw [CD.out]; omega, by rw [CD.out]⟩⟩
    · by_cases hls : (L : Int) < (S : Int)
      · have CD := Lib.hid (code_form (LN20.out) (fun h => by have := (HFN.out.1 h).2; omega))
        go_wp2_with (
          (with_reducible show wpList _ _ _ (⟨none, .store _ (.tmp 2) _, _, _, _, _⟩ :: _) _ _)
          go_loud (refine Go.wpList_store_row rfl 37 (.tmp 2) (.tmp 76) rfl w.heap.size #[.int .u8 0, .int .i64 0, .int .u16 0, .bool false, .bool false, .int .i64 0, .int .u8 0, .int .u8 0, .int .u16 0, .bool false, .int .u64 0, .int .u64 0, .bool false, .int .u64 0, .int .u64 0, .slice none 0 0] rfl rfl 37 #[.int .u8 0, .int .i64 0, .int .u16 0, .bool false, .bool false, .int .i64 0, .int .u8 0, .int .u8 0, .int .u16 0, .bool false, .int .u64 0, .int .u64 0, .bool false, .int .u64 0, .int .u64 0, .slice none 0 0] (is_raw HG6.out) (by kernel_rfl) rfl (by simp [Value.oneCell']) ?_)
          have HG9 := hide (is_row6 (cs' := #[.int .u8 0, .int .i64 0, .int .u16 0, .bool false, .bool false, .int .i64 0, .int .u8 0, .int .u8 0, .int .u16 0, .bool false, .int .u64 0, .int .u64 0, .bool false, .int .u64 0, .int .u64 0, .slice none 0 0]) HG6.out); have HB9 := Lib.hid (below_setRow HB6.out (g := w.heap.size) (Nat.le_refl _) #[.int .u8 0, .int .i64 0, .int .u16 0, .bool false, .bool false, .int .i64 0, .int .u8 0, .int .u8 0, .int .u16 0, .bool false, .int .u64 0, .int .u64 0, .bool false, .int .u64 0, .int .u64 0, .slice none 0 0])
          generalize (((V7.setCell ⟨g7, 12, none⟩ (.bool false)).setCell ⟨g7, 13, none⟩ (.int .u64 0)).setCell ⟨g7, 14, none⟩ (.int .u64 x16)).setRow w.heap.size #[.int .u8 0, .int .i64 0, .int .u16 0, .bool false, .bool false, .int .i64 0, .int .u8 0, .int .u8 0, .int .u16 0, .bool false, .int .u64 0, .int .u64 0, .bool false, .int .u64 0, .int .u64 0, .slice none 0 0] = Wz at *)
        have z0 := HG9.out.cell 0; have y0 := HG9.out.free 0
        have z1 := HG9.out.cell 1; have y1 := HG9.out.free 1
        have z2 := HG9.out.cell 2; have y2 := HG9.out.free 2
        have z3 := HG9.out.cell 3; have y3 := HG9.out.free 3
        have z4 := HG9.out.cell 4; have y4 := HG9.out.free 4
        have z5 := HG9.out.cell 5; have y5 := HG9.out.free 5
        have z6 := HG9.out.cell 6; have y6 := HG9.out.free 6
        have z7 := HG9.out.cell 7; have y7 := HG9.out.free 7
        have z8 := HG9.out.cell 8; have y8 := HG9.out.free 8
        have z9 := HG9.out.cell 9; have y9 := HG9.out.free 9
        have z10 := HG9.out.cell 10; have y10 := HG9.out.free 10
        have z11 := HG9.out.cell 11; have y11 := HG9.out.free 11
        have z12 := HG9.out.cell 12; have y12 := HG9.out.free 12
        have z13 := HG9.out.cell 13; have y13 := HG9.out.free 13
        have z14 := HG9.out.cell 14; have y14 := HG9.out.free 14
        have z15 := HG9.out.cell 15; have y15 := HG9.out.free 15
        simp at z0 z1 z2 z3 z4 z5 z6 z7 z8 z9 z10 z11 z12 z13 z14 z15
        have zl := HG9.out.lt
        refine bodyPost_ret (v := .tuple #[hz4, .slice none 0 0, .int .i64 21]) (by simp [results, Try.results16, go_sem, hz4, z0, z1, z2, z3, z4, z5, z6, z7, z8, z9, z10, z11, z12, z13, z14, z15, zl]) rfl ⟨HB9.out, .inl ⟨by rw [CD.out]; omega, by rw [CD.out]⟩⟩
      · have FO := Lib.hid (HFN.out.2 ⟨h67, by omega⟩)
        by_cases hnl : (n : Int) < (L : Int)
        · have CD := Lib.hid (code_short (LN20.out) FO.out (by rw [LNL.out, HL.out]; exact hnl))
          go_wp2_with (
            (with_reducible show wpList _ _ _ (⟨none, .store _ (.tmp 2) _, _, _, _, _⟩ :: _) _ _)
            go_loud (refine Go.wpList_store_row rfl 37 (.tmp 2) (.tmp 82) rfl w.heap.size #[.int .u8 0, .int .i64 0, .int .u16 0, .bool false, .bool false, .int .i64 0, .int .u8 0, .int .u8 0, .int .u16 0, .bool false, .int .u64 0, .int .u64 0, .bool false, .int .u64 0, .int .u64 0, .slice none 0 0] rfl rfl 37 #[.int .u8 0, .int .i64 0, .int .u16 0, .bool false, .bool false, .int .i64 0, .int .u8 0, .int .u8 0, .int .u16 0, .bool false, .int .u64 0, .int .u64 0, .bool false, .int .u64 0, .int .u64 0, .slice none 0 0] (is_raw HG6.out) (by kernel_rfl) rfl (by simp [Value.oneCell']) ?_)
            have HG9 := hide (is_row6 (cs' := #[.int .u8 0, .int .i64 0, .int .u16 0, .bool false, .bool false, .int .i64 0, .int .u8 0, .int .u8 0, .int .u16 0, .bool false, .int .u64 0, .int .u64 0, .bool false, .int .u64 0, .int .u64 0, .slice none 0 0]) HG6.out); have HB9 := Lib.hid (below_setRow HB6.out (g := w.heap.size) (Nat.le_refl _) #[.int .u8 0, .int .i64 0, .int .u16 0, .bool false, .bool false, .int .i64 0, .int .u8 0, .int .u8 0, .int .u16 0, .bool false, .int .u64 0, .int .u64 0, .bool false, .int .u64 0, .int .u64 0, .slice none 0 0])
            generalize (((V7.setCell ⟨g7, 12, none⟩ (.bool false)).setCell ⟨g7, 13, none⟩ (.int .u64 0)).setCell ⟨g7, 14, none⟩ (.int .u64 x16)).setRow w.heap.size #[.int .u8 0, .int .i64 0, .int .u16 0, .bool false, .bool false, .int .i64 0, .int .u8 0, .int .u8 0, .int .u16 0, .bool false, .int .u64 0, .int .u64 0, .bool false, .int .u64 0, .int .u64 0, .slice none 0 0] = Wz at *)
          have z0 := HG9.out.cell 0; have y0 := HG9.out.free 0
          have z1 := HG9.out.cell 1; have y1 := HG9.out.free 1
          have z2 := HG9.out.cell 2; have y2 := HG9.out.free 2
          have z3 := HG9.out.cell 3; have y3 := HG9.out.free 3
          have z4 := HG9.out.cell 4; have y4 := HG9.out.free 4
          have z5 := HG9.out.cell 5; have y5 := HG9.out.free 5
          have z6 := HG9.out.cell 6; have y6 := HG9.out.free 6
          have z7 := HG9.out.cell 7; have y7 := HG9.out.free 7
          have z8 := HG9.out.cell 8; have y8 := HG9.out.free 8
          have z9 := HG9.out.cell 9; have y9 := HG9.out.free 9
          have z10 := HG9.out.cell 10; have y10 := HG9.out.free 10
          have z11 := HG9.out.cell 11; have y11 := HG9.out.free 11
          have z12 := HG9.out.cell 12; have y12 := HG9.out.free 12
          have z13 := HG9.out.cell 13; have y13 := HG9.out.free 13
          have z14 := HG9.out.cell 14; have y14 := HG9.out.free 14
          have z15 := HG9.out.cell 15; have y15 := HG9.out.free 15
          simp at z0 z1 z2 z3 z4 z5 z6 z7 z8 z9 z10 z11 z12 z13 z14 z15
          have zl := HG9.out.lt
          refine bodyPost_ret (v := .tuple #[hz4, .slice none 0 0, .int .i64 20]) (by simp [results, Try.results16, go_sem, hz4, z0, z1, z2, z3, z4, z5, z6, z7, z8, z9, z10, z11, z12, z13, z14, z15, zl]) rfl ⟨HB9.out, .inl ⟨by rw [CD.out]; omega, by rw [CD.out]⟩⟩
        · have SLN := Lib.hid (show 20 ≤ S ∧ S ≤ L ∧ L ≤ n from by have := H20.out; omega)
          have NSH := Lib.hid (show ¬ (l.length : Int) < nw l 2 2 from by rw [LNL.out, HL.out]; exact hnl)
          have hSc : (S : Int) ≤ (c : Int) := by have := hcap.1; omega
          have s0 : (0 : Int) ≤ (S : Int) := Int.natCast_nonneg _
          have HT := hide (HV6.out.take (k := S) (by have := SLN.out; omega))
          have TO := Lib.hid (HO.out.take S)
          by_cases hsm : S2.sumOf (l.take S) = 0
          · have CD := Lib.hid (code_ok (LN20.out) FO.out NSH.out (by rw [HS.out]; exact hsm))
            have RS9 := hide (rsum_q HT.out TO.out (by omega))
            rw [hsm] at RS9
            clear hsm
            go_wp2_with fail
            generalize (((V7.setCell ⟨g7, 12, none⟩ (.bool false)).setCell ⟨g7, 13, none⟩ (.int .u64 0)).setCell ⟨g7, 14, none⟩ (.int .u64 x16)) = V8 at *
            refine (unhide RS9).mono ?_
            rintro e w9 ⟨rfl, rfl⟩
            have RE9 := Lib.hid (show w.heap.size < V8.heap.size from HG6.out.lt)
            have own0 := own_empty V8
            have HE8 := hide (HB6.out.alloc HB6.out.size (.cells #[] 5))
            have HVE := hide (HV6.out.alloc (.cells #[] 5)); have H7E := hide (H7.out.alloc (.cells #[] 5)); have HGE := hide (HG6.out.alloc (.cells #[] 5))
            have G7L := Lib.hid (show g7 < V8.heap.size from H7.out.lt)
            have HOE := hide own0
            clear own0 HB6 HV6 H7 HG6 HT
            have HLT8 := Lib.hid (Nat.lt_succ_self V8.heap.size)
            go_wp2_with (first
              | ((with_reducible show wpList _ _ _ (⟨some 92, _, _, _, _, _⟩ :: _) _ _)
                 generalize V8.alloc (.cells #[] 5) = V9 at *
                 generalize V8.heap.size = gb at *
                 go_loud (refine sl_q2 (.tmp 90) (.const (.int .i64 20)) (.tmp 91) rfl rfl (i := 20) (k := S - 20) rfl rfl (congrArg (Value.int .i64) (show (S : Int) = ((20 : Nat) : Int) + ((S - 20 : Nat) : Int) from by have := SLN.out; omega)) HVE.out (by have := SLN.out; omega) ?_)
                 intro X9 c9 hx9
                 have HX9 := hide hx9
                 clear hx9)
              | ((with_reducible show wpList _ _ _ (⟨some 93, _, _, _, _, _⟩ :: _) _ _)
                 go_loud (refine app_k (.tmp 89) (.tmp 92) _ rfl rfl Try.underlying22 info8 (v := .slice (some ⟨gb, 0, none⟩) 0 0) (base := gb) (xs := []) (k := 0) (k' := S - 20) (l := (l.drop 20).take (S - 20)) (m := S - 20) rfl HOE.out rfl rfl HX9.out (Nat.zero_add _) (by omega) (Nat.le_of_lt HOE.out.blt) ?_)
                 intro A10 c10 w10 ho10 hg10
                 have HO10 := hide ho10
                 have HLT10 := Lib.hid (show gb < w10.heap.size from Nat.lt_of_lt_of_le HOE.out.blt hg10.size)
                 have hb10 : Below gb V9 w10 := (Below.refl _ _).grown hg10 (Nat.le_of_lt HOE.out.blt) (fun q hq => (World.ownsRow.lt HOE.out q hq).1)
                 have HB10 := Lib.hid (HE8.out.trans (hb10.mono (Nat.le_of_lt RE9.out)))
                 have H710 := hide (H7E.out.below hb10 G7L.out); have HG10 := hide (HGE.out.below hb10 RE9.out)
                 clear ho10 hg10 hb10 HE8 HVE H7E HGE HOE HX9
                 have c15 := H710.out.cell 15; have f15 := H710.out.free 15; have g7l := H710.out.lt
                 simp at c15))
            have H711 := hide (H710.out.put 15 (.slice A10 (S - 20) c10))
            have HG11 := hide (HG10.out.other (p := ⟨g7, 15, none⟩) (Nat.ne_of_lt GLT.out) (.slice A10 (S - 20) c10))
            have HB11 := Lib.hid (Below.set1 HB10.out (Nat.le_of_lt GLT.out) (i := 15) (.slice A10 (S - 20) c10))
            have HO11 := hide (OwnB.set1 HO10.out (i := 15) G7L.out (.slice A10 (S - 20) c10))
            have HV11 := hide (HV0.out.st HB11.out)
            have G2L := Lib.hid (show gb < (w10.setCell ⟨g7, 15, none⟩ (.slice A10 (S - 20) c10)).heap.size from by have h := HLT10.out; simpa [World.setCell] using h)
            clear H710 HG10 HB10 HO10 c15 f15 g7l
            generalize w10.setCell ⟨g7, 15, none⟩ (.slice A10 (S - 20) c10) = V11 at *
            have H711b : Hid (Is V11 g7 37 #[.int .u8 x1, .int .i64 (L : Int), .int .u16 x4, .bool (stB x6), .bool (moB x6), .int .i64 (x6 % 8192), .int .u8 x8, .int .u8 x9, .int .u16 x10, .bool false, .int .u64 0, .int .u64 x12, .bool false, .int .u64 0, .int .u64 x16, .slice A10 (S - 20) c10]) := H711
            have z0 := H711b.out.cell 0
            have z1 := H711b.out.cell 1
            have z2 := H711b.out.cell 2
            have z3 := H711b.out.cell 3
            have z4 := H711b.out.cell 4
            have z5 := H711b.out.cell 5
            have z6 := H711b.out.cell 6
            have z7 := H711b.out.cell 7
            have z8 := H711b.out.cell 8
            have z9 := H711b.out.cell 9
            have z10 := H711b.out.cell 10
            have z11 := H711b.out.cell 11
            have z12 := H711b.out.cell 12
            have z13 := H711b.out.cell 13
            have z14 := H711b.out.cell 14
            have z15 := H711b.out.cell 15
            simp at z0 z1 z2 z3 z4 z5 z6 z7 z8 z9 z10 z11 z12 z13 z14 z15
            have Z0 := Lib.hid z0
            have Z1 := Lib.hid z1
            have Z2 := Lib.hid z2
            have Z3 := Lib.hid z3
            have Z4 := Lib.hid z4
            have Z5 := Lib.hid z5
            have Z6 := Lib.hid z6
            have Z7 := Lib.hid z7
            have Z8 := Lib.hid z8
            have Z9 := Lib.hid z9
            have Z10 := Lib.hid z10
            have Z11 := Lib.hid z11
            have Z12 := Lib.hid z12
            have Z13 := Lib.hid z13
            have Z14 := Lib.hid z14
            have Z15 := Lib.hid z15
            clear z0 z1 z2 z3 z4 z5 z6 z7 z8 z9 z10 z11 z12 z13 z14 z15
            have G11 := Lib.hid H711b.out.lt
            refine Lin.wp_region_lin_tail Lin.keeps (n := 103) 8 (fun slotq => match slotq with | 95 => Lin.Spec.val (.agg #[.int .u8 x1, .int .i64 (L : Int), .int .u16 x4, .bool (stB x6), .bool (moB x6), .int .i64 (x6 % 8192), .int .u8 x8, .int .u8 x9, .int .u16 x10, .bool false, .int .u64 0, .int .u64 x12, .bool false, .int .u64 0, .int .u64 x16, .slice A10 (S - 20) c10]) | 96 => Lin.Spec.noneb V11.heap.size | 97 => Lin.Spec.val (.slice (some ⟨b, off, none⟩) n c) | 98 => Lin.Spec.val (.int .i64 (S : Int)) | 99 => Lin.Spec.val (.pointer (some ⟨g7, 1, none⟩)) | 100 => Lin.Spec.val (.int .i64 (L : Int)) | 101 => (Lin.Spec.sl ((l.drop S).take (L - S)) (L - S)) | 102 => (Lin.Spec.own V11.heap.size ((l.drop S).take (L - S)) (L - S)) | _ => Lin.Spec.any) (by kernel_rfl) rfl (by kernel_rfl) ⟨?_, ?_, ?_, ?_, ?_, ?_, ?_, ?_, trivial⟩ ?_
            · intro ρ wq hb ho hc hd
              have hC : ∀ v, ρ (.const v) = v := fun v => hc _ (by intro t e; cases e)
              have hF : ∀ f, ρ (.func f) = .func (.func f) #[] #[] := fun f => hc _ (by intro t e; cases e)
              have h7 : ρ (.tmp 7) = .pointer (some ⟨g7, 0, none⟩) := ho 7 (by kernel_rfl)
              have q0 := (hb.cell (p := ⟨g7, 0, none⟩) G11.out).trans Z0.out
              have q1 := (hb.cell (p := ⟨g7, 1, none⟩) G11.out).trans Z1.out
              have q2 := (hb.cell (p := ⟨g7, 2, none⟩) G11.out).trans Z2.out
              have q3 := (hb.cell (p := ⟨g7, 3, none⟩) G11.out).trans Z3.out
              have q4 := (hb.cell (p := ⟨g7, 4, none⟩) G11.out).trans Z4.out
              have q5 := (hb.cell (p := ⟨g7, 5, none⟩) G11.out).trans Z5.out
              have q6 := (hb.cell (p := ⟨g7, 6, none⟩) G11.out).trans Z6.out
              have q7 := (hb.cell (p := ⟨g7, 7, none⟩) G11.out).trans Z7.out
              have q8 := (hb.cell (p := ⟨g7, 8, none⟩) G11.out).trans Z8.out
              have q9 := (hb.cell (p := ⟨g7, 9, none⟩) G11.out).trans Z9.out
              have q10 := (hb.cell (p := ⟨g7, 10, none⟩) G11.out).trans Z10.out
              have q11 := (hb.cell (p := ⟨g7, 11, none⟩) G11.out).trans Z11.out
              have q12 := (hb.cell (p := ⟨g7, 12, none⟩) G11.out).trans Z12.out
              have q13 := (hb.cell (p := ⟨g7, 13, none⟩) G11.out).trans Z13.out
              have q14 := (hb.cell (p := ⟨g7, 14, none⟩) G11.out).trans Z14.out
              have q15 := (hb.cell (p := ⟨g7, 15, none⟩) G11.out).trans Z15.out
              exact Lin.Runs.value Lin.keeps (v := .agg #[.int .u8 x1, .int .i64 (L : Int), .int .u16 x4, .bool (stB x6), .bool (moB x6), .int .i64 (x6 % 8192), .int .u8 x8, .int .u8 x9, .int .u16 x10, .bool false, .int .u64 0, .int .u64 x12, .bool false, .int .u64 0, .int .u64 x16, .slice A10 (S - 20) c10]) (by simp [execOp, go_sem, h7, q0, q1, q2, q3, q4, q5, q6, q7, q8, q9, q10, q11, q12, q13, q14, q15]) rfl
            · intro ρ wq hb ho hc hd
              have hC : ∀ v, ρ (.const v) = v := fun v => hc _ (by intro t e; cases e)
              have hF : ∀ f, ρ (.func f) = .func (.func f) #[] #[] := fun f => hc _ (by intro t e; cases e)
              exact Lin.Runs.made (v := .slice (some ⟨wq.heap.size, 0, none⟩) 0 0) (w' := wq.alloc (.cells #[] 5)) (by simp [execOp, go_sem]) ((Below.refl _ _).alloc (Nat.le_refl _) _) (NoneP.new hb.size)
            · intro ρ wq hb ho hc hd
              have hC : ∀ v, ρ (.const v) = v := fun v => hc _ (by intro t e; cases e)
              have hF : ∀ f, ρ (.func f) = .func (.func f) #[] #[] := fun f => hc _ (by intro t e; cases e)
              have h0 : ρ (.tmp 0) = .slice (some ⟨b, off, none⟩) n c := ho 0 (by kernel_rfl)
              exact Lin.Runs.value Lin.keeps (Lin.exec_move rfl) h0
            · intro ρ wq hb ho hc hd
              have hC : ∀ v, ρ (.const v) = v := fun v => hc _ (by intro t e; cases e)
              have hF : ∀ f, ρ (.func f) = .func (.func f) #[] #[] := fun f => hc _ (by intro t e; cases e)
              have h5 : ρ (.tmp 5) = .int .i64 (S : Int) := ho 5 (by kernel_rfl)
              exact Lin.Runs.value Lin.keeps (Lin.exec_move rfl) h5
            · intro ρ wq hb ho hc hd
              have hC : ∀ v, ρ (.const v) = v := fun v => hc _ (by intro t e; cases e)
              have hF : ∀ f, ρ (.func f) = .func (.func f) #[] #[] := fun f => hc _ (by intro t e; cases e)
              have h7 : ρ (.tmp 7) = .pointer (some ⟨g7, 0, none⟩) := ho 7 (by kernel_rfl)
              exact Lin.Runs.value Lin.keeps (v := .pointer (some ⟨g7, 1, none⟩)) (by simp [execOp, go_sem, h7]) rfl
            · intro ρ wq hb ho hc hd
              have hC : ∀ v, ρ (.const v) = v := fun v => hc _ (by intro t e; cases e)
              have hF : ∀ f, ρ (.func f) = .func (.func f) #[] #[] := fun f => hc _ (by intro t e; cases e)
              have h99 : ρ (.tmp 99) = .pointer (some ⟨g7, 1, none⟩) := hd 99 (by kernel_rfl)
              have dd := (hb.cell (p := ⟨g7, 1, none⟩) G11.out).trans Z1.out
              exact Lin.Runs.value Lin.keeps (v := .int .i64 (L : Int)) (by simp [execOp, go_sem, h99, dd]) rfl
            · intro ρ wq hb ho hc hd
              have hC : ∀ v, ρ (.const v) = v := fun v => hc _ (by intro t e; cases e)
              have hF : ∀ f, ρ (.func f) = .func (.func f) #[] #[] := fun f => hc _ (by intro t e; cases e)
              have h97 : ρ (.tmp 97) = .slice (some ⟨b, off, none⟩) n c := hd 97 (by kernel_rfl)
              have h98 : ρ (.tmp 98) = .int .i64 (S : Int) := hd 98 (by kernel_rfl)
              have h100 : ρ (.tmp 100) = .int .i64 (L : Int) := hd 100 (by kernel_rfl)
              have q := (HV11.out.st hb).caps
              exact Lin.Runs.value Lin.keeps (run_sl2 _ ρ wq _ _ _ rfl (i := S) (k := L - S) h97 h98 (by rw [h100]; congr 1; have := SLN.out; omega) (by have := SLN.out; omega) q.1 q.2) ((HV11.out.st hb).part (by have := SLN.out; omega))
            · intro ρ wq hb ho hc hd
              have hC : ∀ v, ρ (.const v) = v := fun v => hc _ (by intro t e; cases e)
              have hF : ∀ f, ρ (.func f) = .func (.func f) #[] #[] := fun f => hc _ (by intro t e; cases e)
              have h96 := hd 96 (by kernel_rfl)
              have h101 := hd 101 (by kernel_rfl)
              obtain ⟨A9, c9, e9, hl9, hb9, _⟩ := h101
              obtain ⟨v9, w9, hr, hb2, his⟩ := grow_nil (T := 22) h96 Try.underlying22 info8 hb9 c9 hl9 (by omega)
              exact Lin.Runs.made (by unfold execOp; simp only [resolve, invoke, builtin, Sem.run_bind, Sem.run_pure, Result.andThen_ok, List.map_toArray, List.map_cons, List.map_nil, e9, hr]) hb2 his
            · intro vals w5 hb2 hv
              have e95 : vals 95 = .agg #[.int .u8 x1, .int .i64 (L : Int), .int .u16 x4, .bool (stB x6), .bool (moB x6), .int .i64 (x6 % 8192), .int .u8 x8, .int .u8 x9, .int .u16 x10, .bool false, .int .u64 0, .int .u64 x12, .bool false, .int .u64 0, .int .u64 x16, .slice A10 (S - 20) c10] := hv 95 (by kernel_rfl)
              have h102 := hv 102 (by kernel_rfl)
              obtain ⟨A12, c12, e102⟩ := OwnP.shape h102
              have HL5 := hide (show OwnP V11.heap.size _ _ (.slice A12 (L - S) c12) w5 from e102 ▸ h102)
              have HB5 := Lib.hid (HB11.out.trans (hb2.mono HB11.out.size)); have HG5 := hide (HG11.out.below hb2 HG11.out.lt); have HO5 := hide (OwnB.below HO11.out hb2)
              clear hb2 h102
              change wpList _ _ _ [_, _, _] _ _
              simp only [Lin.putAll, Option.getD_some, List.take_succ_cons, List.take_zero, List.drop_succ_cons, List.drop_zero]
              rw [e95, e102]
              clear e95 e102 hv
              go_simp
              generalize vals = vv
              go_wp2_with (
                (with_reducible show wpList _ _ _ (⟨none, .store _ (.tmp 2) _, _, _, _, _⟩ :: _) _ _)
                go_loud (refine Go.wpList_store_row rfl 37 (.tmp 2) (.tmp 95) rfl w.heap.size #[.int .u8 x1, .int .i64 (L : Int), .int .u16 x4, .bool (stB x6), .bool (moB x6), .int .i64 (x6 % 8192), .int .u8 x8, .int .u8 x9, .int .u16 x10, .bool false, .int .u64 0, .int .u64 x12, .bool false, .int .u64 0, .int .u64 x16, .slice A10 (S - 20) c10] rfl rfl 37 #[.int .u8 0, .int .i64 0, .int .u16 0, .bool false, .bool false, .int .i64 0, .int .u8 0, .int .u8 0, .int .u16 0, .bool false, .int .u64 0, .int .u64 0, .bool false, .int .u64 0, .int .u64 0, .slice none 0 0] (is_raw HG5.out) (by kernel_rfl) rfl (by simp [Value.oneCell']) ?_)
                have HG9 := hide (is_row6 (cs' := #[.int .u8 x1, .int .i64 (L : Int), .int .u16 x4, .bool (stB x6), .bool (moB x6), .int .i64 (x6 % 8192), .int .u8 x8, .int .u8 x9, .int .u16 x10, .bool false, .int .u64 0, .int .u64 x12, .bool false, .int .u64 0, .int .u64 x16, .slice A10 (S - 20) c10]) HG5.out); have HB9 := Lib.hid (below_setRow HB5.out (g := w.heap.size) (Nat.le_refl _) #[.int .u8 x1, .int .i64 (L : Int), .int .u16 x4, .bool (stB x6), .bool (moB x6), .int .i64 (x6 % 8192), .int .u8 x8, .int .u8 x9, .int .u16 x10, .bool false, .int .u64 0, .int .u64 x12, .bool false, .int .u64 0, .int .u64 x16, .slice A10 (S - 20) c10])
                have HO9 := hide (OwnP.row6 (⟨_, _, rfl, HO5.out⟩ : OwnP gb _ (S - 20) (.slice A10 (S - 20) c10) w5) RE9.out #[.int .u8 x1, .int .i64 (L : Int), .int .u16 x4, .bool (stB x6), .bool (moB x6), .int .i64 (x6 % 8192), .int .u8 x8, .int .u8 x9, .int .u16 x10, .bool false, .int .u64 0, .int .u64 x12, .bool false, .int .u64 0, .int .u64 x16, .slice A10 (S - 20) c10]); have HL9 := hide (HL5.out.row6 (Nat.lt_trans RE9.out G2L.out) #[.int .u8 x1, .int .i64 (L : Int), .int .u16 x4, .bool (stB x6), .bool (moB x6), .int .i64 (x6 % 8192), .int .u8 x8, .int .u8 x9, .int .u16 x10, .bool false, .int .u64 0, .int .u64 x12, .bool false, .int .u64 0, .int .u64 x16, .slice A10 (S - 20) c10])
                generalize w5.setRow w.heap.size #[.int .u8 x1, .int .i64 (L : Int), .int .u16 x4, .bool (stB x6), .bool (moB x6), .int .i64 (x6 % 8192), .int .u8 x8, .int .u8 x9, .int .u16 x10, .bool false, .int .u64 0, .int .u64 x12, .bool false, .int .u64 0, .int .u64 x16, .slice A10 (S - 20) c10] = Wz at *)
              have z0 := HG9.out.cell 0; have y0 := HG9.out.free 0
              have z1 := HG9.out.cell 1; have y1 := HG9.out.free 1
              have z2 := HG9.out.cell 2; have y2 := HG9.out.free 2
              have z3 := HG9.out.cell 3; have y3 := HG9.out.free 3
              have z4 := HG9.out.cell 4; have y4 := HG9.out.free 4
              have z5 := HG9.out.cell 5; have y5 := HG9.out.free 5
              have z6 := HG9.out.cell 6; have y6 := HG9.out.free 6
              have z7 := HG9.out.cell 7; have y7 := HG9.out.free 7
              have z8 := HG9.out.cell 8; have y8 := HG9.out.free 8
              have z9 := HG9.out.cell 9; have y9 := HG9.out.free 9
              have z10 := HG9.out.cell 10; have y10 := HG9.out.free 10
              have z11 := HG9.out.cell 11; have y11 := HG9.out.free 11
              have z12 := HG9.out.cell 12; have y12 := HG9.out.free 12
              have z13 := HG9.out.cell 13; have y13 := HG9.out.free 13
              have z14 := HG9.out.cell 14; have y14 := HG9.out.free 14
              have z15 := HG9.out.cell 15; have y15 := HG9.out.free 15
              simp at z0 z1 z2 z3 z4 z5 z6 z7 z8 z9 z10 z11 z12 z13 z14 z15
              have zl := HG9.out.lt
              refine bodyPost_ret (v := .tuple #[hdr4 l (.slice A10 (S - 20) c10), .slice A12 (L - S) c12, .int .i64 0]) (by rw [HH.out]; simp [results, Try.results16, go_sem, hv4, z0, z1, z2, z3, z4, z5, z6, z7, z8, z9, z10, z11, z12, z13, z14, z15, zl]) rfl ⟨HB9.out, .inr ⟨CD.out, _, _, rfl, ?_, ?_⟩⟩
              · unfold opt4; rw [HS.out]; exact HO9.out.lowk (Nat.le_of_lt RE9.out)
              · unfold load4; rw [HS.out, HL.out]; exact HL9.out.lowk (Nat.le_of_lt (Nat.lt_trans RE9.out G2L.out))
          · have CD := Lib.hid (code_sum (LN20.out) FO.out NSH.out (by rw [HS.out]; exact hsm))
            have RS9 := hide (rsum_q HT.out TO.out (by omega))
            generalize S2.sumOf (l.take S) = sm9 at *
            have sb : (sm9 == 0) = false := by rw [beq_eq_false_iff_ne]; exact hsm
            have sb2 : (sm9 != 0) = true := by simp [bne, sb]
            clear hsm
            go_wp2_with fail
            generalize (((V7.setCell ⟨g7, 12, none⟩ (.bool false)).setCell ⟨g7, 13, none⟩ (.int .u64 0)).setCell ⟨g7, 14, none⟩ (.int .u64 x16)) = V8 at *
            refine (unhide RS9).mono ?_
            rintro e w9 ⟨rfl, rfl⟩
            go_wp2_with (
              (with_reducible show wpList _ _ _ (⟨none, .store _ (.tmp 2) _, _, _, _, _⟩ :: _) _ _)
              go_loud (refine Go.wpList_store_row rfl 37 (.tmp 2) (.tmp 88) rfl w.heap.size #[.int .u8 0, .int .i64 0, .int .u16 0, .bool false, .bool false, .int .i64 0, .int .u8 0, .int .u8 0, .int .u16 0, .bool false, .int .u64 0, .int .u64 0, .bool false, .int .u64 0, .int .u64 0, .slice none 0 0] rfl rfl 37 #[.int .u8 0, .int .i64 0, .int .u16 0, .bool false, .bool false, .int .i64 0, .int .u8 0, .int .u8 0, .int .u16 0, .bool false, .int .u64 0, .int .u64 0, .bool false, .int .u64 0, .int .u64 0, .slice none 0 0] (is_raw HG6.out) (by kernel_rfl) rfl (by simp [Value.oneCell']) ?_)
              have HG9 := hide (is_row6 (cs' := #[.int .u8 0, .int .i64 0, .int .u16 0, .bool false, .bool false, .int .i64 0, .int .u8 0, .int .u8 0, .int .u16 0, .bool false, .int .u64 0, .int .u64 0, .bool false, .int .u64 0, .int .u64 0, .slice none 0 0]) HG6.out); have HB9 := Lib.hid (below_setRow HB6.out (g := w.heap.size) (Nat.le_refl _) #[.int .u8 0, .int .i64 0, .int .u16 0, .bool false, .bool false, .int .i64 0, .int .u8 0, .int .u8 0, .int .u16 0, .bool false, .int .u64 0, .int .u64 0, .bool false, .int .u64 0, .int .u64 0, .slice none 0 0])
              generalize V8.setRow w.heap.size #[.int .u8 0, .int .i64 0, .int .u16 0, .bool false, .bool false, .int .i64 0, .int .u8 0, .int .u8 0, .int .u16 0, .bool false, .int .u64 0, .int .u64 0, .bool false, .int .u64 0, .int .u64 0, .slice none 0 0] = Wz at *)
            have z0 := HG9.out.cell 0; have y0 := HG9.out.free 0
            have z1 := HG9.out.cell 1; have y1 := HG9.out.free 1
            have z2 := HG9.out.cell 2; have y2 := HG9.out.free 2
            have z3 := HG9.out.cell 3; have y3 := HG9.out.free 3
            have z4 := HG9.out.cell 4; have y4 := HG9.out.free 4
            have z5 := HG9.out.cell 5; have y5 := HG9.out.free 5
            have z6 := HG9.out.cell 6; have y6 := HG9.out.free 6
            have z7 := HG9.out.cell 7; have y7 := HG9.out.free 7
            have z8 := HG9.out.cell 8; have y8 := HG9.out.free 8
            have z9 := HG9.out.cell 9; have y9 := HG9.out.free 9
            have z10 := HG9.out.cell 10; have y10 := HG9.out.free 10
            have z11 := HG9.out.cell 11; have y11 := HG9.out.free 11
            have z12 := HG9.out.cell 12; have y12 := HG9.out.free 12
            have z13 := HG9.out.cell 13; have y13 := HG9.out.free 13
            have z14 := HG9.out.cell 14; have y14 := HG9.out.free 14
            have z15 := HG9.out.cell 15; have y15 := HG9.out.free 15
            simp at z0 z1 z2 z3 z4 z5 z6 z7 z8 z9 z10 z11 z12 z13 z14 z15
            have zl := HG9.out.lt
            refine bodyPost_ret (v := .tuple #[hz4, .slice none 0 0, .int .i64 22]) (by simp [results, Try.results16, go_sem, hz4, z0, z1, z2, z3, z4, z5, z6, z7, z8, z9, z10, z11, z12, z13, z14, z15, zl]) rfl ⟨HB9.out, .inl ⟨by rw [CD.out]; omega, by rw [CD.out]⟩⟩
end Go.Proofs.Ytmgendgfdhhgfaa
