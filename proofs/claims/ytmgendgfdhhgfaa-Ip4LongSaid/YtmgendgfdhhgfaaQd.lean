/-
  Parse of package ip4 where nothing is wrong. Helper of the claims of layer 4.
-/
import Derived.Test.YtmgendgfdhhgfaaQc
namespace Go.Proofs.Ytmgendgfdhhgfaa
open Go.ChangeShapes Go.WideShapes Go.ChangeAt Go.RowKit
set_option linter.unusedSimpArgs false
set_option linter.unusedVariables false
set_option maxRecDepth 100000
theorem OwnP.row6 {B : Nat} {l : List Int} {n : Nat} {v : Value} {w : World} {g : Nat} (h : OwnP B l n v w) (hg : g < B) (cs : Array Value) : OwnP B l n v (w.setRow g cs) := by
  obtain ⟨A, c, rfl, h⟩ := h
  refine ⟨A, c, rfl, ?_⟩
  exact OwnB.kept (row := some g) h ⟨rfl, rfl, rfl, by simp [World.setRow], fun k _ hn => setRow_other w g k cs (by intro e; subst e; exact hn rfl)⟩ (.inr (own_far h hg))
def HdS (B : Nat) (l : List Int) (S : Nat) : Lin.Spec Lin.Keeps := ⟨fun v w => ∃ vo, v = hdr4 l vo ∧ OwnP B ((l.drop 20).take (S - 20)) (S - 20) vo w, fun h hb => by
  obtain ⟨vo, e, h⟩ := h
  exact ⟨vo, e, h.st hb⟩⟩
set_option maxHeartbeats 4000000 in
theorem parse4_ok (A : Option Addr) (c n : Nat) (l : List Int) (w : World) (hv : IsB l n (.slice A n c) w) (ho : Octets l) (hn : n ≤ 70000) (h20 : 20 ≤ n) (h : at0 l 0 / 16 = 4) (h2 : 20 ≤ sz4 l) (h3 : at0 l 6 < 128) (h4 : (sz4 l : Int) ≤ nw l 2 2) (h5 : nw l 2 2 ≤ (n : Int)) (h6 : S2.sumOf (l.take (sz4 l)) = 0) :
    Calls Try.prog 15 #[.slice A n c] w fun e w' => ∃ vo vl, e = .returned (.tuple #[hdr4 l vo, vl, .int .i64 0]) ∧ Below w.heap.size w w' ∧ OwnP w.heap.size (opt4 l) (sz4 l - 20) vo w' ∧ OwnP w.heap.size (load4 l) ((nw l 2 2).toNat - sz4 l) vl w' := by
  have hlen : l.length = n := by obtain ⟨_, _, _, e, _⟩ := hv; exact e
  have hb0 : Below w.heap.size w (w.alloc (.cells #[.int .u8 0, .int .i64 0, .int .u16 0, .bool false, .bool false, .int .i64 0, .int .u8 0, .int .u8 0, .int .u16 0, .bool false, .int .u64 0, .int .u64 0, .bool false, .int .u64 0, .int .u64 0, .slice none 0 0] 28)) := (Below.refl _ _).alloc (Nat.le_refl _) _
  have HB := Lib.hid hb0
  have hg0 := Is.new w 28 #[.int .u8 0, .int .i64 0, .int .u16 0, .bool false, .bool false, .int .i64 0, .int .u8 0, .int .u8 0, .int .u16 0, .bool false, .int .u64 0, .int .u64 0, .bool false, .int .u64 0, .int .u64 0, .slice none 0 0]
  have hby : Bytes w w.heap.size A l := by obtain ⟨A', c', e, _, h, _⟩ := hv; injection e with e; subst e; exact h
  obtain ⟨b, off, rfl, hbl, hcl⟩ := hby.cells (by omega)
  have d0 := (hb0.cell (p := ⟨b, off + 0, none⟩) hbl).trans (hcl 0 (by omega))
  have d2 := (hb0.cell (p := ⟨b, off + 2, none⟩) hbl).trans (hcl 2 (by omega))
  have d3 := (hb0.cell (p := ⟨b, off + 3, none⟩) hbl).trans (hcl 3 (by omega))
  have d6 := (hb0.cell (p := ⟨b, off + 6, none⟩) hbl).trans (hcl 6 (by omega))
  simp only [Nat.add_zero] at d0
  obtain ⟨u0, v0⟩ := ho 0
  obtain ⟨u2, v2⟩ := ho 2
  obtain ⟨u3, v3⟩ := ho 3
  obtain ⟨u6, v6⟩ := ho 6
  have hL : nw l 2 2 = at0 l 2 * 256 + at0 l 3 := nw_two (l := l) (i := 2) (by omega) ho
  have n20 : ¬ (n : Int) < 20 := by omega
  have n0z : (0 : Int) < (n : Int) := by omega
  have n2z : (2 : Int) < (n : Int) := by omega
  have n3z : (3 : Int) < (n : Int) := by omega
  have n6z : (6 : Int) < (n : Int) := by omega
  have HV := hide hv
  have HO := Lib.hid ho
  have hcap := hv.caps
  have hlo := bit_lo u0 v0; have hjn := bit_jn u2 v2 u3 v3; have hun := bit_un u6 v6
  obtain ⟨q, hq⟩ : ∃ q : Nat, at0 l 0 % 16 = (q : Int) := ⟨(at0 l 0 % 16).toNat, by omega⟩
  have hS : sz4 l = q * 4 := by unfold sz4; rw [hq]; simp
  rw [hq] at hlo
  have q16 : q ≤ 15 := by omega
  obtain ⟨S, hSq⟩ : ∃ S : Nat, q * 4 = S := ⟨_, rfl⟩
  have hmul : (q : Int) * 4 = (S : Int) := by omega
  have S60 : S ≤ 60 := by omega
  rw [hSq] at hS
  have HS := Lib.hid hS
  obtain ⟨L, hLn⟩ : ∃ L : Nat, nw l 2 2 = (L : Int) := ⟨(nw l 2 2).toNat, by omega⟩
  rw [← hL, hLn] at hjn
  have HL := Lib.hid hLn
  have L64 : L ≤ 65535 := by omega
  have w2 : IntKind.i64.wrap (at0 l 2 * 256) = at0 l 2 * 256 := IntWalk.i64_in _ (by omega)
  have w6 : IntKind.i64.wrap (at0 l 6 * 256) = at0 l 6 * 256 := IntWalk.i64_in _ (by omega)
  generalize at0 l 0 = x0 at *
  generalize at0 l 2 = x2 at *
  generalize at0 l 3 = x3 at *
  generalize at0 l 6 = x6 at *
  have g2 : ¬ (S : Int) < 20 := by omega
  have g4 : ¬ (L : Int) < (S : Int) := by omega
  have g5 : ¬ (n : Int) < (L : Int) := by omega
  rw [if_neg (by omega)] at hun
  have SLN := Lib.hid (show 20 ≤ S ∧ S ≤ L ∧ L ≤ n from by omega)
  have hSc : (S : Int) ≤ (c : Int) := by have := hcap.1; omega
  have s0 : (0 : Int) ≤ (S : Int) := Int.natCast_nonneg _
  clear h2 h4 h5 hL hLn hq hSq hS ho hv hby hcl
  have hcd : w.heap.size ≠ b := by omega
  have HG := hide hg0
  have HV0 := hide (HV.out.st hb0)
  clear HV
  clear hg0
  go_enter Try.func15, Try.ntmps15
  go_wp2_with fail
  generalize w.alloc (.cells #[.int .u8 0, .int .i64 0, .int .u16 0, .bool false, .bool false, .int .i64 0, .int .u8 0, .int .u8 0, .int .u16 0, .bool false, .int .u64 0, .int .u64 0, .bool false, .int .u64 0, .int .u64 0, .slice none 0 0] 28) = W at *
  go_quiet (fail)
  have HB1 := Lib.hid (below_drewN hb0 nq)
  have HG1 : Hid (Is (W.drewN nq) w.heap.size 28 #[.int .u8 0, .int .i64 0, .int .u16 0, .bool false, .bool false, .int .i64 0, .int .u8 0, .int .u8 0, .int .u16 0, .bool false, .int .u64 0, .int .u64 0, .bool false, .int .u64 0, .int .u64 0, .slice none 0 0]) := HG
  have HV1 := hide (HV0.out.st (below_drewN (Below.refl W.heap.size W) nq))
  have d6 : (W.drewN nq).cell? ⟨b, off + 6, none⟩ = _ := d6
  have d0 : (W.drewN nq).cell? ⟨b, off, none⟩ = _ := d0
  clear HB HG HV0
  have HB := HB1; have HG := HG1; have HV := HV1
  clear HB1 HG1 HV1
  generalize W.drewN nq = Wq at *
  have HT := hide (HV.out.take (k := S) (by have := SLN.out; omega))
  rw [HS.out] at h6
  have HS6 := Lib.hid h6
  have TO := Lib.hid (HO.out.take S)
  clear h6
  go_wp2_with fail
  refine (sum_right1 (t := 22) HT.out TO.out (by omega) HS6.out).mono ?_
  rintro e w2 ⟨rfl, rfl⟩
  have HB9 := Lib.hid (HB.out.alloc HB.out.size (.cells #[.slice (some ⟨b, off, none⟩) S c] 22))
  have HG9 := hide (HG.out.alloc (.cells #[.slice (some ⟨b, off, none⟩) S c] 22))
  have HV9 := hide (HV.out.alloc (.cells #[.slice (some ⟨b, off, none⟩) S c] 22))
  clear HB HG HV HT
  have HB := HB9; have HG := HG9; have HV := HV9
  clear HB9 HG9 HV9
  go_wp2_with fail
  generalize Wq.alloc (.cells #[.slice (some ⟨b, off, none⟩) S c] 22) = Wr at *
  have GLT := Lib.hid HG.out.lt
  refine Lin.wp_region_lin_tail Lin.keeps (n := 71) 8 (fun slotq => match slotq with | 63 => Lin.Spec.val (.slice (some ⟨b, off, none⟩) n c) | 64 => Lin.Spec.val (.int .i64 (S : Int)) | 65 => (HdS Wr.heap.size l S) | 66 => Lin.Spec.val (.slice (some ⟨b, off, none⟩) n c) | 67 => Lin.Spec.val (.int .i64 (S : Int)) | 68 => Lin.Spec.val (.int .i64 (L : Int)) | 69 => (Lin.Spec.sl ((l.drop S).take (L - S)) (L - S)) | 70 => (Lin.Spec.own Wr.heap.size ((l.drop S).take (L - S)) (L - S)) | _ => Lin.Spec.any) (by kernel_rfl) rfl (by kernel_rfl) ⟨?_, ?_, ?_, ?_, ?_, ?_, ?_, ?_, trivial⟩ ?_
  · intro ρ wq hb ho hc hd
    have hC : ∀ v, ρ (.const v) = v := fun v => hc _ (by intro t e; cases e)
    have hF : ∀ f, ρ (.func f) = .func (.func f) #[] #[] := fun f => hc _ (by intro t e; cases e)
    have h0 : ρ (.tmp 0) = .slice (some ⟨b, off, none⟩) n c := ho 0 (by kernel_rfl)
    exact Lin.Runs.value Lin.keeps (Lin.exec_move rfl) h0
  · intro ρ wq hb ho hc hd
    have hC : ∀ v, ρ (.const v) = v := fun v => hc _ (by intro t e; cases e)
    have hF : ∀ f, ρ (.func f) = .func (.func f) #[] #[] := fun f => hc _ (by intro t e; cases e)
    have h5 : ρ (.tmp 5) = .int .i64 (S : Int) := ho 5 (by kernel_rfl)
    exact Lin.Runs.value Lin.keeps (Lin.exec_move rfl) h5
  · intro ρ wq hb ho hc hd
    have hC : ∀ v, ρ (.const v) = v := fun v => hc _ (by intro t e; cases e)
    have hF : ∀ f, ρ (.func f) = .func (.func f) #[] #[] := fun f => hc _ (by intro t e; cases e)
    have h63 : ρ (.tmp 63) = .slice (some ⟨b, off, none⟩) n c := hd 63 (by kernel_rfl)
    have h64 : ρ (.tmp 64) = .int .i64 (S : Int) := hd 64 (by kernel_rfl)
    exact Lin.Runs.call Lin.keeps (f := 61) (args := #[.slice (some ⟨b, off, none⟩) n c, .int .i64 (S : Int)]) (by simp [execOp, go_sem, hF, h63, h64]) ((read4 _ c n S l wq (HV.out.st hb) HO.out hn SLN.out.1 (by have := SLN.out; omega)).mono fun e w9 ⟨vo, h1, h2, h3⟩ => ⟨_, h1, h2, vo, rfl, h3.lowk hb.size⟩)
  · intro ρ wq hb ho hc hd
    have hC : ∀ v, ρ (.const v) = v := fun v => hc _ (by intro t e; cases e)
    have hF : ∀ f, ρ (.func f) = .func (.func f) #[] #[] := fun f => hc _ (by intro t e; cases e)
    have h0 : ρ (.tmp 0) = .slice (some ⟨b, off, none⟩) n c := ho 0 (by kernel_rfl)
    exact Lin.Runs.value Lin.keeps (Lin.exec_move rfl) h0
  · intro ρ wq hb ho hc hd
    have hC : ∀ v, ρ (.const v) = v := fun v => hc _ (by intro t e; cases e)
    have hF : ∀ f, ρ (.func f) = .func (.func f) #[] #[] := fun f => hc _ (by intro t e; cases e)
    have h5 : ρ (.tmp 5) = .int .i64 (S : Int) := ho 5 (by kernel_rfl)
    exact Lin.Runs.value Lin.keeps (Lin.exec_move rfl) h5
  · intro ρ wq hb ho hc hd
    have hC : ∀ v, ρ (.const v) = v := fun v => hc _ (by intro t e; cases e)
    have hF : ∀ f, ρ (.func f) = .func (.func f) #[] #[] := fun f => hc _ (by intro t e; cases e)
    have h6 : ρ (.tmp 6) = .int .i64 (L : Int) := ho 6 (by kernel_rfl)
    exact Lin.Runs.value Lin.keeps (Lin.exec_move rfl) h6
  · intro ρ wq hb ho hc hd
    have hC : ∀ v, ρ (.const v) = v := fun v => hc _ (by intro t e; cases e)
    have hF : ∀ f, ρ (.func f) = .func (.func f) #[] #[] := fun f => hc _ (by intro t e; cases e)
    have h66 : ρ (.tmp 66) = .slice (some ⟨b, off, none⟩) n c := hd 66 (by kernel_rfl)
    have h67 : ρ (.tmp 67) = .int .i64 (S : Int) := hd 67 (by kernel_rfl)
    have h68 : ρ (.tmp 68) = .int .i64 (L : Int) := hd 68 (by kernel_rfl)
    have q := (HV.out.st hb).caps
    exact Lin.Runs.value Lin.keeps (run_sl2 _ ρ wq _ _ _ rfl (i := S) (k := L - S) h66 h67 (by rw [h68]; congr 1; have := SLN.out; omega) (by have := SLN.out; omega) q.1 q.2) ((HV.out.st hb).part (by have := SLN.out; omega))
  · intro ρ wq hb ho hc hd
    have hC : ∀ v, ρ (.const v) = v := fun v => hc _ (by intro t e; cases e)
    have hF : ∀ f, ρ (.func f) = .func (.func f) #[] #[] := fun f => hc _ (by intro t e; cases e)
    have h69 := hd 69 (by kernel_rfl)
    obtain ⟨A9, c9, e9⟩ := IsB.shape h69
    exact Lin.Runs.call Lin.keeps (f := 62) (args := #[.slice A9 (L - S) c9]) (by simp [execOp, go_sem, hF, e9]) ((clone_k (show IsB ((l.drop S).take (L - S)) (L - S) (.slice A9 (L - S) c9) wq from e9 ▸ h69) (by omega)).mono fun e w9 h => by obtain ⟨v, h1, h2, h3⟩ := h.ownp; exact ⟨v, h1, h3, h2.lowk hb.size⟩)
  · intro vals w5 hb2 hv
    obtain ⟨vo, e65, hvo⟩ := hv 65 (by kernel_rfl)
    have h70 := hv 70 (by kernel_rfl)
    obtain ⟨A7, c7, e70⟩ := OwnP.shape h70
    obtain ⟨A6, c6, rfl⟩ := hvo.shape
    have HO5 := hide hvo; have HL5 := hide (show OwnP Wr.heap.size _ _ (.slice A7 (L - S) c7) w5 from e70 ▸ h70)
    have HB5 := Lib.hid (HB.out.trans (hb2.mono HB.out.size)); have HG5 := hide (HG.out.below hb2 HG.out.lt)
    clear HB HG hb2 hvo h70
    change wpList _ _ _ [_, _, _] _ _
    simp only [Lin.putAll, Option.getD_some, List.take_succ_cons, List.take_zero, List.drop_succ_cons, List.drop_zero]
    rw [e65, e70]
    unfold hdr4 hv4
    clear e65 e70 hv
    go_simp
    generalize vals = vv
    go_wp2_with (
      (with_reducible show wpList _ _ _ (⟨none, _, _, _, _, _⟩ :: _) _ _)
      go_loud (refine Go.wpList_store_row rfl 28 (.tmp 2) (.tmp 65) rfl w.heap.size #[.int .u8 (nw l 1 1), .int .i64 (nw l 2 2), .int .u16 (nw l 4 2), .bool (stB (nw l 6 2)), .bool (moB (nw l 6 2)), .int .i64 (nw l 6 2 % 8192), .int .u8 (nw l 8 1), .int .u8 (nw l 9 1), .int .u16 (nw l 10 2), .bool false, .int .u64 0, .int .u64 (nw l 12 4), .bool false, .int .u64 0, .int .u64 (nw l 16 4), .slice A6 (S - 20) c6] rfl rfl 28 #[.int .u8 0, .int .i64 0, .int .u16 0, .bool false, .bool false, .int .i64 0, .int .u8 0, .int .u8 0, .int .u16 0, .bool false, .int .u64 0, .int .u64 0, .bool false, .int .u64 0, .int .u64 0, .slice none 0 0] (is_raw HG5.out) (by kernel_rfl) rfl (by simp [Value.oneCell']) ?_)
      have HG9 := hide (is_row6 (cs' := #[.int .u8 (nw l 1 1), .int .i64 (nw l 2 2), .int .u16 (nw l 4 2), .bool (stB (nw l 6 2)), .bool (moB (nw l 6 2)), .int .i64 (nw l 6 2 % 8192), .int .u8 (nw l 8 1), .int .u8 (nw l 9 1), .int .u16 (nw l 10 2), .bool false, .int .u64 0, .int .u64 (nw l 12 4), .bool false, .int .u64 0, .int .u64 (nw l 16 4), .slice A6 (S - 20) c6]) HG5.out); have HB9 := Lib.hid (below_setRow HB5.out (g := w.heap.size) (Nat.le_refl _) #[.int .u8 (nw l 1 1), .int .i64 (nw l 2 2), .int .u16 (nw l 4 2), .bool (stB (nw l 6 2)), .bool (moB (nw l 6 2)), .int .i64 (nw l 6 2 % 8192), .int .u8 (nw l 8 1), .int .u8 (nw l 9 1), .int .u16 (nw l 10 2), .bool false, .int .u64 0, .int .u64 (nw l 12 4), .bool false, .int .u64 0, .int .u64 (nw l 16 4), .slice A6 (S - 20) c6])
      have HO9 := hide (HO5.out.row6 GLT.out #[.int .u8 (nw l 1 1), .int .i64 (nw l 2 2), .int .u16 (nw l 4 2), .bool (stB (nw l 6 2)), .bool (moB (nw l 6 2)), .int .i64 (nw l 6 2 % 8192), .int .u8 (nw l 8 1), .int .u8 (nw l 9 1), .int .u16 (nw l 10 2), .bool false, .int .u64 0, .int .u64 (nw l 12 4), .bool false, .int .u64 0, .int .u64 (nw l 16 4), .slice A6 (S - 20) c6]); have HL9 := hide (HL5.out.row6 GLT.out #[.int .u8 (nw l 1 1), .int .i64 (nw l 2 2), .int .u16 (nw l 4 2), .bool (stB (nw l 6 2)), .bool (moB (nw l 6 2)), .int .i64 (nw l 6 2 % 8192), .int .u8 (nw l 8 1), .int .u8 (nw l 9 1), .int .u16 (nw l 10 2), .bool false, .int .u64 0, .int .u64 (nw l 12 4), .bool false, .int .u64 0, .int .u64 (nw l 16 4), .slice A6 (S - 20) c6])
      generalize w5.setRow w.heap.size #[.int .u8 (nw l 1 1), .int .i64 (nw l 2 2), .int .u16 (nw l 4 2), .bool (stB (nw l 6 2)), .bool (moB (nw l 6 2)), .int .i64 (nw l 6 2 % 8192), .int .u8 (nw l 8 1), .int .u8 (nw l 9 1), .int .u16 (nw l 10 2), .bool false, .int .u64 0, .int .u64 (nw l 12 4), .bool false, .int .u64 0, .int .u64 (nw l 16 4), .slice A6 (S - 20) c6] = Wz at *)
    have z0 := HG9.out.cell 0; have y0 := HG9.out.free 0
    have z1 := HG9.out.cell 1; have y1 := HG9.out.free 1
    have z2 := HG9.out.cell 2; have y2 := HG9.out.free 2
    have z3 := HG9.out.cell 3; have y3 := HG9.out.free 3
    have z4 := HG9.out.cell 4; have y4 := HG9.out.free 4
    have z5 := HG9.out.cell 5; have y5 := HG9.out.free 5
    have z6 := HG9.out.cell 6; have y6 := HG9.out.free 6
    have z7 := HG9.out.cell 7; have y7 := HG9.out.free 7
    have z8 := HG9.out.cell 8; have y8 := HG9.out.free 8
    have z9 := HG9.out.cell 9; have y9 := HG9.out.free 9
    have z10 := HG9.out.cell 10; have y10 := HG9.out.free 10
    have z11 := HG9.out.cell 11; have y11 := HG9.out.free 11
    have z12 := HG9.out.cell 12; have y12 := HG9.out.free 12
    have z13 := HG9.out.cell 13; have y13 := HG9.out.free 13
    have z14 := HG9.out.cell 14; have y14 := HG9.out.free 14
    have z15 := HG9.out.cell 15; have y15 := HG9.out.free 15
    simp at z0 z1 z2 z3 z4 z5 z6 z7 z8 z9 z10 z11 z12 z13 z14 z15
    have zl := HG9.out.lt
    refine bodyPost_ret (v := .tuple #[hdr4 l (.slice A6 (S - 20) c6), .slice A7 (L - S) c7, .int .i64 0]) (by simp [results, Try.results15, go_sem, hdr4, hv4, z0, z1, z2, z3, z4, z5, z6, z7, z8, z9, z10, z11, z12, z13, z14, z15, zl]) rfl ⟨_, _, rfl, HB9.out, ?_, ?_⟩
    · unfold opt4; rw [HS.out]; exact HO9.out.lowk (Nat.le_of_lt GLT.out)
    · unfold load4; rw [HS.out, HL.out]; exact HL9.out.lowk (Nat.le_of_lt GLT.out)
end Go.Proofs.Ytmgendgfdhhgfaa
