/-
  Bytes and Packet of package ip4. Helper of the claims of layer 4.
-/
import Derived.Test.YtmgendgfdhhgfaaQi
namespace Go.Proofs.Ytmgendgfdhhgfaa
open Go.ChangeShapes Go.WideShapes Go.ChangeAt Go.RowKit
set_option linter.unusedSimpArgs false
set_option linter.unusedVariables false
set_option maxRecDepth 100000
/-- The checksum of bytes, as a number. -/
def ckof (l : List Int) : Nat := (S2.sumOf l).toNat
theorem ckof_eq (l : List Int) : ((ckof l : Nat) : Int) = S2.sumOf l := by have := S2.sumOf_bd l; unfold ckof; omega
theorem ckof_le (l : List Int) : ckof l ≤ 65535 := by have := S2.sumOf_bd l; unfold ckof; omega
def LitS (v : Value) : Lin.Spec Lin.Keeps := ⟨fun u w => ∃ g, u = .slice (some ⟨g, 0, none⟩) 1 1 ∧ Is w g 22 #[v], fun h hb => by
  obtain ⟨g, e, hi⟩ := h
  exact ⟨g, e, hi.below hb hi.lt⟩⟩
theorem sum_of_at {w : World} {g : Nat} {t : TypeId} {A : Option Addr} {n c : Nat} {l : List Int} (hi : Is w g t #[.slice A n c]) (h : IsB l n (.slice A n c) w) (ho : Octets l) (hm : n ≤ 1000000) :
    Calls Try.prog 67 #[.slice (some ⟨g, 0, none⟩) 1 1] w fun e w' => e = .returned (.int .u16 (S2.sumOf l)) ∧ w = w' := by
  obtain ⟨A', c', e, hl, hb, _⟩ := h
  injection e with e1 e2 e3
  subst hl; subst e1; subst e3
  have := S2.of_any (some ⟨g, 0, none⟩) 1 [⟨A, c, l⟩] w w.heap.size (S2.parts_one (p := ⟨A, c, l⟩) hi hb ho) (by simp) (by rw [S2.joined_one]; exact hm) (by rw [S2.joined_one]; exact ho)
  rw [S2.joined_one] at this
  exact this
set_option maxHeartbeats 8000000 in
theorem bytes4_yes (ts le id : Nat) (st mo : Bool) (ofs tt pr sm sl dl : Nat) (m : Nat) (o : List Int) (A : Option Addr) (n c : Nat) (w : World) (hts : ts ≤ 255) (hle : le ≤ 65535) (hid : id ≤ 65535) (hofs : ofs ≤ 8191) (htt : tt ≤ 255) (hpr : pr ≤ 255) (hsl : sl ≤ 4294967295) (hdl : dl ≤ 4294967295) (hl20 : 20 + n ≤ le) (hm : n = 4 * m) (hm10 : m ≤ 10) (ho : Octets o) (hv : IsB o n (.slice A n c) w) :
    Calls Try.prog 23 #[hv4 (ts : Int) (le : Int) (id : Int) st mo (ofs : Int) (tt : Int) (pr : Int) (sm : Int) false 0 (sl : Int) false 0 (dl : Int) (.slice A n c)] w fun e w' => ∃ v, e = .returned v ∧ Below w.heap.size w w' ∧ OwnP w.heap.size (hl4 m ts le id (pl4 st mo ofs) tt pr (ckof (hl4 m ts le id (pl4 st mo ofs) tt pr 0 sl dl ++ o)) sl dl ++ o) (20 + n) v w' := by
  have HB := Lib.hid ((Below.refl w.heap.size w).alloc (Nat.le_refl _) (.cells #[.int .u8 (ts : Int), .int .i64 (le : Int), .int .u16 (id : Int), .bool st, .bool mo, .int .i64 (ofs : Int), .int .u8 (tt : Int), .int .u8 (pr : Int), .int .u16 (sm : Int), .bool false, .int .u64 0, .int .u64 (sl : Int), .bool false, .int .u64 0, .int .u64 (dl : Int), .slice A n c] 28))
  have P1 := hide (Is.new w 28 #[.int .u8 (ts : Int), .int .i64 (le : Int), .int .u16 (id : Int), .bool st, .bool mo, .int .i64 (ofs : Int), .int .u8 (tt : Int), .int .u8 (pr : Int), .int .u16 (sm : Int), .bool false, .int .u64 0, .int .u64 (sl : Int), .bool false, .int .u64 0, .int .u64 (dl : Int), .slice A n c])
  have HV := hide (hv.st HB.out)
  have RY := hide (fun W => right4_yes (ts : Int) (le : Int) (id : Int) st mo (ofs : Int) (tt : Int) (pr : Int) (sm : Int) (sl : Int) (dl : Int) A n c W (by omega) (by omega) (by omega) (by omega) (by omega) (by omega) (by omega) (by omega) (by omega) (by omega))
  have EY := hide (fun W hW => enc4 ts le id st mo ofs tt pr sm sl dl m 0 o A n c W hts hle hid hofs htt hpr hsl hdl (by omega) hm hm10 hW)
  have HLO := Lib.hid (show Octets (hl4 m ts le id (pl4 st mo ofs) tt pr 0 sl dl ++ o) from (hl4_ok _ _ _ _ _ _ _ _ _ _).app ho)
  have CKE := Lib.hid (ckof_eq (hl4 m ts le id (pl4 st mo ofs) tt pr 0 sl dl ++ o)); have CKB := Lib.hid (ckof_le (hl4 m ts le id (pl4 st mo ofs) tt pr 0 sl dl ++ o))
  have HM4 := Lib.hid hm; have N40 := Lib.hid (show n ≤ 40 by omega)
  clear hv hm hl20 ho
  unfold hv4 at RY EY ⊢
  go_enter Try.func23, Try.ntmps23
  go_wp2_with fail
  generalize w.alloc (.cells #[.int .u8 (ts : Int), .int .i64 (le : Int), .int .u16 (id : Int), .bool st, .bool mo, .int .i64 (ofs : Int), .int .u8 (tt : Int), .int .u8 (pr : Int), .int .u16 (sm : Int), .bool false, .int .u64 0, .int .u64 (sl : Int), .bool false, .int .u64 0, .int .u64 (dl : Int), .slice A n c] 28) = W at *
  refine (unhide RY _).mono ?_
  rintro e w1 ⟨rfl, hb⟩
  have HB1 := Lib.hid (HB.out.trans (hb.mono HB.out.size)); have P2 := hide (P1.out.below hb P1.out.lt); have HV1 := hide (HV.out.st hb)
  clear hb HB P1 HV
  have a0 := P2.out.cell 0
  have a1 := P2.out.cell 1
  have a2 := P2.out.cell 2
  have a3 := P2.out.cell 3
  have a4 := P2.out.cell 4
  have a5 := P2.out.cell 5
  have a6 := P2.out.cell 6
  have a7 := P2.out.cell 7
  have a8 := P2.out.cell 8
  have a9 := P2.out.cell 9
  have a10 := P2.out.cell 10
  have a11 := P2.out.cell 11
  have a12 := P2.out.cell 12
  have a13 := P2.out.cell 13
  have a14 := P2.out.cell 14
  have a15 := P2.out.cell 15
  simp at a0 a1 a2 a3 a4 a5 a6 a7 a8 a9 a10 a11 a12 a13 a14 a15
  go_wp2_with fail
  clear a0 a1 a2 a3 a4 a5 a6 a7 a8 a9 a10 a11 a12 a13 a14 a15
  refine (unhide EY _ HV1.out).mono ?_
  rintro e w3 ⟨v3, rfl, hb, A3, c3, rfl, he3⟩
  have HE3 := hide (IsB.own he3)
  have HB3 := Lib.hid (HB1.out.trans (hb.mono HB1.out.size)); have P3 := hide (P2.out.below hb P2.out.lt); have HV3 := hide (HV1.out.st hb)
  have HZ3 := Lib.hid (show w.heap.size ≤ w3.heap.size from HB3.out.size)
  clear hb HB1 P2 HV1 he3
  have a0 := P3.out.cell 0
  have a1 := P3.out.cell 1
  have a2 := P3.out.cell 2
  have a3 := P3.out.cell 3
  have a4 := P3.out.cell 4
  have a5 := P3.out.cell 5
  have a6 := P3.out.cell 6
  have a7 := P3.out.cell 7
  have a8 := P3.out.cell 8
  have a9 := P3.out.cell 9
  have a10 := P3.out.cell 10
  have a11 := P3.out.cell 11
  have a12 := P3.out.cell 12
  have a13 := P3.out.cell 13
  have a14 := P3.out.cell 14
  have a15 := P3.out.cell 15
  simp at a0 a1 a2 a3 a4 a5 a6 a7 a8 a9 a10 a11 a12 a13 a14 a15
  have C0 := Lib.hid a0
  have C1 := Lib.hid a1
  have C2 := Lib.hid a2
  have C3 := Lib.hid a3
  have C4 := Lib.hid a4
  have C5 := Lib.hid a5
  have C6 := Lib.hid a6
  have C7 := Lib.hid a7
  have C8 := Lib.hid a8
  have C9 := Lib.hid a9
  have C10 := Lib.hid a10
  have C11 := Lib.hid a11
  have C12 := Lib.hid a12
  have C13 := Lib.hid a13
  have C14 := Lib.hid a14
  have C15 := Lib.hid a15
  have LW := Lib.hid P3.out.lt
  clear a0 a1 a2 a3 a4 a5 a6 a7 a8 a9 a10 a11 a12 a13 a14 a15
  go_wp2_with fail
  refine Lin.wp_region_lin Lin.keeps (n := 14)  (fun slotq => match slotq with | 9 => Lin.Spec.val (.agg #[.int .u8 (ts : Int), .int .i64 (le : Int), .int .u16 (id : Int), .bool st, .bool mo, .int .i64 (ofs : Int), .int .u8 (tt : Int), .int .u8 (pr : Int), .int .u16 (sm : Int), .bool false, .int .u64 0, .int .u64 (sl : Int), .bool false, .int .u64 0, .int .u64 (dl : Int), .slice A n c]) | 10 => Lin.Spec.val (.slice A3 (20 + n) c3) | 11 => (LitS (.slice A3 (20 + n) c3)) | 12 => Lin.Spec.val (.int .u16 ((ckof (hl4 m ts le id (pl4 st mo ofs) tt pr 0 sl dl ++ o) : Nat) : Int)) | 13 => (Lin.Spec.own w.heap.size (hl4 m ts le id (pl4 st mo ofs) tt pr (ckof (hl4 m ts le id (pl4 st mo ofs) tt pr 0 sl dl ++ o)) sl dl ++ o) (20 + n)) | 2 => (Lin.Spec.own w.heap.size (hl4 m ts le id (pl4 st mo ofs) tt pr (ckof (hl4 m ts le id (pl4 st mo ofs) tt pr 0 sl dl ++ o)) sl dl ++ o) (20 + n)) | _ => Lin.Spec.any) (by kernel_rfl) rfl (by kernel_rfl) ⟨?_, ?_, ?_, ?_, ?_, ?_, trivial⟩ ?_
  · intro ρ wq hb ho hc hd
    have hC : ∀ v, ρ (.const v) = v := fun v => hc _ (by intro t e; cases e)
    have hF : ∀ f, ρ (.func f) = .func (.func f) #[] #[] := fun f => hc _ (by intro t e; cases e)
    have h1 : ρ (.tmp 1) = .pointer (some ⟨w.heap.size, 0, none⟩) := ho 1 (by kernel_rfl)
    have q0 := (hb.cell (p := ⟨w.heap.size, 0, none⟩) LW.out).trans C0.out
    have q1 := (hb.cell (p := ⟨w.heap.size, 1, none⟩) LW.out).trans C1.out
    have q2 := (hb.cell (p := ⟨w.heap.size, 2, none⟩) LW.out).trans C2.out
    have q3 := (hb.cell (p := ⟨w.heap.size, 3, none⟩) LW.out).trans C3.out
    have q4 := (hb.cell (p := ⟨w.heap.size, 4, none⟩) LW.out).trans C4.out
    have q5 := (hb.cell (p := ⟨w.heap.size, 5, none⟩) LW.out).trans C5.out
    have q6 := (hb.cell (p := ⟨w.heap.size, 6, none⟩) LW.out).trans C6.out
    have q7 := (hb.cell (p := ⟨w.heap.size, 7, none⟩) LW.out).trans C7.out
    have q8 := (hb.cell (p := ⟨w.heap.size, 8, none⟩) LW.out).trans C8.out
    have q9 := (hb.cell (p := ⟨w.heap.size, 9, none⟩) LW.out).trans C9.out
    have q10 := (hb.cell (p := ⟨w.heap.size, 10, none⟩) LW.out).trans C10.out
    have q11 := (hb.cell (p := ⟨w.heap.size, 11, none⟩) LW.out).trans C11.out
    have q12 := (hb.cell (p := ⟨w.heap.size, 12, none⟩) LW.out).trans C12.out
    have q13 := (hb.cell (p := ⟨w.heap.size, 13, none⟩) LW.out).trans C13.out
    have q14 := (hb.cell (p := ⟨w.heap.size, 14, none⟩) LW.out).trans C14.out
    have q15 := (hb.cell (p := ⟨w.heap.size, 15, none⟩) LW.out).trans C15.out
    exact Lin.Runs.value Lin.keeps (v := .agg #[.int .u8 (ts : Int), .int .i64 (le : Int), .int .u16 (id : Int), .bool st, .bool mo, .int .i64 (ofs : Int), .int .u8 (tt : Int), .int .u8 (pr : Int), .int .u16 (sm : Int), .bool false, .int .u64 0, .int .u64 (sl : Int), .bool false, .int .u64 0, .int .u64 (dl : Int), .slice A n c]) (by simp [execOp, go_sem, h1, q0, q1, q2, q3, q4, q5, q6, q7, q8, q9, q10, q11, q12, q13, q14, q15]) rfl
  · intro ρ wq hb ho hc hd
    have hC : ∀ v, ρ (.const v) = v := fun v => hc _ (by intro t e; cases e)
    have hF : ∀ f, ρ (.func f) = .func (.func f) #[] #[] := fun f => hc _ (by intro t e; cases e)
    have h3 : ρ (.tmp 3) = .slice A3 (20 + n) c3 := ho 3 (by kernel_rfl)
    exact Lin.Runs.value Lin.keeps (Lin.exec_move rfl) h3
  · intro ρ wq hb ho hc hd
    have hC : ∀ v, ρ (.const v) = v := fun v => hc _ (by intro t e; cases e)
    have hF : ∀ f, ρ (.func f) = .func (.func f) #[] #[] := fun f => hc _ (by intro t e; cases e)
    have h10 : ρ (.tmp 10) = .slice A3 (20 + n) c3 := hd 10 (by kernel_rfl)
    exact Lin.Runs.made (v := .slice (some ⟨wq.heap.size, 0, none⟩) 1 1) (w' := wq.alloc (.cells #[.slice A3 (20 + n) c3] 22)) (by simp [execOp, go_sem, h10]) ((Below.refl _ _).alloc (Nat.le_refl _) _) ⟨_, rfl, Is.new _ _ _⟩
  · intro ρ wq hb ho hc hd
    have hC : ∀ v, ρ (.const v) = v := fun v => hc _ (by intro t e; cases e)
    have hF : ∀ f, ρ (.func f) = .func (.func f) #[] #[] := fun f => hc _ (by intro t e; cases e)
    have h11 := hd 11 (by kernel_rfl)
    obtain ⟨g11, e11, i11⟩ := h11
    exact Lin.Runs.call Lin.keeps (f := 67) (args := #[.slice (some ⟨g11, 0, none⟩) 1 1]) (by simp [execOp, go_sem, hF, e11]) ((sum_of_at i11 (HE3.out.st hb) HLO.out (by have := N40.out; omega)).mono fun e w9 h => ⟨_, h.1, by rw [← h.2]; exact Below.refl _ _, by rw [CKE.out]; rfl⟩)
  · intro ρ wq hb ho hc hd
    have hC : ∀ v, ρ (.const v) = v := fun v => hc _ (by intro t e; cases e)
    have hF : ∀ f, ρ (.func f) = .func (.func f) #[] #[] := fun f => hc _ (by intro t e; cases e)
    have h9 : ρ (.tmp 9) = .agg #[.int .u8 (ts : Int), .int .i64 (le : Int), .int .u16 (id : Int), .bool st, .bool mo, .int .i64 (ofs : Int), .int .u8 (tt : Int), .int .u8 (pr : Int), .int .u16 (sm : Int), .bool false, .int .u64 0, .int .u64 (sl : Int), .bool false, .int .u64 0, .int .u64 (dl : Int), .slice A n c] := hd 9 (by kernel_rfl)
    have h12 : ρ (.tmp 12) = .int .u16 ((ckof (hl4 m ts le id (pl4 st mo ofs) tt pr 0 sl dl ++ o) : Nat) : Int) := hd 12 (by kernel_rfl)
    exact Lin.Runs.call Lin.keeps (f := 66) (args := #[hv4 (ts : Int) (le : Int) (id : Int) st mo (ofs : Int) (tt : Int) (pr : Int) (sm : Int) false 0 (sl : Int) false 0 (dl : Int) (.slice A n c), .int .u16 ((ckof (hl4 m ts le id (pl4 st mo ofs) tt pr 0 sl dl ++ o) : Nat) : Int)]) (by simp [execOp, go_sem, hF, h9, h12, hv4]) ((enc4 ts le id st mo ofs tt pr sm sl dl m (ckof (hl4 m ts le id (pl4 st mo ofs) tt pr 0 sl dl ++ o)) o A n c wq hts hle hid hofs htt hpr hsl hdl CKB.out HM4.out hm10 (HV3.out.st hb)).mono fun e w9 ⟨v, h1, h2, h3⟩ => ⟨v, h1, h2, h3.lowk (Nat.le_trans HZ3.out hb.size)⟩)
  · intro ρ wq hb ho hc hd
    have hC : ∀ v, ρ (.const v) = v := fun v => hc _ (by intro t e; cases e)
    have hF : ∀ f, ρ (.func f) = .func (.func f) #[] #[] := fun f => hc _ (by intro t e; cases e)
    have h13 := hd 13 (by kernel_rfl)
    exact Lin.Runs.value Lin.keeps (Lin.exec_assign rfl) h13
  · intro vals w9 hb2 hv
    have h2 := hv 2 (by kernel_rfl)
    have HB9 := Lib.hid (HB3.out.trans (hb2.mono HB3.out.size))
    clear hb2
    simp only [Lin.putAll, Option.getD_some]
    generalize hv2 : vals 2 = v2 at *
    have H2 := hide (show OwnP w.heap.size (hl4 m ts le id (pl4 st mo ofs) tt pr (ckof (hl4 m ts le id (pl4 st mo ofs) tt pr 0 sl dl ++ o)) sl dl ++ o) (20 + n) v2 w9 from h2)
    clear hv h2 hv2
    go_simp
    generalize vals = vv
    go_wp2_with fail
    go_ret
    exact ⟨_, rfl, HB9.out, H2.out⟩
end Go.Proofs.Ytmgendgfdhhgfaa
