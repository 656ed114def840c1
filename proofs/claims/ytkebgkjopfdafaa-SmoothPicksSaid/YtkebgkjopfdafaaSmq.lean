/-
  The law SmoothPicks, walked. Helper of the claim SmoothPicks. No condition.
-/
import Derived.Test.YtkebgkjopfdafaaSml
namespace Go.Proofs.Ytkebgkjopfdafaa
open Go.ChangeShapes Go.WideShapes Go.ChangeAt Go.RowKit
set_option linter.unusedSimpArgs false
set_option linter.unusedVariables false
set_option maxRecDepth 100000
set_option maxHeartbeats 16000000 in
theorem picks_all (A : Option Addr) (c : Nat) (ls : List (List Cand)) (x : Int) (w : World) (h : CandsS w w.heap.size A ls) (hm : ls.length ≤ maxLen) :
    Calls Try.prog 7 #[.slice A ls.length c, .int .i64 x] w fun e w' => e = .returned (.bool true) ∧ Below w.heap.size w w' := by
  have HCS := Lib.hid h
  clear h
  unfold maxLen at hm
  go_enter Try.func7, Try.ntmps7
  go_wp2_with fail
  refine (awake19 _).mono ?_
  rintro e w1 ⟨rfl, hb1⟩
  have HB0 := Lib.hid (hb1.alloc hb1.size (.cells #[.slice none 0 0] 62))
  have S0 := Lib.hid (Is.new w1 62 #[.slice none 0 0])
  have GSW := Lib.hid hb1.size
  clear hb1
  go_wp2_with fail
  generalize w1.alloc (.cells #[.slice none 0 0] 62) = wa at *
  generalize w1.heap.size = gs at *
  go_loopw [6, 7] (fun v6 v7 wr => PO w gs ls v6 v7 wr) (fun _ v _ => ls.length - (intOf v).toNat)
  case atStart => exact ⟨0, 0, 0, [], 0, none, 0, Nat.zero_le _, by omega, rfl, rfl, rfl, by omega, fun i hi => absurd hi (by simp), fun j hj => absurd hj (by omega), .inl ⟨rfl, S0.out⟩, World.ownsRow_nil _ _ _ _, HB0.out, S0.out.lt⟩
  case round =>
    clear S0 HB0
    obtain ⟨i, n, k, pl, b5, An, cn, hi, hi60, rfl, rfl, hln, hn30, hdf, hw, hG, hO, hB, hL⟩ := hrel
    have GG := hide hG; have OO := Lib.hid hO; have HB := Lib.hid hB; have GL := Lib.hid hL; have LEN := Lib.hid hln; have N30 := Lib.hid hn30; have DFF := Lib.hid hdf; have WW := hide hw
    clear hG hO hB hL hln hn30 hdf hw
    have i0 : (0 : Int) ≤ (i : Int) := Int.natCast_nonneg _
    by_cases hgo : i < ls.length ∧ i < 60
    · obtain ⟨hlt, h60⟩ := hgo
      have il : (i : Int) < (ls.length : Int) := by omega
      have i60z : (i : Int) < 60 := by omega
      obtain ⟨b, off, rfl, hbl, hcs⟩ := HCS.out (by omega)
      obtain ⟨Ai, ci, di0, hci, hlm⟩ := hcs i hlt
      have DI := Lib.hid di0; have HCI := Lib.hid hci; have LBL := Lib.hid hbl
      have IL1 := Lib.hid (show i + 1 ≤ ls.length from hlt)
      have I60 := Lib.hid (show i < 60 from h60)
      clear hcs di0 hci hlt h60 hi hi60
      generalize nths ls i = l at *
      have di := (HB.out.cell (p := ⟨b, off + i, none⟩) hbl).trans DI.out
      have hbz := HB.out.size
      have RT := Lib.hid (right19 Ai ci l wr (cands_below (w := w) HCI.out (HB.out)) hlm)
      cases hr : rgt l with
      | false =>
        rw [hr] at RT
        clear hr
        go_wp2_with fail
        refine RT.out.mono ?_
        rintro e w9 ⟨rfl, hb2⟩
        have G9 := hide ((unhide GG).below hb2); have O9 := Lib.hid (own_below OO.out hb2); have HB9 := Lib.hid (HB.out.trans (hb2.mono HB.out.size)); have L9 := Lib.hid (Nat.lt_of_lt_of_le GL.out hb2.size)
        clear hb2 RT GG OO HB GL
        go_wp2_with fail
        go_roundw
        case rel => exact ⟨i + 1, n, k, pl, b5, _, _, IL1.out, by have := I60.out; omega, by go_num, rfl, LEN.out, N30.out, DFF.out, unhide WW, unhide G9, O9.out, HB9.out, L9.out⟩
        case measure => have := IL1.out; simp [intOf]; omega
      | true =>
        rw [hr] at RT
        obtain ⟨h30, hrb, hdfl⟩ : l.length ≤ 30 ∧ rightB l = true ∧ Df l := by
          exact Classical.byContradiction fun hn => by rw [rgt_no hn] at hr; cases hr
        obtain ⟨hall, _⟩ := right_pair l (-1) hrb
        obtain ⟨kl, hkl⟩ : ∃ k, kp l l.length = k := ⟨_, rfl⟩
        obtain ⟨m, hmm⟩ : ∃ m, kl.length = m := ⟨_, rfl⟩
        have hf : kl = l.filter fun x => decide (0 < x.weight) := by rw [← hkl, kp_all]
        have hm30 : m ≤ 30 := by rw [← hmm, hf]; exact Nat.le_trans (List.length_filter_le _ _) h30
        have hkm : ∀ i, i < m → nth kl i ∈ l ∧ 0 < (nth kl i).weight := fun i hi => by
          have := nth_mem (l := kl) (k := i) (by omega)
          generalize nth kl i = x at *
          rw [hf] at this
          have h2 := List.mem_filter.1 this
          exact ⟨h2.1, by simpa using h2.2⟩
        have hw : ∀ i, i < m → (nth kl i).weight = wof kl i ∧ 0 < wof kl i ∧ wof kl i ≤ 100 := fun i hi => ⟨rfl, (hkm i hi).2, (hall _ (hkm i hi).1).2.2.2⟩
        have hwt : ∀ i, i < l.length → 0 ≤ (nth l i).weight ∧ (nth l i).weight ≤ 100 := fun i hi => ⟨(hall _ (nth_mem hi)).2.2.1, (hall _ (nth_mem hi)).2.2.2⟩
        have hcrb : ∀ j, j < n → -1000000 < Sm.st (wof pl) n (Sm.S (wof pl) n) k j ∧ Sm.st (wof pl) n (Sm.S (wof pl) n) k j < 1000000 := fun j hj => st_bound (by omega) N30.out (unhide WW) k j hj
        have hdk : Df kl := by rw [← hkl]; exact kp_df hdfl
        have HW := hide hw; have HWT := hide hwt; have HCR := hide hcrb; have HKL := Lib.hid hkl; have HM := Lib.hid hmm; have H30 := Lib.hid h30; have HM30 := Lib.hid hm30; have HDK := Lib.hid hdk
        have hl30 : l.length ≤ 1000 := by omega
        clear hr hrb hdfl hall hkl hmm hf hm30 hkm hw hwt hcrb hdk h30
        go_wp2_with fail
        refine RT.out.mono ?_
        rintro e w2 ⟨rfl, hb2⟩
        have G9 := hide ((unhide GG).below hb2); have O9 := Lib.hid (own_below OO.out hb2); have HB9 := Lib.hid (HB.out.trans (hb2.mono HB.out.size)); have L9 := Lib.hid (Nat.lt_of_lt_of_le GL.out hb2.size)
        clear hb2 RT GG OO HB GL di hbz
        have di := (HB9.out.cell (p := ⟨b, off + i, none⟩) hbl).trans DI.out
        have TT := Lib.hid (to19 Ai ci l w2 (cands_below (w := w) HCI.out HB9.out) hl30)
        go_wp2_with fail
        refine TT.out.mono ?_
        rintro e w3 ⟨vx, rfl, hx, hb2⟩
        obtain ⟨Ax, cx, rfl⟩ := own_shape hx
        have X3 := Lib.hid hx
        have G3 := hide ((unhide G9).below hb2); have O3 := Lib.hid (own_below O9.out hb2); have HB3 := Lib.hid (HB9.out.trans (hb2.mono HB9.out.size)); have L3 := Lib.hid (Nat.lt_of_lt_of_le L9.out hb2.size)
        clear hb2 hx TT G9 O9 HB9 L9 di
        go_wp2_with fail
        by_cases hz : m = 0
        · refine (pick_zero gs cx Ax l w3 (cands_of_own X3.out) hl30 (by rw [HKL.out, HM.out]; exact hz)).mono ?_
          rintro e w4 ⟨rfl, hb2⟩
          have HB4 := Lib.hid (HB3.out.trans (hb2.mono HB3.out.size))
          have hz4 := HB4.out.size
          have G5 := hide (((unhide G3).below hb2).below ((Below.refl _ _).alloc (Nat.le_refl _) (.cells #[.int .i64 0, .int .i64 0, .int .i64 0, .int .u32 0] 29))); have O5 := Lib.hid (World.ownsRow.alloc (own_below O3.out hb2) (.cells #[.int .i64 0, .int .i64 0, .int .i64 0, .int .u32 0] 29)); have HB5 := Lib.hid (HB4.out.alloc hz4 (.cells #[.int .i64 0, .int .i64 0, .int .i64 0, .int .u32 0] 29)); have L5 := Lib.hid (show gs < (w4.alloc (.cells #[.int .i64 0, .int .i64 0, .int .i64 0, .int .u32 0] 29)).heap.size from by have := L3.out; have := hb2.size; simp; omega)
          have C5 := Lib.hid (Is.new w4 29 #[.int .i64 0, .int .i64 0, .int .i64 0, .int .u32 0])
          have HZ := Lib.hid hz
          clear hb2 X3 G3 O3 HB3 L3 HB4 hz4 hz
          have di := (HB5.out.cell (p := ⟨b, off + i, none⟩) hbl).trans DI.out
          go_wp2_with fail
          generalize w4.alloc (.cells #[.int .i64 0, .int .i64 0, .int .i64 0, .int .u32 0] 29) = V at *
          generalize w4.heap.size = g8 at *
          have RP := hide (rpick_any cn n ci m An Ai l pl kl (Sm.st (wof pl) n (Sm.S (wof pl) n) k) V (own_rs O5.out) (cands_below (w := w) HCI.out HB5.out) H30.out N30.out HKL.out HM.out (unhide HWT) (unhide HCR))
          refine (unhide RP).mono ?_
          rintro e w6 ⟨ho, hb2⟩
          obtain rfl : e = .returned (.tuple #[.slice An n cn, .int .i64 (-1)]) := by
            rcases ho with ⟨_, h⟩ | ⟨h, _⟩
            · exact h
            · have := HZ.out; omega
          have GG := hide ((unhide G5).below hb2); have OO := Lib.hid (own_below O5.out hb2); have HB := Lib.hid (HB5.out.trans (hb2.mono HB5.out.size)); have GL := Lib.hid (Nat.lt_of_lt_of_le L5.out hb2.size)
          have C6 := Lib.hid (C5.out.below hb2 C5.out.lt)
          clear hb2 RP ho G5 O5 HB5 L5 C5 di
          have z0 := C6.out.cell 0; have z1 := C6.out.cell 1; have z2 := C6.out.cell 2; have z3 := C6.out.cell 3
          simp at z0 z1 z2 z3
          have LG8 := Lib.hid C6.out.lt
          clear C6
          go_wp2_with fail
          refine Lin.wp_region_lin Lin.keeps (n := 141)  (fun slotq => match slotq with | 57 => Lin.Spec.val (.bool false) | 58 => Lin.Spec.val (.int .i64 (-1)) | 59 => Lin.Spec.val (.bool false) | 60 => Lin.Spec.val (.bool false) | 61 => Lin.Spec.val (.bool false) | 62 => Lin.Spec.val (.bool false) | 63 => Lin.Spec.val (.bool true) | 64 => Lin.Spec.val (.bool true) | 65 => Lin.Spec.val (.agg #[.int .i64 0, .int .i64 0, .int .i64 0, .int .u32 0]) | 66 => Lin.Spec.val (.agg #[.int .i64 0, .int .i64 0, .int .i64 0, .int .u32 0]) | 67 => Lin.Spec.val (.bool false) | 68 => Lin.Spec.val (.bool false) | 69 => Lin.Spec.val (.bool false) | 70 => Lin.Spec.val (.bool false) | 71 => Lin.Spec.val (.bool false) | 72 => Lin.Spec.val (.bool false) | 73 => Lin.Spec.val (undef) | 74 => Lin.Spec.val (undef) | 75 => Lin.Spec.val (undef) | 76 => Lin.Spec.val (undef) | 77 => Lin.Spec.val (undef) | 78 => Lin.Spec.val (undef) | 79 => Lin.Spec.val (undef) | 80 => Lin.Spec.val (undef) | 81 => Lin.Spec.val (undef) | 82 => Lin.Spec.val (undef) | 83 => Lin.Spec.val (undef) | 84 => Lin.Spec.val (.bool false) | 85 => Lin.Spec.val (.bool false) | _ => Lin.Spec.any) (by kernel_rfl) rfl (by kernel_rfl) ⟨?_, ?_, ?_, ?_, ?_, ?_, ?_, ?_, ?_, ?_, ?_, ?_, ?_, ?_, ?_, ?_, ?_, ?_, ?_, ?_, ?_, ?_, ?_, ?_, ?_, ?_, ?_, ?_, ?_, trivial⟩ ?_
          · intro ρ wq hb ho hc hd
            have hC : ∀ v, ρ (.const v) = v := fun v => hc _ (by intro t e; cases e)
            have hF : ∀ f, ρ (.func f) = .func (.func f) #[] #[] := fun f => hc _ (by intro t e; cases e)
            have h9 : ρ (.tmp 9) = .bool false := ho 9 (by kernel_rfl)
            exact Lin.Runs.value Lin.keeps (Lin.exec_move rfl) h9
          · intro ρ wq hb ho hc hd
            have hC : ∀ v, ρ (.const v) = v := fun v => hc _ (by intro t e; cases e)
            have hF : ∀ f, ρ (.func f) = .func (.func f) #[] #[] := fun f => hc _ (by intro t e; cases e)
            have h11 : ρ (.tmp 11) = .int .i64 (-1) := ho 11 (by kernel_rfl)
            exact Lin.Runs.value Lin.keeps (Lin.exec_move rfl) h11
          · intro ρ wq hb ho hc hd
            have hC : ∀ v, ρ (.const v) = v := fun v => hc _ (by intro t e; cases e)
            have hF : ∀ f, ρ (.func f) = .func (.func f) #[] #[] := fun f => hc _ (by intro t e; cases e)
            have h58 : ρ (.tmp 58) = .int .i64 (-1) := hd 58 (by kernel_rfl)
            exact Lin.Runs.value Lin.keeps (v := .bool false) (by simp [execOp, go_sem, hC, h58]) rfl
          · intro ρ wq hb ho hc hd
            have hC : ∀ v, ρ (.const v) = v := fun v => hc _ (by intro t e; cases e)
            have hF : ∀ f, ρ (.func f) = .func (.func f) #[] #[] := fun f => hc _ (by intro t e; cases e)
            have h57 : ρ (.tmp 57) = .bool false := hd 57 (by kernel_rfl)
            have h59 : ρ (.tmp 59) = .bool false := hd 59 (by kernel_rfl)
            exact Lin.Runs.value Lin.keeps (v := .bool false) (by simp [execOp, go_sem, h57, h59]) rfl
          · intro ρ wq hb ho hc hd
            have hC : ∀ v, ρ (.const v) = v := fun v => hc _ (by intro t e; cases e)
            have hF : ∀ f, ρ (.func f) = .func (.func f) #[] #[] := fun f => hc _ (by intro t e; cases e)
            have h60 : ρ (.tmp 60) = .bool false := hd 60 (by kernel_rfl)
            exact Lin.Runs.value Lin.keeps (Lin.exec_move rfl) h60
          · intro ρ wq hb ho hc hd
            have hC : ∀ v, ρ (.const v) = v := fun v => hc _ (by intro t e; cases e)
            have hF : ∀ f, ρ (.func f) = .func (.func f) #[] #[] := fun f => hc _ (by intro t e; cases e)
            intro t ht; cases (show some 61 = some t from ht)
            refine ⟨fun _ => ?_, fun hn => absurd (hd 61 (by kernel_rfl)) hn⟩
            have h9 : ρ (.tmp 9) = .bool false := ho 9 (by kernel_rfl)
            exact Lin.Runs.value Lin.keeps (Lin.exec_move rfl) h9
          · intro ρ wq hb ho hc hd
            have hC : ∀ v, ρ (.const v) = v := fun v => hc _ (by intro t e; cases e)
            have hF : ∀ f, ρ (.func f) = .func (.func f) #[] #[] := fun f => hc _ (by intro t e; cases e)
            intro t ht; cases (show some 61 = some t from ht)
            refine ⟨fun _ => ?_, fun hn => absurd (hd 61 (by kernel_rfl)) hn⟩
            have h62 : ρ (.tmp 62) = .bool false := hd 62 (by kernel_rfl)
            exact Lin.Runs.value Lin.keeps (v := .bool true) (by simp [execOp, go_sem, h62]) rfl
          · intro ρ wq hb ho hc hd
            have hC : ∀ v, ρ (.const v) = v := fun v => hc _ (by intro t e; cases e)
            have hF : ∀ f, ρ (.func f) = .func (.func f) #[] #[] := fun f => hc _ (by intro t e; cases e)
            intro t ht; cases (show some 61 = some t from ht)
            refine ⟨fun _ => ?_, fun hn => absurd (hd 61 (by kernel_rfl)) hn⟩
            have h63 : ρ (.tmp 63) = .bool true := hd 63 (by kernel_rfl)
            exact Lin.Runs.value Lin.keeps (Lin.exec_move rfl) h63
          · intro ρ wq hb ho hc hd
            have hC : ∀ v, ρ (.const v) = v := fun v => hc _ (by intro t e; cases e)
            have hF : ∀ f, ρ (.func f) = .func (.func f) #[] #[] := fun f => hc _ (by intro t e; cases e)
            intro t ht; cases (show some 64 = some t from ht)
            refine ⟨fun _ => ?_, fun hn => absurd (hd 64 (by kernel_rfl)) hn⟩
            have h8 : ρ (.tmp 8) = .pointer (some ⟨g8, 0, none⟩) := ho 8 (by kernel_rfl)
            have a0 := (hb.cell (p := ⟨g8, 0, none⟩) LG8.out).trans z0; have a1 := (hb.cell (p := ⟨g8, 1, none⟩) LG8.out).trans z1; have a2 := (hb.cell (p := ⟨g8, 2, none⟩) LG8.out).trans z2; have a3 := (hb.cell (p := ⟨g8, 3, none⟩) LG8.out).trans z3
            have h8 : ρ (.tmp 8) = .pointer (some ⟨g8, 0, none⟩) := ho 8 (by kernel_rfl)
            exact Lin.Runs.value Lin.keeps (v := .agg #[.int .i64 0, .int .i64 0, .int .i64 0, .int .u32 0]) (by simp [execOp, go_sem, h8, a0, a1, a2, a3]) rfl
          · intro ρ wq hb ho hc hd
            have hC : ∀ v, ρ (.const v) = v := fun v => hc _ (by intro t e; cases e)
            have hF : ∀ f, ρ (.func f) = .func (.func f) #[] #[] := fun f => hc _ (by intro t e; cases e)
            intro t ht; cases (show some 64 = some t from ht)
            refine ⟨fun _ => ?_, fun hn => absurd (hd 64 (by kernel_rfl)) hn⟩
            exact Lin.Runs.value Lin.keeps (v := .agg #[.int .i64 0, .int .i64 0, .int .i64 0, .int .u32 0]) (by simp [execOp, go_sem, ]) rfl
          · intro ρ wq hb ho hc hd
            have hC : ∀ v, ρ (.const v) = v := fun v => hc _ (by intro t e; cases e)
            have hF : ∀ f, ρ (.func f) = .func (.func f) #[] #[] := fun f => hc _ (by intro t e; cases e)
            intro t ht; cases (show some 64 = some t from ht)
            refine ⟨fun _ => ?_, fun hn => absurd (hd 64 (by kernel_rfl)) hn⟩
            have h65 : ρ (.tmp 65) = .agg #[.int .i64 0, .int .i64 0, .int .i64 0, .int .u32 0] := hd 65 (by kernel_rfl)
            have h66 : ρ (.tmp 66) = .agg #[.int .i64 0, .int .i64 0, .int .i64 0, .int .u32 0] := hd 66 (by kernel_rfl)
            exact Lin.Runs.value Lin.keeps (v := .bool false) (by simp [execOp, go_sem, h65, h66]) rfl
          · intro ρ wq hb ho hc hd
            have hC : ∀ v, ρ (.const v) = v := fun v => hc _ (by intro t e; cases e)
            have hF : ∀ f, ρ (.func f) = .func (.func f) #[] #[] := fun f => hc _ (by intro t e; cases e)
            intro t ht; cases (show some 61 = some t from ht)
            refine ⟨fun _ => ?_, fun hn => absurd (hd 61 (by kernel_rfl)) hn⟩
            have h64 : ρ (.tmp 64) = .bool true := hd 64 (by kernel_rfl)
            have h67 : ρ (.tmp 67) = .bool false := hd 67 (by kernel_rfl)
            exact Lin.Runs.value Lin.keeps (v := .bool false) (by simp [execOp, go_sem, hC, h64, h67]) rfl
          · intro ρ wq hb ho hc hd
            have hC : ∀ v, ρ (.const v) = v := fun v => hc _ (by intro t e; cases e)
            have hF : ∀ f, ρ (.func f) = .func (.func f) #[] #[] := fun f => hc _ (by intro t e; cases e)
            have h61 : ρ (.tmp 61) = .bool false := hd 61 (by kernel_rfl)
            have h68 : ρ (.tmp 68) = .bool false := hd 68 (by kernel_rfl)
            exact Lin.Runs.value Lin.keeps (v := .bool false) (by simp [execOp, go_sem, hC, h61, h68]) rfl
          · intro ρ wq hb ho hc hd
            have hC : ∀ v, ρ (.const v) = v := fun v => hc _ (by intro t e; cases e)
            have hF : ∀ f, ρ (.func f) = .func (.func f) #[] #[] := fun f => hc _ (by intro t e; cases e)
            have h69 : ρ (.tmp 69) = .bool false := hd 69 (by kernel_rfl)
            exact Lin.Runs.value Lin.keeps (Lin.exec_move rfl) h69
          · intro ρ wq hb ho hc hd
            have hC : ∀ v, ρ (.const v) = v := fun v => hc _ (by intro t e; cases e)
            have hF : ∀ f, ρ (.func f) = .func (.func f) #[] #[] := fun f => hc _ (by intro t e; cases e)
            intro t ht; cases (show some 70 = some t from ht)
            refine ⟨fun _ => ?_, fun hn => absurd (hd 70 (by kernel_rfl)) hn⟩
            have h9 : ρ (.tmp 9) = .bool false := ho 9 (by kernel_rfl)
            exact Lin.Runs.value Lin.keeps (Lin.exec_move rfl) h9
          · intro ρ wq hb ho hc hd
            have hC : ∀ v, ρ (.const v) = v := fun v => hc _ (by intro t e; cases e)
            have hF : ∀ f, ρ (.func f) = .func (.func f) #[] #[] := fun f => hc _ (by intro t e; cases e)
            intro t ht; cases (show some 70 = some t from ht)
            refine ⟨fun _ => ?_, fun hn => absurd (hd 70 (by kernel_rfl)) hn⟩
            have h71 : ρ (.tmp 71) = .bool false := hd 71 (by kernel_rfl)
            exact Lin.Runs.value Lin.keeps (Lin.exec_move rfl) h71
          · intro ρ wq hb ho hc hd
            have hC : ∀ v, ρ (.const v) = v := fun v => hc _ (by intro t e; cases e)
            have hF : ∀ f, ρ (.func f) = .func (.func f) #[] #[] := fun f => hc _ (by intro t e; cases e)
            intro t ht; cases (show some 72 = some t from ht)
            exact ⟨fun he => absurd (he.symm.trans (hd 72 (by kernel_rfl))) (by first | simp | (intro h; cases h)), fun _ => rfl⟩
          · intro ρ wq hb ho hc hd
            have hC : ∀ v, ρ (.const v) = v := fun v => hc _ (by intro t e; cases e)
            have hF : ∀ f, ρ (.func f) = .func (.func f) #[] #[] := fun f => hc _ (by intro t e; cases e)
            intro t ht; cases (show some 72 = some t from ht)
            exact ⟨fun he => absurd (he.symm.trans (hd 72 (by kernel_rfl))) (by first | simp | (intro h; cases h)), fun _ => rfl⟩
          · intro ρ wq hb ho hc hd
            have hC : ∀ v, ρ (.const v) = v := fun v => hc _ (by intro t e; cases e)
            have hF : ∀ f, ρ (.func f) = .func (.func f) #[] #[] := fun f => hc _ (by intro t e; cases e)
            intro t ht; cases (show some 72 = some t from ht)
            exact ⟨fun he => absurd (he.symm.trans (hd 72 (by kernel_rfl))) (by first | simp | (intro h; cases h)), fun _ => rfl⟩
          · intro ρ wq hb ho hc hd
            have hC : ∀ v, ρ (.const v) = v := fun v => hc _ (by intro t e; cases e)
            have hF : ∀ f, ρ (.func f) = .func (.func f) #[] #[] := fun f => hc _ (by intro t e; cases e)
            intro t ht; cases (show some 72 = some t from ht)
            exact ⟨fun he => absurd (he.symm.trans (hd 72 (by kernel_rfl))) (by first | simp | (intro h; cases h)), fun _ => rfl⟩
          · intro ρ wq hb ho hc hd
            have hC : ∀ v, ρ (.const v) = v := fun v => hc _ (by intro t e; cases e)
            have hF : ∀ f, ρ (.func f) = .func (.func f) #[] #[] := fun f => hc _ (by intro t e; cases e)
            intro t ht; cases (show some 72 = some t from ht)
            exact ⟨fun he => absurd (he.symm.trans (hd 72 (by kernel_rfl))) (by first | simp | (intro h; cases h)), fun _ => rfl⟩
          · intro ρ wq hb ho hc hd
            have hC : ∀ v, ρ (.const v) = v := fun v => hc _ (by intro t e; cases e)
            have hF : ∀ f, ρ (.func f) = .func (.func f) #[] #[] := fun f => hc _ (by intro t e; cases e)
            intro t ht; cases (show some 72 = some t from ht)
            exact ⟨fun he => absurd (he.symm.trans (hd 72 (by kernel_rfl))) (by first | simp | (intro h; cases h)), fun _ => rfl⟩
          · intro ρ wq hb ho hc hd
            have hC : ∀ v, ρ (.const v) = v := fun v => hc _ (by intro t e; cases e)
            have hF : ∀ f, ρ (.func f) = .func (.func f) #[] #[] := fun f => hc _ (by intro t e; cases e)
            intro t ht; cases (show some 72 = some t from ht)
            exact ⟨fun he => absurd (he.symm.trans (hd 72 (by kernel_rfl))) (by first | simp | (intro h; cases h)), fun _ => rfl⟩
          · intro ρ wq hb ho hc hd
            have hC : ∀ v, ρ (.const v) = v := fun v => hc _ (by intro t e; cases e)
            have hF : ∀ f, ρ (.func f) = .func (.func f) #[] #[] := fun f => hc _ (by intro t e; cases e)
            intro t ht; cases (show some 72 = some t from ht)
            exact ⟨fun he => absurd (he.symm.trans (hd 72 (by kernel_rfl))) (by first | simp | (intro h; cases h)), fun _ => rfl⟩
          · intro ρ wq hb ho hc hd
            have hC : ∀ v, ρ (.const v) = v := fun v => hc _ (by intro t e; cases e)
            have hF : ∀ f, ρ (.func f) = .func (.func f) #[] #[] := fun f => hc _ (by intro t e; cases e)
            intro t ht; cases (show some 72 = some t from ht)
            exact ⟨fun he => absurd (he.symm.trans (hd 72 (by kernel_rfl))) (by first | simp | (intro h; cases h)), fun _ => rfl⟩
          · intro ρ wq hb ho hc hd
            have hC : ∀ v, ρ (.const v) = v := fun v => hc _ (by intro t e; cases e)
            have hF : ∀ f, ρ (.func f) = .func (.func f) #[] #[] := fun f => hc _ (by intro t e; cases e)
            intro t ht; cases (show some 72 = some t from ht)
            exact ⟨fun he => absurd (he.symm.trans (hd 72 (by kernel_rfl))) (by first | simp | (intro h; cases h)), fun _ => rfl⟩
          · intro ρ wq hb ho hc hd
            have hC : ∀ v, ρ (.const v) = v := fun v => hc _ (by intro t e; cases e)
            have hF : ∀ f, ρ (.func f) = .func (.func f) #[] #[] := fun f => hc _ (by intro t e; cases e)
            intro t ht; cases (show some 72 = some t from ht)
            exact ⟨fun he => absurd (he.symm.trans (hd 72 (by kernel_rfl))) (by first | simp | (intro h; cases h)), fun _ => rfl⟩
          · intro ρ wq hb ho hc hd
            have hC : ∀ v, ρ (.const v) = v := fun v => hc _ (by intro t e; cases e)
            have hF : ∀ f, ρ (.func f) = .func (.func f) #[] #[] := fun f => hc _ (by intro t e; cases e)
            intro t ht; cases (show some 70 = some t from ht)
            refine ⟨fun _ => ?_, fun hn => absurd (hd 70 (by kernel_rfl)) hn⟩
            have h72 : ρ (.tmp 72) = .bool false := hd 72 (by kernel_rfl)
            have h83 : ρ (.tmp 83) = undef := hd 83 (by kernel_rfl)
            exact Lin.Runs.value Lin.keeps (v := .bool false) (by simp [execOp, go_sem, hC, h72, h83]) rfl
          · intro ρ wq hb ho hc hd
            have hC : ∀ v, ρ (.const v) = v := fun v => hc _ (by intro t e; cases e)
            have hF : ∀ f, ρ (.func f) = .func (.func f) #[] #[] := fun f => hc _ (by intro t e; cases e)
            have h70 : ρ (.tmp 70) = .bool false := hd 70 (by kernel_rfl)
            have h84 : ρ (.tmp 84) = .bool false := hd 84 (by kernel_rfl)
            exact Lin.Runs.value Lin.keeps (v := .bool false) (by simp [execOp, go_sem, hC, h70, h84]) rfl
          · intro vals w9 hb2 hv
            have ee := hv 85 (by kernel_rfl)
            have T9 := hide ((unhide GG).below hb2); have O9 := Lib.hid (own_below OO.out hb2); have HB9 := Lib.hid (HB.out.trans (hb2.mono HB.out.size)); have G9 := Lib.hid (Nat.lt_of_lt_of_le GL.out hb2.size)
            clear hb2 GG OO HB GL
            have GG := T9; have OO := O9; have HB := HB9; have GL := G9
            clear T9 O9 HB9 G9
            simp only [Lin.putAll, Option.getD_some]
            rw [show vals 85 = .bool false from ee]
            clear ee hv
            go_simp
            generalize vals = vv
            rename World => w0
            go_wp2_with fail
            go_loopw [12, 13] (fun v12 v13 wr => PI w gs n k b5 cn pl (.slice An n cn) x v12 v13 wr) (fun _ v _ => n - (intOf v).toNat)
            case atStart => exact ⟨0, Nat.zero_le _, rfl, rfl, unhide GG, OO.out, HB.out, GL.out⟩
            case round =>
              clear GG OO HB GL
              obtain ⟨q, hq, rfl, rfl, hG, hO, hB, hL⟩ := hrel
              have GG := hide hG; have OO := Lib.hid hO; have HB := Lib.hid hB; have GL := Lib.hid hL
              clear hG hO hB hL
              by_cases hlt : q < n
              · obtain ⟨g5, hA5, lg, hc⟩ := own_rs OO.out (by omega)
                subst hA5
                obtain ⟨y0, y1, y2, y3, y4⟩ := hc q hlt
                have OAT := Lib.hid (owed_at (cr := (Sm.st (wof pl) n (Sm.S (wof pl) n) k)) DFF.out (n := n) LEN.out q hlt)
                have WST := Lib.hid (show wantF pl (Sm.st (wof pl) n (Sm.S (wof pl) n) k) x (q + 1) = if (nth pl q).backend = x then (Sm.st (wof pl) n (Sm.S (wof pl) n) k) q else wantF pl (Sm.st (wof pl) n (Sm.S (wof pl) n) k) x q from rfl)
                have q0 : (0 : Int) ≤ (q : Int) := Int.natCast_nonneg _
                have qlz : (q : Int) < (n : Int) := by omega
                have q30 : q ≤ 30 := by have := N30.out; omega
                have LG5 := Lib.hid lg
                have HLT := Lib.hid hlt
                clear hc lg hlt hq
                generalize hyb : (nth pl q).backend = yb at *
                generalize hyo : (Sm.st (wof pl) n (Sm.S (wof pl) n) k) q = yo at *
                generalize hwq : wantF pl (Sm.st (wof pl) n (Sm.S (wof pl) n) k) x q = wq9 at *
                clear hyb hyo hwq
                go_wp2_with fail
                refine Lin.wp_region_lin Lin.keeps (n := 141)  (fun slotq => match slotq with | 92 => Lin.Spec.val (.pointer (some ⟨gs, 0, none⟩)) | 93 => Lin.Spec.val (.slice (some ⟨g5, 0, none⟩) n cn) | 94 => Lin.Spec.val (.int .i64 (q : Int)) | 95 => Lin.Spec.val (.pointer (some ⟨g5, q * 5, none⟩)) | 96 => Lin.Spec.val (.pointer (some ⟨g5, q * 5, none⟩)) | 97 => Lin.Spec.val (.pointer (some ⟨g5, q * 5 + 1, none⟩)) | 98 => Lin.Spec.val (.int .i64 yb) | 99 => Lin.Spec.val (.int .i64 yo) | 100 => Lin.Spec.val (.slice (some ⟨g5, 0, none⟩) n cn) | 101 => Lin.Spec.val (.int .i64 (q : Int)) | 102 => Lin.Spec.val (.pointer (some ⟨g5, q * 5, none⟩)) | 103 => Lin.Spec.val (.pointer (some ⟨g5, q * 5 + 4, none⟩)) | 104 => Lin.Spec.val (.int .i64 yo) | 105 => Lin.Spec.val (.bool false) | _ => Lin.Spec.any) (by kernel_rfl) rfl (by kernel_rfl) ⟨?_, ?_, ?_, ?_, ?_, ?_, ?_, ?_, ?_, ?_, ?_, ?_, ?_, ?_, trivial⟩ ?_
                · intro ρ wq hb ho hc hd
                  have hC : ∀ v, ρ (.const v) = v := fun v => hc _ (by intro t e; cases e)
                  have hF : ∀ f, ρ (.func f) = .func (.func f) #[] #[] := fun f => hc _ (by intro t e; cases e)
                  have h5 : ρ (.tmp 5) = .pointer (some ⟨gs, 0, none⟩) := ho 5 (by kernel_rfl)
                  exact Lin.Runs.value Lin.keeps (Lin.exec_move rfl) h5
                · intro ρ wq hb ho hc hd
                  have hC : ∀ v, ρ (.const v) = v := fun v => hc _ (by intro t e; cases e)
                  have hF : ∀ f, ρ (.func f) = .func (.func f) #[] #[] := fun f => hc _ (by intro t e; cases e)
                  have h6 : ρ (.tmp 6) = .slice (some ⟨g5, 0, none⟩) n cn := ho 6 (by kernel_rfl)
                  exact Lin.Runs.value Lin.keeps (Lin.exec_move rfl) h6
                · intro ρ wq hb ho hc hd
                  have hC : ∀ v, ρ (.const v) = v := fun v => hc _ (by intro t e; cases e)
                  have hF : ∀ f, ρ (.func f) = .func (.func f) #[] #[] := fun f => hc _ (by intro t e; cases e)
                  have h13 : ρ (.tmp 13) = .int .i64 (q : Int) := ho 13 (by kernel_rfl)
                  exact Lin.Runs.value Lin.keeps (Lin.exec_move rfl) h13
                · intro ρ wq hb ho hc hd
                  have hC : ∀ v, ρ (.const v) = v := fun v => hc _ (by intro t e; cases e)
                  have hF : ∀ f, ρ (.func f) = .func (.func f) #[] #[] := fun f => hc _ (by intro t e; cases e)
                  have h93 : ρ (.tmp 93) = .slice (some ⟨g5, 0, none⟩) n cn := hd 93 (by kernel_rfl)
                  have h94 : ρ (.tmp 94) = .int .i64 (q : Int) := hd 94 (by kernel_rfl)
                  exact Lin.Runs.value Lin.keeps (v := .pointer (some ⟨g5, q * 5, none⟩)) (by simp [execOp, go_sem, h93, h94, q0, qlz]) rfl
                · intro ρ wq hb ho hc hd
                  have hC : ∀ v, ρ (.const v) = v := fun v => hc _ (by intro t e; cases e)
                  have hF : ∀ f, ρ (.func f) = .func (.func f) #[] #[] := fun f => hc _ (by intro t e; cases e)
                  have h95 : ρ (.tmp 95) = .pointer (some ⟨g5, q * 5, none⟩) := hd 95 (by kernel_rfl)
                  exact Lin.Runs.value Lin.keeps (v := .pointer (some ⟨g5, q * 5, none⟩)) (by simp [execOp, go_sem, h95]) rfl
                · intro ρ wq hb ho hc hd
                  have hC : ∀ v, ρ (.const v) = v := fun v => hc _ (by intro t e; cases e)
                  have hF : ∀ f, ρ (.func f) = .func (.func f) #[] #[] := fun f => hc _ (by intro t e; cases e)
                  have h96 : ρ (.tmp 96) = .pointer (some ⟨g5, q * 5, none⟩) := hd 96 (by kernel_rfl)
                  exact Lin.Runs.value Lin.keeps (v := .pointer (some ⟨g5, q * 5 + 1, none⟩)) (by simp [execOp, go_sem, h96]) rfl
                · intro ρ wq hb ho hc hd
                  have hC : ∀ v, ρ (.const v) = v := fun v => hc _ (by intro t e; cases e)
                  have hF : ∀ f, ρ (.func f) = .func (.func f) #[] #[] := fun f => hc _ (by intro t e; cases e)
                  have h97 : ρ (.tmp 97) = .pointer (some ⟨g5, q * 5 + 1, none⟩) := hd 97 (by kernel_rfl)
                  have dd := (hb.cell (p := ⟨g5, q * 5 + 1, none⟩) LG5.out).trans y1
                  exact Lin.Runs.value Lin.keeps (v := .int .i64 yb) (by simp [execOp, go_sem, h97, dd]) rfl
                · intro ρ wq hb ho hc hd
                  have hC : ∀ v, ρ (.const v) = v := fun v => hc _ (by intro t e; cases e)
                  have hF : ∀ f, ρ (.func f) = .func (.func f) #[] #[] := fun f => hc _ (by intro t e; cases e)
                  have h92 : ρ (.tmp 92) = .pointer (some ⟨gs, 0, none⟩) := hd 92 (by kernel_rfl)
                  have h98 : ρ (.tmp 98) = .int .i64 yb := hd 98 (by kernel_rfl)
                  exact Lin.Runs.call Lin.keeps (f := 35) (args := #[.pointer (some ⟨gs, 0, none⟩), .int .i64 yb]) (by simp [execOp, go_sem, hF, h92, h98]) ((owed_g gs n k w.heap.size pl yb wq ((unhide GG).below hb) N30.out).mono fun e w9 h => ⟨_, h.1, h.2, by rw [OAT.out]; rfl⟩)
                · intro ρ wq hb ho hc hd
                  have hC : ∀ v, ρ (.const v) = v := fun v => hc _ (by intro t e; cases e)
                  have hF : ∀ f, ρ (.func f) = .func (.func f) #[] #[] := fun f => hc _ (by intro t e; cases e)
                  have h6 : ρ (.tmp 6) = .slice (some ⟨g5, 0, none⟩) n cn := ho 6 (by kernel_rfl)
                  exact Lin.Runs.value Lin.keeps (Lin.exec_move rfl) h6
                · intro ρ wq hb ho hc hd
                  have hC : ∀ v, ρ (.const v) = v := fun v => hc _ (by intro t e; cases e)
                  have hF : ∀ f, ρ (.func f) = .func (.func f) #[] #[] := fun f => hc _ (by intro t e; cases e)
                  have h13 : ρ (.tmp 13) = .int .i64 (q : Int) := ho 13 (by kernel_rfl)
                  exact Lin.Runs.value Lin.keeps (Lin.exec_move rfl) h13
                · intro ρ wq hb ho hc hd
                  have hC : ∀ v, ρ (.const v) = v := fun v => hc _ (by intro t e; cases e)
                  have hF : ∀ f, ρ (.func f) = .func (.func f) #[] #[] := fun f => hc _ (by intro t e; cases e)
                  have h100 : ρ (.tmp 100) = .slice (some ⟨g5, 0, none⟩) n cn := hd 100 (by kernel_rfl)
                  have h101 : ρ (.tmp 101) = .int .i64 (q : Int) := hd 101 (by kernel_rfl)
                  exact Lin.Runs.value Lin.keeps (v := .pointer (some ⟨g5, q * 5, none⟩)) (by simp [execOp, go_sem, h100, h101, q0, qlz]) rfl
                · intro ρ wq hb ho hc hd
                  have hC : ∀ v, ρ (.const v) = v := fun v => hc _ (by intro t e; cases e)
                  have hF : ∀ f, ρ (.func f) = .func (.func f) #[] #[] := fun f => hc _ (by intro t e; cases e)
                  have h102 : ρ (.tmp 102) = .pointer (some ⟨g5, q * 5, none⟩) := hd 102 (by kernel_rfl)
                  exact Lin.Runs.value Lin.keeps (v := .pointer (some ⟨g5, q * 5 + 4, none⟩)) (by simp [execOp, go_sem, h102]) rfl
                · intro ρ wq hb ho hc hd
                  have hC : ∀ v, ρ (.const v) = v := fun v => hc _ (by intro t e; cases e)
                  have hF : ∀ f, ρ (.func f) = .func (.func f) #[] #[] := fun f => hc _ (by intro t e; cases e)
                  have h103 : ρ (.tmp 103) = .pointer (some ⟨g5, q * 5 + 4, none⟩) := hd 103 (by kernel_rfl)
                  have dd := (hb.cell (p := ⟨g5, q * 5 + 4, none⟩) LG5.out).trans y4
                  exact Lin.Runs.value Lin.keeps (v := .int .i64 yo) (by simp [execOp, go_sem, h103, dd]) rfl
                · intro ρ wq hb ho hc hd
                  have hC : ∀ v, ρ (.const v) = v := fun v => hc _ (by intro t e; cases e)
                  have hF : ∀ f, ρ (.func f) = .func (.func f) #[] #[] := fun f => hc _ (by intro t e; cases e)
                  have h99 : ρ (.tmp 99) = .int .i64 yo := hd 99 (by kernel_rfl)
                  have h104 : ρ (.tmp 104) = .int .i64 yo := hd 104 (by kernel_rfl)
                  exact Lin.Runs.value Lin.keeps (v := .bool false) (by simp [execOp, go_sem, h99, h104]) rfl
                · intro vals w9 hb2 hv
                  have ee := hv 105 (by kernel_rfl)
                  have y1 := (hb2.cell (p := ⟨g5, q * 5 + 1, none⟩) LG5.out).trans y1; have y4 := (hb2.cell (p := ⟨g5, q * 5 + 4, none⟩) LG5.out).trans y4
                  have T9 := hide ((unhide GG).below hb2); have O9 := Lib.hid (own_below OO.out hb2); have HB9 := Lib.hid (HB.out.trans (hb2.mono HB.out.size)); have G9 := Lib.hid (Nat.lt_of_lt_of_le GL.out hb2.size)
                  clear hb2 GG OO HB GL
                  have GG := T9; have OO := O9; have HB := HB9; have GL := G9
                  clear T9 O9 HB9 G9
                  simp only [Lin.putAll, Option.getD_some]
                  rw [show vals 105 = .bool false from ee]
                  clear ee hv
                  go_simp
                  generalize vals = vv
                  by_cases hyx : yb = x
                  · have heb : (yb == x) = true := by simp [hyx]
                    have HYX := Lib.hid hyx
                    clear hyx
                    go_wp2_with fail
                    go_roundw
                    case rel => exact ⟨q + 1, HLT.out, by go_num, by rw [WST.out, if_pos HYX.out], unhide GG, OO.out, HB.out, GL.out⟩
                    case measure => have := HLT.out; simp [intOf]; omega
                  · have heb : (yb == x) = false := by simp [hyx]
                    have HYX := Lib.hid hyx
                    clear hyx
                    go_wp2_with fail
                    go_roundw
                    case rel => exact ⟨q + 1, HLT.out, by go_num, by rw [WST.out, if_neg HYX.out], unhide GG, OO.out, HB.out, GL.out⟩
                    case measure => have := HLT.out; simp [intOf]; omega
              · obtain rfl : q = n := by omega
                have kge2 : ¬ (q : Int) < (q : Int) := by omega
                clear hq hlt
                have OWD := hide ((owed_g gs q k w.heap.size pl x wr (unhide GG) N30.out))
                have WEQ := Lib.hid (want_eq (cr := Sm.st (wof pl) q (Sm.S (wof pl) q) k) (x := x) DFF.out LEN.out)
                rw [← WEQ.out] at OWD
                generalize hwf : wantF pl (Sm.st (wof pl) q (Sm.S (wof pl) q) k) x q = wv at *
                clear hwf
                go_wp2_with fail
                refine (unhide OWD).mono ?_
                rintro e w9 ⟨rfl, hb2⟩
                have G9 := hide ((unhide GG).below hb2); have O9 := Lib.hid (own_below OO.out hb2); have HB9 := Lib.hid (HB.out.trans (hb2.mono HB.out.size)); have L9 := Lib.hid (Nat.lt_of_lt_of_le GL.out hb2.size)
                clear hb2 OWD GG OO HB GL
                have nn : (wv == wv) = true := by simp
                go_wp2_with fail
                go_roundw
                case rel => exact ⟨i + 1, q, k, pl, b5, _, _, IL1.out, by have := I60.out; omega, by go_num, rfl, LEN.out, N30.out, DFF.out, unhide WW, unhide G9, O9.out, HB9.out, L9.out⟩
                case measure => have := IL1.out; simp [intOf]; omega
        · have H0 := Lib.hid (show 0 < m by omega)
          have PG := hide (pick_gen gs cx m n k w.heap.size Ax l kl pl w3 (cands_of_own X3.out) H30.out HKL.out HM.out H0.out HM30.out N30.out (unhide HW) HB3.out.size (unhide G3))
          refine (unhide PG).mono ?_
          rintro e w4 ⟨he, hG, hP⟩
          generalize hbk : Sm.bk (wof kl) m (Sm.S (wof kl) m) (runK m n k kl pl) = bk at *
          have BKL := Lib.hid (show bk < m from by rw [← hbk]; exact Sm.bk_lt H0.out _)
          have HBK := Lib.hid hbk
          clear hbk
          generalize hxx : nth kl bk = xx at *
          have HXX := Lib.hid hxx
          clear hxx
          obtain ⟨xs, xb, xw, xl⟩ := xx
          simp only [Cand.val] at he
          subst he
          have HB4 := Lib.hid (HB3.out.trans (hP.below (n := w.heap.size) GSW.out (Nat.le_refl _) HB3.out.size))
          have hz4 := HB4.out.size
          have NGS := Lib.hid (show (Value.slice An n cn).ownBlock ≠ some gs from by
            rcases unhide G3 with ⟨_, h2⟩ | ⟨_, _, _, h2, _⟩
            · exact own_differ O3.out h2 (by decide)
            · exact own_differ O3.out h2 (by decide))
          have G5 := hide (hG.below ((Below.refl _ _).alloc (Nat.le_refl _) (.cells #[.int .i64 xs, .int .i64 xb, .int .i64 xw, .int .u32 xl] 29))); have O5 := Lib.hid (World.ownsRow.alloc (hP.own O3.out (by decide) NGS.out) (.cells #[.int .i64 xs, .int .i64 xb, .int .i64 xw, .int .u32 xl] 29)); have HB5 := Lib.hid (HB4.out.alloc hz4 (.cells #[.int .i64 xs, .int .i64 xb, .int .i64 xw, .int .u32 xl] 29)); have L5 := Lib.hid (show gs < (w4.alloc (.cells #[.int .i64 xs, .int .i64 xb, .int .i64 xw, .int .u32 xl] 29)).heap.size from by have := L3.out; have := hP.size; simp; omega)
          have C5 := Lib.hid (Is.new w4 29 #[.int .i64 xs, .int .i64 xb, .int .i64 xw, .int .u32 xl])
          clear hG hP PG X3 G3 O3 HB3 L3 HB4 hz4 hz
          have di := (HB5.out.cell (p := ⟨b, off + i, none⟩) hbl).trans DI.out
          go_wp2_with fail
          generalize w4.alloc (.cells #[.int .i64 xs, .int .i64 xb, .int .i64 xw, .int .u32 xl] 29) = V at *
          generalize w4.heap.size = g8 at *
          have RP := hide (rpick_any cn n ci m An Ai l pl kl (Sm.st (wof pl) n (Sm.S (wof pl) n) k) V (own_rs O5.out) (cands_below (w := w) HCI.out HB5.out) H30.out N30.out HKL.out HM.out (unhide HWT) (unhide HCR))
          refine (unhide RP).mono ?_
          rintro e w6 ⟨ho, hb2⟩
          obtain ⟨g5, c5, he, ho5⟩ : ∃ g cap, e = .returned (.tuple #[.slice (some ⟨g, 0, none⟩) m cap, .int .i64 ((Sm.am (Sm.bump (baseC m n kl pl (Sm.st (wof pl) n (Sm.S (wof pl) n) k)) (wof kl)) m : Nat) : Int)]) ∧ w6.ownsRow V.heap.size 70 5 (.slice (some ⟨g, 0, none⟩) m cap) m (rsc kl (Sm.step (wof kl) m (Sm.S (wof kl) m) (baseC m n kl pl (Sm.st (wof pl) n (Sm.S (wof pl) n) k))) m) := by
            rcases ho with ⟨h, _⟩ | ⟨_, h⟩
            · have := H0.out; omega
            · exact h
          have BC : ∀ j, j < m → baseC m n kl pl (Sm.st (wof pl) n (Sm.S (wof pl) n) k) j = Sm.st (wof kl) m (Sm.S (wof kl) m) (runK m n k kl pl) j := fun j hj => by
            by_cases hs : SameSh m n kl pl
            · rw [base_yes hs, show runK m n k kl pl = k from if_pos hs]
              have hwe : ∀ i, i < m → wof pl i = wof kl i := fun i hi => (hs.2 i hi).2
              obtain ⟨rfl, _⟩ := hs
              rw [Sm.S_congr (f := wof pl) (g := wof kl) m hwe]
              exact st_same H0.out hwe k j hj
            · rw [base_no hs, show runK m n k kl pl = 0 from if_neg hs]; rfl
          have hbm : Sm.am (Sm.bump (baseC m n kl pl (Sm.st (wof pl) n (Sm.S (wof pl) n) k)) (wof kl)) m = bk := by
            rw [← HBK.out]
            exact Sm.am_congr m H0.out fun j hj => by unfold Sm.bump; rw [BC j hj]
          rw [rsc_congr (kl := kl) (pl := kl) (d := Sm.st (wof kl) m (Sm.S (wof kl) m) (runK m n k kl pl + 1)) m (fun j hj => ⟨rfl, Sm.step_congr H0.out BC j hj⟩)] at ho5
          rw [hbm] at he
          subst he
          generalize runK m n k kl pl + 1 = k2 at *
          have GG := hide ((unhide G5).below hb2); have OO := Lib.hid ho5; have HB := Lib.hid (HB5.out.trans (hb2.mono HB5.out.size)); have GL := Lib.hid (Nat.lt_of_lt_of_le L5.out hb2.size)
          have C6 := Lib.hid (C5.out.below hb2 C5.out.lt)
          clear hb2 RP ho G5 O5 HB5 L5 C5 di BC hbm ho5 HBK
          obtain ⟨lg5, hc5⟩ := own_rsg OO.out H0.out
          obtain ⟨y0, y1, y2, y3, _⟩ := hc5 bk BKL.out
          rw [HXX.out] at y0 y1 y2 y3
          simp only at y0 y1 y2 y3
          have LG5 := Lib.hid lg5
          have z0 := C6.out.cell 0; have z1 := C6.out.cell 1; have z2 := C6.out.cell 2; have z3 := C6.out.cell 3
          simp at z0 z1 z2 z3
          have LG8 := Lib.hid C6.out.lt
          have bk0 : (0 : Int) ≤ (bk : Int) := Int.natCast_nonneg _
          have bkl : (bk : Int) < (m : Int) := by have := BKL.out; omega
          have WW := hide (show ∀ j, j < m → 0 < wof kl j ∧ wof kl j ≤ 100 from fun j hj => ((unhide HW) j hj).2)
          have LEN := HM; have N30 := HM30; have DFF := HDK
          clear C6 lg5 hc5
          go_wp2_with fail
          refine Lin.wp_region_lin Lin.keeps (n := 141)  (fun slotq => match slotq with | 57 => Lin.Spec.val (.bool true) | 58 => Lin.Spec.val (.int .i64 (bk : Int)) | 59 => Lin.Spec.val (.bool true) | 60 => Lin.Spec.val (.bool false) | 61 => Lin.Spec.val (.bool false) | 62 => Lin.Spec.val (.bool true) | 63 => Lin.Spec.val (.bool false) | 64 => Lin.Spec.val (.bool false) | 65 => Lin.Spec.val (undef) | 66 => Lin.Spec.val (undef) | 67 => Lin.Spec.val (undef) | 68 => Lin.Spec.val (.bool false) | 69 => Lin.Spec.val (.bool false) | 70 => Lin.Spec.val (.bool false) | 71 => Lin.Spec.val (.bool true) | 72 => Lin.Spec.val (.bool true) | 73 => Lin.Spec.val (.agg #[.int .i64 xs, .int .i64 xb, .int .i64 xw, .int .u32 xl]) | 74 => Lin.Spec.val (.slice (some ⟨g5, 0, none⟩) m c5) | 75 => Lin.Spec.val (.int .i64 (bk : Int)) | 76 => Lin.Spec.val (.pointer (some ⟨g5, bk * 5, none⟩)) | 77 => Lin.Spec.val (.pointer (some ⟨g5, bk * 5, none⟩)) | 78 => Lin.Spec.val (.agg #[.int .i64 xs, .int .i64 xb, .int .i64 xw, .int .u32 xl]) | 79 => (LitC 63 #[.int .i64 xs, .int .i64 xb, .int .i64 xw, .int .u32 xl]) | 80 => (OwnC [⟨xs, xb, xw, xl⟩]) | 81 => (PtrC [⟨xs, xb, xw, xl⟩]) | 82 => Lin.Spec.val (.agg #[.int .i64 xs, .int .i64 xb, .int .i64 xw, .int .u32 xl]) | 83 => Lin.Spec.val (.bool false) | 84 => Lin.Spec.val (.bool false) | 85 => Lin.Spec.val (.bool false) | _ => Lin.Spec.any) (by kernel_rfl) rfl (by kernel_rfl) ⟨?_, ?_, ?_, ?_, ?_, ?_, ?_, ?_, ?_, ?_, ?_, ?_, ?_, ?_, ?_, ?_, ?_, ?_, ?_, ?_, ?_, ?_, ?_, ?_, ?_, ?_, ?_, ?_, ?_, trivial⟩ ?_
          · intro ρ wq hb ho hc hd
            have hC : ∀ v, ρ (.const v) = v := fun v => hc _ (by intro t e; cases e)
            have hF : ∀ f, ρ (.func f) = .func (.func f) #[] #[] := fun f => hc _ (by intro t e; cases e)
            have h9 : ρ (.tmp 9) = .bool true := ho 9 (by kernel_rfl)
            exact Lin.Runs.value Lin.keeps (Lin.exec_move rfl) h9
          · intro ρ wq hb ho hc hd
            have hC : ∀ v, ρ (.const v) = v := fun v => hc _ (by intro t e; cases e)
            have hF : ∀ f, ρ (.func f) = .func (.func f) #[] #[] := fun f => hc _ (by intro t e; cases e)
            have h11 : ρ (.tmp 11) = .int .i64 (bk : Int) := ho 11 (by kernel_rfl)
            exact Lin.Runs.value Lin.keeps (Lin.exec_move rfl) h11
          · intro ρ wq hb ho hc hd
            have hC : ∀ v, ρ (.const v) = v := fun v => hc _ (by intro t e; cases e)
            have hF : ∀ f, ρ (.func f) = .func (.func f) #[] #[] := fun f => hc _ (by intro t e; cases e)
            have h58 : ρ (.tmp 58) = .int .i64 (bk : Int) := hd 58 (by kernel_rfl)
            exact Lin.Runs.value Lin.keeps (v := .bool true) (by simp [execOp, go_sem, hC, h58, bk0]) rfl
          · intro ρ wq hb ho hc hd
            have hC : ∀ v, ρ (.const v) = v := fun v => hc _ (by intro t e; cases e)
            have hF : ∀ f, ρ (.func f) = .func (.func f) #[] #[] := fun f => hc _ (by intro t e; cases e)
            have h57 : ρ (.tmp 57) = .bool true := hd 57 (by kernel_rfl)
            have h59 : ρ (.tmp 59) = .bool true := hd 59 (by kernel_rfl)
            exact Lin.Runs.value Lin.keeps (v := .bool false) (by simp [execOp, go_sem, h57, h59]) rfl
          · intro ρ wq hb ho hc hd
            have hC : ∀ v, ρ (.const v) = v := fun v => hc _ (by intro t e; cases e)
            have hF : ∀ f, ρ (.func f) = .func (.func f) #[] #[] := fun f => hc _ (by intro t e; cases e)
            have h60 : ρ (.tmp 60) = .bool false := hd 60 (by kernel_rfl)
            exact Lin.Runs.value Lin.keeps (Lin.exec_move rfl) h60
          · intro ρ wq hb ho hc hd
            have hC : ∀ v, ρ (.const v) = v := fun v => hc _ (by intro t e; cases e)
            have hF : ∀ f, ρ (.func f) = .func (.func f) #[] #[] := fun f => hc _ (by intro t e; cases e)
            intro t ht; cases (show some 61 = some t from ht)
            refine ⟨fun _ => ?_, fun hn => absurd (hd 61 (by kernel_rfl)) hn⟩
            have h9 : ρ (.tmp 9) = .bool true := ho 9 (by kernel_rfl)
            exact Lin.Runs.value Lin.keeps (Lin.exec_move rfl) h9
          · intro ρ wq hb ho hc hd
            have hC : ∀ v, ρ (.const v) = v := fun v => hc _ (by intro t e; cases e)
            have hF : ∀ f, ρ (.func f) = .func (.func f) #[] #[] := fun f => hc _ (by intro t e; cases e)
            intro t ht; cases (show some 61 = some t from ht)
            refine ⟨fun _ => ?_, fun hn => absurd (hd 61 (by kernel_rfl)) hn⟩
            have h62 : ρ (.tmp 62) = .bool true := hd 62 (by kernel_rfl)
            exact Lin.Runs.value Lin.keeps (v := .bool false) (by simp [execOp, go_sem, h62]) rfl
          · intro ρ wq hb ho hc hd
            have hC : ∀ v, ρ (.const v) = v := fun v => hc _ (by intro t e; cases e)
            have hF : ∀ f, ρ (.func f) = .func (.func f) #[] #[] := fun f => hc _ (by intro t e; cases e)
            intro t ht; cases (show some 61 = some t from ht)
            refine ⟨fun _ => ?_, fun hn => absurd (hd 61 (by kernel_rfl)) hn⟩
            have h63 : ρ (.tmp 63) = .bool false := hd 63 (by kernel_rfl)
            exact Lin.Runs.value Lin.keeps (Lin.exec_move rfl) h63
          · intro ρ wq hb ho hc hd
            have hC : ∀ v, ρ (.const v) = v := fun v => hc _ (by intro t e; cases e)
            have hF : ∀ f, ρ (.func f) = .func (.func f) #[] #[] := fun f => hc _ (by intro t e; cases e)
            intro t ht; cases (show some 64 = some t from ht)
            exact ⟨fun he => absurd (he.symm.trans (hd 64 (by kernel_rfl))) (by first | simp | (intro h; cases h)), fun _ => rfl⟩
          · intro ρ wq hb ho hc hd
            have hC : ∀ v, ρ (.const v) = v := fun v => hc _ (by intro t e; cases e)
            have hF : ∀ f, ρ (.func f) = .func (.func f) #[] #[] := fun f => hc _ (by intro t e; cases e)
            intro t ht; cases (show some 64 = some t from ht)
            exact ⟨fun he => absurd (he.symm.trans (hd 64 (by kernel_rfl))) (by first | simp | (intro h; cases h)), fun _ => rfl⟩
          · intro ρ wq hb ho hc hd
            have hC : ∀ v, ρ (.const v) = v := fun v => hc _ (by intro t e; cases e)
            have hF : ∀ f, ρ (.func f) = .func (.func f) #[] #[] := fun f => hc _ (by intro t e; cases e)
            intro t ht; cases (show some 64 = some t from ht)
            exact ⟨fun he => absurd (he.symm.trans (hd 64 (by kernel_rfl))) (by first | simp | (intro h; cases h)), fun _ => rfl⟩
          · intro ρ wq hb ho hc hd
            have hC : ∀ v, ρ (.const v) = v := fun v => hc _ (by intro t e; cases e)
            have hF : ∀ f, ρ (.func f) = .func (.func f) #[] #[] := fun f => hc _ (by intro t e; cases e)
            intro t ht; cases (show some 61 = some t from ht)
            refine ⟨fun _ => ?_, fun hn => absurd (hd 61 (by kernel_rfl)) hn⟩
            have h64 : ρ (.tmp 64) = .bool false := hd 64 (by kernel_rfl)
            have h67 : ρ (.tmp 67) = undef := hd 67 (by kernel_rfl)
            exact Lin.Runs.value Lin.keeps (v := .bool false) (by simp [execOp, go_sem, hC, h64, h67]) rfl
          · intro ρ wq hb ho hc hd
            have hC : ∀ v, ρ (.const v) = v := fun v => hc _ (by intro t e; cases e)
            have hF : ∀ f, ρ (.func f) = .func (.func f) #[] #[] := fun f => hc _ (by intro t e; cases e)
            have h61 : ρ (.tmp 61) = .bool false := hd 61 (by kernel_rfl)
            have h68 : ρ (.tmp 68) = .bool false := hd 68 (by kernel_rfl)
            exact Lin.Runs.value Lin.keeps (v := .bool false) (by simp [execOp, go_sem, hC, h61, h68]) rfl
          · intro ρ wq hb ho hc hd
            have hC : ∀ v, ρ (.const v) = v := fun v => hc _ (by intro t e; cases e)
            have hF : ∀ f, ρ (.func f) = .func (.func f) #[] #[] := fun f => hc _ (by intro t e; cases e)
            have h69 : ρ (.tmp 69) = .bool false := hd 69 (by kernel_rfl)
            exact Lin.Runs.value Lin.keeps (Lin.exec_move rfl) h69
          · intro ρ wq hb ho hc hd
            have hC : ∀ v, ρ (.const v) = v := fun v => hc _ (by intro t e; cases e)
            have hF : ∀ f, ρ (.func f) = .func (.func f) #[] #[] := fun f => hc _ (by intro t e; cases e)
            intro t ht; cases (show some 70 = some t from ht)
            refine ⟨fun _ => ?_, fun hn => absurd (hd 70 (by kernel_rfl)) hn⟩
            have h9 : ρ (.tmp 9) = .bool true := ho 9 (by kernel_rfl)
            exact Lin.Runs.value Lin.keeps (Lin.exec_move rfl) h9
          · intro ρ wq hb ho hc hd
            have hC : ∀ v, ρ (.const v) = v := fun v => hc _ (by intro t e; cases e)
            have hF : ∀ f, ρ (.func f) = .func (.func f) #[] #[] := fun f => hc _ (by intro t e; cases e)
            intro t ht; cases (show some 70 = some t from ht)
            refine ⟨fun _ => ?_, fun hn => absurd (hd 70 (by kernel_rfl)) hn⟩
            have h71 : ρ (.tmp 71) = .bool true := hd 71 (by kernel_rfl)
            exact Lin.Runs.value Lin.keeps (Lin.exec_move rfl) h71
          · intro ρ wq hb ho hc hd
            have hC : ∀ v, ρ (.const v) = v := fun v => hc _ (by intro t e; cases e)
            have hF : ∀ f, ρ (.func f) = .func (.func f) #[] #[] := fun f => hc _ (by intro t e; cases e)
            intro t ht; cases (show some 72 = some t from ht)
            refine ⟨fun _ => ?_, fun hn => absurd (hd 72 (by kernel_rfl)) hn⟩
            have h8 : ρ (.tmp 8) = .pointer (some ⟨g8, 0, none⟩) := ho 8 (by kernel_rfl)
            have a0 := (hb.cell (p := ⟨g8, 0, none⟩) LG8.out).trans z0; have a1 := (hb.cell (p := ⟨g8, 1, none⟩) LG8.out).trans z1; have a2 := (hb.cell (p := ⟨g8, 2, none⟩) LG8.out).trans z2; have a3 := (hb.cell (p := ⟨g8, 3, none⟩) LG8.out).trans z3
            have h8 : ρ (.tmp 8) = .pointer (some ⟨g8, 0, none⟩) := ho 8 (by kernel_rfl)
            exact Lin.Runs.value Lin.keeps (v := .agg #[.int .i64 xs, .int .i64 xb, .int .i64 xw, .int .u32 xl]) (by simp [execOp, go_sem, h8, a0, a1, a2, a3]) rfl
          · intro ρ wq hb ho hc hd
            have hC : ∀ v, ρ (.const v) = v := fun v => hc _ (by intro t e; cases e)
            have hF : ∀ f, ρ (.func f) = .func (.func f) #[] #[] := fun f => hc _ (by intro t e; cases e)
            intro t ht; cases (show some 72 = some t from ht)
            refine ⟨fun _ => ?_, fun hn => absurd (hd 72 (by kernel_rfl)) hn⟩
            have h6 : ρ (.tmp 6) = .slice (some ⟨g5, 0, none⟩) m c5 := ho 6 (by kernel_rfl)
            exact Lin.Runs.value Lin.keeps (Lin.exec_move rfl) h6
          · intro ρ wq hb ho hc hd
            have hC : ∀ v, ρ (.const v) = v := fun v => hc _ (by intro t e; cases e)
            have hF : ∀ f, ρ (.func f) = .func (.func f) #[] #[] := fun f => hc _ (by intro t e; cases e)
            intro t ht; cases (show some 72 = some t from ht)
            refine ⟨fun _ => ?_, fun hn => absurd (hd 72 (by kernel_rfl)) hn⟩
            have h11 : ρ (.tmp 11) = .int .i64 (bk : Int) := ho 11 (by kernel_rfl)
            exact Lin.Runs.value Lin.keeps (Lin.exec_move rfl) h11
          · intro ρ wq hb ho hc hd
            have hC : ∀ v, ρ (.const v) = v := fun v => hc _ (by intro t e; cases e)
            have hF : ∀ f, ρ (.func f) = .func (.func f) #[] #[] := fun f => hc _ (by intro t e; cases e)
            intro t ht; cases (show some 72 = some t from ht)
            refine ⟨fun _ => ?_, fun hn => absurd (hd 72 (by kernel_rfl)) hn⟩
            have h74 : ρ (.tmp 74) = .slice (some ⟨g5, 0, none⟩) m c5 := hd 74 (by kernel_rfl)
            have h75 : ρ (.tmp 75) = .int .i64 (bk : Int) := hd 75 (by kernel_rfl)
            exact Lin.Runs.value Lin.keeps (v := .pointer (some ⟨g5, bk * 5, none⟩)) (by simp [execOp, go_sem, h74, h75, bk0, bkl]) rfl
          · intro ρ wq hb ho hc hd
            have hC : ∀ v, ρ (.const v) = v := fun v => hc _ (by intro t e; cases e)
            have hF : ∀ f, ρ (.func f) = .func (.func f) #[] #[] := fun f => hc _ (by intro t e; cases e)
            intro t ht; cases (show some 72 = some t from ht)
            refine ⟨fun _ => ?_, fun hn => absurd (hd 72 (by kernel_rfl)) hn⟩
            have h76 : ρ (.tmp 76) = .pointer (some ⟨g5, bk * 5, none⟩) := hd 76 (by kernel_rfl)
            exact Lin.Runs.value Lin.keeps (v := .pointer (some ⟨g5, bk * 5, none⟩)) (by simp [execOp, go_sem, h76]) rfl
          · intro ρ wq hb ho hc hd
            have hC : ∀ v, ρ (.const v) = v := fun v => hc _ (by intro t e; cases e)
            have hF : ∀ f, ρ (.func f) = .func (.func f) #[] #[] := fun f => hc _ (by intro t e; cases e)
            intro t ht; cases (show some 72 = some t from ht)
            refine ⟨fun _ => ?_, fun hn => absurd (hd 72 (by kernel_rfl)) hn⟩
            have h77 : ρ (.tmp 77) = .pointer (some ⟨g5, bk * 5, none⟩) := hd 77 (by kernel_rfl)
            have a0 := (hb.cell (p := ⟨g5, bk * 5, none⟩) LG5.out).trans y0; have a1 := (hb.cell (p := ⟨g5, bk * 5 + 1, none⟩) LG5.out).trans y1; have a2 := (hb.cell (p := ⟨g5, bk * 5 + 2, none⟩) LG5.out).trans y2; have a3 := (hb.cell (p := ⟨g5, bk * 5 + 3, none⟩) LG5.out).trans y3
            exact Lin.Runs.value Lin.keeps (v := .agg #[.int .i64 xs, .int .i64 xb, .int .i64 xw, .int .u32 xl]) (by simp [execOp, go_sem, h77, a0, a1, a2, a3]) rfl
          · intro ρ wq hb ho hc hd
            have hC : ∀ v, ρ (.const v) = v := fun v => hc _ (by intro t e; cases e)
            have hF : ∀ f, ρ (.func f) = .func (.func f) #[] #[] := fun f => hc _ (by intro t e; cases e)
            intro t ht; cases (show some 72 = some t from ht)
            refine ⟨fun _ => ?_, fun hn => absurd (hd 72 (by kernel_rfl)) hn⟩
            have h78 : ρ (.tmp 78) = .agg #[.int .i64 xs, .int .i64 xb, .int .i64 xw, .int .u32 xl] := hd 78 (by kernel_rfl)
            exact Lin.Runs.made (w' := wq.alloc (.cells #[.int .i64 xs, .int .i64 xb, .int .i64 xw, .int .u32 xl] 63)) (v := .slice (some ⟨wq.heap.size, 0, none⟩) 1 1) (by simp [execOp, go_sem, h78]) ((Below.refl _ _).alloc (Nat.le_refl _) _) ⟨_, rfl, Is.new wq 63 #[.int .i64 xs, .int .i64 xb, .int .i64 xw, .int .u32 xl]⟩
          · intro ρ wq hb ho hc hd
            have hC : ∀ v, ρ (.const v) = v := fun v => hc _ (by intro t e; cases e)
            have hF : ∀ f, ρ (.func f) = .func (.func f) #[] #[] := fun f => hc _ (by intro t e; cases e)
            intro t ht; cases (show some 72 = some t from ht)
            refine ⟨fun _ => ?_, fun hn => absurd (hd 72 (by kernel_rfl)) hn⟩
            have h79 := hd 79 (by kernel_rfl)
            obtain ⟨g79, e79, i79⟩ := h79
            exact Lin.Runs.call Lin.keeps (f := 32) (args := #[.slice (some ⟨g79, 0, none⟩) 1 1]) (by simp [execOp, go_sem, hF, e79]) ((to19 (some ⟨g79, 0, none⟩) 1 [⟨xs, xb, xw, xl⟩] wq (cands_of_any i79) (by simp)).mono fun e w9 ⟨v9, h1, h2, h3⟩ => ⟨v9, h1, h3, ⟨_, h2⟩⟩)
          · intro ρ wq hb ho hc hd
            have hC : ∀ v, ρ (.const v) = v := fun v => hc _ (by intro t e; cases e)
            have hF : ∀ f, ρ (.func f) = .func (.func f) #[] #[] := fun f => hc _ (by intro t e; cases e)
            intro t ht; cases (show some 72 = some t from ht)
            refine ⟨fun _ => ?_, fun hn => absurd (hd 72 (by kernel_rfl)) hn⟩
            have h80 := hd 80 (by kernel_rfl)
            obtain ⟨g80, c80, e80, B80, o80⟩ := ownc_shape h80
            exact Lin.Runs.value Lin.keeps (v := .pointer (some ⟨g80, 0, none⟩)) (by simp [execOp, go_sem, hC, e80]) ⟨g80, c80, B80, rfl, o80⟩
          · intro ρ wq hb ho hc hd
            have hC : ∀ v, ρ (.const v) = v := fun v => hc _ (by intro t e; cases e)
            have hF : ∀ f, ρ (.func f) = .func (.func f) #[] #[] := fun f => hc _ (by intro t e; cases e)
            intro t ht; cases (show some 72 = some t from ht)
            refine ⟨fun _ => ?_, fun hn => absurd (hd 72 (by kernel_rfl)) hn⟩
            have h81 := hd 81 (by kernel_rfl)
            obtain ⟨g81, c81, B81, e81, o81⟩ := h81
            have a0 := o81.cellAt 0 (by simp); have a1 := o81.cellAt 1 (by simp); have a2 := o81.cellAt 2 (by simp); have a3 := o81.cellAt 3 (by simp)
            simp [cellsOf, Cand.cells] at a0 a1 a2 a3
            exact Lin.Runs.value Lin.keeps (v := .agg #[.int .i64 xs, .int .i64 xb, .int .i64 xw, .int .u32 xl]) (by simp [execOp, go_sem, e81, a0, a1, a2, a3]) rfl
          · intro ρ wq hb ho hc hd
            have hC : ∀ v, ρ (.const v) = v := fun v => hc _ (by intro t e; cases e)
            have hF : ∀ f, ρ (.func f) = .func (.func f) #[] #[] := fun f => hc _ (by intro t e; cases e)
            intro t ht; cases (show some 72 = some t from ht)
            refine ⟨fun _ => ?_, fun hn => absurd (hd 72 (by kernel_rfl)) hn⟩
            have h73 : ρ (.tmp 73) = .agg #[.int .i64 xs, .int .i64 xb, .int .i64 xw, .int .u32 xl] := hd 73 (by kernel_rfl)
            have h82 : ρ (.tmp 82) = .agg #[.int .i64 xs, .int .i64 xb, .int .i64 xw, .int .u32 xl] := hd 82 (by kernel_rfl)
            exact Lin.Runs.value Lin.keeps (v := .bool false) (by simp [execOp, go_sem, h73, h82]) rfl
          · intro ρ wq hb ho hc hd
            have hC : ∀ v, ρ (.const v) = v := fun v => hc _ (by intro t e; cases e)
            have hF : ∀ f, ρ (.func f) = .func (.func f) #[] #[] := fun f => hc _ (by intro t e; cases e)
            intro t ht; cases (show some 70 = some t from ht)
            refine ⟨fun _ => ?_, fun hn => absurd (hd 70 (by kernel_rfl)) hn⟩
            have h72 : ρ (.tmp 72) = .bool true := hd 72 (by kernel_rfl)
            have h83 : ρ (.tmp 83) = .bool false := hd 83 (by kernel_rfl)
            exact Lin.Runs.value Lin.keeps (v := .bool false) (by simp [execOp, go_sem, hC, h72, h83]) rfl
          · intro ρ wq hb ho hc hd
            have hC : ∀ v, ρ (.const v) = v := fun v => hc _ (by intro t e; cases e)
            have hF : ∀ f, ρ (.func f) = .func (.func f) #[] #[] := fun f => hc _ (by intro t e; cases e)
            have h70 : ρ (.tmp 70) = .bool false := hd 70 (by kernel_rfl)
            have h84 : ρ (.tmp 84) = .bool false := hd 84 (by kernel_rfl)
            exact Lin.Runs.value Lin.keeps (v := .bool false) (by simp [execOp, go_sem, hC, h70, h84]) rfl
          · intro vals w9 hb2 hv
            have ee := hv 85 (by kernel_rfl)
            have T9 := hide ((unhide GG).below hb2); have O9 := Lib.hid (own_below OO.out hb2); have HB9 := Lib.hid (HB.out.trans (hb2.mono HB.out.size)); have G9 := Lib.hid (Nat.lt_of_lt_of_le GL.out hb2.size)
            clear hb2 GG OO HB GL
            have GG := T9; have OO := O9; have HB := HB9; have GL := G9
            clear T9 O9 HB9 G9
            simp only [Lin.putAll, Option.getD_some]
            rw [show vals 85 = .bool false from ee]
            clear ee hv
            go_simp
            generalize vals = vv
            rename World => w0
            go_wp2_with fail
            go_loopw [12, 13] (fun v12 v13 wr => PI w gs m k2 V.heap.size c5 kl (.slice (some ⟨g5, 0, none⟩) m c5) x v12 v13 wr) (fun _ v _ => m - (intOf v).toNat)
            case atStart => exact ⟨0, Nat.zero_le _, rfl, rfl, unhide GG, OO.out, HB.out, GL.out⟩
            case round =>
              clear GG OO HB GL
              obtain ⟨q, hq, rfl, rfl, hG, hO, hB, hL⟩ := hrel
              have GG := hide hG; have OO := Lib.hid hO; have HB := Lib.hid hB; have GL := Lib.hid hL
              clear hG hO hB hL
              by_cases hlt : q < m
              · obtain ⟨lg, hc⟩ := own_rsg OO.out (by omega)
                skip
                obtain ⟨y0, y1, y2, y3, y4⟩ := hc q hlt
                have OAT := Lib.hid (owed_at (cr := (Sm.st (wof kl) m (Sm.S (wof kl) m) k2)) DFF.out (n := m) LEN.out q hlt)
                have WST := Lib.hid (show wantF kl (Sm.st (wof kl) m (Sm.S (wof kl) m) k2) x (q + 1) = if (nth kl q).backend = x then (Sm.st (wof kl) m (Sm.S (wof kl) m) k2) q else wantF kl (Sm.st (wof kl) m (Sm.S (wof kl) m) k2) x q from rfl)
                have q0 : (0 : Int) ≤ (q : Int) := Int.natCast_nonneg _
                have qlz : (q : Int) < (m : Int) := by omega
                have q30 : q ≤ 30 := by have := N30.out; omega
                have LG5 := Lib.hid lg
                have HLT := Lib.hid hlt
                clear hc lg hlt hq
                generalize hyb : (nth kl q).backend = yb at *
                generalize hyo : (Sm.st (wof kl) m (Sm.S (wof kl) m) k2) q = yo at *
                generalize hwq : wantF kl (Sm.st (wof kl) m (Sm.S (wof kl) m) k2) x q = wq9 at *
                clear hyb hyo hwq
                go_wp2_with fail
                refine Lin.wp_region_lin Lin.keeps (n := 141)  (fun slotq => match slotq with | 92 => Lin.Spec.val (.pointer (some ⟨gs, 0, none⟩)) | 93 => Lin.Spec.val (.slice (some ⟨g5, 0, none⟩) m c5) | 94 => Lin.Spec.val (.int .i64 (q : Int)) | 95 => Lin.Spec.val (.pointer (some ⟨g5, q * 5, none⟩)) | 96 => Lin.Spec.val (.pointer (some ⟨g5, q * 5, none⟩)) | 97 => Lin.Spec.val (.pointer (some ⟨g5, q * 5 + 1, none⟩)) | 98 => Lin.Spec.val (.int .i64 yb) | 99 => Lin.Spec.val (.int .i64 yo) | 100 => Lin.Spec.val (.slice (some ⟨g5, 0, none⟩) m c5) | 101 => Lin.Spec.val (.int .i64 (q : Int)) | 102 => Lin.Spec.val (.pointer (some ⟨g5, q * 5, none⟩)) | 103 => Lin.Spec.val (.pointer (some ⟨g5, q * 5 + 4, none⟩)) | 104 => Lin.Spec.val (.int .i64 yo) | 105 => Lin.Spec.val (.bool false) | _ => Lin.Spec.any) (by kernel_rfl) rfl (by kernel_rfl) ⟨?_, ?_, ?_, ?_, ?_, ?_, ?_, ?_, ?_, ?_, ?_, ?_, ?_, ?_, trivial⟩ ?_
                · intro ρ wq hb ho hc hd
                  have hC : ∀ v, ρ (.const v) = v := fun v => hc _ (by intro t e; cases e)
                  have hF : ∀ f, ρ (.func f) = .func (.func f) #[] #[] := fun f => hc _ (by intro t e; cases e)
                  have h5 : ρ (.tmp 5) = .pointer (some ⟨gs, 0, none⟩) := ho 5 (by kernel_rfl)
                  exact Lin.Runs.value Lin.keeps (Lin.exec_move rfl) h5
                · intro ρ wq hb ho hc hd
                  have hC : ∀ v, ρ (.const v) = v := fun v => hc _ (by intro t e; cases e)
                  have hF : ∀ f, ρ (.func f) = .func (.func f) #[] #[] := fun f => hc _ (by intro t e; cases e)
                  have h6 : ρ (.tmp 6) = .slice (some ⟨g5, 0, none⟩) m c5 := ho 6 (by kernel_rfl)
                  exact Lin.Runs.value Lin.keeps (Lin.exec_move rfl) h6
                · intro ρ wq hb ho hc hd
                  have hC : ∀ v, ρ (.const v) = v := fun v => hc _ (by intro t e; cases e)
                  have hF : ∀ f, ρ (.func f) = .func (.func f) #[] #[] := fun f => hc _ (by intro t e; cases e)
                  have h13 : ρ (.tmp 13) = .int .i64 (q : Int) := ho 13 (by kernel_rfl)
                  exact Lin.Runs.value Lin.keeps (Lin.exec_move rfl) h13
                · intro ρ wq hb ho hc hd
                  have hC : ∀ v, ρ (.const v) = v := fun v => hc _ (by intro t e; cases e)
                  have hF : ∀ f, ρ (.func f) = .func (.func f) #[] #[] := fun f => hc _ (by intro t e; cases e)
                  have h93 : ρ (.tmp 93) = .slice (some ⟨g5, 0, none⟩) m c5 := hd 93 (by kernel_rfl)
                  have h94 : ρ (.tmp 94) = .int .i64 (q : Int) := hd 94 (by kernel_rfl)
                  exact Lin.Runs.value Lin.keeps (v := .pointer (some ⟨g5, q * 5, none⟩)) (by simp [execOp, go_sem, h93, h94, q0, qlz]) rfl
                · intro ρ wq hb ho hc hd
                  have hC : ∀ v, ρ (.const v) = v := fun v => hc _ (by intro t e; cases e)
                  have hF : ∀ f, ρ (.func f) = .func (.func f) #[] #[] := fun f => hc _ (by intro t e; cases e)
                  have h95 : ρ (.tmp 95) = .pointer (some ⟨g5, q * 5, none⟩) := hd 95 (by kernel_rfl)
                  exact Lin.Runs.value Lin.keeps (v := .pointer (some ⟨g5, q * 5, none⟩)) (by simp [execOp, go_sem, h95]) rfl
                · intro ρ wq hb ho hc hd
                  have hC : ∀ v, ρ (.const v) = v := fun v => hc _ (by intro t e; cases e)
                  have hF : ∀ f, ρ (.func f) = .func (.func f) #[] #[] := fun f => hc _ (by intro t e; cases e)
                  have h96 : ρ (.tmp 96) = .pointer (some ⟨g5, q * 5, none⟩) := hd 96 (by kernel_rfl)
                  exact Lin.Runs.value Lin.keeps (v := .pointer (some ⟨g5, q * 5 + 1, none⟩)) (by simp [execOp, go_sem, h96]) rfl
                · intro ρ wq hb ho hc hd
                  have hC : ∀ v, ρ (.const v) = v := fun v => hc _ (by intro t e; cases e)
                  have hF : ∀ f, ρ (.func f) = .func (.func f) #[] #[] := fun f => hc _ (by intro t e; cases e)
                  have h97 : ρ (.tmp 97) = .pointer (some ⟨g5, q * 5 + 1, none⟩) := hd 97 (by kernel_rfl)
                  have dd := (hb.cell (p := ⟨g5, q * 5 + 1, none⟩) LG5.out).trans y1
                  exact Lin.Runs.value Lin.keeps (v := .int .i64 yb) (by simp [execOp, go_sem, h97, dd]) rfl
                · intro ρ wq hb ho hc hd
                  have hC : ∀ v, ρ (.const v) = v := fun v => hc _ (by intro t e; cases e)
                  have hF : ∀ f, ρ (.func f) = .func (.func f) #[] #[] := fun f => hc _ (by intro t e; cases e)
                  have h92 : ρ (.tmp 92) = .pointer (some ⟨gs, 0, none⟩) := hd 92 (by kernel_rfl)
                  have h98 : ρ (.tmp 98) = .int .i64 yb := hd 98 (by kernel_rfl)
                  exact Lin.Runs.call Lin.keeps (f := 35) (args := #[.pointer (some ⟨gs, 0, none⟩), .int .i64 yb]) (by simp [execOp, go_sem, hF, h92, h98]) ((owed_g gs m k2 w.heap.size kl yb wq ((unhide GG).below hb) N30.out).mono fun e w9 h => ⟨_, h.1, h.2, by rw [OAT.out]; rfl⟩)
                · intro ρ wq hb ho hc hd
                  have hC : ∀ v, ρ (.const v) = v := fun v => hc _ (by intro t e; cases e)
                  have hF : ∀ f, ρ (.func f) = .func (.func f) #[] #[] := fun f => hc _ (by intro t e; cases e)
                  have h6 : ρ (.tmp 6) = .slice (some ⟨g5, 0, none⟩) m c5 := ho 6 (by kernel_rfl)
                  exact Lin.Runs.value Lin.keeps (Lin.exec_move rfl) h6
                · intro ρ wq hb ho hc hd
                  have hC : ∀ v, ρ (.const v) = v := fun v => hc _ (by intro t e; cases e)
                  have hF : ∀ f, ρ (.func f) = .func (.func f) #[] #[] := fun f => hc _ (by intro t e; cases e)
                  have h13 : ρ (.tmp 13) = .int .i64 (q : Int) := ho 13 (by kernel_rfl)
                  exact Lin.Runs.value Lin.keeps (Lin.exec_move rfl) h13
                · intro ρ wq hb ho hc hd
                  have hC : ∀ v, ρ (.const v) = v := fun v => hc _ (by intro t e; cases e)
                  have hF : ∀ f, ρ (.func f) = .func (.func f) #[] #[] := fun f => hc _ (by intro t e; cases e)
                  have h100 : ρ (.tmp 100) = .slice (some ⟨g5, 0, none⟩) m c5 := hd 100 (by kernel_rfl)
                  have h101 : ρ (.tmp 101) = .int .i64 (q : Int) := hd 101 (by kernel_rfl)
                  exact Lin.Runs.value Lin.keeps (v := .pointer (some ⟨g5, q * 5, none⟩)) (by simp [execOp, go_sem, h100, h101, q0, qlz]) rfl
                · intro ρ wq hb ho hc hd
                  have hC : ∀ v, ρ (.const v) = v := fun v => hc _ (by intro t e; cases e)
                  have hF : ∀ f, ρ (.func f) = .func (.func f) #[] #[] := fun f => hc _ (by intro t e; cases e)
                  have h102 : ρ (.tmp 102) = .pointer (some ⟨g5, q * 5, none⟩) := hd 102 (by kernel_rfl)
                  exact Lin.Runs.value Lin.keeps (v := .pointer (some ⟨g5, q * 5 + 4, none⟩)) (by simp [execOp, go_sem, h102]) rfl
                · intro ρ wq hb ho hc hd
                  have hC : ∀ v, ρ (.const v) = v := fun v => hc _ (by intro t e; cases e)
                  have hF : ∀ f, ρ (.func f) = .func (.func f) #[] #[] := fun f => hc _ (by intro t e; cases e)
                  have h103 : ρ (.tmp 103) = .pointer (some ⟨g5, q * 5 + 4, none⟩) := hd 103 (by kernel_rfl)
                  have dd := (hb.cell (p := ⟨g5, q * 5 + 4, none⟩) LG5.out).trans y4
                  exact Lin.Runs.value Lin.keeps (v := .int .i64 yo) (by simp [execOp, go_sem, h103, dd]) rfl
                · intro ρ wq hb ho hc hd
                  have hC : ∀ v, ρ (.const v) = v := fun v => hc _ (by intro t e; cases e)
                  have hF : ∀ f, ρ (.func f) = .func (.func f) #[] #[] := fun f => hc _ (by intro t e; cases e)
                  have h99 : ρ (.tmp 99) = .int .i64 yo := hd 99 (by kernel_rfl)
                  have h104 : ρ (.tmp 104) = .int .i64 yo := hd 104 (by kernel_rfl)
                  exact Lin.Runs.value Lin.keeps (v := .bool false) (by simp [execOp, go_sem, h99, h104]) rfl
                · intro vals w9 hb2 hv
                  have ee := hv 105 (by kernel_rfl)
                  have y1 := (hb2.cell (p := ⟨g5, q * 5 + 1, none⟩) LG5.out).trans y1; have y4 := (hb2.cell (p := ⟨g5, q * 5 + 4, none⟩) LG5.out).trans y4
                  have T9 := hide ((unhide GG).below hb2); have O9 := Lib.hid (own_below OO.out hb2); have HB9 := Lib.hid (HB.out.trans (hb2.mono HB.out.size)); have G9 := Lib.hid (Nat.lt_of_lt_of_le GL.out hb2.size)
                  clear hb2 GG OO HB GL
                  have GG := T9; have OO := O9; have HB := HB9; have GL := G9
                  clear T9 O9 HB9 G9
                  simp only [Lin.putAll, Option.getD_some]
                  rw [show vals 105 = .bool false from ee]
                  clear ee hv
                  go_simp
                  generalize vals = vv
                  by_cases hyx : yb = x
                  · have heb : (yb == x) = true := by simp [hyx]
                    have HYX := Lib.hid hyx
                    clear hyx
                    go_wp2_with fail
                    go_roundw
                    case rel => exact ⟨q + 1, HLT.out, by go_num, by rw [WST.out, if_pos HYX.out], unhide GG, OO.out, HB.out, GL.out⟩
                    case measure => have := HLT.out; simp [intOf]; omega
                  · have heb : (yb == x) = false := by simp [hyx]
                    have HYX := Lib.hid hyx
                    clear hyx
                    go_wp2_with fail
                    go_roundw
                    case rel => exact ⟨q + 1, HLT.out, by go_num, by rw [WST.out, if_neg HYX.out], unhide GG, OO.out, HB.out, GL.out⟩
                    case measure => have := HLT.out; simp [intOf]; omega
              · obtain rfl : q = m := by omega
                have kge2 : ¬ (q : Int) < (q : Int) := by omega
                clear hq hlt
                have OWD := hide ((owed_g gs q k2 w.heap.size kl x wr (unhide GG) N30.out))
                have WEQ := Lib.hid (want_eq (cr := Sm.st (wof kl) q (Sm.S (wof kl) q) k2) (x := x) DFF.out LEN.out)
                rw [← WEQ.out] at OWD
                generalize hwf : wantF kl (Sm.st (wof kl) q (Sm.S (wof kl) q) k2) x q = wv at *
                clear hwf
                go_wp2_with fail
                refine (unhide OWD).mono ?_
                rintro e w9 ⟨rfl, hb2⟩
                have G9 := hide ((unhide GG).below hb2); have O9 := Lib.hid (own_below OO.out hb2); have HB9 := Lib.hid (HB.out.trans (hb2.mono HB.out.size)); have L9 := Lib.hid (Nat.lt_of_lt_of_le GL.out hb2.size)
                clear hb2 OWD GG OO HB GL
                have nn : (wv == wv) = true := by simp
                go_wp2_with fail
                go_roundw
                case rel => exact ⟨i + 1, q, k2, kl, V.heap.size, _, _, IL1.out, by have := I60.out; omega, by go_num, rfl, LEN.out, N30.out, DFF.out, unhide WW, unhide G9, O9.out, HB9.out, L9.out⟩
                case measure => have := IL1.out; simp [intOf]; omega
    · have hbz := HB.out.size
      have CC := Lib.hid (cands_of_any (x := ⟨0, 0, 1, 0⟩) (Is.new wr 29 #[.int .i64 0, .int .i64 0, .int .i64 1, .int .u32 0]))
      have HB1 := Lib.hid (HB.out.alloc hbz (.cells #[.int .i64 0, .int .i64 0, .int .i64 1, .int .u32 0] 29))
      clear GG OO GL HB
      by_cases hlt : i < ls.length
      · have il : (i : Int) < (ls.length : Int) := by omega
        have i60 : ¬ (i : Int) < 60 := by omega
        clear hgo
        go_wp2_with fail
        generalize wr.alloc (.cells #[.int .i64 0, .int .i64 0, .int .i64 1, .int .u32 0] 29) = V at *
        generalize wr.heap.size = g1 at *
        refine (pick_nil19 (some ⟨g1, 0, none⟩) 1 [⟨0, 0, 1, 0⟩] V CC.out (by simp)).mono ?_
        rintro e w2 ⟨rfl, hb2⟩
        have HB2 := Lib.hid (HB1.out.trans (hb2.mono HB1.out.size))
        have hz2 := HB2.out.size
        have HB3 := Lib.hid (HB2.out.alloc hz2 (.cells #[.int .i64 0, .int .i64 0, .int .i64 0, .int .u32 0] 29))
        clear hb2 HB1 HB2 CC
        go_wp2_with fail
        refine (owed_nil 1 _).mono ?_
        rintro e w3 ⟨rfl, rfl⟩
        go_wp2_with fail
        refine (awake19 _).mono ?_
        rintro e w4 ⟨rfl, hb2⟩
        have HB4 := Lib.hid (HB3.out.trans (hb2.mono HB3.out.size))
        clear hb2
        go_wp2_with fail
        go_ret
        exact ⟨rfl, HB4.out⟩
      · have il : ¬ (i : Int) < (ls.length : Int) := by omega
        clear hgo
        go_wp2_with fail
        generalize wr.alloc (.cells #[.int .i64 0, .int .i64 0, .int .i64 1, .int .u32 0] 29) = V at *
        generalize wr.heap.size = g1 at *
        refine (pick_nil19 (some ⟨g1, 0, none⟩) 1 [⟨0, 0, 1, 0⟩] V CC.out (by simp)).mono ?_
        rintro e w2 ⟨rfl, hb2⟩
        have HB2 := Lib.hid (HB1.out.trans (hb2.mono HB1.out.size))
        have hz2 := HB2.out.size
        have HB3 := Lib.hid (HB2.out.alloc hz2 (.cells #[.int .i64 0, .int .i64 0, .int .i64 0, .int .u32 0] 29))
        clear hb2 HB1 HB2 CC
        go_wp2_with fail
        refine (owed_nil 1 _).mono ?_
        rintro e w3 ⟨rfl, rfl⟩
        go_wp2_with fail
        refine (awake19 _).mono ?_
        rintro e w4 ⟨rfl, hb2⟩
        have HB4 := Lib.hid (HB3.out.trans (hb2.mono HB3.out.size))
        clear hb2
        go_wp2_with fail
        go_ret
        exact ⟨rfl, HB4.out⟩
end Go.Proofs.Ytkebgkjopfdafaa
