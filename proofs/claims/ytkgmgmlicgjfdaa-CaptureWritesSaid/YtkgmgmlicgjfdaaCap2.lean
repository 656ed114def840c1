/-
  put of package capture and num of the reference: what a call returns. Helper of the claims of layer 45. No condition.
-/
import Derived.Test.YtkgmgmlicgjfdaaCap1
namespace Go.Proofs.Ytkgmgmlicgjfdaa
open Go.ChangeShapes Go.WideShapes Go.ChangeAt Go.RowKit
set_option linter.unusedVariables false
set_option maxRecDepth 100000
def fileV (sm na : Bool) (mo li : Int) : Value := .agg #[.bool sm, .bool na, .int .u32 mo, .int .u32 li]
set_option maxHeartbeats 2000000 in
theorem cput_false_2 (na : Bool) (mo li : Int) (n : Nat) (hn : n < 4294967296) (A : Option Addr) (c nn B : Nat) (xs : List Int) (w : World) (h : OwnB w B (.slice A nn c) xs) (hl : xs.length = nn) (hB : B ≤ w.heap.size) (hm : nn ≤ 10000) :
    Calls Try.prog 114 #[fileV false na mo li, .slice A nn c, .int .u32 (n : Int), .int .i64 2] w fun e w' => ∃ A' c', e = .returned (.slice A' (nn + 2) c') ∧ OwnB w' B (.slice A' (nn + 2) c') (xs ++ numF false n 2) ∧ Below B w w' := by
  unfold fileV
  have n0 : (n : Int) < 4294967296 := by omega
  have hw : IntKind.u64.wrap (n : Int) = (n : Int) := IntWalk.u64_in _ (by omega)
  have ho0 := h.alloc (.cells #[.bool false, .bool na, .int .u32 mo, .int .u32 li] 85)
  have hb0 : Below B w (w.alloc (.cells #[.bool false, .bool na, .int .u32 mo, .int .u32 li] 85)) := (Below.refl _ _).alloc hB _
  have hg0 := Is.new w 85 #[.bool false, .bool na, .int .u32 mo, .int .u32 li]
  have hs0 : w.heap.size < (w.alloc (.cells #[.bool false, .bool na, .int .u32 mo, .int .u32 li] 85)).heap.size := by simp
  have HL := Lib.hid hl
  clear h hl
  go_enter Try.func114, Try.ntmps114
  go_wp2_with fail
  generalize w.alloc (.cells #[.bool false, .bool na, .int .u32 mo, .int .u32 li] 85) = W at *
  have HO := hide ho0; have HB := Lib.hid hb0; have HG := hide hg0
  clear ho0 hb0 hg0
  refine (put_nil n 2 2 _ (by omega) (by omega) (by omega) rfl).mono ?_
  rintro e w2 ⟨A2, c2, rfl, ho2, hb2⟩
  have HO2 := hide (HO.out.below hb2); have HB2 := Lib.hid (HB.out.trans (hb2.mono (Nat.le_trans hB (Nat.le_of_lt hs0)))); have hg2 := HG.out.below hb2 hs0
  have HBW := Lib.hid hb2
  have HP2 := hide ho2
  have a0 := hg2.cell 0
  simp at a0
  clear hb2 ho2 hg2 HG
  have HP3 := hide (show OwnB w2 W.heap.size (.slice A2 2 c2) (numF false n 2) from HP2.out)
  have hz3 : B ≤ w2.heap.size := Nat.le_trans hB HB2.out.size
  go_wp2_with (first
    | ((with_reducible show wpList _ _ _ (⟨some 20, _, _, _, _, _⟩ :: _) _ _)
       go_loud (refine app_k (.tmp 18) (.tmp 19) _ rfl rfl Try.underlying22 info8 (v := .slice A nn c) (base := B) (xs := xs) (k := nn) (k' := nn + 2) (l := numF false n 2) (m := 2) rfl HO2.out HL.out rfl (IsB.own HP3.out) rfl (by omega) hz3 ?_)
       intro A4 c4 w4 ho4 hg4
       have hb4 : Below B w w4 := HB2.out.grown hg4 hz3 (fun q hq => (World.ownsRow.lt HO2.out q hq).1)
       have HO4 := hide ho4; have HB4 := Lib.hid hb4
       clear ho4 hg4 hb4))
  go_ret
  exact ⟨A4, c4, rfl, HO4.out, HB4.out⟩
set_option maxHeartbeats 2000000 in
theorem cput_true_2 (na : Bool) (mo li : Int) (n : Nat) (hn : n < 4294967296) (A : Option Addr) (c nn B : Nat) (xs : List Int) (w : World) (h : OwnB w B (.slice A nn c) xs) (hl : xs.length = nn) (hB : B ≤ w.heap.size) (hm : nn ≤ 10000) :
    Calls Try.prog 114 #[fileV true na mo li, .slice A nn c, .int .u32 (n : Int), .int .i64 2] w fun e w' => ∃ A' c', e = .returned (.slice A' (nn + 2) c') ∧ OwnB w' B (.slice A' (nn + 2) c') (xs ++ numF true n 2) ∧ Below B w w' := by
  unfold fileV
  have n0 : (n : Int) < 4294967296 := by omega
  have hw : IntKind.u64.wrap (n : Int) = (n : Int) := IntWalk.u64_in _ (by omega)
  have ho0 := h.alloc (.cells #[.bool true, .bool na, .int .u32 mo, .int .u32 li] 85)
  have hb0 : Below B w (w.alloc (.cells #[.bool true, .bool na, .int .u32 mo, .int .u32 li] 85)) := (Below.refl _ _).alloc hB _
  have hg0 := Is.new w 85 #[.bool true, .bool na, .int .u32 mo, .int .u32 li]
  have hs0 : w.heap.size < (w.alloc (.cells #[.bool true, .bool na, .int .u32 mo, .int .u32 li] 85)).heap.size := by simp
  have HL := Lib.hid hl
  clear h hl
  go_enter Try.func114, Try.ntmps114
  go_wp2_with fail
  generalize w.alloc (.cells #[.bool true, .bool na, .int .u32 mo, .int .u32 li] 85) = W at *
  have HO := hide ho0; have HB := Lib.hid hb0; have HG := hide hg0
  clear ho0 hb0 hg0
  refine (put_nil n 2 2 _ (by omega) (by omega) (by omega) rfl).mono ?_
  rintro e w2 ⟨A2, c2, rfl, ho2, hb2⟩
  have HO2 := hide (HO.out.below hb2); have HB2 := Lib.hid (HB.out.trans (hb2.mono (Nat.le_trans hB (Nat.le_of_lt hs0)))); have hg2 := HG.out.below hb2 hs0
  have HBW := Lib.hid hb2
  have HP2 := hide ho2
  have a0 := hg2.cell 0
  simp at a0
  clear hb2 ho2 hg2 HG
  obtain ⟨x0, x1, HE⟩ : ∃ x0 x1 : Int, be n 2 = [x0, x1] := ⟨_, _, rfl⟩
  have HE := Lib.hid HE
  go_wp2_with fail
  refine (rev_2 x0 x1 A2 c2 W.heap.size w2 (by have h := HP2.out; rw [HE.out] at h; exact h)).mono ?_
  rintro e w3 ⟨rfl, ho3, hb3⟩
  have hWB : Below W.heap.size W w3 := HBW.out.trans hb3
  have HO3 := hide (HO.out.below hWB)
  have HB3 := Lib.hid (HB.out.trans (hWB.mono (Nat.le_trans hB (Nat.le_of_lt hs0))))
  have HP3 := hide (show OwnB w3 W.heap.size (.slice A2 2 c2) (numF true n 2) from by unfold numF; rw [HE.out]; exact ho3)
  have hz3 : B ≤ w3.heap.size := Nat.le_trans hB HB3.out.size
  clear hWB ho3 hb3 a0
  go_wp2_with (first
    | ((with_reducible show wpList _ _ _ (⟨some 20, _, _, _, _, _⟩ :: _) _ _)
       go_loud (refine app_k (.tmp 18) (.tmp 19) _ rfl rfl Try.underlying22 info8 (v := .slice A nn c) (base := B) (xs := xs) (k := nn) (k' := nn + 2) (l := numF true n 2) (m := 2) rfl HO3.out HL.out rfl (IsB.own HP3.out) rfl (by omega) hz3 ?_)
       intro A4 c4 w4 ho4 hg4
       have hb4 : Below B w w4 := HB3.out.grown hg4 hz3 (fun q hq => (World.ownsRow.lt HO3.out q hq).1)
       have HO4 := hide ho4; have HB4 := Lib.hid hb4
       clear ho4 hg4 hb4))
  go_ret
  exact ⟨A4, c4, rfl, HO4.out, HB4.out⟩
theorem cput_2 (sm na : Bool) (mo li : Int) (n : Nat) (hn : n < 4294967296) (A : Option Addr) (c nn B : Nat) (xs : List Int) (w : World) (h : OwnB w B (.slice A nn c) xs) (hl : xs.length = nn) (hB : B ≤ w.heap.size) (hm : nn ≤ 10000) :
    Calls Try.prog 114 #[fileV sm na mo li, .slice A nn c, .int .u32 (n : Int), .int .i64 2] w fun e w' => ∃ A' c', e = .returned (.slice A' (nn + 2) c') ∧ OwnB w' B (.slice A' (nn + 2) c') (xs ++ numF sm n 2) ∧ Below B w w' := by
  cases sm
  · exact cput_false_2 na mo li n hn A c nn B xs w h hl hB hm
  · exact cput_true_2 na mo li n hn A c nn B xs w h hl hB hm
set_option maxHeartbeats 2000000 in
theorem rnum_false_2 (na : Bool) (mo li : Int) (n : Nat) (hn : n < 4294967296) (w : World) : Calls Try.prog 115 #[fileV false na mo li, .int .u32 (n : Int), .int .i64 2] w fun e w' => ∃ v, e = .returned v ∧ Below w.heap.size w w' ∧ IsB (numF false n 2) 2 v w' := by
  unfold fileV
  have n0 : (n : Int) < 4294967296 := by omega
  have hw : IntKind.u64.wrap (n : Int) = (n : Int) := IntWalk.u64_in _ (by omega)
  have hb0 : Below w.heap.size w (w.alloc (.cells #[.bool false, .bool na, .int .u32 mo, .int .u32 li] 82)) := (Below.refl _ _).alloc (Nat.le_refl _) _
  have hg0 := Is.new w 82 #[.bool false, .bool na, .int .u32 mo, .int .u32 li]
  have hs0 : w.heap.size < (w.alloc (.cells #[.bool false, .bool na, .int .u32 mo, .int .u32 li] 82)).heap.size := by simp
  go_enter Try.func115, Try.ntmps115
  go_wp2_with fail
  generalize w.alloc (.cells #[.bool false, .bool na, .int .u32 mo, .int .u32 li] 82) = W at *
  have HB := Lib.hid hb0; have HG := hide hg0
  clear hb0 hg0
  refine (rb_c n 2 _ (by omega) (by omega)).mono ?_
  rintro e w2 ⟨v2, rfl, hb2, hv2⟩
  obtain ⟨A2, c2, rfl⟩ := hv2.shape
  have HB2 := Lib.hid (HB.out.trans (hb2.mono (Nat.le_of_lt hs0))); have hg2 := HG.out.below hb2 hs0
  have a0 := hg2.cell 0
  simp at a0
  clear hb2 hg2 HG
  have HV := hide hv2
  clear hv2
  go_wp2_with fail
  go_ret
  exact ⟨_, rfl, HB2.out, HV.out⟩
def NumR2 (w : World) (x0 x1 : Int) (v8 v9 : Value) (wr : World) : Prop :=
  ∃ (k : Nat) (A : Option Addr) (c : Nat), k ≤ 2 ∧ v8 = .slice A k c ∧ v9 = .int .i64 (1 - (k : Int)) ∧ OwnB wr w.heap.size (.slice A k c) (if k = 0 then [] else if k = 1 then [x1] else [x1, x0]) ∧ Below w.heap.size w wr
set_option maxHeartbeats 4000000 in
theorem rnum_true_2 (na : Bool) (mo li : Int) (n : Nat) (hn : n < 4294967296) (w : World) : Calls Try.prog 115 #[fileV true na mo li, .int .u32 (n : Int), .int .i64 2] w fun e w' => ∃ v, e = .returned v ∧ Below w.heap.size w w' ∧ IsB (numF true n 2) 2 v w' := by
  unfold fileV
  have n0 : (n : Int) < 4294967296 := by omega
  have hw : IntKind.u64.wrap (n : Int) = (n : Int) := IntWalk.u64_in _ (by omega)
  have hb0 : Below w.heap.size w (w.alloc (.cells #[.bool true, .bool na, .int .u32 mo, .int .u32 li] 82)) := (Below.refl _ _).alloc (Nat.le_refl _) _
  have hg0 := Is.new w 82 #[.bool true, .bool na, .int .u32 mo, .int .u32 li]
  have hs0 : w.heap.size < (w.alloc (.cells #[.bool true, .bool na, .int .u32 mo, .int .u32 li] 82)).heap.size := by simp
  go_enter Try.func115, Try.ntmps115
  go_wp2_with fail
  generalize w.alloc (.cells #[.bool true, .bool na, .int .u32 mo, .int .u32 li] 82) = W at *
  have HB := Lib.hid hb0; have HG := hide hg0
  clear hb0 hg0
  refine (rb_c n 2 _ (by omega) (by omega)).mono ?_
  rintro e w2 ⟨v2, rfl, hb2, hv2⟩
  obtain ⟨A2, c2, rfl⟩ := hv2.shape
  have HB2 := Lib.hid (HB.out.trans (hb2.mono (Nat.le_of_lt hs0))); have hg2 := HG.out.below hb2 hs0
  have a0 := hg2.cell 0
  simp at a0
  clear hb2 hg2 HG
  obtain ⟨x0, x1, HE⟩ : ∃ x0 x1 : Int, be n 2 = [x0, x1] := ⟨_, _, rfl⟩
  rw [HE] at hv2
  have HE := Lib.hid HE
  have HV := hide hv2
  clear hv2
  go_wp2_with fail
  go_loopw [8, 9] (fun v8 v9 wr => NumR2 w2 x0 x1 v8 v9 wr) (fun _ v9 _ => (intOf v9 + 1).toNat)
  case atStart => exact ⟨0, none, 0, by omega, rfl, by go_num, OwnB.nil _ _, Below.refl _ _⟩
  case round =>
    obtain ⟨k, A8, c8, hk, rfl, rfl, ho, hb⟩ := hrel
    have HBR := Lib.hid (HB2.out.trans (hb.mono HB2.out.size))
    have HB := Lib.hid hb
    have hbz : w2.heap.size ≤ wr.heap.size := hb.size
    clear hb
    have hk' : k = 0 ∨ k = 1 ∨ k = 2 := by omega
    rcases hk' with rfl | rfl | rfl
    · have HO := hide (show OwnB wr w2.heap.size (.slice A8 0 c8) [] from ho)
      clear ho
      obtain ⟨b, o, rfl, hbl, hc⟩ := (by obtain ⟨_, _, e, _, h, _⟩ := HV.out; injection e with e; subst e; exact h.cells (by simp) : ∃ b off, A2 = some ⟨b, off, none⟩ ∧ b < w2.heap.size ∧ ∀ k, k < ([x0, x1] : List Int).length → w2.cell? ⟨b, off + k, none⟩ = some (.int .u8 (at0 [x0, x1] k)))
      have d0 : wr.cell? ⟨b, o + 1, none⟩ = some (.int .u8 x1) := (HB.out.cell (p := ⟨b, o + 1, none⟩) hbl).trans (hc 1 (by simp))
      clear hc
      go_wp2_with (first
        | ((with_reducible show wpList _ _ _ (⟨some 31, _, _, _, _, _⟩ :: _) _ _)
           go_loud (refine app_bytes (.tmp 25) (.tmp 30) _ rfl rfl Try.underlying22 info8 (v := .slice A8 0 c8) (base := w2.heap.size) (xs := []) (l := [x1]) rfl (HO.out.alloc _) rfl rfl (Bytes.one wr _) (by simp) (Nat.le_trans hbz (by simp)) ?_)
           intro A5 c5 w5 ho5 hg5 _
           have hb5 : Below w2.heap.size w2 w5 := (HB.out.alloc hbz _).grown hg5 (Nat.le_trans hbz (by simp)) (fun q hq => (World.ownsRow.lt HO.out q hq).1)
           have HO5 := hide (show OwnB w5 w2.heap.size (.slice A5 1 c5) [x1] from ho5)
           have HB5 := Lib.hid hb5
           clear ho5 hg5 hb5))
      go_roundw
      case rel => exact ⟨1, A5, c5, by omega, by first | rfl | simp, by go_num, HO5.out, HB5.out⟩
      case measure => simp [intOf]
    · have HO := hide (show OwnB wr w2.heap.size (.slice A8 1 c8) [x1] from ho)
      clear ho
      obtain ⟨b, o, rfl, hbl, hc⟩ := (by obtain ⟨_, _, e, _, h, _⟩ := HV.out; injection e with e; subst e; exact h.cells (by simp) : ∃ b off, A2 = some ⟨b, off, none⟩ ∧ b < w2.heap.size ∧ ∀ k, k < ([x0, x1] : List Int).length → w2.cell? ⟨b, off + k, none⟩ = some (.int .u8 (at0 [x0, x1] k)))
      have d0 : wr.cell? ⟨b, o + 0, none⟩ = some (.int .u8 x0) := (HB.out.cell (p := ⟨b, o + 0, none⟩) hbl).trans (hc 0 (by simp))
      have d0 : wr.cell? ⟨b, o, none⟩ = some (.int .u8 x0) := d0
      clear hc
      go_wp2_with (first
        | ((with_reducible show wpList _ _ _ (⟨some 31, _, _, _, _, _⟩ :: _) _ _)
           go_loud (refine app_bytes (.tmp 25) (.tmp 30) _ rfl rfl Try.underlying22 info8 (v := .slice A8 1 c8) (base := w2.heap.size) (xs := [x1]) (l := [x0]) rfl (HO.out.alloc _) rfl rfl (Bytes.one wr _) (by simp) (Nat.le_trans hbz (by simp)) ?_)
           intro A5 c5 w5 ho5 hg5 _
           have hb5 : Below w2.heap.size w2 w5 := (HB.out.alloc hbz _).grown hg5 (Nat.le_trans hbz (by simp)) (fun q hq => (World.ownsRow.lt HO.out q hq).1)
           have HO5 := hide (show OwnB w5 w2.heap.size (.slice A5 2 c5) [x1, x0] from ho5)
           have HB5 := Lib.hid hb5
           clear ho5 hg5 hb5))
      go_roundw
      case rel => exact ⟨2, A5, c5, by omega, by first | rfl | simp, by go_num, HO5.out, HB5.out⟩
      case measure => simp [intOf]
    · have HO := hide (show OwnB wr w2.heap.size (.slice A8 2 c8) [x1, x0] from ho)
      clear ho
      go_wp2_with fail
      go_ret
      exact ⟨_, rfl, HBR.out, by unfold numF; rw [HE.out]; exact IsB.own HO.out⟩
theorem rnum_2 (sm na : Bool) (mo li : Int) (n : Nat) (hn : n < 4294967296) (w : World) : Calls Try.prog 115 #[fileV sm na mo li, .int .u32 (n : Int), .int .i64 2] w fun e w' => ∃ v, e = .returned v ∧ Below w.heap.size w w' ∧ IsB (numF sm n 2) 2 v w' := by
  cases sm
  · exact rnum_false_2 na mo li n hn w
  · exact rnum_true_2 na mo li n hn w
set_option maxHeartbeats 2000000 in
theorem cput_false_4 (na : Bool) (mo li : Int) (n : Nat) (hn : n < 4294967296) (A : Option Addr) (c nn B : Nat) (xs : List Int) (w : World) (h : OwnB w B (.slice A nn c) xs) (hl : xs.length = nn) (hB : B ≤ w.heap.size) (hm : nn ≤ 10000) :
    Calls Try.prog 114 #[fileV false na mo li, .slice A nn c, .int .u32 (n : Int), .int .i64 4] w fun e w' => ∃ A' c', e = .returned (.slice A' (nn + 4) c') ∧ OwnB w' B (.slice A' (nn + 4) c') (xs ++ numF false n 4) ∧ Below B w w' := by
  unfold fileV
  have n0 : (n : Int) < 4294967296 := by omega
  have hw : IntKind.u64.wrap (n : Int) = (n : Int) := IntWalk.u64_in _ (by omega)
  have ho0 := h.alloc (.cells #[.bool false, .bool na, .int .u32 mo, .int .u32 li] 85)
  have hb0 : Below B w (w.alloc (.cells #[.bool false, .bool na, .int .u32 mo, .int .u32 li] 85)) := (Below.refl _ _).alloc hB _
  have hg0 := Is.new w 85 #[.bool false, .bool na, .int .u32 mo, .int .u32 li]
  have hs0 : w.heap.size < (w.alloc (.cells #[.bool false, .bool na, .int .u32 mo, .int .u32 li] 85)).heap.size := by simp
  have HL := Lib.hid hl
  clear h hl
  go_enter Try.func114, Try.ntmps114
  go_wp2_with fail
  generalize w.alloc (.cells #[.bool false, .bool na, .int .u32 mo, .int .u32 li] 85) = W at *
  have HO := hide ho0; have HB := Lib.hid hb0; have HG := hide hg0
  clear ho0 hb0 hg0
  refine (put_nil n 4 4 _ (by omega) (by omega) (by omega) rfl).mono ?_
  rintro e w2 ⟨A2, c2, rfl, ho2, hb2⟩
  have HO2 := hide (HO.out.below hb2); have HB2 := Lib.hid (HB.out.trans (hb2.mono (Nat.le_trans hB (Nat.le_of_lt hs0)))); have hg2 := HG.out.below hb2 hs0
  have HBW := Lib.hid hb2
  have HP2 := hide ho2
  have a0 := hg2.cell 0
  simp at a0
  clear hb2 ho2 hg2 HG
  have HP3 := hide (show OwnB w2 W.heap.size (.slice A2 4 c2) (numF false n 4) from HP2.out)
  have hz3 : B ≤ w2.heap.size := Nat.le_trans hB HB2.out.size
  go_wp2_with (first
    | ((with_reducible show wpList _ _ _ (⟨some 20, _, _, _, _, _⟩ :: _) _ _)
       go_loud (refine app_k (.tmp 18) (.tmp 19) _ rfl rfl Try.underlying22 info8 (v := .slice A nn c) (base := B) (xs := xs) (k := nn) (k' := nn + 4) (l := numF false n 4) (m := 4) rfl HO2.out HL.out rfl (IsB.own HP3.out) rfl (by omega) hz3 ?_)
       intro A4 c4 w4 ho4 hg4
       have hb4 : Below B w w4 := HB2.out.grown hg4 hz3 (fun q hq => (World.ownsRow.lt HO2.out q hq).1)
       have HO4 := hide ho4; have HB4 := Lib.hid hb4
       clear ho4 hg4 hb4))
  go_ret
  exact ⟨A4, c4, rfl, HO4.out, HB4.out⟩
set_option maxHeartbeats 2000000 in
theorem cput_true_4 (na : Bool) (mo li : Int) (n : Nat) (hn : n < 4294967296) (A : Option Addr) (c nn B : Nat) (xs : List Int) (w : World) (h : OwnB w B (.slice A nn c) xs) (hl : xs.length = nn) (hB : B ≤ w.heap.size) (hm : nn ≤ 10000) :
    Calls Try.prog 114 #[fileV true na mo li, .slice A nn c, .int .u32 (n : Int), .int .i64 4] w fun e w' => ∃ A' c', e = .returned (.slice A' (nn + 4) c') ∧ OwnB w' B (.slice A' (nn + 4) c') (xs ++ numF true n 4) ∧ Below B w w' := by
  unfold fileV
  have n0 : (n : Int) < 4294967296 := by omega
  have hw : IntKind.u64.wrap (n : Int) = (n : Int) := IntWalk.u64_in _ (by omega)
  have ho0 := h.alloc (.cells #[.bool true, .bool na, .int .u32 mo, .int .u32 li] 85)
  have hb0 : Below B w (w.alloc (.cells #[.bool true, .bool na, .int .u32 mo, .int .u32 li] 85)) := (Below.refl _ _).alloc hB _
  have hg0 := Is.new w 85 #[.bool true, .bool na, .int .u32 mo, .int .u32 li]
  have hs0 : w.heap.size < (w.alloc (.cells #[.bool true, .bool na, .int .u32 mo, .int .u32 li] 85)).heap.size := by simp
  have HL := Lib.hid hl
  clear h hl
  go_enter Try.func114, Try.ntmps114
  go_wp2_with fail
  generalize w.alloc (.cells #[.bool true, .bool na, .int .u32 mo, .int .u32 li] 85) = W at *
  have HO := hide ho0; have HB := Lib.hid hb0; have HG := hide hg0
  clear ho0 hb0 hg0
  refine (put_nil n 4 4 _ (by omega) (by omega) (by omega) rfl).mono ?_
  rintro e w2 ⟨A2, c2, rfl, ho2, hb2⟩
  have HO2 := hide (HO.out.below hb2); have HB2 := Lib.hid (HB.out.trans (hb2.mono (Nat.le_trans hB (Nat.le_of_lt hs0)))); have hg2 := HG.out.below hb2 hs0
  have HBW := Lib.hid hb2
  have HP2 := hide ho2
  have a0 := hg2.cell 0
  simp at a0
  clear hb2 ho2 hg2 HG
  obtain ⟨x0, x1, x2, x3, HE⟩ : ∃ x0 x1 x2 x3 : Int, be n 4 = [x0, x1, x2, x3] := ⟨_, _, _, _, rfl⟩
  have HE := Lib.hid HE
  go_wp2_with fail
  refine (rev_4 x0 x1 x2 x3 A2 c2 W.heap.size w2 (by have h := HP2.out; rw [HE.out] at h; exact h)).mono ?_
  rintro e w3 ⟨rfl, ho3, hb3⟩
  have hWB : Below W.heap.size W w3 := HBW.out.trans hb3
  have HO3 := hide (HO.out.below hWB)
  have HB3 := Lib.hid (HB.out.trans (hWB.mono (Nat.le_trans hB (Nat.le_of_lt hs0))))
  have HP3 := hide (show OwnB w3 W.heap.size (.slice A2 4 c2) (numF true n 4) from by unfold numF; rw [HE.out]; exact ho3)
  have hz3 : B ≤ w3.heap.size := Nat.le_trans hB HB3.out.size
  clear hWB ho3 hb3 a0
  go_wp2_with (first
    | ((with_reducible show wpList _ _ _ (⟨some 20, _, _, _, _, _⟩ :: _) _ _)
       go_loud (refine app_k (.tmp 18) (.tmp 19) _ rfl rfl Try.underlying22 info8 (v := .slice A nn c) (base := B) (xs := xs) (k := nn) (k' := nn + 4) (l := numF true n 4) (m := 4) rfl HO3.out HL.out rfl (IsB.own HP3.out) rfl (by omega) hz3 ?_)
       intro A4 c4 w4 ho4 hg4
       have hb4 : Below B w w4 := HB3.out.grown hg4 hz3 (fun q hq => (World.ownsRow.lt HO3.out q hq).1)
       have HO4 := hide ho4; have HB4 := Lib.hid hb4
       clear ho4 hg4 hb4))
  go_ret
  exact ⟨A4, c4, rfl, HO4.out, HB4.out⟩
theorem cput_4 (sm na : Bool) (mo li : Int) (n : Nat) (hn : n < 4294967296) (A : Option Addr) (c nn B : Nat) (xs : List Int) (w : World) (h : OwnB w B (.slice A nn c) xs) (hl : xs.length = nn) (hB : B ≤ w.heap.size) (hm : nn ≤ 10000) :
    Calls Try.prog 114 #[fileV sm na mo li, .slice A nn c, .int .u32 (n : Int), .int .i64 4] w fun e w' => ∃ A' c', e = .returned (.slice A' (nn + 4) c') ∧ OwnB w' B (.slice A' (nn + 4) c') (xs ++ numF sm n 4) ∧ Below B w w' := by
  cases sm
  · exact cput_false_4 na mo li n hn A c nn B xs w h hl hB hm
  · exact cput_true_4 na mo li n hn A c nn B xs w h hl hB hm
set_option maxHeartbeats 2000000 in
theorem rnum_false_4 (na : Bool) (mo li : Int) (n : Nat) (hn : n < 4294967296) (w : World) : Calls Try.prog 115 #[fileV false na mo li, .int .u32 (n : Int), .int .i64 4] w fun e w' => ∃ v, e = .returned v ∧ Below w.heap.size w w' ∧ IsB (numF false n 4) 4 v w' := by
  unfold fileV
  have n0 : (n : Int) < 4294967296 := by omega
  have hw : IntKind.u64.wrap (n : Int) = (n : Int) := IntWalk.u64_in _ (by omega)
  have hb0 : Below w.heap.size w (w.alloc (.cells #[.bool false, .bool na, .int .u32 mo, .int .u32 li] 82)) := (Below.refl _ _).alloc (Nat.le_refl _) _
  have hg0 := Is.new w 82 #[.bool false, .bool na, .int .u32 mo, .int .u32 li]
  have hs0 : w.heap.size < (w.alloc (.cells #[.bool false, .bool na, .int .u32 mo, .int .u32 li] 82)).heap.size := by simp
  go_enter Try.func115, Try.ntmps115
  go_wp2_with fail
  generalize w.alloc (.cells #[.bool false, .bool na, .int .u32 mo, .int .u32 li] 82) = W at *
  have HB := Lib.hid hb0; have HG := hide hg0
  clear hb0 hg0
  refine (rb_c n 4 _ (by omega) (by omega)).mono ?_
  rintro e w2 ⟨v2, rfl, hb2, hv2⟩
  obtain ⟨A2, c2, rfl⟩ := hv2.shape
  have HB2 := Lib.hid (HB.out.trans (hb2.mono (Nat.le_of_lt hs0))); have hg2 := HG.out.below hb2 hs0
  have a0 := hg2.cell 0
  simp at a0
  clear hb2 hg2 HG
  have HV := hide hv2
  clear hv2
  go_wp2_with fail
  go_ret
  exact ⟨_, rfl, HB2.out, HV.out⟩
def NumR4 (w : World) (x0 x1 x2 x3 : Int) (v8 v9 : Value) (wr : World) : Prop :=
  ∃ (k : Nat) (A : Option Addr) (c : Nat), k ≤ 4 ∧ v8 = .slice A k c ∧ v9 = .int .i64 (3 - (k : Int)) ∧ OwnB wr w.heap.size (.slice A k c) (if k = 0 then [] else if k = 1 then [x3] else if k = 2 then [x3, x2] else if k = 3 then [x3, x2, x1] else [x3, x2, x1, x0]) ∧ Below w.heap.size w wr
set_option maxHeartbeats 4000000 in
theorem rnum_true_4 (na : Bool) (mo li : Int) (n : Nat) (hn : n < 4294967296) (w : World) : Calls Try.prog 115 #[fileV true na mo li, .int .u32 (n : Int), .int .i64 4] w fun e w' => ∃ v, e = .returned v ∧ Below w.heap.size w w' ∧ IsB (numF true n 4) 4 v w' := by
  unfold fileV
  have n0 : (n : Int) < 4294967296 := by omega
  have hw : IntKind.u64.wrap (n : Int) = (n : Int) := IntWalk.u64_in _ (by omega)
  have hb0 : Below w.heap.size w (w.alloc (.cells #[.bool true, .bool na, .int .u32 mo, .int .u32 li] 82)) := (Below.refl _ _).alloc (Nat.le_refl _) _
  have hg0 := Is.new w 82 #[.bool true, .bool na, .int .u32 mo, .int .u32 li]
  have hs0 : w.heap.size < (w.alloc (.cells #[.bool true, .bool na, .int .u32 mo, .int .u32 li] 82)).heap.size := by simp
  go_enter Try.func115, Try.ntmps115
  go_wp2_with fail
  generalize w.alloc (.cells #[.bool true, .bool na, .int .u32 mo, .int .u32 li] 82) = W at *
  have HB := Lib.hid hb0; have HG := hide hg0
  clear hb0 hg0
  refine (rb_c n 4 _ (by omega) (by omega)).mono ?_
  rintro e w2 ⟨v2, rfl, hb2, hv2⟩
  obtain ⟨A2, c2, rfl⟩ := hv2.shape
  have HB2 := Lib.hid (HB.out.trans (hb2.mono (Nat.le_of_lt hs0))); have hg2 := HG.out.below hb2 hs0
  have a0 := hg2.cell 0
  simp at a0
  clear hb2 hg2 HG
  obtain ⟨x0, x1, x2, x3, HE⟩ : ∃ x0 x1 x2 x3 : Int, be n 4 = [x0, x1, x2, x3] := ⟨_, _, _, _, rfl⟩
  rw [HE] at hv2
  have HE := Lib.hid HE
  have HV := hide hv2
  clear hv2
  go_wp2_with fail
  go_loopw [8, 9] (fun v8 v9 wr => NumR4 w2 x0 x1 x2 x3 v8 v9 wr) (fun _ v9 _ => (intOf v9 + 1).toNat)
  case atStart => exact ⟨0, none, 0, by omega, rfl, by go_num, OwnB.nil _ _, Below.refl _ _⟩
  case round =>
    obtain ⟨k, A8, c8, hk, rfl, rfl, ho, hb⟩ := hrel
    have HBR := Lib.hid (HB2.out.trans (hb.mono HB2.out.size))
    have HB := Lib.hid hb
    have hbz : w2.heap.size ≤ wr.heap.size := hb.size
    clear hb
    have hk' : k = 0 ∨ k = 1 ∨ k = 2 ∨ k = 3 ∨ k = 4 := by omega
    rcases hk' with rfl | rfl | rfl | rfl | rfl
    · have HO := hide (show OwnB wr w2.heap.size (.slice A8 0 c8) [] from ho)
      clear ho
      obtain ⟨b, o, rfl, hbl, hc⟩ := (by obtain ⟨_, _, e, _, h, _⟩ := HV.out; injection e with e; subst e; exact h.cells (by simp) : ∃ b off, A2 = some ⟨b, off, none⟩ ∧ b < w2.heap.size ∧ ∀ k, k < ([x0, x1, x2, x3] : List Int).length → w2.cell? ⟨b, off + k, none⟩ = some (.int .u8 (at0 [x0, x1, x2, x3] k)))
      have d0 : wr.cell? ⟨b, o + 3, none⟩ = some (.int .u8 x3) := (HB.out.cell (p := ⟨b, o + 3, none⟩) hbl).trans (hc 3 (by simp))
      clear hc
      go_wp2_with (first
        | ((with_reducible show wpList _ _ _ (⟨some 31, _, _, _, _, _⟩ :: _) _ _)
           go_loud (refine app_bytes (.tmp 25) (.tmp 30) _ rfl rfl Try.underlying22 info8 (v := .slice A8 0 c8) (base := w2.heap.size) (xs := []) (l := [x3]) rfl (HO.out.alloc _) rfl rfl (Bytes.one wr _) (by simp) (Nat.le_trans hbz (by simp)) ?_)
           intro A5 c5 w5 ho5 hg5 _
           have hb5 : Below w2.heap.size w2 w5 := (HB.out.alloc hbz _).grown hg5 (Nat.le_trans hbz (by simp)) (fun q hq => (World.ownsRow.lt HO.out q hq).1)
           have HO5 := hide (show OwnB w5 w2.heap.size (.slice A5 1 c5) [x3] from ho5)
           have HB5 := Lib.hid hb5
           clear ho5 hg5 hb5))
      go_roundw
      case rel => exact ⟨1, A5, c5, by omega, by first | rfl | simp, by go_num, HO5.out, HB5.out⟩
      case measure => simp [intOf]
    · have HO := hide (show OwnB wr w2.heap.size (.slice A8 1 c8) [x3] from ho)
      clear ho
      obtain ⟨b, o, rfl, hbl, hc⟩ := (by obtain ⟨_, _, e, _, h, _⟩ := HV.out; injection e with e; subst e; exact h.cells (by simp) : ∃ b off, A2 = some ⟨b, off, none⟩ ∧ b < w2.heap.size ∧ ∀ k, k < ([x0, x1, x2, x3] : List Int).length → w2.cell? ⟨b, off + k, none⟩ = some (.int .u8 (at0 [x0, x1, x2, x3] k)))
      have d0 : wr.cell? ⟨b, o + 2, none⟩ = some (.int .u8 x2) := (HB.out.cell (p := ⟨b, o + 2, none⟩) hbl).trans (hc 2 (by simp))
      clear hc
      go_wp2_with (first
        | ((with_reducible show wpList _ _ _ (⟨some 31, _, _, _, _, _⟩ :: _) _ _)
           go_loud (refine app_bytes (.tmp 25) (.tmp 30) _ rfl rfl Try.underlying22 info8 (v := .slice A8 1 c8) (base := w2.heap.size) (xs := [x3]) (l := [x2]) rfl (HO.out.alloc _) rfl rfl (Bytes.one wr _) (by simp) (Nat.le_trans hbz (by simp)) ?_)
           intro A5 c5 w5 ho5 hg5 _
           have hb5 : Below w2.heap.size w2 w5 := (HB.out.alloc hbz _).grown hg5 (Nat.le_trans hbz (by simp)) (fun q hq => (World.ownsRow.lt HO.out q hq).1)
           have HO5 := hide (show OwnB w5 w2.heap.size (.slice A5 2 c5) [x3, x2] from ho5)
           have HB5 := Lib.hid hb5
           clear ho5 hg5 hb5))
      go_roundw
      case rel => exact ⟨2, A5, c5, by omega, by first | rfl | simp, by go_num, HO5.out, HB5.out⟩
      case measure => simp [intOf]
    · have HO := hide (show OwnB wr w2.heap.size (.slice A8 2 c8) [x3, x2] from ho)
      clear ho
      obtain ⟨b, o, rfl, hbl, hc⟩ := (by obtain ⟨_, _, e, _, h, _⟩ := HV.out; injection e with e; subst e; exact h.cells (by simp) : ∃ b off, A2 = some ⟨b, off, none⟩ ∧ b < w2.heap.size ∧ ∀ k, k < ([x0, x1, x2, x3] : List Int).length → w2.cell? ⟨b, off + k, none⟩ = some (.int .u8 (at0 [x0, x1, x2, x3] k)))
      have d0 : wr.cell? ⟨b, o + 1, none⟩ = some (.int .u8 x1) := (HB.out.cell (p := ⟨b, o + 1, none⟩) hbl).trans (hc 1 (by simp))
      clear hc
      go_wp2_with (first
        | ((with_reducible show wpList _ _ _ (⟨some 31, _, _, _, _, _⟩ :: _) _ _)
           go_loud (refine app_bytes (.tmp 25) (.tmp 30) _ rfl rfl Try.underlying22 info8 (v := .slice A8 2 c8) (base := w2.heap.size) (xs := [x3, x2]) (l := [x1]) rfl (HO.out.alloc _) rfl rfl (Bytes.one wr _) (by simp) (Nat.le_trans hbz (by simp)) ?_)
           intro A5 c5 w5 ho5 hg5 _
           have hb5 : Below w2.heap.size w2 w5 := (HB.out.alloc hbz _).grown hg5 (Nat.le_trans hbz (by simp)) (fun q hq => (World.ownsRow.lt HO.out q hq).1)
           have HO5 := hide (show OwnB w5 w2.heap.size (.slice A5 3 c5) [x3, x2, x1] from ho5)
           have HB5 := Lib.hid hb5
           clear ho5 hg5 hb5))
      go_roundw
      case rel => exact ⟨3, A5, c5, by omega, by first | rfl | simp, by go_num, HO5.out, HB5.out⟩
      case measure => simp [intOf]
    · have HO := hide (show OwnB wr w2.heap.size (.slice A8 3 c8) [x3, x2, x1] from ho)
      clear ho
      obtain ⟨b, o, rfl, hbl, hc⟩ := (by obtain ⟨_, _, e, _, h, _⟩ := HV.out; injection e with e; subst e; exact h.cells (by simp) : ∃ b off, A2 = some ⟨b, off, none⟩ ∧ b < w2.heap.size ∧ ∀ k, k < ([x0, x1, x2, x3] : List Int).length → w2.cell? ⟨b, off + k, none⟩ = some (.int .u8 (at0 [x0, x1, x2, x3] k)))
      have d0 : wr.cell? ⟨b, o + 0, none⟩ = some (.int .u8 x0) := (HB.out.cell (p := ⟨b, o + 0, none⟩) hbl).trans (hc 0 (by simp))
      have d0 : wr.cell? ⟨b, o, none⟩ = some (.int .u8 x0) := d0
      clear hc
      go_wp2_with (first
        | ((with_reducible show wpList _ _ _ (⟨some 31, _, _, _, _, _⟩ :: _) _ _)
           go_loud (refine app_bytes (.tmp 25) (.tmp 30) _ rfl rfl Try.underlying22 info8 (v := .slice A8 3 c8) (base := w2.heap.size) (xs := [x3, x2, x1]) (l := [x0]) rfl (HO.out.alloc _) rfl rfl (Bytes.one wr _) (by simp) (Nat.le_trans hbz (by simp)) ?_)
           intro A5 c5 w5 ho5 hg5 _
           have hb5 : Below w2.heap.size w2 w5 := (HB.out.alloc hbz _).grown hg5 (Nat.le_trans hbz (by simp)) (fun q hq => (World.ownsRow.lt HO.out q hq).1)
           have HO5 := hide (show OwnB w5 w2.heap.size (.slice A5 4 c5) [x3, x2, x1, x0] from ho5)
           have HB5 := Lib.hid hb5
           clear ho5 hg5 hb5))
      go_roundw
      case rel => exact ⟨4, A5, c5, by omega, by first | rfl | simp, by go_num, HO5.out, HB5.out⟩
      case measure => simp [intOf]
    · have HO := hide (show OwnB wr w2.heap.size (.slice A8 4 c8) [x3, x2, x1, x0] from ho)
      clear ho
      go_wp2_with fail
      go_ret
      exact ⟨_, rfl, HBR.out, by unfold numF; rw [HE.out]; exact IsB.own HO.out⟩
theorem rnum_4 (sm na : Bool) (mo li : Int) (n : Nat) (hn : n < 4294967296) (w : World) : Calls Try.prog 115 #[fileV sm na mo li, .int .u32 (n : Int), .int .i64 4] w fun e w' => ∃ v, e = .returned v ∧ Below w.heap.size w w' ∧ IsB (numF sm n 4) 4 v w' := by
  cases sm
  · exact rnum_false_4 na mo li n hn w
  · exact rnum_true_4 na mo li n hn w
end Go.Proofs.Ytkgmgmlicgjfdaa
