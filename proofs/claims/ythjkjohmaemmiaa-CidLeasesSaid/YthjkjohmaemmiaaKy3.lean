/-
  Of of the reference of layer 10: what a call returns. Helper of the claim on SiphashKeys.
-/
import Derived.Test.YthjkjohmaemmiaaKy2
import Derived.ArgAppend
namespace Go.Proofs.Ythjkjohmaemmiaa
open Go.ChangeShapes Go.WideShapes Go.ChangeAt Go.RowKit
set_option linter.unusedSimpArgs false
set_option linter.unusedVariables false
def kfill (p : List Int) (i : Nat) : List Int := (List.range 16).map fun j => if j < i then at0 p j else 0
theorem kfill_len (p : List Int) (i : Nat) : (kfill p i).length = 16 := by simp [kfill]
theorem kfill_step {p : List Int} {i : Nat} (h : i < 16) : (kfill p i).set i (at0 p i) = kfill p (i + 1) := by
  apply List.ext_getElem?
  intro j
  rw [List.getElem?_set]
  by_cases hij : i = j
  · subst hij; rw [if_pos rfl, if_pos (by rw [kfill_len]; exact h)]; simp [kfill, h]
  · rw [if_neg hij]
    by_cases hj : j < 16
    · simp only [kfill, List.getElem?_map, List.getElem?_range hj, Option.map_some]
      congr 1
      by_cases h1 : j < i
      · rw [if_pos h1, if_pos (by omega)]
      · rw [if_neg h1, if_neg (by omega)]
    · rw [List.getElem?_eq_none (by rw [kfill_len]; omega), List.getElem?_eq_none (by rw [kfill_len]; omega)]
theorem kfill_zero (p : List Int) : kfill p 0 = List.replicate 16 0 := rfl
theorem kfill_all {p : List Int} (h : p.length = 16) : kfill p 16 = p := by
  apply List.ext_getElem?
  intro j
  by_cases hj : j < 16
  · simp only [kfill, List.getElem?_map, List.getElem?_range hj, Option.map_some, if_pos hj]
    unfold at0
    rw [List.getD_eq_getElem?_getD, List.getElem?_eq_getElem (by omega)]; rfl
  · rw [List.getElem?_eq_none (by rw [kfill_len]; omega), List.getElem?_eq_none (by omega)]
theorem kfill_put {w : World} {g : Nat} {t : TypeId} {p : List Int} {i : Nat} (h : Is w g t (u8s (kfill p i)).toArray) (hi : i < 16) : Is (w.setCell ⟨g, i, none⟩ (.int .u8 (at0 p i))) g t (u8s (kfill p (i + 1))).toArray := by
  have := h.put i (.int .u8 (at0 p i))
  rw [← kfill_step hi, ← u8s_set]
  rw [List.setIfInBounds_toArray] at this
  exact this
def RofRel (w : World) (p : List Int) (b c : Nat) (i : Value) (wr : World) : Prop :=
  ∃ j : Nat, j ≤ 16 ∧ i = .int .i64 j ∧ Is wr (w.heap.size + 1) 36 (u8s (kfill p j)).toArray ∧ Is wr w.heap.size 36 (u8s (List.replicate 16 0)).toArray ∧ OwnB wr (w.heap.size + 2) (.slice (some ⟨b, 0, none⟩) 16 c) p ∧ Below w.heap.size w wr
set_option maxRecDepth 100000 in
set_option maxHeartbeats 4000000 in
theorem rof_any (h l : Nat) (w : World) (hh : h < 18446744073709551616) (hl : l < 18446744073709551616) :
    Calls Try.prog 129 #[.int .u64 (h : Int), .int .u64 (l : Int)] w fun e w' => e = .returned (.agg (u8s (kof h l)).toArray) ∧ Below w.heap.size w w' := by
  have KSZ : Hid ((u8s (kof h l)).toArray.size = 16) := hide (by simp [u8s, kof_len])
  have HP : Hid ((kof h l).length = 16) := hide (kof_len h l)
  have HPE : Hid (be h 8 ++ be l 8 = kof h l) := hide rfl
  generalize kof h l = p at *
  have i0 := (Is.new w 36 (u8s (List.replicate 16 0)).toArray).alloc (.cells (u8s (List.replicate 16 0)).toArray 36)
  have i1 := Is.new (w.alloc (.cells (u8s (List.replicate 16 0)).toArray 36)) 36 (u8s (List.replicate 16 0)).toArray
  rw [show (w.alloc (.cells (u8s (List.replicate 16 0)).toArray 36)).heap.size = w.heap.size + 1 from by simp] at i1
  have hbw := ((Below.refl w.heap.size w).alloc (Nat.le_refl _) (.cells (u8s (List.replicate 16 0)).toArray 36)).alloc (by simp) (.cells (u8s (List.replicate 16 0)).toArray 36)
  have I0 := Lib.hid i0; have I1 := Lib.hid i1; have HB := Lib.hid hbw
  clear i0 i1 hbw
  go_enter Try.func129, Try.ntmps129
  go_wp2_with fail
  refine (rbytes_any h 8 _ hh).mono ?_
  rintro e w1 ⟨A1, c1, rfl, ho1, hb1⟩
  rw [show sz8 8 = 8 from rfl, be_len] at ho1 ⊢
  have HO1 := Lib.hid (ho1.lower (base' := w.heap.size + 2) (by simp))
  have I01 := Lib.hid (I0.out.below hb1 I0.out.lt)
  have I11 := Lib.hid (I1.out.below hb1 I1.out.lt)
  have HB1 := Lib.hid (HB.out.trans (hb1.mono HB.out.size))
  clear ho1 hb1 I0 I1 HB
  go_wp2_with fail
  refine (rbytes_any l 8 _ hl).mono ?_
  rintro e w2 ⟨A2, c2, rfl, ho2, hb2⟩
  rw [show sz8 8 = 8 from rfl, be_len] at ho2 ⊢
  have HO2 := Lib.hid (HO1.out.below hb2)
  have HY2 := Lib.hid ho2.bytes
  have I02 := Lib.hid (I01.out.below hb2 I01.out.lt)
  have I12 := Lib.hid (I11.out.below hb2 I11.out.lt)
  have HB2 := Lib.hid (HB1.out.trans (hb2.mono HB1.out.size))
  have hz2 : w.heap.size + 2 ≤ w2.heap.size := I12.out.lt
  clear ho2 hb2 HO1 I01 I11 HB1
  go_wp2_with (with_reducible show wpList _ _ _ (⟨some 12, _, _, _, _, _⟩ :: _) _ _; go_loud (refine app_bytes (.tmp 9) (.tmp 11) _ rfl rfl Try.underlying22 info8 (v := .slice A1 8 c1) (base := w.heap.size + 2) (xs := be h 8) (l := be l 8) rfl HO2.out rfl (be_len l 8) HY2.out (by rw [be_len, be_len]; omega) hz2 ?_); rw [be_len, show 8 + 8 = 16 from rfl]; intro A3 c3 w3 ho3 hg3 _)
  have i03 := I02.out.only hg3 (fun e => by have := (World.ownsRow.lt HO2.out _ e.symm).1; omega)
  have i13 := I12.out.only hg3 (fun e => by have := (World.ownsRow.lt HO2.out _ e.symm).1; omega)
  have hb3 := HB2.out.grown hg3 (by omega) (fun q hq => by have := (World.ownsRow.lt HO2.out _ hq).1; omega)
  have ho3 : OwnB w3 (w.heap.size + 2) (.slice A3 16 c3) (be h 8 ++ be l 8) := ho3
  rw [HPE.out] at ho3
  obtain ⟨b, rfl, hb0, hb1⟩ := ho3.blocks (by rw [HP.out]; omega)
  clear hg3 HO2 HY2 I02 I12 HB2 hz2 hb0 hb1
  go_loopw [7] (fun i wr => RofRel w p b c3 i wr) (fun i _ => (16 - intOf i).toNat)
  case atStart => exact ⟨0, by omega, rfl, by rw [kfill_zero]; exact i13, i03, ho3, hb3⟩
  case round =>
    obtain ⟨j, hj, rfl, j1, j0, ho, hb⟩ := hrel
    clear i03 i13 hb3 ho3
    have hz := j1.lt
    by_cases hlt : j < 16
    · have e0 : wr.cell? ⟨w.heap.size + 1, j, none⟩ = some (.int .u8 (at0 (kfill p j) j)) := by rw [j1.cell j]; simpa using u8s_get (l := kfill p j) (k := j) (by rw [kfill_len]; exact hlt)
      have f0 := j1.free j
      have d0 := ho.at (k := j) (by rw [HP.out]; exact hlt)
      have k0 : (0 : Int) ≤ (j : Int) := by omega
      have k1 : (j : Int) < 16 := by omega
      have HPT := Lib.hid (kfill_put j1 hlt)
      have HOP : Hid (OwnB (wr.setCell ⟨w.heap.size + 1, j, none⟩ (.int .u8 (at0 p j))) (w.heap.size + 2) (.slice (some ⟨b, 0, none⟩) 16 c3) p) := hide (own_set ho (own_far ho (show w.heap.size + 1 < w.heap.size + 2 by omega)) _)
      have H0P : Hid (Is (wr.setCell ⟨w.heap.size + 1, j, none⟩ (.int .u8 (at0 p j))) w.heap.size 36 (u8s (List.replicate 16 0)).toArray) := hide (j0.other (p := ⟨w.heap.size + 1, j, none⟩) (by simp) _)
      have HBP := Lib.hid (hb.setCell (p := ⟨w.heap.size + 1, j, none⟩) (Nat.le_succ _) (.int .u8 (at0 p j)))
      clear j1 j0 ho hb
      generalize at0 (kfill p j) j = y at *
      generalize at0 p j = x at *
      go_wp2_with fail
      go_roundw
      case rel => exact ⟨j + 1, by omega, by go_num, HPT.out, H0P.out, HOP.out, HBP.out⟩
      case measure => simp [intOf]; omega
    · obtain rfl : j = 16 := by omega
      rw [kfill_all HP.out] at j1
      have J1 := Lib.hid j1; have J0 := Lib.hid j0; have HB := Lib.hid hb
      clear j1 j0 ho hb
      go_wp2_with (first | (with_reducible show wpList _ _ _ (⟨some 23, _, _, _, _, _⟩ :: _) _ _; go_loud (refine Go.wpList_load_row rfl 36 (.tmp 5) rfl (w.heap.size + 1) rfl 36 (u8s p).toArray (0, 0) _ (is_raw J1.out) Try.underlying36 rfl (by rw [KSZ.out]; kernel_rfl) ?_)) | (with_reducible show wpList _ _ _ (⟨none, _, _, _, _, _⟩ :: _) _ _; go_loud (refine Go.wpList_store_row rfl 36 (.tmp 4) (.tmp 23) rfl w.heap.size (u8s p).toArray rfl rfl 36 (u8s (List.replicate 16 0)).toArray (is_raw J0.out) (by rw [KSZ.out]; kernel_rfl) (by rw [KSZ.out]; simp [u8s]) (one_u8s _) ?_)))
      refine bodyPost_ret (v := .agg (u8s p).toArray) ?_ rfl ⟨rfl, below_setRow HB.out (Nat.le_refl _) _⟩
      exact (results_cell_row Try.results129 _ _ w.heap.size 36 (u8s p).toArray (0, 0) _ rfl (is_raw (is_row J0.out)) Try.underlying36 rfl (by rw [KSZ.out]; kernel_rfl))
end Go.Proofs.Ythjkjohmaemmiaa
