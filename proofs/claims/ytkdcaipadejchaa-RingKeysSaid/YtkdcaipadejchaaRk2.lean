/-
  The law RingKeys, walked. Helper of the claim RingKeys. No condition.
-/
import Derived.Test.YtkdcaipadejchaaRk
namespace Go.Proofs.Ytkdcaipadejchaa
open Go.ChangeShapes Go.WideShapes Go.ChangeAt Go.RowKit
set_option linter.unusedVariables false
set_option maxRecDepth 100000
def RkRel (w : World) (g0 g1 gl : Nat) (key : List Int) (n : Nat) (b : Int) (v : Value) (wr : World) : Prop :=
  ∃ i : Nat, i ≤ 3 ∧ v = .int .i64 (i : Int) ∧ Is wr g0 87 (rcs key n) ∧ Is wr g1 89 (rcs key n) ∧ Is wr gl 3 #[.int .i64 0, .int .i64 1, .int .i64 b] ∧ Below w.heap.size w wr
theorem lit_at (b : Int) (i : Nat) (h : i < 3) : ∃ c : Int, (#[.int .i64 0, .int .i64 1, .int .i64 b] : Array Value)[i]? = some (.int .i64 c) := by
  match i, h with
  | 0, _ => exact ⟨0, rfl⟩
  | 1, _ => exact ⟨1, rfl⟩
  | 2, _ => exact ⟨b, rfl⟩
set_option maxHeartbeats 1000000 in
theorem rkeys (key : List Int) (hk : key.length = 16) (ho : Octets key) (n : Nat) (hn : n < 18446744073709551616) (b : Int) (w : World) : Calls Try.prog 12 #[.agg (rcs key n), .int .i64 b] w fun e w' => e = .returned (.bool true) ∧ Below w.heap.size w w' := by
  obtain ⟨m, hm⟩ : ∃ m, m = (n + 1) % 18446744073709551616 := ⟨_, rfl⟩
  have hwr : IntKind.u64.wrap ((n : Int) + 1) = (m : Int) := by rw [IntKind.wrap_u64]; omega
  obtain ⟨x, hx⟩ : ∃ x, x = n % 2 := ⟨_, rfl⟩
  have hr1 : (n : Int).tmod 2 = (x : Int) := by rw [Int.tmod_eq_emod_of_nonneg (by omega)]; omega
  have hr2 : (n : Int) % 2 = (x : Int) := by omega
  have hx64 : IntKind.i64.wrap (x : Int) = (x : Int) := IntWalk.i64_in _ (by omega)
  have BTN := hide (fun W => show Calls Try.prog 55 #[.agg (rcs key n)] W fun e w' => e = .returned (.int .i64 (x : Int)) ∧ Below W.heap.size W w' from by have h := hbit key hk n hn W; rw [← hx] at h; exact h)
  have EPN := hide (fun W => hepoch key hk n W)
  have NXN := hide (fun W => hnext key hk n m hwr W)
  have EPM := hide (fun W => hepoch key hk m W)
  have ATA := hide (fun (c : Int) W => hat_any key hk ho n hn c W)
  have RATA := hide (fun (c : Int) W => hrat_any key hk ho n hn c W)
  have hb0 : Below w.heap.size w (w.alloc (.cells (rcs key n) 87)) := (Below.refl _ _).alloc (Nat.le_refl _) _
  have R0 := Lib.hid (Is.new w 87 (rcs key n)); have HB0 := Lib.hid hb0; have HK := Lib.hid hk; have RSZ := Lib.hid (rcs_size hk n); have RONE := Lib.hid (rcs_one key n)
  have H16 := rcs_now hk n
  have HX := Lib.hid hx; have HM := Lib.hid hm; have HN := Lib.hid hn
  clear hb0 hk ho hx hm hn
  go_enter Try.func12, Try.ntmps12
  go_wp2_with (with_reducible show wpList _ _ _ (⟨some 13, _, _, _, _, _⟩ :: _) _ _; go_loud (refine wpList_load_mid rfl 74 (.tmp 12) rfl w.heap.size 0 rfl (u8s key) _ (ring_range HK.out R0.out) Try.underlying74 rfl (by rw [show (u8s key).length = 16 from by simp [u8s, HK.out]]; kernel_rfl) ?_))
  refine (hnew key HK.out n _).mono ?_
  rintro e w1 ⟨rfl, hb⟩
  have B1 := Lib.hid (R0.out.below hb R0.out.lt); have HB1 := Lib.hid (HB0.out.trans (hb.mono HB0.out.size))
  have J1 := Lib.hid (Is.new w1 89 #[.int .u8 0, .int .u8 0, .int .u8 0, .int .u8 0, .int .u8 0, .int .u8 0, .int .u8 0, .int .u8 0, .int .u8 0, .int .u8 0, .int .u8 0, .int .u8 0, .int .u8 0, .int .u8 0, .int .u8 0, .int .u8 0, .int .u64 0])
  have hz := HB1.out.size
  have b2 := B1.out.alloc (.cells #[.int .u8 0, .int .u8 0, .int .u8 0, .int .u8 0, .int .u8 0, .int .u8 0, .int .u8 0, .int .u8 0, .int .u8 0, .int .u8 0, .int .u8 0, .int .u8 0, .int .u8 0, .int .u8 0, .int .u8 0, .int .u8 0, .int .u64 0] 89)
  have HB2 := Lib.hid (below_setRow (HB1.out.alloc hz (.cells #[.int .u8 0, .int .u8 0, .int .u8 0, .int .u8 0, .int .u8 0, .int .u8 0, .int .u8 0, .int .u8 0, .int .u8 0, .int .u8 0, .int .u8 0, .int .u8 0, .int .u8 0, .int .u8 0, .int .u8 0, .int .u8 0, .int .u64 0] 89)) (g := w1.heap.size) hz (rcs key n))
  have G2 := Lib.hid (is_row (cs' := (rcs key n)) J1.out)
  have B2 := Lib.hid (show Is ((w1.alloc (.cells #[.int .u8 0, .int .u8 0, .int .u8 0, .int .u8 0, .int .u8 0, .int .u8 0, .int .u8 0, .int .u8 0, .int .u8 0, .int .u8 0, .int .u8 0, .int .u8 0, .int .u8 0, .int .u8 0, .int .u8 0, .int .u8 0, .int .u64 0] 89)).setRow w1.heap.size (rcs key n)) w.heap.size 87 (rcs key n) from (setRow_other _ _ _ _ (by have := B1.out.lt; omega)).trans b2)
  clear hb b2 R0 HB0 B1 HB1
  go_wp2_with (
    (with_reducible show wpList _ _ _ (⟨none, _, _, _, _, _⟩ :: _) _ _)
    go_loud (refine Go.wpList_store_row rfl 89 (.tmp 5) (.tmp 16) rfl w1.heap.size (rcs key n) rfl rfl 89 #[.int .u8 0, .int .u8 0, .int .u8 0, .int .u8 0, .int .u8 0, .int .u8 0, .int .u8 0, .int .u8 0, .int .u8 0, .int .u8 0, .int .u8 0, .int .u8 0, .int .u8 0, .int .u8 0, .int .u8 0, .int .u8 0, .int .u64 0] (is_raw J1.out) (by rw [RSZ.out]; kernel_rfl) (by rw [RSZ.out]; simp) RONE.out ?_)
    generalize (w1.alloc (.cells #[.int .u8 0, .int .u8 0, .int .u8 0, .int .u8 0, .int .u8 0, .int .u8 0, .int .u8 0, .int .u8 0, .int .u8 0, .int .u8 0, .int .u8 0, .int .u8 0, .int .u8 0, .int .u8 0, .int .u8 0, .int .u8 0, .int .u64 0] 89)).setRow w1.heap.size (rcs key n) = W at *)
  generalize w1.heap.size = g1 at *
  have L3 := Lib.hid (Is.new W 3 #[.int .i64 0, .int .i64 1, .int .i64 b])
  have B3 := Lib.hid (B2.out.alloc (.cells #[.int .i64 0, .int .i64 1, .int .i64 b] 3)); have G3 := Lib.hid (G2.out.alloc (.cells #[.int .i64 0, .int .i64 1, .int .i64 b] 3)); have HB3 := Lib.hid (HB2.out.alloc HB2.out.size (.cells #[.int .i64 0, .int .i64 1, .int .i64 b] 3))
  clear B2 G2 HB2 J1 hz
  generalize W.alloc (.cells #[.int .i64 0, .int .i64 1, .int .i64 b] 3) = V at *
  generalize W.heap.size = gl at *
  go_loopw [20] (fun v wr => RkRel w w.heap.size g1 gl key n b v wr) (fun v _ => (3 - intOf v).toNat)
  case atStart => exact ⟨0, by omega, rfl, B3.out, G3.out, L3.out, HB3.out⟩
  case round =>
    obtain ⟨i, hi, rfl, hR, hG, hL, hb⟩ := hrel
    clear B3 G3 HB3 L3
    have HR := Lib.hid hR; have HG := Lib.hid hG; have HL := Lib.hid hL; have HB := Lib.hid hb
    by_cases hlt : i < 3
    · obtain ⟨c, hc⟩ := lit_at b i hlt
      have dl := (hL.cell i).trans hc
      have k0 : (0 : Int) ≤ (i : Int) := by omega
      have kl : (i : Int) < 3 := by omega
      have HLT := Lib.hid hlt
      clear hR hG hL hb hc hlt hi
      have AT1 := hide (fun W => (unhide ATA) c W); have RAT1 := hide (fun W => (unhide RATA) c W)
      have KSZ := Lib.hid (show (u8s (atp key n c)).toArray.size = 16 from by simp [u8s, atp_len]); have KONE := Lib.hid (one_u8s (atp key n c))
      have KNE := hide (fun W => key_neq (atp key n c) (atp_len key n c) (atp_ok key n c) W)
      generalize (u8s (atp key n c)).toArray = ks at *
      generalize ato n c = ok at *
      go_wp2_with (with_reducible show wpList _ _ _ (⟨some 25, _, _, _, _, _⟩ :: _) _ _; go_loud (refine Go.wpList_load_row rfl 89 (.tmp 5) rfl g1 rfl 89 (rcs key n) (0, 0) _ (is_raw HG.out) Try.underlying89 rfl (by rw [RSZ.out]; kernel_rfl) ?_))
      refine (unhide AT1 _).mono ?_
      rintro e w2 ⟨rfl, hb2⟩
      have J2 := Lib.hid (Is.new w2 78 #[.int .u8 0, .int .u8 0, .int .u8 0, .int .u8 0, .int .u8 0, .int .u8 0, .int .u8 0, .int .u8 0, .int .u8 0, .int .u8 0, .int .u8 0, .int .u8 0, .int .u8 0, .int .u8 0, .int .u8 0, .int .u8 0])
      have hz2 : w.heap.size ≤ w2.heap.size := Nat.le_trans HB.out.size hb2.size
      have e0 := (HR.out.below hb2 HR.out.lt); have e1 := (HG.out.below hb2 HG.out.lt); have e2 := (HL.out.below hb2 HL.out.lt)
      have P2 := Lib.hid (is_row (cs' := ks) J2.out)
      have R2 := Lib.hid (show Is ((w2.alloc (.cells #[.int .u8 0, .int .u8 0, .int .u8 0, .int .u8 0, .int .u8 0, .int .u8 0, .int .u8 0, .int .u8 0, .int .u8 0, .int .u8 0, .int .u8 0, .int .u8 0, .int .u8 0, .int .u8 0, .int .u8 0, .int .u8 0] 78)).setRow w2.heap.size ks) w.heap.size 87 (rcs key n) from (setRow_other _ _ _ _ (by have := e0.lt; omega)).trans (e0.alloc _))
      have G2 := Lib.hid (show Is ((w2.alloc (.cells #[.int .u8 0, .int .u8 0, .int .u8 0, .int .u8 0, .int .u8 0, .int .u8 0, .int .u8 0, .int .u8 0, .int .u8 0, .int .u8 0, .int .u8 0, .int .u8 0, .int .u8 0, .int .u8 0, .int .u8 0, .int .u8 0] 78)).setRow w2.heap.size ks) g1 89 (rcs key n) from (setRow_other _ _ _ _ (by have := e1.lt; omega)).trans (e1.alloc _))
      have L2 := Lib.hid (show Is ((w2.alloc (.cells #[.int .u8 0, .int .u8 0, .int .u8 0, .int .u8 0, .int .u8 0, .int .u8 0, .int .u8 0, .int .u8 0, .int .u8 0, .int .u8 0, .int .u8 0, .int .u8 0, .int .u8 0, .int .u8 0, .int .u8 0, .int .u8 0] 78)).setRow w2.heap.size ks) gl 3 #[.int .i64 0, .int .i64 1, .int .i64 b] from (setRow_other _ _ _ _ (by have := e2.lt; omega)).trans (e2.alloc _))
      have HB2 := Lib.hid (below_setRow ((HB.out.trans (hb2.mono HB.out.size)).alloc hz2 (.cells #[.int .u8 0, .int .u8 0, .int .u8 0, .int .u8 0, .int .u8 0, .int .u8 0, .int .u8 0, .int .u8 0, .int .u8 0, .int .u8 0, .int .u8 0, .int .u8 0, .int .u8 0, .int .u8 0, .int .u8 0, .int .u8 0] 78)) (g := w2.heap.size) hz2 ks)
      clear hb2 e0 e1 e2 HR HG HL HB dl
      go_wp2_with (first
        | ((with_reducible show wpList _ _ _ (⟨none, _, _, _, _, _⟩ :: _) _ _)
           go_loud (refine Go.wpList_store_row rfl 78 (.tmp 8) (.tmp 28) rfl w2.heap.size ks rfl rfl 78 #[.int .u8 0, .int .u8 0, .int .u8 0, .int .u8 0, .int .u8 0, .int .u8 0, .int .u8 0, .int .u8 0, .int .u8 0, .int .u8 0, .int .u8 0, .int .u8 0, .int .u8 0, .int .u8 0, .int .u8 0, .int .u8 0] (is_raw J2.out) (by rw [KSZ.out]; kernel_rfl) (by rw [KSZ.out]; simp) KONE.out ?_)
           generalize (w2.alloc (.cells #[.int .u8 0, .int .u8 0, .int .u8 0, .int .u8 0, .int .u8 0, .int .u8 0, .int .u8 0, .int .u8 0, .int .u8 0, .int .u8 0, .int .u8 0, .int .u8 0, .int .u8 0, .int .u8 0, .int .u8 0, .int .u8 0] 78)).setRow w2.heap.size ks = X at *
           generalize w2.heap.size = g2 at *)
        | (with_reducible show wpList _ _ _ (⟨some 31, _, _, _, _, _⟩ :: _) _ _; go_loud (refine Go.wpList_load_row rfl 87 (.tmp 2) rfl w.heap.size rfl 87 (rcs key n) (0, 0) _ (is_raw R2.out) Try.underlying87 rfl (by rw [RSZ.out]; kernel_rfl) ?_)))
      refine (unhide RAT1 _).mono ?_
      rintro e w3 ⟨rfl, hb3⟩
      have J3 := Lib.hid (Is.new w3 74 #[.int .u8 0, .int .u8 0, .int .u8 0, .int .u8 0, .int .u8 0, .int .u8 0, .int .u8 0, .int .u8 0, .int .u8 0, .int .u8 0, .int .u8 0, .int .u8 0, .int .u8 0, .int .u8 0, .int .u8 0, .int .u8 0])
      have hz3 : w.heap.size ≤ w3.heap.size := Nat.le_trans HB2.out.size hb3.size
      have e0 := (R2.out.below hb3 R2.out.lt); have e1 := (G2.out.below hb3 G2.out.lt); have e2 := (L2.out.below hb3 L2.out.lt); have e3 := (P2.out.below hb3 P2.out.lt)
      have P3 := Lib.hid (is_row (cs' := ks) J3.out)
      have R3 := Lib.hid (show Is ((w3.alloc (.cells #[.int .u8 0, .int .u8 0, .int .u8 0, .int .u8 0, .int .u8 0, .int .u8 0, .int .u8 0, .int .u8 0, .int .u8 0, .int .u8 0, .int .u8 0, .int .u8 0, .int .u8 0, .int .u8 0, .int .u8 0, .int .u8 0] 74)).setRow w3.heap.size ks) w.heap.size 87 (rcs key n) from (setRow_other _ _ _ _ (by have := e0.lt; omega)).trans (e0.alloc _))
      have G3 := Lib.hid (show Is ((w3.alloc (.cells #[.int .u8 0, .int .u8 0, .int .u8 0, .int .u8 0, .int .u8 0, .int .u8 0, .int .u8 0, .int .u8 0, .int .u8 0, .int .u8 0, .int .u8 0, .int .u8 0, .int .u8 0, .int .u8 0, .int .u8 0, .int .u8 0] 74)).setRow w3.heap.size ks) g1 89 (rcs key n) from (setRow_other _ _ _ _ (by have := e1.lt; omega)).trans (e1.alloc _))
      have L3 := Lib.hid (show Is ((w3.alloc (.cells #[.int .u8 0, .int .u8 0, .int .u8 0, .int .u8 0, .int .u8 0, .int .u8 0, .int .u8 0, .int .u8 0, .int .u8 0, .int .u8 0, .int .u8 0, .int .u8 0, .int .u8 0, .int .u8 0, .int .u8 0, .int .u8 0] 74)).setRow w3.heap.size ks) gl 3 #[.int .i64 0, .int .i64 1, .int .i64 b] from (setRow_other _ _ _ _ (by have := e2.lt; omega)).trans (e2.alloc _))
      have Q3 := Lib.hid (show Is ((w3.alloc (.cells #[.int .u8 0, .int .u8 0, .int .u8 0, .int .u8 0, .int .u8 0, .int .u8 0, .int .u8 0, .int .u8 0, .int .u8 0, .int .u8 0, .int .u8 0, .int .u8 0, .int .u8 0, .int .u8 0, .int .u8 0, .int .u8 0] 74)).setRow w3.heap.size ks) g2 78 ks from (setRow_other _ _ _ _ (by have := e3.lt; omega)).trans (e3.alloc _))
      have HB3 := Lib.hid (below_setRow ((HB2.out.trans (hb3.mono HB2.out.size)).alloc hz3 (.cells #[.int .u8 0, .int .u8 0, .int .u8 0, .int .u8 0, .int .u8 0, .int .u8 0, .int .u8 0, .int .u8 0, .int .u8 0, .int .u8 0, .int .u8 0, .int .u8 0, .int .u8 0, .int .u8 0, .int .u8 0, .int .u8 0] 74)) (g := w3.heap.size) hz3 ks)
      clear hb3 e0 e1 e2 e3 R2 G2 L2 P2 HB2 J2 hz2
      go_wp2_with (first
        | ((with_reducible show wpList _ _ _ (⟨none, _, _, _, _, _⟩ :: _) _ _)
           go_loud (refine Go.wpList_store_row rfl 74 (.tmp 10) (.tmp 34) rfl w3.heap.size ks rfl rfl 74 #[.int .u8 0, .int .u8 0, .int .u8 0, .int .u8 0, .int .u8 0, .int .u8 0, .int .u8 0, .int .u8 0, .int .u8 0, .int .u8 0, .int .u8 0, .int .u8 0, .int .u8 0, .int .u8 0, .int .u8 0, .int .u8 0] (is_raw J3.out) (by rw [KSZ.out]; kernel_rfl) (by rw [KSZ.out]; simp) KONE.out ?_)
           generalize (w3.alloc (.cells #[.int .u8 0, .int .u8 0, .int .u8 0, .int .u8 0, .int .u8 0, .int .u8 0, .int .u8 0, .int .u8 0, .int .u8 0, .int .u8 0, .int .u8 0, .int .u8 0, .int .u8 0, .int .u8 0, .int .u8 0, .int .u8 0] 74)).setRow w3.heap.size ks = Y at *
           generalize w3.heap.size = g3 at *)
        | (with_reducible show wpList _ _ _ (⟨some 36, _, _, _, _, _⟩ :: _) _ _; go_loud (refine Go.wpList_load_row rfl 78 (.tmp 8) rfl g2 rfl 78 ks (0, 0) _ (is_raw Q3.out) Try.underlying78 rfl (by rw [KSZ.out]; kernel_rfl) ?_))
        | (with_reducible show wpList _ _ _ (⟨some 37, _, _, _, _, _⟩ :: _) _ _; go_loud (refine Go.wpList_load_row rfl 74 (.tmp 10) rfl g3 rfl 74 ks (0, 0) _ (is_raw P3.out) Try.underlying74 rfl (by rw [KSZ.out]; kernel_rfl) ?_))
        | ((with_reducible show wpList _ _ _ (⟨some 38, _, _, _, _, _⟩ :: _) _ _)
           go_loud (refine wpList_keyneq_if (by rfl) (.tmp 36) (.tmp 37) rfl ks rfl rfl (unhide KNE _) ?_)))
      go_roundw
      case rel => exact ⟨i + 1, HLT.out, by go_num, R3.out, G3.out, L3.out, HB3.out⟩
      case measure => have := HLT.out; simp [intOf]; omega
    · obtain rfl : i = 3 := by omega
      have hx16 : x ≤ 1 := by have := HX.out; omega
      clear hR hG hL hb hlt hi
      have HXX := HX; have HMM := HM
      go_wp2_with fail
      refine Lin.wp_region_lin Lin.keeps (n := 71)  (fun slotq => match slotq with | 45 => Lin.Spec.val (.agg (rcs key n)) | 46 => Lin.Spec.val (.int .u64 (n : Int)) | 47 => Lin.Spec.val (.pointer (some ⟨w.heap.size, 16, none⟩)) | 48 => Lin.Spec.val (.int .u64 (n : Int)) | 49 => Lin.Spec.val (.bool true) | 50 => Lin.Spec.val (.bool true) | 51 => Lin.Spec.val (.agg (rcs key n)) | 52 => Lin.Spec.val (.int .i64 (x : Int)) | 53 => Lin.Spec.val (.pointer (some ⟨w.heap.size, 16, none⟩)) | 54 => Lin.Spec.val (.int .u64 (n : Int)) | 55 => Lin.Spec.val (.int .u64 (x : Int)) | 56 => Lin.Spec.val (.int .i64 (x : Int)) | 57 => Lin.Spec.val (.bool true) | 58 => Lin.Spec.val (.bool true) | 59 => Lin.Spec.val (.bool true) | 60 => Lin.Spec.val (.agg (rcs key n)) | 61 => Lin.Spec.val (.agg (rcs key m)) | 62 => Lin.Spec.val (.int .u64 (m : Int)) | 63 => Lin.Spec.val (.pointer (some ⟨w.heap.size, 16, none⟩)) | 64 => Lin.Spec.val (.int .u64 (n : Int)) | 65 => Lin.Spec.val (.int .u64 (m : Int)) | 66 => Lin.Spec.val (.bool true) | 67 => Lin.Spec.val (.bool true) | 68 => Lin.Spec.val (.bool true) | 69 => Lin.Spec.val (.bool true) | 70 => Lin.Spec.val (.bool true) | 4 => Lin.Spec.val (.bool true) | _ => Lin.Spec.any) (by kernel_rfl) rfl (by kernel_rfl) ⟨?_, ?_, ?_, ?_, ?_, ?_, ?_, ?_, ?_, ?_, ?_, ?_, ?_, ?_, ?_, ?_, ?_, ?_, ?_, ?_, ?_, ?_, ?_, ?_, ?_, ?_, ?_, trivial⟩ ?_
      · intro ρ wq hb ho hc hd
        have hC : ∀ v, ρ (.const v) = v := fun v => hc _ (by intro t e; cases e)
        have hF : ∀ f, ρ (.func f) = .func (.func f) #[] #[] := fun f => hc _ (by intro t e; cases e)
        have h5 : ρ (.tmp 5) = .pointer (some ⟨g1, 0, none⟩) := ho 5 (by kernel_rfl)
        exact Lin.Runs.load_row Lin.keeps 89 (.tmp 5) rfl g1 h5 89 (rcs key n) (HG.out.below hb HG.out.lt) _ Try.underlying89 rfl (by rw [RSZ.out]; kernel_rfl) rfl
      · intro ρ wq hb ho hc hd
        have hC : ∀ v, ρ (.const v) = v := fun v => hc _ (by intro t e; cases e)
        have hF : ∀ f, ρ (.func f) = .func (.func f) #[] #[] := fun f => hc _ (by intro t e; cases e)
        have h45 : ρ (.tmp 45) = .agg (rcs key n) := hd 45 (by kernel_rfl)
        exact Lin.Runs.call Lin.keeps (f := 54) (args := #[.agg (rcs key n)]) (by simp [execOp, go_sem, hF, h45]) ((unhide EPN wq).mono fun e w9 h => ⟨_, h.1, h.2, rfl⟩)
      · intro ρ wq hb ho hc hd
        have hC : ∀ v, ρ (.const v) = v := fun v => hc _ (by intro t e; cases e)
        have hF : ∀ f, ρ (.func f) = .func (.func f) #[] #[] := fun f => hc _ (by intro t e; cases e)
        have h2 : ρ (.tmp 2) = .pointer (some ⟨w.heap.size, 0, none⟩) := ho 2 (by kernel_rfl)
        exact Lin.Runs.value Lin.keeps (v := .pointer (some ⟨w.heap.size, 16, none⟩)) (by simp [execOp, go_sem, h2]) rfl
      · intro ρ wq hb ho hc hd
        have hC : ∀ v, ρ (.const v) = v := fun v => hc _ (by intro t e; cases e)
        have hF : ∀ f, ρ (.func f) = .func (.func f) #[] #[] := fun f => hc _ (by intro t e; cases e)
        have h47 : ρ (.tmp 47) = .pointer (some ⟨w.heap.size, 16, none⟩) := hd 47 (by kernel_rfl)
        have m16 : wq.cell? ⟨w.heap.size, 16, none⟩ = some (.int .u64 (n : Int)) := by rw [(HR.out.below hb HR.out.lt).cell]; exact H16
        exact Lin.Runs.value Lin.keeps (v := .int .u64 (n : Int)) (by simp [execOp, go_sem, h47, m16]) rfl
      · intro ρ wq hb ho hc hd
        have hC : ∀ v, ρ (.const v) = v := fun v => hc _ (by intro t e; cases e)
        have hF : ∀ f, ρ (.func f) = .func (.func f) #[] #[] := fun f => hc _ (by intro t e; cases e)
        have h46 : ρ (.tmp 46) = .int .u64 (n : Int) := hd 46 (by kernel_rfl)
        have h48 : ρ (.tmp 48) = .int .u64 (n : Int) := hd 48 (by kernel_rfl)
        exact Lin.Runs.value Lin.keeps (v := .bool true) (by simp [execOp, go_sem, h46, h48]) rfl
      · intro ρ wq hb ho hc hd
        have hC : ∀ v, ρ (.const v) = v := fun v => hc _ (by intro t e; cases e)
        have hF : ∀ f, ρ (.func f) = .func (.func f) #[] #[] := fun f => hc _ (by intro t e; cases e)
        have h49 : ρ (.tmp 49) = .bool true := hd 49 (by kernel_rfl)
        exact Lin.Runs.value Lin.keeps (Lin.exec_move rfl) h49
      · intro ρ wq hb ho hc hd
        have hC : ∀ v, ρ (.const v) = v := fun v => hc _ (by intro t e; cases e)
        have hF : ∀ f, ρ (.func f) = .func (.func f) #[] #[] := fun f => hc _ (by intro t e; cases e)
        intro t ht; cases (show some 50 = some t from ht)
        refine ⟨fun _ => ?_, fun hn => absurd (hd 50 (by kernel_rfl)) hn⟩
        have h5 : ρ (.tmp 5) = .pointer (some ⟨g1, 0, none⟩) := ho 5 (by kernel_rfl)
        exact Lin.Runs.load_row Lin.keeps 89 (.tmp 5) rfl g1 h5 89 (rcs key n) (HG.out.below hb HG.out.lt) _ Try.underlying89 rfl (by rw [RSZ.out]; kernel_rfl) rfl
      · intro ρ wq hb ho hc hd
        have hC : ∀ v, ρ (.const v) = v := fun v => hc _ (by intro t e; cases e)
        have hF : ∀ f, ρ (.func f) = .func (.func f) #[] #[] := fun f => hc _ (by intro t e; cases e)
        intro t ht; cases (show some 50 = some t from ht)
        refine ⟨fun _ => ?_, fun hn => absurd (hd 50 (by kernel_rfl)) hn⟩
        have h51 : ρ (.tmp 51) = .agg (rcs key n) := hd 51 (by kernel_rfl)
        exact Lin.Runs.call Lin.keeps (f := 55) (args := #[.agg (rcs key n)]) (by simp [execOp, go_sem, hF, h51]) ((unhide BTN wq).mono fun e w9 h => ⟨_, h.1, h.2, rfl⟩)
      · intro ρ wq hb ho hc hd
        have hC : ∀ v, ρ (.const v) = v := fun v => hc _ (by intro t e; cases e)
        have hF : ∀ f, ρ (.func f) = .func (.func f) #[] #[] := fun f => hc _ (by intro t e; cases e)
        intro t ht; cases (show some 50 = some t from ht)
        refine ⟨fun _ => ?_, fun hn => absurd (hd 50 (by kernel_rfl)) hn⟩
        have h2 : ρ (.tmp 2) = .pointer (some ⟨w.heap.size, 0, none⟩) := ho 2 (by kernel_rfl)
        exact Lin.Runs.value Lin.keeps (v := .pointer (some ⟨w.heap.size, 16, none⟩)) (by simp [execOp, go_sem, h2]) rfl
      · intro ρ wq hb ho hc hd
        have hC : ∀ v, ρ (.const v) = v := fun v => hc _ (by intro t e; cases e)
        have hF : ∀ f, ρ (.func f) = .func (.func f) #[] #[] := fun f => hc _ (by intro t e; cases e)
        intro t ht; cases (show some 50 = some t from ht)
        refine ⟨fun _ => ?_, fun hn => absurd (hd 50 (by kernel_rfl)) hn⟩
        have h53 : ρ (.tmp 53) = .pointer (some ⟨w.heap.size, 16, none⟩) := hd 53 (by kernel_rfl)
        have m16 : wq.cell? ⟨w.heap.size, 16, none⟩ = some (.int .u64 (n : Int)) := by rw [(HR.out.below hb HR.out.lt).cell]; exact H16
        exact Lin.Runs.value Lin.keeps (v := .int .u64 (n : Int)) (by simp [execOp, go_sem, h53, m16]) rfl
      · intro ρ wq hb ho hc hd
        have hC : ∀ v, ρ (.const v) = v := fun v => hc _ (by intro t e; cases e)
        have hF : ∀ f, ρ (.func f) = .func (.func f) #[] #[] := fun f => hc _ (by intro t e; cases e)
        intro t ht; cases (show some 50 = some t from ht)
        refine ⟨fun _ => ?_, fun hn => absurd (hd 50 (by kernel_rfl)) hn⟩
        have h54 : ρ (.tmp 54) = .int .u64 (n : Int) := hd 54 (by kernel_rfl)
        exact Lin.Runs.value Lin.keeps (v := .int .u64 (x : Int)) (by simp [execOp, go_sem, hC, h54, hr1, hr2]) rfl
      · intro ρ wq hb ho hc hd
        have hC : ∀ v, ρ (.const v) = v := fun v => hc _ (by intro t e; cases e)
        have hF : ∀ f, ρ (.func f) = .func (.func f) #[] #[] := fun f => hc _ (by intro t e; cases e)
        intro t ht; cases (show some 50 = some t from ht)
        refine ⟨fun _ => ?_, fun hn => absurd (hd 50 (by kernel_rfl)) hn⟩
        have h55 : ρ (.tmp 55) = .int .u64 (x : Int) := hd 55 (by kernel_rfl)
        exact Lin.Runs.value Lin.keeps (v := .int .i64 (x : Int)) (by simp [execOp, go_sem, h55, hx64]) rfl
      · intro ρ wq hb ho hc hd
        have hC : ∀ v, ρ (.const v) = v := fun v => hc _ (by intro t e; cases e)
        have hF : ∀ f, ρ (.func f) = .func (.func f) #[] #[] := fun f => hc _ (by intro t e; cases e)
        intro t ht; cases (show some 50 = some t from ht)
        refine ⟨fun _ => ?_, fun hn => absurd (hd 50 (by kernel_rfl)) hn⟩
        have h52 : ρ (.tmp 52) = .int .i64 (x : Int) := hd 52 (by kernel_rfl)
        have h56 : ρ (.tmp 56) = .int .i64 (x : Int) := hd 56 (by kernel_rfl)
        exact Lin.Runs.value Lin.keeps (v := .bool true) (by simp [execOp, go_sem, h52, h56]) rfl
      · intro ρ wq hb ho hc hd
        have hC : ∀ v, ρ (.const v) = v := fun v => hc _ (by intro t e; cases e)
        have hF : ∀ f, ρ (.func f) = .func (.func f) #[] #[] := fun f => hc _ (by intro t e; cases e)
        have h50 : ρ (.tmp 50) = .bool true := hd 50 (by kernel_rfl)
        have h57 : ρ (.tmp 57) = .bool true := hd 57 (by kernel_rfl)
        exact Lin.Runs.value Lin.keeps (v := .bool true) (by simp [execOp, go_sem, hC, h50, h57]) rfl
      · intro ρ wq hb ho hc hd
        have hC : ∀ v, ρ (.const v) = v := fun v => hc _ (by intro t e; cases e)
        have hF : ∀ f, ρ (.func f) = .func (.func f) #[] #[] := fun f => hc _ (by intro t e; cases e)
        have h58 : ρ (.tmp 58) = .bool true := hd 58 (by kernel_rfl)
        exact Lin.Runs.value Lin.keeps (Lin.exec_move rfl) h58
      · intro ρ wq hb ho hc hd
        have hC : ∀ v, ρ (.const v) = v := fun v => hc _ (by intro t e; cases e)
        have hF : ∀ f, ρ (.func f) = .func (.func f) #[] #[] := fun f => hc _ (by intro t e; cases e)
        intro t ht; cases (show some 59 = some t from ht)
        refine ⟨fun _ => ?_, fun hn => absurd (hd 59 (by kernel_rfl)) hn⟩
        have h5 : ρ (.tmp 5) = .pointer (some ⟨g1, 0, none⟩) := ho 5 (by kernel_rfl)
        exact Lin.Runs.load_row Lin.keeps 89 (.tmp 5) rfl g1 h5 89 (rcs key n) (HG.out.below hb HG.out.lt) _ Try.underlying89 rfl (by rw [RSZ.out]; kernel_rfl) rfl
      · intro ρ wq hb ho hc hd
        have hC : ∀ v, ρ (.const v) = v := fun v => hc _ (by intro t e; cases e)
        have hF : ∀ f, ρ (.func f) = .func (.func f) #[] #[] := fun f => hc _ (by intro t e; cases e)
        intro t ht; cases (show some 59 = some t from ht)
        refine ⟨fun _ => ?_, fun hn => absurd (hd 59 (by kernel_rfl)) hn⟩
        have h60 : ρ (.tmp 60) = .agg (rcs key n) := hd 60 (by kernel_rfl)
        exact Lin.Runs.call Lin.keeps (f := 56) (args := #[.agg (rcs key n)]) (by simp [execOp, go_sem, hF, h60]) ((unhide NXN wq).mono fun e w9 h => ⟨_, h.1, h.2, rfl⟩)
      · intro ρ wq hb ho hc hd
        have hC : ∀ v, ρ (.const v) = v := fun v => hc _ (by intro t e; cases e)
        have hF : ∀ f, ρ (.func f) = .func (.func f) #[] #[] := fun f => hc _ (by intro t e; cases e)
        intro t ht; cases (show some 59 = some t from ht)
        refine ⟨fun _ => ?_, fun hn => absurd (hd 59 (by kernel_rfl)) hn⟩
        have h61 : ρ (.tmp 61) = .agg (rcs key m) := hd 61 (by kernel_rfl)
        exact Lin.Runs.call Lin.keeps (f := 54) (args := #[.agg (rcs key m)]) (by simp [execOp, go_sem, hF, h61]) ((unhide EPM wq).mono fun e w9 h => ⟨_, h.1, h.2, rfl⟩)
      · intro ρ wq hb ho hc hd
        have hC : ∀ v, ρ (.const v) = v := fun v => hc _ (by intro t e; cases e)
        have hF : ∀ f, ρ (.func f) = .func (.func f) #[] #[] := fun f => hc _ (by intro t e; cases e)
        intro t ht; cases (show some 59 = some t from ht)
        refine ⟨fun _ => ?_, fun hn => absurd (hd 59 (by kernel_rfl)) hn⟩
        have h2 : ρ (.tmp 2) = .pointer (some ⟨w.heap.size, 0, none⟩) := ho 2 (by kernel_rfl)
        exact Lin.Runs.value Lin.keeps (v := .pointer (some ⟨w.heap.size, 16, none⟩)) (by simp [execOp, go_sem, h2]) rfl
      · intro ρ wq hb ho hc hd
        have hC : ∀ v, ρ (.const v) = v := fun v => hc _ (by intro t e; cases e)
        have hF : ∀ f, ρ (.func f) = .func (.func f) #[] #[] := fun f => hc _ (by intro t e; cases e)
        intro t ht; cases (show some 59 = some t from ht)
        refine ⟨fun _ => ?_, fun hn => absurd (hd 59 (by kernel_rfl)) hn⟩
        have h63 : ρ (.tmp 63) = .pointer (some ⟨w.heap.size, 16, none⟩) := hd 63 (by kernel_rfl)
        have m16 : wq.cell? ⟨w.heap.size, 16, none⟩ = some (.int .u64 (n : Int)) := by rw [(HR.out.below hb HR.out.lt).cell]; exact H16
        exact Lin.Runs.value Lin.keeps (v := .int .u64 (n : Int)) (by simp [execOp, go_sem, h63, m16]) rfl
      · intro ρ wq hb ho hc hd
        have hC : ∀ v, ρ (.const v) = v := fun v => hc _ (by intro t e; cases e)
        have hF : ∀ f, ρ (.func f) = .func (.func f) #[] #[] := fun f => hc _ (by intro t e; cases e)
        intro t ht; cases (show some 59 = some t from ht)
        refine ⟨fun _ => ?_, fun hn => absurd (hd 59 (by kernel_rfl)) hn⟩
        have h64 : ρ (.tmp 64) = .int .u64 (n : Int) := hd 64 (by kernel_rfl)
        exact Lin.Runs.value Lin.keeps (v := .int .u64 (m : Int)) (by simp [execOp, go_sem, hC, h64, hwr]) rfl
      · intro ρ wq hb ho hc hd
        have hC : ∀ v, ρ (.const v) = v := fun v => hc _ (by intro t e; cases e)
        have hF : ∀ f, ρ (.func f) = .func (.func f) #[] #[] := fun f => hc _ (by intro t e; cases e)
        intro t ht; cases (show some 59 = some t from ht)
        refine ⟨fun _ => ?_, fun hn => absurd (hd 59 (by kernel_rfl)) hn⟩
        have h62 : ρ (.tmp 62) = .int .u64 (m : Int) := hd 62 (by kernel_rfl)
        have h65 : ρ (.tmp 65) = .int .u64 (m : Int) := hd 65 (by kernel_rfl)
        exact Lin.Runs.value Lin.keeps (v := .bool true) (by simp [execOp, go_sem, h62, h65]) rfl
      · intro ρ wq hb ho hc hd
        have hC : ∀ v, ρ (.const v) = v := fun v => hc _ (by intro t e; cases e)
        have hF : ∀ f, ρ (.func f) = .func (.func f) #[] #[] := fun f => hc _ (by intro t e; cases e)
        have h59 : ρ (.tmp 59) = .bool true := hd 59 (by kernel_rfl)
        have h66 : ρ (.tmp 66) = .bool true := hd 66 (by kernel_rfl)
        exact Lin.Runs.value Lin.keeps (v := .bool true) (by simp [execOp, go_sem, hC, h59, h66]) rfl
      · intro ρ wq hb ho hc hd
        have hC : ∀ v, ρ (.const v) = v := fun v => hc _ (by intro t e; cases e)
        have hF : ∀ f, ρ (.func f) = .func (.func f) #[] #[] := fun f => hc _ (by intro t e; cases e)
        have h67 : ρ (.tmp 67) = .bool true := hd 67 (by kernel_rfl)
        exact Lin.Runs.value Lin.keeps (Lin.exec_move rfl) h67
      · intro ρ wq hb ho hc hd
        have hC : ∀ v, ρ (.const v) = v := fun v => hc _ (by intro t e; cases e)
        have hF : ∀ f, ρ (.func f) = .func (.func f) #[] #[] := fun f => hc _ (by intro t e; cases e)
        intro t ht; cases (show some 68 = some t from ht)
        refine ⟨fun _ => ?_, fun hn => absurd (hd 68 (by kernel_rfl)) hn⟩
        exact Lin.Runs.call Lin.keeps (f := 57) (args := #[]) (by simp [execOp, go_sem, hF]) ((awake11 wq).mono fun e w9 h => ⟨_, h.1, h.2, rfl⟩)
      · intro ρ wq hb ho hc hd
        have hC : ∀ v, ρ (.const v) = v := fun v => hc _ (by intro t e; cases e)
        have hF : ∀ f, ρ (.func f) = .func (.func f) #[] #[] := fun f => hc _ (by intro t e; cases e)
        have h68 : ρ (.tmp 68) = .bool true := hd 68 (by kernel_rfl)
        have h69 : ρ (.tmp 69) = .bool true := hd 69 (by kernel_rfl)
        exact Lin.Runs.value Lin.keeps (v := .bool true) (by simp [execOp, go_sem, hC, h68, h69]) rfl
      · intro ρ wq hb ho hc hd
        have hC : ∀ v, ρ (.const v) = v := fun v => hc _ (by intro t e; cases e)
        have hF : ∀ f, ρ (.func f) = .func (.func f) #[] #[] := fun f => hc _ (by intro t e; cases e)
        have h70 : ρ (.tmp 70) = .bool true := hd 70 (by kernel_rfl)
        exact Lin.Runs.value Lin.keeps (Lin.exec_assign rfl) h70
      · intro vals w5 hb2 hv
        have ee : vals 4 = .bool true := hv 4 (by kernel_rfl)
        have HB5 := Lib.hid (HB.out.trans (hb2.mono HB.out.size))
        clear hb2 hv
        simp only [Lin.putAll, Option.getD_some]
        rw [ee]
        clear ee
        go_simp
        generalize vals = vv
        go_wp2_with fail
        go_ret
        exact ⟨rfl, HB5.out⟩
end Go.Proofs.Ytkdcaipadejchaa
