/-
  The law CidMakes, walked. Helper of the claim CidMakes. No condition.
-/
import Derived.Test.YthjkjohmaemmiaaCm2
import Derived.Test.YthjkjohmaemmiaaCd6
import Derived.ProofKit
import Derived.OpenShut
import Derived.Lib.SmallJoins
namespace Go.Proofs.Ythjkjohmaemmiaa
open Go.ChangeShapes Go.WideShapes Go.ChangeAt Go.RowKit
set_option linter.unusedSimpArgs false
set_option linter.unusedVariables false
set_option maxRecDepth 100000
set_option maxHeartbeats 1000000 in
theorem makes_no (key : List Int) (hk : key.length = 16) (n : Nat) (v s : Int) (on : Nat) (h : (pright v s && decide (on < 1099511627776)) = false) (w : World) :
    Calls Try.prog 6 #[.agg (rcs key n), .agg #[.int .i64 v, .int .i64 s], .int .u64 (on : Int)] w fun e w' => e = .returned (.bool true) ∧ Below w.heap.size w w' := by
  have MT := hide (fun W => cmake_no key n v s on (by cases hp : pright v s with | false => exact .inl rfl | true => (rw [hp] at h; simp at h; exact .inr ⟨rfl, h⟩)) W)
  have RT := hide (fun W => rright13 v s on W)
  rw [h] at RT
  clear h
  have HK := Lib.hid hk; have RSZ := Lib.hid (rcs_size hk n); have RONE := Lib.hid (rcs_one key n)
  have HB0 := Lib.hid (show Below w.heap.size w ((w.alloc (.cells (rcs key n) 38)).alloc (.cells #[.int .i64 v, .int .i64 s] 41)) from ((Below.refl _ _).alloc (Nat.le_refl _) _).alloc (by simp) _)
  have R0 := Lib.hid ((Is.new w 38 (rcs key n)).alloc (.cells #[.int .i64 v, .int .i64 s] 41))
  have P0 := Lib.hid (Is.new (w.alloc (.cells (rcs key n) 38)) 41 #[.int .i64 v, .int .i64 s])
  rw [show (w.alloc (.cells (rcs key n) 38)).heap.size = w.heap.size + 1 from by simp] at P0
  have m16 := ring_now HK.out R0.out
  clear hk
  go_enter Try.func6, Try.ntmps6
  go_wp2_with (with_reducible show wpList _ _ _ (⟨some 17, _, _, _, _, _⟩ :: _) _ _; go_loud (refine wpList_load_mid rfl 36 (.tmp 16) rfl w.heap.size 0 rfl (u8s key) _ (ring_range HK.out R0.out) Try.underlying36 rfl (by rw [show (u8s key).length = 16 from by simp [u8s, HK.out]]; kernel_rfl) ?_))
  generalize ((w.alloc (.cells (rcs key n) 38)).alloc (.cells #[.int .i64 v, .int .i64 s] 41)) = V at *
  generalize w.heap.size + 1 = gp at *
  clear m16
  refine (hnew key HK.out n _).mono ?_
  rintro e w1 ⟨rfl, hb⟩
  have R1 := Lib.hid (R0.out.below hb R0.out.lt)
  have P1 := Lib.hid (P0.out.below hb P0.out.lt)
  have HB1 := Lib.hid (HB0.out.trans (hb.mono HB0.out.size))
  clear hb R0 P0 HB0
  have J1 := Lib.hid (Is.new w1 45 #[.int .u8 0, .int .u8 0, .int .u8 0, .int .u8 0, .int .u8 0, .int .u8 0, .int .u8 0, .int .u8 0, .int .u8 0, .int .u8 0, .int .u8 0, .int .u8 0, .int .u8 0, .int .u8 0, .int .u8 0, .int .u8 0, .int .u64 0])
  have hz := HB1.out.size
  have HB2 := Lib.hid (below_setRow (HB1.out.alloc hz (.cells #[.int .u8 0, .int .u8 0, .int .u8 0, .int .u8 0, .int .u8 0, .int .u8 0, .int .u8 0, .int .u8 0, .int .u8 0, .int .u8 0, .int .u8 0, .int .u8 0, .int .u8 0, .int .u8 0, .int .u8 0, .int .u8 0, .int .u64 0] 45)) (g := w1.heap.size) hz (rcs key n))
  have G2 := Lib.hid (is_row (cs' := (rcs key n)) J1.out)
  have R2 := Lib.hid (show Is ((w1.alloc (.cells #[.int .u8 0, .int .u8 0, .int .u8 0, .int .u8 0, .int .u8 0, .int .u8 0, .int .u8 0, .int .u8 0, .int .u8 0, .int .u8 0, .int .u8 0, .int .u8 0, .int .u8 0, .int .u8 0, .int .u8 0, .int .u8 0, .int .u64 0] 45)).setRow w1.heap.size (rcs key n)) w.heap.size 38 (rcs key n) from (setRow_other _ _ _ _ (by have := R1.out.lt; omega)).trans (R1.out.alloc _))
  have P2 := Lib.hid (show Is ((w1.alloc (.cells #[.int .u8 0, .int .u8 0, .int .u8 0, .int .u8 0, .int .u8 0, .int .u8 0, .int .u8 0, .int .u8 0, .int .u8 0, .int .u8 0, .int .u8 0, .int .u8 0, .int .u8 0, .int .u8 0, .int .u8 0, .int .u8 0, .int .u64 0] 45)).setRow w1.heap.size (rcs key n)) gp 41 #[.int .i64 v, .int .i64 s] from (setRow_other _ _ _ _ (by have := P1.out.lt; omega)).trans (P1.out.alloc _))
  clear R1 P1 HB1 hz
  go_wp2_with (first
    | ((with_reducible show wpList _ _ _ (⟨none, _, _, _, _, _⟩ :: _) _ _)
       go_loud (refine Go.wpList_store_row rfl 45 (.tmp 7) (.tmp 20) rfl w1.heap.size (rcs key n) rfl rfl 45 #[.int .u8 0, .int .u8 0, .int .u8 0, .int .u8 0, .int .u8 0, .int .u8 0, .int .u8 0, .int .u8 0, .int .u8 0, .int .u8 0, .int .u8 0, .int .u8 0, .int .u8 0, .int .u8 0, .int .u8 0, .int .u8 0, .int .u64 0] (is_raw J1.out) (by rw [RSZ.out]; kernel_rfl) (by rw [RSZ.out]; simp) RONE.out ?_)
       generalize ((w1.alloc (.cells #[.int .u8 0, .int .u8 0, .int .u8 0, .int .u8 0, .int .u8 0, .int .u8 0, .int .u8 0, .int .u8 0, .int .u8 0, .int .u8 0, .int .u8 0, .int .u8 0, .int .u8 0, .int .u8 0, .int .u8 0, .int .u8 0, .int .u64 0] 45)).setRow w1.heap.size (rcs key n)) = X at *
       generalize w1.heap.size = g7 at *
       have a0 := P2.out.cell 0
       have a1 := P2.out.cell 1
       simp at a0 a1)
    | (with_reducible show wpList _ _ _ (⟨some 22, _, _, _, _, _⟩ :: _) _ _; go_loud (refine Go.wpList_load_row rfl 45 (.tmp 7) rfl g7 rfl 45 (rcs key n) (0, 0) _ (is_raw G2.out) Try.underlying45 rfl (by rw [RSZ.out]; kernel_rfl) ?_)))
  clear a0 a1 J1
  refine (unhide MT _).mono ?_
  rintro e w3 ⟨rfl, hb⟩
  have R3 := Lib.hid (R2.out.below hb R2.out.lt)
  have P3 := Lib.hid (P2.out.below hb P2.out.lt)
  have G3 := Lib.hid (G2.out.below hb G2.out.lt)
  have HB3 := Lib.hid (HB2.out.trans (hb.mono HB2.out.size))
  clear hb R2 P2 G2 HB2
  have a0 := P3.out.cell 0; have a1 := P3.out.cell 1
  simp at a0 a1
  go_wp2_with fail
  refine (unhide RT _).mono ?_
  rintro e w4 ⟨rfl, rfl⟩
  go_wp2_with fail
  refine (awake13 _).mono ?_
  rintro e w9 ⟨rfl, hb⟩
  have HB9 := Lib.hid (HB3.out.trans (hb.mono HB3.out.size))
  clear hb
  go_wp2_with fail
  go_ret
  exact ⟨rfl, HB9.out⟩
set_option maxHeartbeats 2000000 in
theorem makes_max (key : List Int) (hk : key.length = 16) (ho : Octets key) (n : Nat) (hn : n < 18446744073709551616) (vv sl on : Nat) (hvv : vv < 8) (hsl : sl < 4096) (hon : on < 1099511627776) (hm : n = 18446744073709551615) (m : Nat) (hw : IntKind.u64.wrap ((n : Int) + 1) = (m : Int)) (a2 b2 o2 e2 : Int) (wd : Nat) (hwd : n % 2 * 32768 + ((vv * 4096 + sl) ^^^ mkc (dvk key n) (be on 5)) = wd)
    (RP1 : Hid (∀ (A : Option Addr) (c : Nat) (W : World), IsB (idl (dvk key n) on wd) 12 (.slice A 12 c) W → Calls Try.prog 29 #[.agg (rcs key n), .slice A 12 c] W fun e w' => e = .returned (.tuple #[.agg #[.int .i64 (vv : Int), .int .i64 (sl : Int)], .int .u64 (on : Int), .int .i64 0]) ∧ Below W.heap.size W w'))
    (RP2 : Hid (∀ (A : Option Addr) (c : Nat) (W : World), IsB (idl (dvk key n) on wd) 12 (.slice A 12 c) W → Calls Try.prog 29 #[.agg (rcs key m), .slice A 12 c] W fun e w' => e = .returned (.tuple #[.agg #[.int .i64 a2, .int .i64 b2], .int .u64 o2, .int .i64 e2]) ∧ Below W.heap.size W w')) (w : World) :
    Calls Try.prog 6 #[.agg (rcs key n), .agg #[.int .i64 (vv : Int), .int .i64 (sl : Int)], .int .u64 (on : Int)] w fun e w' => e = .returned (.bool true) ∧ Below w.heap.size w w' := by
  have hmax : ((n : Int) == 18446744073709551615) = true := by rw [hm]; rfl
  have MT := hide (fun W => cmake_yes key hk ho n hn vv sl on hvv hsl hon wd hwd W)
  have RMT := hide (fun W => rmake_yes key hk ho n hn vv sl on hvv hsl hon wd hwd W)
  have RT := hide (fun W => rright13 (vv : Int) (sl : Int) on W)
  rw [cright_nat vv sl hvv hsl, decide_eq_true hon, Bool.and_self] at RT
  have NXT := hide (fun W => hnext key hk n m hw W)
  clear hvv hsl hon hw hwd hm hn ho
  generalize idl (dvk key n) on wd = ID at *
  have HK := Lib.hid hk; have RSZ := Lib.hid (rcs_size hk n); have RONE := Lib.hid (rcs_one key n)
  have HB0 := Lib.hid (show Below w.heap.size w ((w.alloc (.cells (rcs key n) 38)).alloc (.cells #[.int .i64 (vv : Int), .int .i64 (sl : Int)] 41)) from ((Below.refl _ _).alloc (Nat.le_refl _) _).alloc (by simp) _)
  have R0 := Lib.hid ((Is.new w 38 (rcs key n)).alloc (.cells #[.int .i64 (vv : Int), .int .i64 (sl : Int)] 41))
  have P0 := Lib.hid (Is.new (w.alloc (.cells (rcs key n) 38)) 41 #[.int .i64 (vv : Int), .int .i64 (sl : Int)])
  rw [show (w.alloc (.cells (rcs key n) 38)).heap.size = w.heap.size + 1 from by simp] at P0
  have m16 := ring_now HK.out R0.out
  clear hk
  go_enter Try.func6, Try.ntmps6
  go_wp2_with (with_reducible show wpList _ _ _ (⟨some 17, _, _, _, _, _⟩ :: _) _ _; go_loud (refine wpList_load_mid rfl 36 (.tmp 16) rfl w.heap.size 0 rfl (u8s key) _ (ring_range HK.out R0.out) Try.underlying36 rfl (by rw [show (u8s key).length = 16 from by simp [u8s, HK.out]]; kernel_rfl) ?_))
  generalize ((w.alloc (.cells (rcs key n) 38)).alloc (.cells #[.int .i64 (vv : Int), .int .i64 (sl : Int)] 41)) = V at *
  generalize w.heap.size + 1 = gp at *
  clear m16
  refine (hnew key HK.out n _).mono ?_
  rintro e w1 ⟨rfl, hb⟩
  have R1 := Lib.hid (R0.out.below hb R0.out.lt)
  have P1 := Lib.hid (P0.out.below hb P0.out.lt)
  have HB1 := Lib.hid (HB0.out.trans (hb.mono HB0.out.size))
  clear hb R0 P0 HB0
  have J1 := Lib.hid (Is.new w1 45 #[.int .u8 0, .int .u8 0, .int .u8 0, .int .u8 0, .int .u8 0, .int .u8 0, .int .u8 0, .int .u8 0, .int .u8 0, .int .u8 0, .int .u8 0, .int .u8 0, .int .u8 0, .int .u8 0, .int .u8 0, .int .u8 0, .int .u64 0])
  have hz := HB1.out.size
  have HB2 := Lib.hid (below_setRow (HB1.out.alloc hz (.cells #[.int .u8 0, .int .u8 0, .int .u8 0, .int .u8 0, .int .u8 0, .int .u8 0, .int .u8 0, .int .u8 0, .int .u8 0, .int .u8 0, .int .u8 0, .int .u8 0, .int .u8 0, .int .u8 0, .int .u8 0, .int .u8 0, .int .u64 0] 45)) (g := w1.heap.size) hz (rcs key n))
  have G2 := Lib.hid (is_row (cs' := (rcs key n)) J1.out)
  have R2 := Lib.hid (show Is ((w1.alloc (.cells #[.int .u8 0, .int .u8 0, .int .u8 0, .int .u8 0, .int .u8 0, .int .u8 0, .int .u8 0, .int .u8 0, .int .u8 0, .int .u8 0, .int .u8 0, .int .u8 0, .int .u8 0, .int .u8 0, .int .u8 0, .int .u8 0, .int .u64 0] 45)).setRow w1.heap.size (rcs key n)) w.heap.size 38 (rcs key n) from (setRow_other _ _ _ _ (by have := R1.out.lt; omega)).trans (R1.out.alloc _))
  have P2 := Lib.hid (show Is ((w1.alloc (.cells #[.int .u8 0, .int .u8 0, .int .u8 0, .int .u8 0, .int .u8 0, .int .u8 0, .int .u8 0, .int .u8 0, .int .u8 0, .int .u8 0, .int .u8 0, .int .u8 0, .int .u8 0, .int .u8 0, .int .u8 0, .int .u8 0, .int .u64 0] 45)).setRow w1.heap.size (rcs key n)) gp 41 #[.int .i64 (vv : Int), .int .i64 (sl : Int)] from (setRow_other _ _ _ _ (by have := P1.out.lt; omega)).trans (P1.out.alloc _))
  clear R1 P1 HB1 hz
  go_wp2_with (first
    | ((with_reducible show wpList _ _ _ (⟨none, _, _, _, _, _⟩ :: _) _ _)
       go_loud (refine Go.wpList_store_row rfl 45 (.tmp 7) (.tmp 20) rfl w1.heap.size (rcs key n) rfl rfl 45 #[.int .u8 0, .int .u8 0, .int .u8 0, .int .u8 0, .int .u8 0, .int .u8 0, .int .u8 0, .int .u8 0, .int .u8 0, .int .u8 0, .int .u8 0, .int .u8 0, .int .u8 0, .int .u8 0, .int .u8 0, .int .u8 0, .int .u64 0] (is_raw J1.out) (by rw [RSZ.out]; kernel_rfl) (by rw [RSZ.out]; simp) RONE.out ?_)
       generalize ((w1.alloc (.cells #[.int .u8 0, .int .u8 0, .int .u8 0, .int .u8 0, .int .u8 0, .int .u8 0, .int .u8 0, .int .u8 0, .int .u8 0, .int .u8 0, .int .u8 0, .int .u8 0, .int .u8 0, .int .u8 0, .int .u8 0, .int .u8 0, .int .u64 0] 45)).setRow w1.heap.size (rcs key n)) = X at *
       generalize w1.heap.size = g7 at *
       have a0 := P2.out.cell 0
       have a1 := P2.out.cell 1
       simp at a0 a1)
    | (with_reducible show wpList _ _ _ (⟨some 22, _, _, _, _, _⟩ :: _) _ _; go_loud (refine Go.wpList_load_row rfl 45 (.tmp 7) rfl g7 rfl 45 (rcs key n) (0, 0) _ (is_raw G2.out) Try.underlying45 rfl (by rw [RSZ.out]; kernel_rfl) ?_)))
  clear a0 a1 J1
  refine (unhide MT _).mono ?_
  rintro e w3 ⟨v8, rfl, hb, hv8⟩
  obtain ⟨A8, c8, rfl⟩ := hv8.shape
  have I3 := hide hv8
  clear hv8
  have R3 := Lib.hid (R2.out.below hb R2.out.lt)
  have P3 := Lib.hid (P2.out.below hb P2.out.lt)
  have G3 := Lib.hid (G2.out.below hb G2.out.lt)
  have HB3 := Lib.hid (HB2.out.trans (hb.mono HB2.out.size))
  clear hb R2 P2 G2 HB2
  have a0 := P3.out.cell 0; have a1 := P3.out.cell 1
  simp at a0 a1
  go_wp2_with fail
  refine (unhide RT _).mono ?_
  rintro e w4 ⟨rfl, rfl⟩
  clear a0 a1
  go_wp2_with fail
  refine Lin.wp_region_lin Lin.keeps (n := 109)  (fun slotq => match slotq with | 45 => Lin.Spec.val (.int .i64 0) | 46 => Lin.Spec.val (.bool false) | 47 => Lin.Spec.val (.bool false) | 48 => Lin.Spec.val (.slice A8 12 c8) | 49 => Lin.Spec.val (.string (strOfNums ID)) | 50 => Lin.Spec.val (.agg (rcs key n)) | 51 => Lin.Spec.val (.pointer (some ⟨gp, 0, none⟩)) | 52 => Lin.Spec.val (.int .i64 (vv : Int)) | 53 => Lin.Spec.val (.pointer (some ⟨gp, 1, none⟩)) | 54 => Lin.Spec.val (.int .i64 (sl : Int)) | 55 => Lin.Spec.val (.int .u64 (on : Int)) | 56 => Lin.Spec.sl ID 12 | 57 => Lin.Spec.val (.string (strOfNums ID)) | 58 => Lin.Spec.val (.bool false) | 59 => Lin.Spec.val (.bool false) | _ => Lin.Spec.any) (by kernel_rfl) rfl (by kernel_rfl) ⟨?_, ?_, ?_, ?_, ?_, ?_, ?_, ?_, ?_, ?_, ?_, ?_, ?_, ?_, ?_, trivial⟩ ?_
  · intro ρ wq hb ho hc hd
    have hC : ∀ v, ρ (.const v) = v := fun v => hc _ (by intro t e; cases e)
    have hF : ∀ f, ρ (.func f) = .func (.func f) #[] #[] := fun f => hc _ (by intro t e; cases e)
    have h9 : ρ (.tmp 9) = .int .i64 0 := ho 9 (by kernel_rfl)
    exact Lin.Runs.value Lin.keeps (Lin.exec_move rfl) h9
  · intro ρ wq hb ho hc hd
    have hC : ∀ v, ρ (.const v) = v := fun v => hc _ (by intro t e; cases e)
    have hF : ∀ f, ρ (.func f) = .func (.func f) #[] #[] := fun f => hc _ (by intro t e; cases e)
    have h45 : ρ (.tmp 45) = .int .i64 0 := hd 45 (by kernel_rfl)
    exact Lin.Runs.value Lin.keeps (v := .bool false) (by simp [execOp, go_sem, hC, h45]) rfl
  · intro ρ wq hb ho hc hd
    have hC : ∀ v, ρ (.const v) = v := fun v => hc _ (by intro t e; cases e)
    have hF : ∀ f, ρ (.func f) = .func (.func f) #[] #[] := fun f => hc _ (by intro t e; cases e)
    have h46 : ρ (.tmp 46) = .bool false := hd 46 (by kernel_rfl)
    exact Lin.Runs.value Lin.keeps (v := .bool false) (by simp [execOp, go_sem, h46]) rfl
  · intro ρ wq hb ho hc hd
    have hC : ∀ v, ρ (.const v) = v := fun v => hc _ (by intro t e; cases e)
    have hF : ∀ f, ρ (.func f) = .func (.func f) #[] #[] := fun f => hc _ (by intro t e; cases e)
    intro t ht; cases (show some 47 = some t from ht)
    refine ⟨fun _ => ?_, fun hn => absurd (hd 47 (by kernel_rfl)) hn⟩
    have h8 : ρ (.tmp 8) = .slice A8 12 c8 := ho 8 (by kernel_rfl)
    exact Lin.Runs.value Lin.keeps (Lin.exec_move rfl) h8
  · intro ρ wq hb ho hc hd
    have hC : ∀ v, ρ (.const v) = v := fun v => hc _ (by intro t e; cases e)
    have hF : ∀ f, ρ (.func f) = .func (.func f) #[] #[] := fun f => hc _ (by intro t e; cases e)
    intro t ht; cases (show some 47 = some t from ht)
    refine ⟨fun _ => ?_, fun hn => absurd (hd 47 (by kernel_rfl)) hn⟩
    have h48 : ρ (.tmp 48) = .slice A8 12 c8 := hd 48 (by kernel_rfl)
    exact Lin.Runs.value Lin.keeps (Lin.exec_convert rfl (by rw [h48]; exact (I3.out.st hb).conv)) rfl
  · intro ρ wq hb ho hc hd
    have hC : ∀ v, ρ (.const v) = v := fun v => hc _ (by intro t e; cases e)
    have hF : ∀ f, ρ (.func f) = .func (.func f) #[] #[] := fun f => hc _ (by intro t e; cases e)
    intro t ht; cases (show some 47 = some t from ht)
    refine ⟨fun _ => ?_, fun hn => absurd (hd 47 (by kernel_rfl)) hn⟩
    have h3 : ρ (.tmp 3) = .pointer (some ⟨w.heap.size, 0, none⟩) := ho 3 (by kernel_rfl)
    exact Lin.Runs.load_row Lin.keeps 38 (.tmp 3) rfl w.heap.size h3 38 (rcs key n) (R3.out.below hb R3.out.lt) _ Try.underlying38 rfl (by rw [RSZ.out]; kernel_rfl) rfl
  · intro ρ wq hb ho hc hd
    have hC : ∀ v, ρ (.const v) = v := fun v => hc _ (by intro t e; cases e)
    have hF : ∀ f, ρ (.func f) = .func (.func f) #[] #[] := fun f => hc _ (by intro t e; cases e)
    intro t ht; cases (show some 47 = some t from ht)
    refine ⟨fun _ => ?_, fun hn => absurd (hd 47 (by kernel_rfl)) hn⟩
    have h4 : ρ (.tmp 4) = .pointer (some ⟨gp, 0, none⟩) := ho 4 (by kernel_rfl)
    exact Lin.Runs.value Lin.keeps (v := .pointer (some ⟨gp, 0, none⟩)) (by simp [execOp, go_sem, h4]) rfl
  · intro ρ wq hb ho hc hd
    have hC : ∀ v, ρ (.const v) = v := fun v => hc _ (by intro t e; cases e)
    have hF : ∀ f, ρ (.func f) = .func (.func f) #[] #[] := fun f => hc _ (by intro t e; cases e)
    intro t ht; cases (show some 47 = some t from ht)
    refine ⟨fun _ => ?_, fun hn => absurd (hd 47 (by kernel_rfl)) hn⟩
    have h51 : ρ (.tmp 51) = .pointer (some ⟨gp, 0, none⟩) := hd 51 (by kernel_rfl)
    have hg8 := P3.out.below hb P3.out.lt
    have m0 := hg8.cell 0
    simp at m0
    exact Lin.Runs.value Lin.keeps (v := .int .i64 (vv : Int)) (by simp [execOp, go_sem, h51, m0]) rfl
  · intro ρ wq hb ho hc hd
    have hC : ∀ v, ρ (.const v) = v := fun v => hc _ (by intro t e; cases e)
    have hF : ∀ f, ρ (.func f) = .func (.func f) #[] #[] := fun f => hc _ (by intro t e; cases e)
    intro t ht; cases (show some 47 = some t from ht)
    refine ⟨fun _ => ?_, fun hn => absurd (hd 47 (by kernel_rfl)) hn⟩
    have h4 : ρ (.tmp 4) = .pointer (some ⟨gp, 0, none⟩) := ho 4 (by kernel_rfl)
    exact Lin.Runs.value Lin.keeps (v := .pointer (some ⟨gp, 1, none⟩)) (by simp [execOp, go_sem, h4]) rfl
  · intro ρ wq hb ho hc hd
    have hC : ∀ v, ρ (.const v) = v := fun v => hc _ (by intro t e; cases e)
    have hF : ∀ f, ρ (.func f) = .func (.func f) #[] #[] := fun f => hc _ (by intro t e; cases e)
    intro t ht; cases (show some 47 = some t from ht)
    refine ⟨fun _ => ?_, fun hn => absurd (hd 47 (by kernel_rfl)) hn⟩
    have h53 : ρ (.tmp 53) = .pointer (some ⟨gp, 1, none⟩) := hd 53 (by kernel_rfl)
    have hg8 := P3.out.below hb P3.out.lt
    have m1 := hg8.cell 1
    simp at m1
    exact Lin.Runs.value Lin.keeps (v := .int .i64 (sl : Int)) (by simp [execOp, go_sem, h53, m1]) rfl
  · intro ρ wq hb ho hc hd
    have hC : ∀ v, ρ (.const v) = v := fun v => hc _ (by intro t e; cases e)
    have hF : ∀ f, ρ (.func f) = .func (.func f) #[] #[] := fun f => hc _ (by intro t e; cases e)
    intro t ht; cases (show some 47 = some t from ht)
    refine ⟨fun _ => ?_, fun hn => absurd (hd 47 (by kernel_rfl)) hn⟩
    have h2 : ρ (.tmp 2) = .int .u64 (on : Int) := ho 2 (by kernel_rfl)
    exact Lin.Runs.value Lin.keeps (Lin.exec_move rfl) h2
  · intro ρ wq hb ho hc hd
    have hC : ∀ v, ρ (.const v) = v := fun v => hc _ (by intro t e; cases e)
    have hF : ∀ f, ρ (.func f) = .func (.func f) #[] #[] := fun f => hc _ (by intro t e; cases e)
    intro t ht; cases (show some 47 = some t from ht)
    refine ⟨fun _ => ?_, fun hn => absurd (hd 47 (by kernel_rfl)) hn⟩
    have h50 : ρ (.tmp 50) = .agg (rcs key n) := hd 50 (by kernel_rfl)
    have h52 : ρ (.tmp 52) = .int .i64 (vv : Int) := hd 52 (by kernel_rfl)
    have h54 : ρ (.tmp 54) = .int .i64 (sl : Int) := hd 54 (by kernel_rfl)
    have h55 : ρ (.tmp 55) = .int .u64 (on : Int) := hd 55 (by kernel_rfl)
    exact Lin.Runs.call Lin.keeps (f := 33) (args := #[.agg (rcs key n), .int .i64 (vv : Int), .int .i64 (sl : Int), .int .u64 (on : Int)]) (by simp [execOp, go_sem, hF, h50, h52, h54, h55]) ((unhide RMT wq).mono fun e w9 ⟨v9, h1, h2, h3⟩ => ⟨v9, h1, h2, h3⟩)
  · intro ρ wq hb ho hc hd
    have hC : ∀ v, ρ (.const v) = v := fun v => hc _ (by intro t e; cases e)
    have hF : ∀ f, ρ (.func f) = .func (.func f) #[] #[] := fun f => hc _ (by intro t e; cases e)
    intro t ht; cases (show some 47 = some t from ht)
    refine ⟨fun _ => ?_, fun hn => absurd (hd 47 (by kernel_rfl)) hn⟩
    have h56 := hd 56 (by kernel_rfl)
    exact Lin.Runs.value Lin.keeps (Lin.exec_convert rfl h56.conv) rfl
  · intro ρ wq hb ho hc hd
    have hC : ∀ v, ρ (.const v) = v := fun v => hc _ (by intro t e; cases e)
    have hF : ∀ f, ρ (.func f) = .func (.func f) #[] #[] := fun f => hc _ (by intro t e; cases e)
    intro t ht; cases (show some 47 = some t from ht)
    refine ⟨fun _ => ?_, fun hn => absurd (hd 47 (by kernel_rfl)) hn⟩
    have h49 : ρ (.tmp 49) = .string (strOfNums ID) := hd 49 (by kernel_rfl)
    have h57 : ρ (.tmp 57) = .string (strOfNums ID) := hd 57 (by kernel_rfl)
    exact Lin.Runs.value Lin.keeps (v := .bool false) (by simp [execOp, go_sem, h49, h57]) rfl
  · intro ρ wq hb ho hc hd
    have hC : ∀ v, ρ (.const v) = v := fun v => hc _ (by intro t e; cases e)
    have hF : ∀ f, ρ (.func f) = .func (.func f) #[] #[] := fun f => hc _ (by intro t e; cases e)
    have h47 : ρ (.tmp 47) = .bool false := hd 47 (by kernel_rfl)
    have h58 : ρ (.tmp 58) = .bool false := hd 58 (by kernel_rfl)
    exact Lin.Runs.value Lin.keeps (v := .bool false) (by simp [execOp, go_sem, hC, h47, h58]) rfl
  · intro vals w4 hb hv
    have ee : vals 59 = .bool false := hv 59 (by kernel_rfl)
    clear hv
    have R4 := Lib.hid (R3.out.below hb R3.out.lt)
    have P4 := Lib.hid (P3.out.below hb P3.out.lt)
    have G4 := Lib.hid (G3.out.below hb G3.out.lt)
    have I4 := hide (I3.out.st hb)
    have HB4 := Lib.hid (HB3.out.trans (hb.mono HB3.out.size))
    clear hb R3 P3 G3 HB3 I3
    simp only [Lin.putAll, Option.getD_some]
    rw [ee]
    clear ee
    go_simp
    generalize vals = vq
    go_wp2_with (with_reducible show wpList _ _ _ (⟨some 61, _, _, _, _, _⟩ :: _) _ _; go_loud (refine Go.wpList_load_row rfl 45 (.tmp 7) rfl g7 rfl 45 (rcs key n) (0, 0) _ (is_raw G4.out) Try.underlying45 rfl (by rw [RSZ.out]; kernel_rfl) ?_))
    refine (unhide RP1 _ _ _ I4.out).mono ?_
    rintro e w5 ⟨rfl, hb⟩
    have R5 := Lib.hid (R4.out.below hb R4.out.lt)
    have P5 := Lib.hid (P4.out.below hb P4.out.lt)
    have G5 := Lib.hid (G4.out.below hb G4.out.lt)
    have I5 := hide (I4.out.st hb)
    have HB5 := Lib.hid (HB4.out.trans (hb.mono HB4.out.size))
    clear hb R4 P4 G4 HB4 I4
    have A5 := Lib.hid (Is.new w5 41 #[.int .i64 (vv : Int), .int .i64 (sl : Int)])
    have Ra := Lib.hid (R5.out.alloc (.cells #[.int .i64 (vv : Int), .int .i64 (sl : Int)] 41))
    have Pa := Lib.hid (P5.out.alloc (.cells #[.int .i64 (vv : Int), .int .i64 (sl : Int)] 41))
    have Ga := Lib.hid (G5.out.alloc (.cells #[.int .i64 (vv : Int), .int .i64 (sl : Int)] 41))
    have Ia := hide (IsB.alloc I5.out (.cells #[.int .i64 (vv : Int), .int .i64 (sl : Int)] 41)); have HBa := Lib.hid (HB5.out.alloc HB5.out.size (.cells #[.int .i64 (vv : Int), .int .i64 (sl : Int)] 41))
    clear R5 P5 G5 I5 HB5
    go_wp2_with (with_reducible show wpList _ _ _ (⟨some 68, _, _, _, _, _⟩ :: _) _ _; go_loud (refine Go.wpList_load_row rfl 45 (.tmp 7) rfl g7 rfl 45 (rcs key n) (0, 0) _ (is_raw Ga.out) Try.underlying45 rfl (by rw [RSZ.out]; kernel_rfl) ?_))
    generalize w5.alloc (.cells #[.int .i64 (vv : Int), .int .i64 (sl : Int)] 41) = V5 at *
    generalize w5.heap.size = g10 at *
    have Aa := A5
    clear A5
    refine (unhide NXT _).mono ?_
    rintro e w6 ⟨rfl, hb⟩
    have R6 := Lib.hid (Ra.out.below hb Ra.out.lt)
    have P6 := Lib.hid (Pa.out.below hb Pa.out.lt)
    have A6 := Lib.hid (Aa.out.below hb Aa.out.lt)
    have I6 := hide (Ia.out.st hb)
    have HB6 := Lib.hid (HBa.out.trans (hb.mono HBa.out.size))
    clear hb Ra Pa Aa HBa Ia
    go_wp2_with fail
    refine (unhide RP2 _ _ _ I6.out).mono ?_
    rintro e w7 ⟨rfl, hb⟩
    have R7 := Lib.hid (R6.out.below hb R6.out.lt)
    have P7 := Lib.hid (P6.out.below hb P6.out.lt)
    have A7 := Lib.hid (A6.out.below hb A6.out.lt)
    have HB7 := Lib.hid (HB6.out.trans (hb.mono HB6.out.size))
    clear hb R6 P6 A6 HB6
    have B8 := Lib.hid (Is.new w7 41 #[.int .i64 a2, .int .i64 b2])
    have R8 := Lib.hid (R7.out.alloc (.cells #[.int .i64 a2, .int .i64 b2] 41))
    have P8 := Lib.hid (P7.out.alloc (.cells #[.int .i64 a2, .int .i64 b2] 41))
    have A8 := Lib.hid (A7.out.alloc (.cells #[.int .i64 a2, .int .i64 b2] 41))
    have HB8 := Lib.hid (HB7.out.alloc HB7.out.size (.cells #[.int .i64 a2, .int .i64 b2] 41))
    clear R7 P7 A7 HB7
    have m16 := ring_now HK.out R8.out
    have a0 := P8.out.cell 0; have a1 := P8.out.cell 1; have b0 := A8.out.cell 0; have b1 := A8.out.cell 1; have d0 := B8.out.cell 0; have d1 := B8.out.cell 1
    simp at a0 a1 b0 b1 d0 d1
    go_wp2_with fail
    refine (awake13 _).mono ?_
    rintro e wz ⟨rfl, hb⟩
    have HBZ := Lib.hid (HB8.out.trans (hb.mono HB8.out.size))
    clear hb
    go_wp2_with fail
    go_ret
    exact ⟨rfl, HBZ.out⟩
set_option maxHeartbeats 2000000 in
theorem makes_norm (key : List Int) (hk : key.length = 16) (ho : Octets key) (n : Nat) (hn : n < 18446744073709551616) (vv sl on : Nat) (hvv : vv < 8) (hsl : sl < 4096) (hon : on < 1099511627776) (hm : n + 1 < 18446744073709551616) (m : Nat) (hw : IntKind.u64.wrap ((n : Int) + 1) = (m : Int)) (wd : Nat) (hwd : n % 2 * 32768 + ((vv * 4096 + sl) ^^^ mkc (dvk key n) (be on 5)) = wd)
    (RP1 : Hid (∀ (A : Option Addr) (c : Nat) (W : World), IsB (idl (dvk key n) on wd) 12 (.slice A 12 c) W → Calls Try.prog 29 #[.agg (rcs key n), .slice A 12 c] W fun e w' => e = .returned (.tuple #[.agg #[.int .i64 (vv : Int), .int .i64 (sl : Int)], .int .u64 (on : Int), .int .i64 0]) ∧ Below W.heap.size W w'))
    (RP2 : Hid (∀ (A : Option Addr) (c : Nat) (W : World), IsB (idl (dvk key n) on wd) 12 (.slice A 12 c) W → Calls Try.prog 29 #[.agg (rcs key m), .slice A 12 c] W fun e w' => e = .returned (.tuple #[.agg #[.int .i64 (vv : Int), .int .i64 (sl : Int)], .int .u64 (on : Int), .int .i64 0]) ∧ Below W.heap.size W w')) (w : World) :
    Calls Try.prog 6 #[.agg (rcs key n), .agg #[.int .i64 (vv : Int), .int .i64 (sl : Int)], .int .u64 (on : Int)] w fun e w' => e = .returned (.bool true) ∧ Below w.heap.size w w' := by
  have hmax : ((n : Int) == 18446744073709551615) = false := by rw [beq_eq_false_iff_ne]; omega
  have MT := hide (fun W => cmake_yes key hk ho n hn vv sl on hvv hsl hon wd hwd W)
  have RMT := hide (fun W => rmake_yes key hk ho n hn vv sl on hvv hsl hon wd hwd W)
  have RT := hide (fun W => rright13 (vv : Int) (sl : Int) on W)
  rw [cright_nat vv sl hvv hsl, decide_eq_true hon, Bool.and_self] at RT
  have NXT := hide (fun W => hnext key hk n m hw W)
  clear hvv hsl hon hw hwd hm hn ho
  generalize idl (dvk key n) on wd = ID at *
  have HK := Lib.hid hk; have RSZ := Lib.hid (rcs_size hk n); have RONE := Lib.hid (rcs_one key n)
  have HB0 := Lib.hid (show Below w.heap.size w ((w.alloc (.cells (rcs key n) 38)).alloc (.cells #[.int .i64 (vv : Int), .int .i64 (sl : Int)] 41)) from ((Below.refl _ _).alloc (Nat.le_refl _) _).alloc (by simp) _)
  have R0 := Lib.hid ((Is.new w 38 (rcs key n)).alloc (.cells #[.int .i64 (vv : Int), .int .i64 (sl : Int)] 41))
  have P0 := Lib.hid (Is.new (w.alloc (.cells (rcs key n) 38)) 41 #[.int .i64 (vv : Int), .int .i64 (sl : Int)])
  rw [show (w.alloc (.cells (rcs key n) 38)).heap.size = w.heap.size + 1 from by simp] at P0
  have m16 := ring_now HK.out R0.out
  clear hk
  go_enter Try.func6, Try.ntmps6
  go_wp2_with (with_reducible show wpList _ _ _ (⟨some 17, _, _, _, _, _⟩ :: _) _ _; go_loud (refine wpList_load_mid rfl 36 (.tmp 16) rfl w.heap.size 0 rfl (u8s key) _ (ring_range HK.out R0.out) Try.underlying36 rfl (by rw [show (u8s key).length = 16 from by simp [u8s, HK.out]]; kernel_rfl) ?_))
  generalize ((w.alloc (.cells (rcs key n) 38)).alloc (.cells #[.int .i64 (vv : Int), .int .i64 (sl : Int)] 41)) = V at *
  generalize w.heap.size + 1 = gp at *
  clear m16
  refine (hnew key HK.out n _).mono ?_
  rintro e w1 ⟨rfl, hb⟩
  have R1 := Lib.hid (R0.out.below hb R0.out.lt)
  have P1 := Lib.hid (P0.out.below hb P0.out.lt)
  have HB1 := Lib.hid (HB0.out.trans (hb.mono HB0.out.size))
  clear hb R0 P0 HB0
  have J1 := Lib.hid (Is.new w1 45 #[.int .u8 0, .int .u8 0, .int .u8 0, .int .u8 0, .int .u8 0, .int .u8 0, .int .u8 0, .int .u8 0, .int .u8 0, .int .u8 0, .int .u8 0, .int .u8 0, .int .u8 0, .int .u8 0, .int .u8 0, .int .u8 0, .int .u64 0])
  have hz := HB1.out.size
  have HB2 := Lib.hid (below_setRow (HB1.out.alloc hz (.cells #[.int .u8 0, .int .u8 0, .int .u8 0, .int .u8 0, .int .u8 0, .int .u8 0, .int .u8 0, .int .u8 0, .int .u8 0, .int .u8 0, .int .u8 0, .int .u8 0, .int .u8 0, .int .u8 0, .int .u8 0, .int .u8 0, .int .u64 0] 45)) (g := w1.heap.size) hz (rcs key n))
  have G2 := Lib.hid (is_row (cs' := (rcs key n)) J1.out)
  have R2 := Lib.hid (show Is ((w1.alloc (.cells #[.int .u8 0, .int .u8 0, .int .u8 0, .int .u8 0, .int .u8 0, .int .u8 0, .int .u8 0, .int .u8 0, .int .u8 0, .int .u8 0, .int .u8 0, .int .u8 0, .int .u8 0, .int .u8 0, .int .u8 0, .int .u8 0, .int .u64 0] 45)).setRow w1.heap.size (rcs key n)) w.heap.size 38 (rcs key n) from (setRow_other _ _ _ _ (by have := R1.out.lt; omega)).trans (R1.out.alloc _))
  have P2 := Lib.hid (show Is ((w1.alloc (.cells #[.int .u8 0, .int .u8 0, .int .u8 0, .int .u8 0, .int .u8 0, .int .u8 0, .int .u8 0, .int .u8 0, .int .u8 0, .int .u8 0, .int .u8 0, .int .u8 0, .int .u8 0, .int .u8 0, .int .u8 0, .int .u8 0, .int .u64 0] 45)).setRow w1.heap.size (rcs key n)) gp 41 #[.int .i64 (vv : Int), .int .i64 (sl : Int)] from (setRow_other _ _ _ _ (by have := P1.out.lt; omega)).trans (P1.out.alloc _))
  clear R1 P1 HB1 hz
  go_wp2_with (first
    | ((with_reducible show wpList _ _ _ (⟨none, _, _, _, _, _⟩ :: _) _ _)
       go_loud (refine Go.wpList_store_row rfl 45 (.tmp 7) (.tmp 20) rfl w1.heap.size (rcs key n) rfl rfl 45 #[.int .u8 0, .int .u8 0, .int .u8 0, .int .u8 0, .int .u8 0, .int .u8 0, .int .u8 0, .int .u8 0, .int .u8 0, .int .u8 0, .int .u8 0, .int .u8 0, .int .u8 0, .int .u8 0, .int .u8 0, .int .u8 0, .int .u64 0] (is_raw J1.out) (by rw [RSZ.out]; kernel_rfl) (by rw [RSZ.out]; simp) RONE.out ?_)
       generalize ((w1.alloc (.cells #[.int .u8 0, .int .u8 0, .int .u8 0, .int .u8 0, .int .u8 0, .int .u8 0, .int .u8 0, .int .u8 0, .int .u8 0, .int .u8 0, .int .u8 0, .int .u8 0, .int .u8 0, .int .u8 0, .int .u8 0, .int .u8 0, .int .u64 0] 45)).setRow w1.heap.size (rcs key n)) = X at *
       generalize w1.heap.size = g7 at *
       have a0 := P2.out.cell 0
       have a1 := P2.out.cell 1
       simp at a0 a1)
    | (with_reducible show wpList _ _ _ (⟨some 22, _, _, _, _, _⟩ :: _) _ _; go_loud (refine Go.wpList_load_row rfl 45 (.tmp 7) rfl g7 rfl 45 (rcs key n) (0, 0) _ (is_raw G2.out) Try.underlying45 rfl (by rw [RSZ.out]; kernel_rfl) ?_)))
  clear a0 a1 J1
  refine (unhide MT _).mono ?_
  rintro e w3 ⟨v8, rfl, hb, hv8⟩
  obtain ⟨A8, c8, rfl⟩ := hv8.shape
  have I3 := hide hv8
  clear hv8
  have R3 := Lib.hid (R2.out.below hb R2.out.lt)
  have P3 := Lib.hid (P2.out.below hb P2.out.lt)
  have G3 := Lib.hid (G2.out.below hb G2.out.lt)
  have HB3 := Lib.hid (HB2.out.trans (hb.mono HB2.out.size))
  clear hb R2 P2 G2 HB2
  have a0 := P3.out.cell 0; have a1 := P3.out.cell 1
  simp at a0 a1
  go_wp2_with fail
  refine (unhide RT _).mono ?_
  rintro e w4 ⟨rfl, rfl⟩
  clear a0 a1
  go_wp2_with fail
  refine Lin.wp_region_lin Lin.keeps (n := 109)  (fun slotq => match slotq with | 45 => Lin.Spec.val (.int .i64 0) | 46 => Lin.Spec.val (.bool false) | 47 => Lin.Spec.val (.bool false) | 48 => Lin.Spec.val (.slice A8 12 c8) | 49 => Lin.Spec.val (.string (strOfNums ID)) | 50 => Lin.Spec.val (.agg (rcs key n)) | 51 => Lin.Spec.val (.pointer (some ⟨gp, 0, none⟩)) | 52 => Lin.Spec.val (.int .i64 (vv : Int)) | 53 => Lin.Spec.val (.pointer (some ⟨gp, 1, none⟩)) | 54 => Lin.Spec.val (.int .i64 (sl : Int)) | 55 => Lin.Spec.val (.int .u64 (on : Int)) | 56 => Lin.Spec.sl ID 12 | 57 => Lin.Spec.val (.string (strOfNums ID)) | 58 => Lin.Spec.val (.bool false) | 59 => Lin.Spec.val (.bool false) | _ => Lin.Spec.any) (by kernel_rfl) rfl (by kernel_rfl) ⟨?_, ?_, ?_, ?_, ?_, ?_, ?_, ?_, ?_, ?_, ?_, ?_, ?_, ?_, ?_, trivial⟩ ?_
  · intro ρ wq hb ho hc hd
    have hC : ∀ v, ρ (.const v) = v := fun v => hc _ (by intro t e; cases e)
    have hF : ∀ f, ρ (.func f) = .func (.func f) #[] #[] := fun f => hc _ (by intro t e; cases e)
    have h9 : ρ (.tmp 9) = .int .i64 0 := ho 9 (by kernel_rfl)
    exact Lin.Runs.value Lin.keeps (Lin.exec_move rfl) h9
  · intro ρ wq hb ho hc hd
    have hC : ∀ v, ρ (.const v) = v := fun v => hc _ (by intro t e; cases e)
    have hF : ∀ f, ρ (.func f) = .func (.func f) #[] #[] := fun f => hc _ (by intro t e; cases e)
    have h45 : ρ (.tmp 45) = .int .i64 0 := hd 45 (by kernel_rfl)
    exact Lin.Runs.value Lin.keeps (v := .bool false) (by simp [execOp, go_sem, hC, h45]) rfl
  · intro ρ wq hb ho hc hd
    have hC : ∀ v, ρ (.const v) = v := fun v => hc _ (by intro t e; cases e)
    have hF : ∀ f, ρ (.func f) = .func (.func f) #[] #[] := fun f => hc _ (by intro t e; cases e)
    have h46 : ρ (.tmp 46) = .bool false := hd 46 (by kernel_rfl)
    exact Lin.Runs.value Lin.keeps (v := .bool false) (by simp [execOp, go_sem, h46]) rfl
  · intro ρ wq hb ho hc hd
    have hC : ∀ v, ρ (.const v) = v := fun v => hc _ (by intro t e; cases e)
    have hF : ∀ f, ρ (.func f) = .func (.func f) #[] #[] := fun f => hc _ (by intro t e; cases e)
    intro t ht; cases (show some 47 = some t from ht)
    refine ⟨fun _ => ?_, fun hn => absurd (hd 47 (by kernel_rfl)) hn⟩
    have h8 : ρ (.tmp 8) = .slice A8 12 c8 := ho 8 (by kernel_rfl)
    exact Lin.Runs.value Lin.keeps (Lin.exec_move rfl) h8
  · intro ρ wq hb ho hc hd
    have hC : ∀ v, ρ (.const v) = v := fun v => hc _ (by intro t e; cases e)
    have hF : ∀ f, ρ (.func f) = .func (.func f) #[] #[] := fun f => hc _ (by intro t e; cases e)
    intro t ht; cases (show some 47 = some t from ht)
    refine ⟨fun _ => ?_, fun hn => absurd (hd 47 (by kernel_rfl)) hn⟩
    have h48 : ρ (.tmp 48) = .slice A8 12 c8 := hd 48 (by kernel_rfl)
    exact Lin.Runs.value Lin.keeps (Lin.exec_convert rfl (by rw [h48]; exact (I3.out.st hb).conv)) rfl
  · intro ρ wq hb ho hc hd
    have hC : ∀ v, ρ (.const v) = v := fun v => hc _ (by intro t e; cases e)
    have hF : ∀ f, ρ (.func f) = .func (.func f) #[] #[] := fun f => hc _ (by intro t e; cases e)
    intro t ht; cases (show some 47 = some t from ht)
    refine ⟨fun _ => ?_, fun hn => absurd (hd 47 (by kernel_rfl)) hn⟩
    have h3 : ρ (.tmp 3) = .pointer (some ⟨w.heap.size, 0, none⟩) := ho 3 (by kernel_rfl)
    exact Lin.Runs.load_row Lin.keeps 38 (.tmp 3) rfl w.heap.size h3 38 (rcs key n) (R3.out.below hb R3.out.lt) _ Try.underlying38 rfl (by rw [RSZ.out]; kernel_rfl) rfl
  · intro ρ wq hb ho hc hd
    have hC : ∀ v, ρ (.const v) = v := fun v => hc _ (by intro t e; cases e)
    have hF : ∀ f, ρ (.func f) = .func (.func f) #[] #[] := fun f => hc _ (by intro t e; cases e)
    intro t ht; cases (show some 47 = some t from ht)
    refine ⟨fun _ => ?_, fun hn => absurd (hd 47 (by kernel_rfl)) hn⟩
    have h4 : ρ (.tmp 4) = .pointer (some ⟨gp, 0, none⟩) := ho 4 (by kernel_rfl)
    exact Lin.Runs.value Lin.keeps (v := .pointer (some ⟨gp, 0, none⟩)) (by simp [execOp, go_sem, h4]) rfl
  · intro ρ wq hb ho hc hd
    have hC : ∀ v, ρ (.const v) = v := fun v => hc _ (by intro t e; cases e)
    have hF : ∀ f, ρ (.func f) = .func (.func f) #[] #[] := fun f => hc _ (by intro t e; cases e)
    intro t ht; cases (show some 47 = some t from ht)
    refine ⟨fun _ => ?_, fun hn => absurd (hd 47 (by kernel_rfl)) hn⟩
    have h51 : ρ (.tmp 51) = .pointer (some ⟨gp, 0, none⟩) := hd 51 (by kernel_rfl)
    have hg8 := P3.out.below hb P3.out.lt
    have m0 := hg8.cell 0
    simp at m0
    exact Lin.Runs.value Lin.keeps (v := .int .i64 (vv : Int)) (by simp [execOp, go_sem, h51, m0]) rfl
  · intro ρ wq hb ho hc hd
    have hC : ∀ v, ρ (.const v) = v := fun v => hc _ (by intro t e; cases e)
    have hF : ∀ f, ρ (.func f) = .func (.func f) #[] #[] := fun f => hc _ (by intro t e; cases e)
    intro t ht; cases (show some 47 = some t from ht)
    refine ⟨fun _ => ?_, fun hn => absurd (hd 47 (by kernel_rfl)) hn⟩
    have h4 : ρ (.tmp 4) = .pointer (some ⟨gp, 0, none⟩) := ho 4 (by kernel_rfl)
    exact Lin.Runs.value Lin.keeps (v := .pointer (some ⟨gp, 1, none⟩)) (by simp [execOp, go_sem, h4]) rfl
  · intro ρ wq hb ho hc hd
    have hC : ∀ v, ρ (.const v) = v := fun v => hc _ (by intro t e; cases e)
    have hF : ∀ f, ρ (.func f) = .func (.func f) #[] #[] := fun f => hc _ (by intro t e; cases e)
    intro t ht; cases (show some 47 = some t from ht)
    refine ⟨fun _ => ?_, fun hn => absurd (hd 47 (by kernel_rfl)) hn⟩
    have h53 : ρ (.tmp 53) = .pointer (some ⟨gp, 1, none⟩) := hd 53 (by kernel_rfl)
    have hg8 := P3.out.below hb P3.out.lt
    have m1 := hg8.cell 1
    simp at m1
    exact Lin.Runs.value Lin.keeps (v := .int .i64 (sl : Int)) (by simp [execOp, go_sem, h53, m1]) rfl
  · intro ρ wq hb ho hc hd
    have hC : ∀ v, ρ (.const v) = v := fun v => hc _ (by intro t e; cases e)
    have hF : ∀ f, ρ (.func f) = .func (.func f) #[] #[] := fun f => hc _ (by intro t e; cases e)
    intro t ht; cases (show some 47 = some t from ht)
    refine ⟨fun _ => ?_, fun hn => absurd (hd 47 (by kernel_rfl)) hn⟩
    have h2 : ρ (.tmp 2) = .int .u64 (on : Int) := ho 2 (by kernel_rfl)
    exact Lin.Runs.value Lin.keeps (Lin.exec_move rfl) h2
  · intro ρ wq hb ho hc hd
    have hC : ∀ v, ρ (.const v) = v := fun v => hc _ (by intro t e; cases e)
    have hF : ∀ f, ρ (.func f) = .func (.func f) #[] #[] := fun f => hc _ (by intro t e; cases e)
    intro t ht; cases (show some 47 = some t from ht)
    refine ⟨fun _ => ?_, fun hn => absurd (hd 47 (by kernel_rfl)) hn⟩
    have h50 : ρ (.tmp 50) = .agg (rcs key n) := hd 50 (by kernel_rfl)
    have h52 : ρ (.tmp 52) = .int .i64 (vv : Int) := hd 52 (by kernel_rfl)
    have h54 : ρ (.tmp 54) = .int .i64 (sl : Int) := hd 54 (by kernel_rfl)
    have h55 : ρ (.tmp 55) = .int .u64 (on : Int) := hd 55 (by kernel_rfl)
    exact Lin.Runs.call Lin.keeps (f := 33) (args := #[.agg (rcs key n), .int .i64 (vv : Int), .int .i64 (sl : Int), .int .u64 (on : Int)]) (by simp [execOp, go_sem, hF, h50, h52, h54, h55]) ((unhide RMT wq).mono fun e w9 ⟨v9, h1, h2, h3⟩ => ⟨v9, h1, h2, h3⟩)
  · intro ρ wq hb ho hc hd
    have hC : ∀ v, ρ (.const v) = v := fun v => hc _ (by intro t e; cases e)
    have hF : ∀ f, ρ (.func f) = .func (.func f) #[] #[] := fun f => hc _ (by intro t e; cases e)
    intro t ht; cases (show some 47 = some t from ht)
    refine ⟨fun _ => ?_, fun hn => absurd (hd 47 (by kernel_rfl)) hn⟩
    have h56 := hd 56 (by kernel_rfl)
    exact Lin.Runs.value Lin.keeps (Lin.exec_convert rfl h56.conv) rfl
  · intro ρ wq hb ho hc hd
    have hC : ∀ v, ρ (.const v) = v := fun v => hc _ (by intro t e; cases e)
    have hF : ∀ f, ρ (.func f) = .func (.func f) #[] #[] := fun f => hc _ (by intro t e; cases e)
    intro t ht; cases (show some 47 = some t from ht)
    refine ⟨fun _ => ?_, fun hn => absurd (hd 47 (by kernel_rfl)) hn⟩
    have h49 : ρ (.tmp 49) = .string (strOfNums ID) := hd 49 (by kernel_rfl)
    have h57 : ρ (.tmp 57) = .string (strOfNums ID) := hd 57 (by kernel_rfl)
    exact Lin.Runs.value Lin.keeps (v := .bool false) (by simp [execOp, go_sem, h49, h57]) rfl
  · intro ρ wq hb ho hc hd
    have hC : ∀ v, ρ (.const v) = v := fun v => hc _ (by intro t e; cases e)
    have hF : ∀ f, ρ (.func f) = .func (.func f) #[] #[] := fun f => hc _ (by intro t e; cases e)
    have h47 : ρ (.tmp 47) = .bool false := hd 47 (by kernel_rfl)
    have h58 : ρ (.tmp 58) = .bool false := hd 58 (by kernel_rfl)
    exact Lin.Runs.value Lin.keeps (v := .bool false) (by simp [execOp, go_sem, hC, h47, h58]) rfl
  · intro vals w4 hb hv
    have ee : vals 59 = .bool false := hv 59 (by kernel_rfl)
    clear hv
    have R4 := Lib.hid (R3.out.below hb R3.out.lt)
    have P4 := Lib.hid (P3.out.below hb P3.out.lt)
    have G4 := Lib.hid (G3.out.below hb G3.out.lt)
    have I4 := hide (I3.out.st hb)
    have HB4 := Lib.hid (HB3.out.trans (hb.mono HB3.out.size))
    clear hb R3 P3 G3 HB3 I3
    simp only [Lin.putAll, Option.getD_some]
    rw [ee]
    clear ee
    go_simp
    generalize vals = vq
    go_wp2_with (with_reducible show wpList _ _ _ (⟨some 61, _, _, _, _, _⟩ :: _) _ _; go_loud (refine Go.wpList_load_row rfl 45 (.tmp 7) rfl g7 rfl 45 (rcs key n) (0, 0) _ (is_raw G4.out) Try.underlying45 rfl (by rw [RSZ.out]; kernel_rfl) ?_))
    refine (unhide RP1 _ _ _ I4.out).mono ?_
    rintro e w5 ⟨rfl, hb⟩
    have R5 := Lib.hid (R4.out.below hb R4.out.lt)
    have P5 := Lib.hid (P4.out.below hb P4.out.lt)
    have G5 := Lib.hid (G4.out.below hb G4.out.lt)
    have I5 := hide (I4.out.st hb)
    have HB5 := Lib.hid (HB4.out.trans (hb.mono HB4.out.size))
    clear hb R4 P4 G4 HB4 I4
    have A5 := Lib.hid (Is.new w5 41 #[.int .i64 (vv : Int), .int .i64 (sl : Int)])
    have Ra := Lib.hid (R5.out.alloc (.cells #[.int .i64 (vv : Int), .int .i64 (sl : Int)] 41))
    have Pa := Lib.hid (P5.out.alloc (.cells #[.int .i64 (vv : Int), .int .i64 (sl : Int)] 41))
    have Ga := Lib.hid (G5.out.alloc (.cells #[.int .i64 (vv : Int), .int .i64 (sl : Int)] 41))
    have Ia := hide (IsB.alloc I5.out (.cells #[.int .i64 (vv : Int), .int .i64 (sl : Int)] 41)); have HBa := Lib.hid (HB5.out.alloc HB5.out.size (.cells #[.int .i64 (vv : Int), .int .i64 (sl : Int)] 41))
    clear R5 P5 G5 I5 HB5
    go_wp2_with (with_reducible show wpList _ _ _ (⟨some 68, _, _, _, _, _⟩ :: _) _ _; go_loud (refine Go.wpList_load_row rfl 45 (.tmp 7) rfl g7 rfl 45 (rcs key n) (0, 0) _ (is_raw Ga.out) Try.underlying45 rfl (by rw [RSZ.out]; kernel_rfl) ?_))
    generalize w5.alloc (.cells #[.int .i64 (vv : Int), .int .i64 (sl : Int)] 41) = V5 at *
    generalize w5.heap.size = g10 at *
    have Aa := A5
    clear A5
    refine (unhide NXT _).mono ?_
    rintro e w6 ⟨rfl, hb⟩
    have R6 := Lib.hid (Ra.out.below hb Ra.out.lt)
    have P6 := Lib.hid (Pa.out.below hb Pa.out.lt)
    have A6 := Lib.hid (Aa.out.below hb Aa.out.lt)
    have I6 := hide (Ia.out.st hb)
    have HB6 := Lib.hid (HBa.out.trans (hb.mono HBa.out.size))
    clear hb Ra Pa Aa HBa Ia
    go_wp2_with fail
    refine (unhide RP2 _ _ _ I6.out).mono ?_
    rintro e w7 ⟨rfl, hb⟩
    have R7 := Lib.hid (R6.out.below hb R6.out.lt)
    have P7 := Lib.hid (P6.out.below hb P6.out.lt)
    have A7 := Lib.hid (A6.out.below hb A6.out.lt)
    have HB7 := Lib.hid (HB6.out.trans (hb.mono HB6.out.size))
    clear hb R6 P6 A6 HB6
    have B8 := Lib.hid (Is.new w7 41 #[.int .i64 (vv : Int), .int .i64 (sl : Int)])
    have R8 := Lib.hid (R7.out.alloc (.cells #[.int .i64 (vv : Int), .int .i64 (sl : Int)] 41))
    have P8 := Lib.hid (P7.out.alloc (.cells #[.int .i64 (vv : Int), .int .i64 (sl : Int)] 41))
    have A8 := Lib.hid (A7.out.alloc (.cells #[.int .i64 (vv : Int), .int .i64 (sl : Int)] 41))
    have HB8 := Lib.hid (HB7.out.alloc HB7.out.size (.cells #[.int .i64 (vv : Int), .int .i64 (sl : Int)] 41))
    clear R7 P7 A7 HB7
    have m16 := ring_now HK.out R8.out
    have a0 := P8.out.cell 0; have a1 := P8.out.cell 1; have b0 := A8.out.cell 0; have b1 := A8.out.cell 1; have d0 := B8.out.cell 0; have d1 := B8.out.cell 1
    simp at a0 a1 b0 b1 d0 d1
    go_wp2_with fail
    refine (awake13 _).mono ?_
    rintro e wz ⟨rfl, hb⟩
    have HBZ := Lib.hid (HB8.out.trans (hb.mono HB8.out.size))
    clear hb
    go_wp2_with fail
    go_ret
    exact ⟨rfl, HBZ.out⟩
/-- Whatever twelve bytes are, Read answers something. -/
theorem read_some (key : List Int) (hk : key.length = 16) (ho : Octets key) (n : Nat) (hn : n < 18446744073709551616) (L : List Int) (hlo : Octets L) (hL : L.length = 12) : ∃ a b o e0 : Int, ∀ (A : Option Addr) (c : Nat) (W : World), IsB L 12 (.slice A 12 c) W → Calls Try.prog 29 #[.agg (rcs key n), .slice A 12 c] W fun e w' => e = .returned (.tuple #[.agg #[.int .i64 a, .int .i64 b], .int .u64 o, .int .i64 e0]) ∧ Below W.heap.size W w' := by
  obtain ⟨wd, hw5, hwd⟩ := nw2_nat (L := L) (i := 5) (by omega) hlo
  obtain ⟨on, hon, _⟩ := nw_nat L 0 5
  cases hok : ato n ((wd / 32768 : Nat) : Int) with
  | false => exact ⟨_, _, _, _, fun A c W h => read_C key hk ho n hn L hlo A c wd _ on hwd hw5 hon rfl _ (atp_len key n _) (atp_ok key n _) rfl hok W h⟩
  | true =>
    by_cases htg : tgc (atp key n ((wd / 32768 : Nat) : Int)) (L.take 7) = L.drop 7
    · exact ⟨_, _, _, _, fun A c W h => read_E key hk ho n hn L hlo A c wd _ on hwd hw5 hon rfl _ (atp_len key n _) (atp_ok key n _) rfl hok htg _ rfl W h⟩
    · exact ⟨_, _, _, _, fun A c W h => read_D key hk ho n hn L hlo A c wd _ on hwd hw5 hon rfl _ (atp_len key n _) (atp_ok key n _) rfl hok htg W h⟩
theorem read_back (key : List Int) (hk : key.length = 16) (ho : Octets key) (n m : Nat) (hm : m < 18446744073709551616) (vv sl on : Nat) (hvv : vv < 8) (hsl : sl < 4096) (hon : on < 1099511627776) (wd : Nat) (hwd : n % 2 * 32768 + ((vv * 4096 + sl) ^^^ mkc (dvk key n) (be on 5)) = wd)
    (hat : atp key m ((n % 2 : Nat) : Int) = dvk key n ∧ ato m ((n % 2 : Nat) : Int) = true) (A : Option Addr) (c : Nat) (W : World) (h : IsB (idl (dvk key n) on wd) 12 (.slice A 12 c) W) :
    Calls Try.prog 29 #[.agg (rcs key m), .slice A 12 c] W fun e w' => e = .returned (.tuple #[.agg #[.int .i64 (vv : Int), .int .i64 (sl : Int)], .int .u64 (on : Int), .int .i64 0]) ∧ Below W.heap.size W w' := by
  have hml := mkc_lt (dvk key n) (be on 5)
  have hxm : (vv * 4096 + sl) ^^^ mkc (dvk key n) (be on 5) < 2 ^ 15 := Nat.xor_lt_two_pow (by omega) hml
  have hsw := show_word (x := n % 2) (w := vv * 4096 + sl) (by omega) (by omega) hml
  rw [hwd] at hsw
  have hr := read_E key hk ho m hm (idl (dvk key n) on wd) (idl_ok _ _ _) A c wd (n % 2) on (by omega) (idl_word _ _ _ (by omega)) (idl_once _ _ _ hon) (by omega) (dvk key n) (dvk_len key n) (kof_ok _ _) hat.1 hat.2 (by rw [idl_take7, idl_drop7]) (vv * 4096 + sl) (by rw [idl_take5]; exact hsw) W h
  rw [show (vv * 4096 + sl) / 4096 = vv from by omega, show (vv * 4096 + sl) % 4096 = sl from by omega] at hr
  exact hr
theorem makes_all (key : List Int) (hk : key.length = 16) (ho : Octets key) (n : Nat) (hn : n < 18446744073709551616) (v s : Int) (on : Nat) (w : World) : Calls Try.prog 6 #[.agg (rcs key n), .agg #[.int .i64 v, .int .i64 s], .int .u64 (on : Int)] w fun e w' => e = .returned (.bool true) ∧ Below w.heap.size w w' := by
  cases hr : (pright v s && decide (on < 1099511627776)) with
  | false => exact makes_no key hk n v s on hr w
  | true =>
    simp only [Bool.and_eq_true, decide_eq_true_eq, pright] at hr
    obtain ⟨⟨h1, h2, h3, h4⟩, h5⟩ := hr
    obtain ⟨vv, rfl⟩ := Int.eq_ofNat_of_zero_le h1
    obtain ⟨sl, rfl⟩ := Int.eq_ofNat_of_zero_le h3
    have hvv : vv < 8 := by omega
    have hsl : sl < 4096 := by omega
    have hb1 := fun A c W h => read_back key hk ho n n hn vv sl on hvv hsl h5 _ rfl (atp_own key n _ rfl) A c W h
    by_cases hm : n = 18446744073709551615
    · obtain ⟨a2, b2, o2, e2, hb2⟩ := read_some key hk ho 0 (by omega) (idl (dvk key n) on _) (idl_ok _ _ _) (idl_len _ _ _)
      exact makes_max key hk ho n hn vv sl on hvv hsl h5 hm 0 (by rw [hm]; rfl) a2 b2 o2 e2 _ rfl (hide hb1) (hide hb2) w
    · have hb2 := fun A c W h => read_back key hk ho n (n + 1) (by omega) vv sl on hvv hsl h5 _ rfl (atp_prev key (n + 1) n _ (by omega) (by omega) rfl) A c W h
      exact makes_norm key hk ho n hn vv sl on hvv hsl h5 (by omega) (n + 1) (by rw [show (n : Int) + 1 = ((n + 1 : Nat) : Int) from rfl]; exact IntWalk.u64_in _ (by omega)) _ rfl (hide hb1) (hide hb2) w
section
open Go.Deep Go.Joins
variable {H : Type} {enc : TypeId × Value → H} {w : World} {held : Bool} {spare : Nat → Bool}
theorem open_place {r : Reach} {b0 : Nat} {v : Value} {d : DataW H} {p : List MemPlace} (hv : Value.okWide Try.prog w r b0 41 v) (h : DataW.Trod enc Try.prog w 0 spare held 41 v d p) : ∃ x y : Int, v = .agg #[.int .i64 x, .int .i64 y] := by
  obtain ⟨c0, c1, y0, y1, m, rfl, rfl, rfl, hy0, hy1⟩ := open_agg2 Try.underlying41 (by kernel_rfl) (by kernel_rfl) hv h
  obtain ⟨a, e0, _, _⟩ := DataW.trod_int Try.underlying3 hy0
  obtain ⟨b, e1, _, _⟩ := DataW.trod_int Try.underlying3 hy1
  cases e0; cases e1
  exact ⟨a, b, rfl⟩
end
end Go.Proofs.Ythjkjohmaemmiaa
