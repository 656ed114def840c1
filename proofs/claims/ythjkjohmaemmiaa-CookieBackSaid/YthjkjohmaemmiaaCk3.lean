/-
  Seek of package cookie. Helper of the claims of layers 12 and 13. No condition.
-/
import Derived.Test.YthjkjohmaemmiaaCk2
namespace Go.Proofs.Ythjkjohmaemmiaa
open Go.ChangeShapes Go.WideShapes Go.ChangeAt Go.RowKit
set_option linter.unusedSimpArgs false
set_option linter.unusedVariables false
set_option maxRecDepth 100000
set_option maxHeartbeats 1000000 in
theorem cseek (key : List Int) (hk : key.length = 16) (ho : Octets key) (n : Nat) (hn : n < 18446744073709551616) (fc : Array Value) (l : List Int) (nl : Nat) (fk : FlowK fc l nl) (c x : Nat) (hc : c < 65536) (hx : c / 32768 = x) (kk : List Int) (hkk : kk.length = 16) (hko : Octets kk) (hat : atp key n (x : Int) = kk ∧ ato n (x : Int) = true) (y : Nat) (hy : (c ^^^ mk kk l) % 32768 = y) (w : World) :
    Calls Try.prog 24 #[.agg (rcs key n), .agg fc, .int .u16 (c : Int)] w fun e w' => e = .returned (.tuple #[.agg #[.int .i64 ((y / 4096 : Nat) : Int), .int .i64 ((y % 4096 : Nat) : Int)], .int .i64 0]) ∧ Below w.heap.size w w' := by
  obtain ⟨m, hm⟩ : ∃ y, mk kk l = y := ⟨_, rfl⟩
  have hml : m < 32768 := by rw [← hm]; exact mk_lt _ _
  rw [hm] at hy
  have hxl : c ^^^ m < 2 ^ 16 := Nat.xor_lt_two_pow hc (by omega)
  have f4 : bits .xor .u16 (c : Int) (m : Int) = ((c ^^^ m : Nat) : Int) := by
    have e := u16_xor (c : Int) (m : Int) (by omega) (by omega) (by omega) (by omega)
    rw [e, Int.toNat_natCast, Int.toNat_natCast]
  generalize c ^^^ m = z at *
  have f1 : (c : Int) / 32768 = (x : Int) := by omega
  have f2 : IntKind.i64.wrap (x : Int) = (x : Int) := IntWalk.i64_in _ (by omega)
  have AT1 := hide (fun W => show Calls Try.prog 71 #[.agg (rcs key n), .int .i64 (x : Int)] W fun e w' => e = .returned (.tuple #[.agg (u8s kk).toArray, .bool true]) ∧ Below W.heap.size W w' from by have h := hat_any key hk ho n hn (x : Int) W; rw [hat.1, hat.2] at h; exact h)
  have MT := hide (fun W => show Calls Try.prog 73 #[.agg (u8s kk).toArray, .agg fc] W fun e w' => e = .returned (.int .u16 (m : Int)) ∧ Below W.heap.size W w' from by have h := cmask kk hkk hko fc l nl fk W; rw [hm] at h; exact h)
  have OT := hide (fun W => show Calls Try.prog 21 #[.int .u16 (z : Int)] W fun e w' => e = .returned (.agg #[.int .i64 ((y / 4096 : Nat) : Int), .int .i64 ((y % 4096 : Nat) : Int)]) ∧ Below W.heap.size W w' from by have h := cof z (by omega) W; rw [hy] at h; exact h)
  have KSZ := Lib.hid (key_size hkk); have KONE := Lib.hid (one_u8s kk)
  have RSZ := Lib.hid (rcs_size hk n)
  have FSZ := Lib.hid fk.1
  generalize (u8s kk).toArray = ks at *
  generalize y / 4096 = ya at *
  generalize y % 4096 = yb at *
  have hb0 : Below w.heap.size w (((w.alloc (.cells (rcs key n) 45)).alloc (.cells fc 28)).alloc (.cells #[.int .i64 0, .int .i64 0] 41)) := (((Below.refl _ _).alloc (Nat.le_refl _) _).alloc (by simp) _).alloc (by simp; omega) _
  have r0 := ((Is.new w 45 (rcs key n)).alloc (.cells fc 28)).alloc (.cells #[.int .i64 0, .int .i64 0] 41)
  have r1 := (Is.new (w.alloc (.cells (rcs key n) 45)) 28 fc).alloc (.cells #[.int .i64 0, .int .i64 0] 41)
  have r2 := Is.new ((w.alloc (.cells (rcs key n) 45)).alloc (.cells fc 28)) 41 #[.int .i64 0, .int .i64 0]
  rw [show (w.alloc (.cells (rcs key n) 45)).heap.size = w.heap.size + 1 from by simp] at r1
  rw [show ((w.alloc (.cells (rcs key n) 45)).alloc (.cells fc 28)).heap.size = w.heap.size + 1 + 1 from by simp] at r2
  have HB0 := Lib.hid hb0; have G0 := Lib.hid r0; have J0 := Lib.hid r1; have L0 := Lib.hid r2
  clear hb0 r0 r1 r2 fk hm hx hk ho hat hkk hko hy
  go_enter Try.func24, Try.ntmps24
  go_wp2_with (with_reducible show wpList _ _ _ (⟨some 11, _, _, _, _, _⟩ :: _) _ _; go_loud (refine Go.wpList_load_row rfl 45 (.tmp 3) rfl w.heap.size rfl 45 (rcs key n) (0, 0) _ (is_raw G0.out) Try.underlying45 rfl (by rw [RSZ.out]; kernel_rfl) ?_))
  generalize (((w.alloc (.cells (rcs key n) 45)).alloc (.cells fc 28)).alloc (.cells #[.int .i64 0, .int .i64 0] 41)) = V at *
  generalize hg3 : w.heap.size + 1 + 1 = g3 at *
  generalize hg2 : w.heap.size + 1 = g2 at *
  have Z3 := Lib.hid hg3; have Z2 := Lib.hid hg2
  clear hg3 hg2
  refine (unhide AT1 _).mono ?_
  rintro e w2 ⟨rfl, hb2⟩
  have J2 := Lib.hid (Is.new w2 43 #[.int .u8 0, .int .u8 0, .int .u8 0, .int .u8 0, .int .u8 0, .int .u8 0, .int .u8 0, .int .u8 0, .int .u8 0, .int .u8 0, .int .u8 0, .int .u8 0, .int .u8 0, .int .u8 0, .int .u8 0, .int .u8 0])
  have hz2 : w.heap.size ≤ w2.heap.size := Nat.le_trans HB0.out.size hb2.size
  have e1 := (J0.out.below hb2 J0.out.lt); have e2 := (L0.out.below hb2 L0.out.lt)
  have P2 := Lib.hid (is_row (cs' := ks) J2.out)
  have J3 := Lib.hid (show Is ((w2.alloc (.cells #[.int .u8 0, .int .u8 0, .int .u8 0, .int .u8 0, .int .u8 0, .int .u8 0, .int .u8 0, .int .u8 0, .int .u8 0, .int .u8 0, .int .u8 0, .int .u8 0, .int .u8 0, .int .u8 0, .int .u8 0, .int .u8 0] 43)).setRow w2.heap.size ks) g2 28 fc from (setRow_other _ _ _ _ (by have := e1.lt; omega)).trans (e1.alloc _))
  have L3 := Lib.hid (show Is ((w2.alloc (.cells #[.int .u8 0, .int .u8 0, .int .u8 0, .int .u8 0, .int .u8 0, .int .u8 0, .int .u8 0, .int .u8 0, .int .u8 0, .int .u8 0, .int .u8 0, .int .u8 0, .int .u8 0, .int .u8 0, .int .u8 0, .int .u8 0] 43)).setRow w2.heap.size ks) g3 41 #[.int .i64 0, .int .i64 0] from (setRow_other _ _ _ _ (by have := e2.lt; omega)).trans (e2.alloc _))
  have HB2 := Lib.hid (below_setRow ((HB0.out.trans (hb2.mono HB0.out.size)).alloc hz2 (.cells #[.int .u8 0, .int .u8 0, .int .u8 0, .int .u8 0, .int .u8 0, .int .u8 0, .int .u8 0, .int .u8 0, .int .u8 0, .int .u8 0, .int .u8 0, .int .u8 0, .int .u8 0, .int .u8 0, .int .u8 0, .int .u8 0] 43)) (g := w2.heap.size) hz2 ks)
  clear hb2 e1 e2 J0 L0 G0 HB0
  go_wp2_with (first
    | ((with_reducible show wpList _ _ _ (⟨none, _, _, _, _, _⟩ :: _) _ _)
       go_loud (refine Go.wpList_store_row rfl 43 (.tmp 8) (.tmp 16) rfl w2.heap.size ks rfl rfl 43 #[.int .u8 0, .int .u8 0, .int .u8 0, .int .u8 0, .int .u8 0, .int .u8 0, .int .u8 0, .int .u8 0, .int .u8 0, .int .u8 0, .int .u8 0, .int .u8 0, .int .u8 0, .int .u8 0, .int .u8 0, .int .u8 0] (is_raw J2.out) (by rw [KSZ.out]; kernel_rfl) (by rw [KSZ.out]; simp) KONE.out ?_)
       generalize (w2.alloc (.cells #[.int .u8 0, .int .u8 0, .int .u8 0, .int .u8 0, .int .u8 0, .int .u8 0, .int .u8 0, .int .u8 0, .int .u8 0, .int .u8 0, .int .u8 0, .int .u8 0, .int .u8 0, .int .u8 0, .int .u8 0, .int .u8 0] 43)).setRow w2.heap.size ks = X at *
       generalize w2.heap.size = g1 at *)
    | (with_reducible show wpList _ _ _ (⟨some 22, _, _, _, _, _⟩ :: _) _ _; go_loud (refine Go.wpList_load_row rfl 43 (.tmp 8) rfl g1 rfl 43 ks (0, 0) _ (is_raw P2.out) Try.underlying43 rfl (by rw [KSZ.out]; kernel_rfl) ?_))
    | (with_reducible show wpList _ _ _ (⟨some 23, _, _, _, _, _⟩ :: _) _ _; go_loud (refine Go.wpList_load_row rfl 28 (.tmp 4) rfl g2 rfl 28 fc (0, 0) _ (is_raw J3.out) Try.underlying28 rfl (by rw [FSZ.out]; kernel_rfl) ?_)))
  refine (unhide MT _).mono ?_
  rintro e w4 ⟨rfl, hb4⟩
  have HB4 := Lib.hid (HB2.out.trans (hb4.mono HB2.out.size)); have L4 := Lib.hid (L3.out.below hb4 L3.out.lt)
  clear hb4 HB2 L3 J3 P2 J2 hz2
  go_wp2_with fail
  refine (unhide OT _).mono ?_
  rintro e w5 ⟨rfl, hb5⟩
  have HB5 := Lib.hid (HB4.out.trans (hb5.mono HB4.out.size)); have L5 := L4.out.below hb5 L4.out.lt
  have z0 := L5.cell 0; have z1 := L5.cell 1; have y0 := L5.free 0; have y1 := L5.free 1
  simp at z0 z1
  clear hb5 HB4 L4
  have HL5 := hide L5
  clear L5
  go_wp2_with fail
  refine bodyPost_ret (v := .tuple #[.agg #[.int .i64 (ya : Int), .int .i64 (yb : Int)], .int .i64 0]) (by simp [results, Try.results24, go_sem, z0, z1]) rfl ⟨rfl, ?_⟩
  repeat' first | with_reducible exact HB5.out | with_reducible apply Below.set1
  all_goals have := Z3.out; have := Z2.out; omega
end Go.Proofs.Ythjkjohmaemmiaa
