/-
  The law CookieBack, walked. Helper of the claim CookieBack. No condition.
-/
import Derived.Test.YthjkjohmaemmiaaCk3
namespace Go.Proofs.Ythjkjohmaemmiaa
open Go.ChangeShapes Go.WideShapes Go.ChangeAt Go.RowKit
set_option linter.unusedSimpArgs false
set_option linter.unusedVariables false
set_option maxRecDepth 100000
set_option maxHeartbeats 400000 in
theorem awake12 (w : World) : Calls Try.prog 20 #[] w fun e w' => e = .returned (.bool true) ∧ Below w.heap.size w w' := by
  go_enter Try.func20, Try.ntmps20
  go_wp2
  go_ret
  exact ⟨rfl, Below.refl _ _⟩
set_option maxHeartbeats 1000000 in
theorem back_no (key : List Int) (hk : key.length = 16) (ho : Octets key) (n : Nat) (hn : n < 18446744073709551616) (fc : Array Value) (fsz : fc.size = 9) (RT : Hid (∀ W : World, Calls Try.prog 19 #[.agg fc] W fun e w' => e = .returned (.bool false) ∧ Below W.heap.size W w')) (wq : Nat) (w : World) : Calls Try.prog 4 #[.agg (rcs key n), .agg fc, .int .u16 (wq : Int)] w fun e w' => e = .returned (.bool true) ∧ Below w.heap.size w w' := by
  have FSZ := Lib.hid fsz; have HK := Lib.hid hk; have RSZ := Lib.hid (rcs_size hk n); have RONE := Lib.hid (rcs_one key n)
  have HB0 := Lib.hid (show Below w.heap.size w ((w.alloc (.cells (rcs key n) 38)).alloc (.cells fc 28)) from ((Below.refl _ _).alloc (Nat.le_refl _) _).alloc (by simp) _)
  have R0 := Lib.hid ((Is.new w 38 (rcs key n)).alloc (.cells fc 28))
  have F0 := Lib.hid (Is.new (w.alloc (.cells (rcs key n) 38)) 28 fc)
  rw [show (w.alloc (.cells (rcs key n) 38)).heap.size = w.heap.size + 1 from by simp] at F0
  go_enter Try.func4, Try.ntmps4
  go_wp2_with (with_reducible show wpList _ _ _ (⟨some 15, _, _, _, _, _⟩ :: _) _ _; go_loud (refine Go.wpList_load_row rfl 28 (.tmp 4) rfl (w.heap.size + 1) rfl 28 fc (0, 0) _ (is_raw F0.out) Try.underlying28 rfl (by rw [FSZ.out]; kernel_rfl) ?_))
  generalize ((w.alloc (.cells (rcs key n) 38)).alloc (.cells fc 28)) = V at *
  generalize w.heap.size + 1 = gf at *
  refine (unhide RT _).mono ?_
  rintro e w1 ⟨rfl, hb⟩
  have R1 := Lib.hid (R0.out.below hb R0.out.lt)
  have F1 := Lib.hid (F0.out.below hb F0.out.lt)
  have HB1 := Lib.hid (HB0.out.trans (hb.mono HB0.out.size))
  clear hb R0 F0 HB0
  have m16 := ring_now HK.out R1.out
  go_wp2_with fail
  refine (awake12 _).mono ?_
  rintro e w9 ⟨rfl, hb⟩
  have HB9 := Lib.hid (HB1.out.trans (hb.mono HB1.out.size))
  clear hb
  go_wp2_with fail
  go_ret
  exact ⟨rfl, HB9.out⟩
set_option maxHeartbeats 1000000 in
theorem back_max (key : List Int) (hk : key.length = 16) (ho : Octets key) (n : Nat) (hn : n < 18446744073709551616) (fc : Array Value) (fsz : fc.size = 9) (RT : Hid (∀ W : World, Calls Try.prog 19 #[.agg fc] W fun e w' => e = .returned (.bool true) ∧ Below W.heap.size W w')) (wq : Nat) (hm : n = 18446744073709551615) (w : World) : Calls Try.prog 4 #[.agg (rcs key n), .agg fc, .int .u16 (wq : Int)] w fun e w' => e = .returned (.bool true) ∧ Below w.heap.size w w' := by
  have hmax : ((n : Int) == 18446744073709551615) = true := by rw [hm]; rfl
  clear hm hn
  have FSZ := Lib.hid fsz; have HK := Lib.hid hk; have RSZ := Lib.hid (rcs_size hk n); have RONE := Lib.hid (rcs_one key n)
  have HB0 := Lib.hid (show Below w.heap.size w ((w.alloc (.cells (rcs key n) 38)).alloc (.cells fc 28)) from ((Below.refl _ _).alloc (Nat.le_refl _) _).alloc (by simp) _)
  have R0 := Lib.hid ((Is.new w 38 (rcs key n)).alloc (.cells fc 28))
  have F0 := Lib.hid (Is.new (w.alloc (.cells (rcs key n) 38)) 28 fc)
  rw [show (w.alloc (.cells (rcs key n) 38)).heap.size = w.heap.size + 1 from by simp] at F0
  go_enter Try.func4, Try.ntmps4
  go_wp2_with (with_reducible show wpList _ _ _ (⟨some 15, _, _, _, _, _⟩ :: _) _ _; go_loud (refine Go.wpList_load_row rfl 28 (.tmp 4) rfl (w.heap.size + 1) rfl 28 fc (0, 0) _ (is_raw F0.out) Try.underlying28 rfl (by rw [FSZ.out]; kernel_rfl) ?_))
  generalize ((w.alloc (.cells (rcs key n) 38)).alloc (.cells fc 28)) = V at *
  generalize w.heap.size + 1 = gf at *
  refine (unhide RT _).mono ?_
  rintro e w1 ⟨rfl, hb⟩
  have R1 := Lib.hid (R0.out.below hb R0.out.lt)
  have F1 := Lib.hid (F0.out.below hb F0.out.lt)
  have HB1 := Lib.hid (HB0.out.trans (hb.mono HB0.out.size))
  clear hb R0 F0 HB0
  have m16 := ring_now HK.out R1.out
  go_wp2_with fail
  refine (awake12 _).mono ?_
  rintro e w9 ⟨rfl, hb⟩
  have HB9 := Lib.hid (HB1.out.trans (hb.mono HB1.out.size))
  clear hb
  go_wp2_with fail
  go_ret
  exact ⟨rfl, HB9.out⟩
set_option maxHeartbeats 1000000 in
theorem back_main (key : List Int) (hk : key.length = 16) (ho : Octets key) (n : Nat) (hn : n < 18446744073709551616) (fc : Array Value) (fsz : fc.size = 9) (RT : Hid (∀ W : World, Calls Try.prog 19 #[.agg fc] W fun e w' => e = .returned (.bool true) ∧ Below W.heap.size W w')) (l : List Int) (nl : Nat) (fk : FlowK fc l nl) (wq : Nat) (hwq : wq < 65536) (hm : n + 1 < 18446744073709551616) (w : World) : Calls Try.prog 4 #[.agg (rcs key n), .agg fc, .int .u16 (wq : Int)] w fun e w' => e = .returned (.bool true) ∧ Below w.heap.size w w' := by
  have hmax : ((n : Int) == 18446744073709551615) = false := by rw [beq_eq_false_iff_ne]; omega
  obtain ⟨y, hy⟩ : ∃ y, wq % 32768 = y := ⟨_, rfl⟩
  obtain ⟨pv, hpv⟩ : ∃ y1, y / 4096 = y1 := ⟨_, rfl⟩
  obtain ⟨ps, hps⟩ : ∃ y1, y % 4096 = y1 := ⟨_, rfl⟩
  have pv8 : pv < 8 := by omega
  have ps4 : ps < 4096 := by omega
  have hyy : pv * 4096 + ps = y := by omega
  have yl : y < 32768 := by omega
  obtain ⟨m, hmk⟩ : ∃ m, mk (dvk key n) l = m := ⟨_, rfl⟩
  have hml : m < 32768 := by rw [← hmk]; exact mk_lt _ _
  obtain ⟨cv, hcv⟩ : ∃ cv, n % 2 * 32768 + (y ^^^ m) = cv := ⟨_, rfl⟩
  have hyx : y ^^^ m < 2 ^ 15 := Nat.xor_lt_two_pow yl hml
  have hcl : cv < 65536 := by omega
  have hcx : cv / 32768 = n % 2 := by omega
  have hsw : (cv ^^^ mk (dvk key n) l) % 32768 = y := by rw [hmk, ← hcv]; exact show_word (by omega) yl hml
  have OT := hide (fun W => show Calls Try.prog 21 #[.int .u16 (wq : Int)] W fun e w' => e = .returned (.agg #[.int .i64 (pv : Int), .int .i64 (ps : Int)]) ∧ Below W.heap.size W w' from by have h := cof wq hwq W; rw [hy, hpv, hps] at h; exact h)
  have PT := hide (fun W => show Calls Try.prog 26 #[.agg #[.int .i64 (pv : Int), .int .i64 (ps : Int)]] W fun e w' => e = .returned (.bool true) ∧ Below W.heap.size W w' from by have h := cright (pv : Int) (ps : Int) W; rw [cright_nat pv ps pv8 ps4] at h; exact h)
  have WT := hide (fun W => show Calls Try.prog 27 #[.agg #[.int .i64 (pv : Int), .int .i64 (ps : Int)]] W fun e w' => e = .returned (.int .u16 (y : Int)) ∧ Below W.heap.size W w' from by have h := cword pv ps pv8 ps4 W; rw [hyy] at h; exact h)
  have HT := hide (fun W => show Calls Try.prog 23 #[.agg (rcs key n), .agg fc, .agg #[.int .i64 (pv : Int), .int .i64 (ps : Int)]] W fun e w' => e = .returned (.tuple #[.int .u16 (cv : Int), .int .i64 0]) ∧ Below W.heap.size W w' from by have h := chide key hk ho n hn fc l nl fk pv ps pv8 ps4 W; rw [hyy, hmk, hcv] at h; exact h)
  have SK1 := hide (fun W => show Calls Try.prog 24 #[.agg (rcs key n), .agg fc, .int .u16 (cv : Int)] W fun e w' => e = .returned (.tuple #[.agg #[.int .i64 (pv : Int), .int .i64 (ps : Int)], .int .i64 0]) ∧ Below W.heap.size W w' from by
    have h := cseek key hk ho n hn fc l nl fk cv (n % 2) hcl hcx (dvk key n) (dvk_len key n) (kof_ok _ _) (atp_own key n _ rfl) y hsw W
    rw [hpv, hps] at h; exact h)
  have SK2 := hide (fun W => show Calls Try.prog 24 #[.agg (rcs key (n + 1)), .agg fc, .int .u16 (cv : Int)] W fun e w' => e = .returned (.tuple #[.agg #[.int .i64 (pv : Int), .int .i64 (ps : Int)], .int .i64 0]) ∧ Below W.heap.size W w' from by
    have h := cseek key hk ho (n + 1) hm fc l nl fk cv (n % 2) hcl hcx (dvk key n) (dvk_len key n) (kof_ok _ _) (atp_prev key (n + 1) n _ (by omega) (by omega) rfl) y hsw W
    rw [hpv, hps] at h; exact h)
  have NXT := hide (fun W => hnext key hk n (n + 1) (by rw [show (n : Int) + 1 = ((n + 1 : Nat) : Int) from rfl]; exact IntWalk.u64_in _ (by omega)) W)
  have hr1 : (wq : Int).tmod 32768 = (y : Int) := by rw [Int.tmod_eq_emod_of_nonneg (by omega)]; omega
  have hr2 : (wq : Int) % 32768 = (y : Int) := by omega
  clear hm hn hy hpv hps pv8 ps4 hyy yl hmk hml hcv hyx hcl hcx hsw fk ho hwq
  have FSZ := Lib.hid fsz; have HK := Lib.hid hk; have RSZ := Lib.hid (rcs_size hk n); have RONE := Lib.hid (rcs_one key n)
  have HB0 := Lib.hid (show Below w.heap.size w ((w.alloc (.cells (rcs key n) 38)).alloc (.cells fc 28)) from ((Below.refl _ _).alloc (Nat.le_refl _) _).alloc (by simp) _)
  have R0 := Lib.hid ((Is.new w 38 (rcs key n)).alloc (.cells fc 28))
  have F0 := Lib.hid (Is.new (w.alloc (.cells (rcs key n) 38)) 28 fc)
  rw [show (w.alloc (.cells (rcs key n) 38)).heap.size = w.heap.size + 1 from by simp] at F0
  go_enter Try.func4, Try.ntmps4
  go_wp2_with (with_reducible show wpList _ _ _ (⟨some 15, _, _, _, _, _⟩ :: _) _ _; go_loud (refine Go.wpList_load_row rfl 28 (.tmp 4) rfl (w.heap.size + 1) rfl 28 fc (0, 0) _ (is_raw F0.out) Try.underlying28 rfl (by rw [FSZ.out]; kernel_rfl) ?_))
  generalize ((w.alloc (.cells (rcs key n) 38)).alloc (.cells fc 28)) = V at *
  generalize w.heap.size + 1 = gf at *
  refine (unhide RT _).mono ?_
  rintro e w1 ⟨rfl, hb⟩
  have R1 := Lib.hid (R0.out.below hb R0.out.lt)
  have F1 := Lib.hid (F0.out.below hb F0.out.lt)
  have HB1 := Lib.hid (HB0.out.trans (hb.mono HB0.out.size))
  clear hb R0 F0 HB0
  have m16 := ring_now HK.out R1.out
  go_wp2_with fail
  refine (unhide OT _).mono ?_
  rintro e w2 ⟨rfl, hb⟩
  clear m16
  have R2 := Lib.hid (R1.out.below hb R1.out.lt)
  have F2 := Lib.hid (F1.out.below hb F1.out.lt)
  have HB2 := Lib.hid (HB1.out.trans (hb.mono HB1.out.size))
  clear hb R1 F1 HB1
  have P2 := Lib.hid (Is.new w2 41 #[.int .i64 (pv : Int), .int .i64 (ps : Int)])
  have Ra := Lib.hid (R2.out.alloc (.cells #[.int .i64 (pv : Int), .int .i64 (ps : Int)] 41)); have Fa := Lib.hid (F2.out.alloc (.cells #[.int .i64 (pv : Int), .int .i64 (ps : Int)] 41)); have HBa := Lib.hid (HB2.out.alloc HB2.out.size (.cells #[.int .i64 (pv : Int), .int .i64 (ps : Int)] 41))
  clear R2 F2 HB2
  have m16 := ring_now HK.out Ra.out
  go_wp2_with (with_reducible show wpList _ _ _ (⟨some 27, _, _, _, _, _⟩ :: _) _ _; go_loud (refine wpList_load_mid rfl 36 (.tmp 26) rfl w.heap.size 0 rfl (u8s key) _ (ring_range HK.out Ra.out) Try.underlying36 rfl (by rw [show (u8s key).length = 16 from by simp [u8s, HK.out]]; kernel_rfl) ?_))
  generalize w2.alloc (.cells #[.int .i64 (pv : Int), .int .i64 (ps : Int)] 41) = V2 at *
  generalize w2.heap.size = g7 at *
  have Pa := P2
  clear P2 m16
  refine (hnew key HK.out n _).mono ?_
  rintro e w3 ⟨rfl, hb⟩
  have F3 := Lib.hid (Fa.out.below hb Fa.out.lt)
  have P3 := Lib.hid (Pa.out.below hb Pa.out.lt)
  have R3 := Lib.hid (Ra.out.below hb Ra.out.lt)
  have HB3 := Lib.hid (HBa.out.trans (hb.mono HBa.out.size))
  clear hb Fa Pa Ra HBa
  have J1 := Lib.hid (Is.new w3 45 #[.int .u8 0, .int .u8 0, .int .u8 0, .int .u8 0, .int .u8 0, .int .u8 0, .int .u8 0, .int .u8 0, .int .u8 0, .int .u8 0, .int .u8 0, .int .u8 0, .int .u8 0, .int .u8 0, .int .u8 0, .int .u8 0, .int .u64 0])
  have hz := HB3.out.size
  have HB4 := Lib.hid (below_setRow (HB3.out.alloc hz (.cells #[.int .u8 0, .int .u8 0, .int .u8 0, .int .u8 0, .int .u8 0, .int .u8 0, .int .u8 0, .int .u8 0, .int .u8 0, .int .u8 0, .int .u8 0, .int .u8 0, .int .u8 0, .int .u8 0, .int .u8 0, .int .u8 0, .int .u64 0] 45)) (g := w3.heap.size) hz (rcs key n))
  have G4 := Lib.hid (is_row (cs' := (rcs key n)) J1.out)
  have F4 := Lib.hid (show Is ((w3.alloc (.cells #[.int .u8 0, .int .u8 0, .int .u8 0, .int .u8 0, .int .u8 0, .int .u8 0, .int .u8 0, .int .u8 0, .int .u8 0, .int .u8 0, .int .u8 0, .int .u8 0, .int .u8 0, .int .u8 0, .int .u8 0, .int .u8 0, .int .u64 0] 45)).setRow w3.heap.size (rcs key n)) gf 28 fc from (setRow_other _ _ _ _ (by have := F3.out.lt; omega)).trans (F3.out.alloc _))
  have P4 := Lib.hid (show Is ((w3.alloc (.cells #[.int .u8 0, .int .u8 0, .int .u8 0, .int .u8 0, .int .u8 0, .int .u8 0, .int .u8 0, .int .u8 0, .int .u8 0, .int .u8 0, .int .u8 0, .int .u8 0, .int .u8 0, .int .u8 0, .int .u8 0, .int .u8 0, .int .u64 0] 45)).setRow w3.heap.size (rcs key n)) g7 41 #[.int .i64 (pv : Int), .int .i64 (ps : Int)] from (setRow_other _ _ _ _ (by have := P3.out.lt; omega)).trans (P3.out.alloc _))
  clear F3 P3 R3 HB3 hz
  go_wp2_with (first
    | ((with_reducible show wpList _ _ _ (⟨none, _, _, _, _, _⟩ :: _) _ _)
       go_loud (refine Go.wpList_store_row rfl 45 (.tmp 8) (.tmp 30) rfl w3.heap.size (rcs key n) rfl rfl 45 #[.int .u8 0, .int .u8 0, .int .u8 0, .int .u8 0, .int .u8 0, .int .u8 0, .int .u8 0, .int .u8 0, .int .u8 0, .int .u8 0, .int .u8 0, .int .u8 0, .int .u8 0, .int .u8 0, .int .u8 0, .int .u8 0, .int .u64 0] (is_raw J1.out) (by rw [RSZ.out]; kernel_rfl) (by rw [RSZ.out]; simp) RONE.out ?_)
       generalize ((w3.alloc (.cells #[.int .u8 0, .int .u8 0, .int .u8 0, .int .u8 0, .int .u8 0, .int .u8 0, .int .u8 0, .int .u8 0, .int .u8 0, .int .u8 0, .int .u8 0, .int .u8 0, .int .u8 0, .int .u8 0, .int .u8 0, .int .u8 0, .int .u64 0] 45)).setRow w3.heap.size (rcs key n)) = X at *
       generalize w3.heap.size = g1 at *
       have a0 := P4.out.cell 0
       have a1 := P4.out.cell 1
       simp at a0 a1)
    | (with_reducible show wpList _ _ _ (⟨some 32, _, _, _, _, _⟩ :: _) _ _; go_loud (refine Go.wpList_load_row rfl 45 (.tmp 8) rfl g1 rfl 45 (rcs key n) (0, 0) _ (is_raw G4.out) Try.underlying45 rfl (by rw [RSZ.out]; kernel_rfl) ?_))
    | (with_reducible show wpList _ _ _ (⟨some 33, _, _, _, _, _⟩ :: _) _ _; go_loud (refine Go.wpList_load_row rfl 28 (.tmp 4) rfl gf rfl 28 fc (0, 0) _ (is_raw F4.out) Try.underlying28 rfl (by rw [FSZ.out]; kernel_rfl) ?_)))
  refine (unhide HT _).mono ?_
  rintro e w4 ⟨rfl, hb⟩
  clear a0 a1 J1
  have F5 := Lib.hid (F4.out.below hb F4.out.lt)
  have P5 := Lib.hid (P4.out.below hb P4.out.lt)
  have G5 := Lib.hid (G4.out.below hb G4.out.lt)
  have HB5 := Lib.hid (HB4.out.trans (hb.mono HB4.out.size))
  clear hb F4 P4 G4 HB4
  go_wp2_with (first
    | (with_reducible show wpList _ _ _ (⟨some 39, _, _, _, _, _⟩ :: _) _ _; go_loud (refine Go.wpList_load_row rfl 45 (.tmp 8) rfl g1 rfl 45 (rcs key n) (0, 0) _ (is_raw G5.out) Try.underlying45 rfl (by rw [RSZ.out]; kernel_rfl) ?_))
    | (with_reducible show wpList _ _ _ (⟨some 40, _, _, _, _, _⟩ :: _) _ _; go_loud (refine Go.wpList_load_row rfl 28 (.tmp 4) rfl gf rfl 28 fc (0, 0) _ (is_raw F5.out) Try.underlying28 rfl (by rw [FSZ.out]; kernel_rfl) ?_)))
  refine (unhide SK1 _).mono ?_
  rintro e w5 ⟨rfl, hb⟩
  have Fb := Lib.hid (F5.out.below hb F5.out.lt)
  have Pb := Lib.hid (P5.out.below hb P5.out.lt)
  have Gb := Lib.hid (G5.out.below hb G5.out.lt)
  have HBb := Lib.hid (HB5.out.trans (hb.mono HB5.out.size))
  clear hb F5 P5 G5 HB5
  go_wp2_with fail
  have A6 := Lib.hid (Is.new w5 41 #[.int .i64 (pv : Int), .int .i64 (ps : Int)])
  have F6 := Lib.hid (Fb.out.alloc (.cells #[.int .i64 (pv : Int), .int .i64 (ps : Int)] 41)); have P6 := Lib.hid (Pb.out.alloc (.cells #[.int .i64 (pv : Int), .int .i64 (ps : Int)] 41)); have G6 := Lib.hid (Gb.out.alloc (.cells #[.int .i64 (pv : Int), .int .i64 (ps : Int)] 41)); have HB6 := Lib.hid (HBb.out.alloc HBb.out.size (.cells #[.int .i64 (pv : Int), .int .i64 (ps : Int)] 41))
  clear Fb Pb Gb HBb
  generalize w5.alloc (.cells #[.int .i64 (pv : Int), .int .i64 (ps : Int)] 41) = W at *
  generalize w5.heap.size = g11 at *
  refine Lin.wp_region_lin2 (turnsK W.heap.size 41 #[.int .i64 0, .int .i64 0] #[.int .i64 (pv : Int), .int .i64 (ps : Int)]) (n := 87) (fun slotq => match slotq with | 46 => Lin.Spec.val (.agg (rcs key n)) | 47 => Lin.Spec.val (.agg (rcs key (n + 1))) | 48 => Lin.Spec.val (.agg fc) | 49 => Lin.Spec.val (.int .u16 (cv : Int)) | 50 => Lin.Spec.val (.tuple #[.agg #[.int .i64 (pv : Int), .int .i64 (ps : Int)], .int .i64 0]) | 45 => Lin.Spec.val (.tuple #[.agg #[.int .i64 (pv : Int), .int .i64 (ps : Int)], .int .i64 0]) | 51 => Lin.Spec.val (.agg #[.int .i64 (pv : Int), .int .i64 (ps : Int)]) | 52 => Lin.Spec.val (.int .i64 0) | 13 => (specZk 41 W.heap.size #[.int .i64 0, .int .i64 0] #[.int .i64 (pv : Int), .int .i64 (ps : Int)]) | 14 => Lin.Spec.val (.int .i64 0) | _ => Lin.Spec.any) (fun iq => match iq with | 9 => 13 | _ => 0) (fun iq => match iq with | 9 => (specNk 41 W.heap.size #[.int .i64 0, .int .i64 0] #[.int .i64 (pv : Int), .int .i64 (ps : Int)]) | _ => Lin.Spec.any) (by kernel_rfl) rfl (by kernel_rfl) ⟨?_, ?_, ?_, ?_, ?_, ?_, ?_, ?_, ?_, ?_, ?_, trivial⟩ ?_
  · intro ρ wq hb ho hc hd
    have hC : ∀ v, ρ (.const v) = v := fun v => hc _ (by intro t e; cases e)
    have hF : ∀ f, ρ (.func f) = .func (.func f) #[] #[] := fun f => hc _ (by intro t e; cases e)
    have h8 : ρ (.tmp 8) = .pointer (some ⟨g1, 0, none⟩) := ho 8 (by kernel_rfl)
    have hbq := Lin.Turns.below hb (Nat.le_refl _)
    exact Lin.Runs.load_row (turnsK W.heap.size 41 #[.int .i64 0, .int .i64 0] #[.int .i64 (pv : Int), .int .i64 (ps : Int)]) 45 (.tmp 8) rfl g1 h8 45 (rcs key n) (G6.out.below hbq G6.out.lt) _ Try.underlying45 rfl (by rw [RSZ.out]; kernel_rfl) rfl
  · intro ρ wq hb ho hc hd
    have hC : ∀ v, ρ (.const v) = v := fun v => hc _ (by intro t e; cases e)
    have hF : ∀ f, ρ (.func f) = .func (.func f) #[] #[] := fun f => hc _ (by intro t e; cases e)
    have h46 : ρ (.tmp 46) = .agg (rcs key n) := hd 46 (by kernel_rfl)
    exact Lin.Runs.call (turnsK W.heap.size 41 #[.int .i64 0, .int .i64 0] #[.int .i64 (pv : Int), .int .i64 (ps : Int)]) (f := 25) (args := #[.agg (rcs key n)]) (by simp [execOp, go_sem, hF, h46]) ((unhide NXT wq).mono fun e w9 h => ⟨_, h.1, Lin.Turns.keeps h.2, rfl⟩)
  · intro ρ wq hb ho hc hd
    have hC : ∀ v, ρ (.const v) = v := fun v => hc _ (by intro t e; cases e)
    have hF : ∀ f, ρ (.func f) = .func (.func f) #[] #[] := fun f => hc _ (by intro t e; cases e)
    have h4 : ρ (.tmp 4) = .pointer (some ⟨gf, 0, none⟩) := ho 4 (by kernel_rfl)
    have hbq := Lin.Turns.below hb (Nat.le_refl _)
    exact Lin.Runs.load_row (turnsK W.heap.size 41 #[.int .i64 0, .int .i64 0] #[.int .i64 (pv : Int), .int .i64 (ps : Int)]) 28 (.tmp 4) rfl gf h4 28 fc (F6.out.below hbq F6.out.lt) _ Try.underlying28 rfl (by rw [FSZ.out]; kernel_rfl) rfl
  · intro ρ wq hb ho hc hd
    have hC : ∀ v, ρ (.const v) = v := fun v => hc _ (by intro t e; cases e)
    have hF : ∀ f, ρ (.func f) = .func (.func f) #[] #[] := fun f => hc _ (by intro t e; cases e)
    have h9 : ρ (.tmp 9) = .int .u16 (cv : Int) := ho 9 (by kernel_rfl)
    exact Lin.Runs.value (turnsK W.heap.size 41 #[.int .i64 0, .int .i64 0] #[.int .i64 (pv : Int), .int .i64 (ps : Int)]) (Lin.exec_move rfl) h9
  · intro ρ wq hb ho hc hd
    have hC : ∀ v, ρ (.const v) = v := fun v => hc _ (by intro t e; cases e)
    have hF : ∀ f, ρ (.func f) = .func (.func f) #[] #[] := fun f => hc _ (by intro t e; cases e)
    have h47 : ρ (.tmp 47) = .agg (rcs key (n + 1)) := hd 47 (by kernel_rfl)
    have h48 : ρ (.tmp 48) = .agg fc := hd 48 (by kernel_rfl)
    have h49 : ρ (.tmp 49) = .int .u16 (cv : Int) := hd 49 (by kernel_rfl)
    exact Lin.Runs.call (turnsK W.heap.size 41 #[.int .i64 0, .int .i64 0] #[.int .i64 (pv : Int), .int .i64 (ps : Int)]) (f := 24) (args := #[.agg (rcs key (n + 1)), .agg fc, .int .u16 (cv : Int)]) (by simp [execOp, go_sem, hF, h47, h48, h49]) ((unhide SK2 wq).mono fun e w9 h => ⟨_, h.1, Lin.Turns.keeps h.2, rfl⟩)
  · intro ρ wq hb ho hc hd
    have hC : ∀ v, ρ (.const v) = v := fun v => hc _ (by intro t e; cases e)
    have hF : ∀ f, ρ (.func f) = .func (.func f) #[] #[] := fun f => hc _ (by intro t e; cases e)
    have h50 : ρ (.tmp 50) = .tuple #[.agg #[.int .i64 (pv : Int), .int .i64 (ps : Int)], .int .i64 0] := hd 50 (by kernel_rfl)
    exact Lin.Runs.value (turnsK W.heap.size 41 #[.int .i64 0, .int .i64 0] #[.int .i64 (pv : Int), .int .i64 (ps : Int)]) (Lin.exec_move rfl) h50
  · intro ρ wq hb ho hc hd
    have hC : ∀ v, ρ (.const v) = v := fun v => hc _ (by intro t e; cases e)
    have hF : ∀ f, ρ (.func f) = .func (.func f) #[] #[] := fun f => hc _ (by intro t e; cases e)
    have h45 : ρ (.tmp 45) = .tuple #[.agg #[.int .i64 (pv : Int), .int .i64 (ps : Int)], .int .i64 0] := hd 45 (by kernel_rfl)
    exact Lin.Runs.value (turnsK W.heap.size 41 #[.int .i64 0, .int .i64 0] #[.int .i64 (pv : Int), .int .i64 (ps : Int)]) (v := .agg #[.int .i64 (pv : Int), .int .i64 (ps : Int)]) (by simp [execOp, go_sem, h45]) rfl
  · intro ρ wq hb ho hc hd
    have hC : ∀ v, ρ (.const v) = v := fun v => hc _ (by intro t e; cases e)
    have hF : ∀ f, ρ (.func f) = .func (.func f) #[] #[] := fun f => hc _ (by intro t e; cases e)
    have h45 : ρ (.tmp 45) = .tuple #[.agg #[.int .i64 (pv : Int), .int .i64 (ps : Int)], .int .i64 0] := hd 45 (by kernel_rfl)
    exact Lin.Runs.value (turnsK W.heap.size 41 #[.int .i64 0, .int .i64 0] #[.int .i64 (pv : Int), .int .i64 (ps : Int)]) (v := .int .i64 0) (by simp [execOp, go_sem, h45]) rfl
  · intro ρ wq hb ho hc hd
    have hC : ∀ v, ρ (.const v) = v := fun v => hc _ (by intro t e; cases e)
    have hF : ∀ f, ρ (.func f) = .func (.func f) #[] #[] := fun f => hc _ (by intro t e; cases e)
    exact Lin.Runs.made (v := .pointer (some ⟨wq.heap.size, 0, none⟩)) (w' := wq.alloc (.cells #[.int .i64 0, .int .i64 0] 41)) (by simp [execOp, go_sem]) (Lin.Turns.keeps ((Below.refl _ _).alloc (Nat.le_refl _) _)) ⟨_, rfl, hb.2.2.2.1, .inl (Is.new _ _ _)⟩
  · intro ρ wq hb ho hc hd
    have hC : ∀ v, ρ (.const v) = v := fun v => hc _ (by intro t e; cases e)
    obtain ⟨p, e4, hpB, hp⟩ := hd 13 (by kernel_rfl)
    have hks : ρ (.tmp 51) = .agg #[.int .i64 (pv : Int), .int .i64 (ps : Int)] := hd 51 (by kernel_rfl)
    show Lin.RunsW Try.prog _ (specNk 41 W.heap.size #[.int .i64 0, .int .i64 0] #[.int .i64 (pv : Int), .int .i64 (ps : Int)]) (ρ (.tmp 13)) ρ wq
    have hcs : ∃ old, Is wq p 41 old ∧ old.size = 2 := by rcases hp with hp | hp; exact ⟨_, hp, rfl⟩; exact ⟨_, hp, rfl⟩
    obtain ⟨old, hcs, hos⟩ := hcs
    refine Lin.RunsW.mk (w' := wq.setRow p #[.int .i64 (pv : Int), .int .i64 (ps : Int)]) (exec_store_rowk 41 (.tmp 13) (.tmp 51) rfl p #[.int .i64 (pv : Int), .int .i64 (ps : Int)] e4 hks 41 old hcs (by kernel_rfl) (by rw [hos]; rfl) (by simp [Value.oneCell'])) (turnsK_store hpB hp) ⟨p, e4, hpB, is_row hcs⟩
  · intro ρ wq hb ho hc hd
    have hC : ∀ v, ρ (.const v) = v := fun v => hc _ (by intro t e; cases e)
    have hF : ∀ f, ρ (.func f) = .func (.func f) #[] #[] := fun f => hc _ (by intro t e; cases e)
    have h52 : ρ (.tmp 52) = .int .i64 0 := hd 52 (by kernel_rfl)
    exact Lin.Runs.value (turnsK W.heap.size 41 #[.int .i64 0, .int .i64 0] #[.int .i64 (pv : Int), .int .i64 (ps : Int)]) (Lin.exec_assign rfl) h52
  · intro vals w7 hr2 hv hw2
    have hb2 := Lin.Turns.below hr2 (Nat.le_refl _)
    obtain ⟨p13, e4, hp13, his13⟩ := hw2 9 _ rfl rfl
    have e5 : vals 14 = .int .i64 0 := hv 14 (by kernel_rfl)
    have e4' : vals 13 = .pointer (some ⟨p13, 0, none⟩) := e4
    simp only [Lin.putAll, Option.getD_some]
    rw [e5, e4']
    have hb := hb2
    have P7 := Lib.hid (P6.out.below hb P6.out.lt)
    have A7 := Lib.hid (A6.out.below hb A6.out.lt)
    have HB7 := Lib.hid (HB6.out.trans (hb.mono HB6.out.size))
    clear hb P6 A6 HB6
    have B7 := Lib.hid his13
    clear hv hw2 hr2 hb2 e4 e4' e5 his13 G6 F6
    have a0 := P7.out.cell 0; have a1 := P7.out.cell 1; have b0 := A7.out.cell 0; have b1 := A7.out.cell 1; have d0 := B7.out.cell 0; have d1 := B7.out.cell 1
    simp at a0 a1 b0 b1 d0 d1
    go_simp
    generalize vals = vw
    go_wp2_with fail
    refine (unhide PT _).mono ?_
    rintro e w8 ⟨rfl, hb⟩
    clear a0 a1 b0 b1 d0 d1
    have P8 := Lib.hid (P7.out.below hb P7.out.lt)
    have A8 := Lib.hid (A7.out.below hb A7.out.lt)
    have B8 := Lib.hid (B7.out.below hb B7.out.lt)
    have HB8 := Lib.hid (HB7.out.trans (hb.mono HB7.out.size))
    clear hb P7 A7 B7 HB7
    have a0 := P8.out.cell 0; have a1 := P8.out.cell 1; have b0 := A8.out.cell 0; have b1 := A8.out.cell 1; have d0 := B8.out.cell 0; have d1 := B8.out.cell 1
    simp at a0 a1 b0 b1 d0 d1
    go_wp2_with fail
    refine (unhide WT _).mono ?_
    rintro e w9 ⟨rfl, hb⟩
    clear a0 a1 b0 b1 d0 d1
    have P9 := Lib.hid (P8.out.below hb P8.out.lt)
    have A9 := Lib.hid (A8.out.below hb A8.out.lt)
    have B9 := Lib.hid (B8.out.below hb B8.out.lt)
    have HB9 := Lib.hid (HB8.out.trans (hb.mono HB8.out.size))
    clear hb P8 A8 B8 HB8
    have a0 := P9.out.cell 0; have a1 := P9.out.cell 1; have b0 := A9.out.cell 0; have b1 := A9.out.cell 1; have d0 := B9.out.cell 0; have d1 := B9.out.cell 1
    simp at a0 a1 b0 b1 d0 d1
    go_wp2_with fail
    refine (awake12 _).mono ?_
    rintro e wz ⟨rfl, hb⟩
    have HBZ := Lib.hid (HB9.out.trans (hb.mono HB9.out.size))
    clear hb
    go_wp2_with fail
    go_ret
    exact ⟨rfl, HBZ.out⟩
end Go.Proofs.Ythjkjohmaemmiaa
