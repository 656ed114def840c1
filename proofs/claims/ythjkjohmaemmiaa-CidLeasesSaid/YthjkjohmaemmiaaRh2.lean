/-
  At and Next of package ring, with abstract keys. Helper of the claims of layer 11. No condition.
-/
import Derived.Test.YthjkjohmaemmiaaRh
namespace Go.Proofs.Ythjkjohmaemmiaa
open Go.ChangeShapes Go.WideShapes Go.ChangeAt Go.RowKit
set_option linter.unusedSimpArgs false
set_option linter.unusedVariables false
set_option maxRecDepth 100000
theorem ring_range {w : World} {g n : Nat} {t : TypeId} {key : List Int} (hk : key.length = 16) (h : Is w g t (rcs key n)) : w.rangeAt g 0 (u8s key) := fun j v hj => by
  rw [Nat.zero_add, h.cell]; exact rcs_key hk n j v hj
theorem ring_now {w : World} {g n : Nat} {t : TypeId} {key : List Int} (hk : key.length = 16) (h : Is w g t (rcs key n)) : w.cell? ⟨g, 16, none⟩ = some (.int .u64 (n : Int)) := by
  rw [h.cell]; exact rcs_now hk n
theorem rh_key (w : World) (g : Nat) (cs : Array Value) (hg : Is w g 43 cs) (hs : cs.size = 16) : (loadVar 43 ⟨g, 0, none⟩).run Try.prog w = .ok (.agg cs) w :=
  run_loadVar_row w g 43 43 cs (0, 0) _ (is_raw hg) Try.underlying43 rfl (by rw [hs]; kernel_rfl)
def dvk (key : List Int) (n : Nat) : List Int := kof (sip key ([1] ++ be n 8)) (sip key ([2] ++ be n 8))
theorem dvk_len (key : List Int) (n : Nat) : (dvk key n).length = 16 := kof_len _ _
theorem dvk_run (key : List Int) (n : Nat) (w : World) (hl : key.length = 16) (ho : Octets key) (hn : n < 18446744073709551616) : Calls Try.prog 106 #[.agg (u8s key).toArray, .int .u64 (n : Int)] w fun e w' => e = .returned (.agg (u8s (dvk key n)).toArray) ∧ Below w.heap.size w w' :=
  derive_any key _ n w rfl hl ho hn
set_option maxHeartbeats 400000 in
theorem hat_z (key : List Int) (hk : key.length = 16) (ho : Octets key) (n : Nat) (hn : n < 18446744073709551616) (h0 : n = 0) (hx : n % 2 = 0) (w : World) : Calls Try.prog 71 #[.agg (rcs key n), .int .i64 1] w fun e w' => e = .returned (.tuple #[.agg #[.int .u8 0, .int .u8 0, .int .u8 0, .int .u8 0, .int .u8 0, .int .u8 0, .int .u8 0, .int .u8 0, .int .u8 0, .int .u8 0, .int .u8 0, .int .u8 0, .int .u8 0, .int .u8 0, .int .u8 0, .int .u8 0], .bool false]) ∧ Below w.heap.size w w' := by
  have hb0 : Below w.heap.size w ((w.alloc (.cells (rcs key n) 45)).alloc (.cells #[.int .u8 0, .int .u8 0, .int .u8 0, .int .u8 0, .int .u8 0, .int .u8 0, .int .u8 0, .int .u8 0, .int .u8 0, .int .u8 0, .int .u8 0, .int .u8 0, .int .u8 0, .int .u8 0, .int .u8 0, .int .u8 0] 43)) := ((Below.refl _ _).alloc (Nat.le_refl _) _).alloc (by simp) _
  have hr0 := (Is.new w 45 (rcs key n)).alloc (.cells #[.int .u8 0, .int .u8 0, .int .u8 0, .int .u8 0, .int .u8 0, .int .u8 0, .int .u8 0, .int .u8 0, .int .u8 0, .int .u8 0, .int .u8 0, .int .u8 0, .int .u8 0, .int .u8 0, .int .u8 0, .int .u8 0] 43)
  have hg0 := Is.new (w.alloc (.cells (rcs key n) 45)) 43 #[.int .u8 0, .int .u8 0, .int .u8 0, .int .u8 0, .int .u8 0, .int .u8 0, .int .u8 0, .int .u8 0, .int .u8 0, .int .u8 0, .int .u8 0, .int .u8 0, .int .u8 0, .int .u8 0, .int .u8 0, .int .u8 0]
  rw [show (w.alloc (.cells (rcs key n) 45)).heap.size = w.heap.size + 1 from by simp] at hg0
  have R0 := Lib.hid hr0; have J0 := Lib.hid hg0; have HB0 := Lib.hid hb0; have HK := Lib.hid hk; have RSZ := Lib.hid (rcs_size hk n)
  clear hr0 hg0 hb0
  have BT := hide (fun W => show Calls Try.prog 72 #[.agg (rcs key n)] W fun e w' => e = .returned (.int .i64 0) ∧ Below W.heap.size W w' from by have h := hbit key hk n hn W; rw [hx] at h; exact h)
  have hn0 : (n : Int) = 0 := by omega
  clear h0
  clear hk ho hx
  go_enter Try.func71, Try.ntmps71
  go_wp2_with (with_reducible show wpList _ _ _ (⟨some 8, _, _, _, _, _⟩ :: _) _ _; go_loud (refine Go.wpList_load_row rfl 45 (.tmp 2) rfl w.heap.size rfl 45 (rcs key n) (0, 0) _ (is_raw R0.out) Try.underlying45 rfl (by rw [RSZ.out]; kernel_rfl) ?_))
  refine (unhide BT _).mono ?_
  rintro e w1 ⟨rfl, hb⟩
  have R1 := Lib.hid (R0.out.below hb R0.out.lt); have J1 := Lib.hid (J0.out.below hb J0.out.lt); have HB1 := Lib.hid (HB0.out.trans (hb.mono HB0.out.size))
  clear hb R0 J0 HB0
  have c16 := ring_now HK.out R1.out
  go_wp2_with (with_reducible show wpList _ _ _ (⟨some 18, _, _, _, _, _⟩ :: _) _ _; go_loud (refine Go.wpList_load_row rfl 45 (.tmp 2) rfl w.heap.size rfl 45 (rcs key n) (0, 0) _ (is_raw R1.out) Try.underlying45 rfl (by rw [RSZ.out]; kernel_rfl) ?_))
  refine (unhide BT _).mono ?_
  clear c16
  rintro e w2 ⟨rfl, hb⟩
  have R2 := Lib.hid (R1.out.below hb R1.out.lt); have J2 := Lib.hid (J1.out.below hb J1.out.lt); have HB2 := Lib.hid (HB1.out.trans (hb.mono HB1.out.size))
  clear hb R1 J1 HB1
  have c16 := ring_now HK.out R2.out
  go_wp2_with (with_reducible show wpList _ _ _ (⟨none, _, _, _, _, _⟩ :: _) _ _; go_loud (refine Go.wpList_store_row rfl 43 (.tmp 4) (.tmp 33) rfl (w.heap.size + 1) #[.int .u8 0, .int .u8 0, .int .u8 0, .int .u8 0, .int .u8 0, .int .u8 0, .int .u8 0, .int .u8 0, .int .u8 0, .int .u8 0, .int .u8 0, .int .u8 0, .int .u8 0, .int .u8 0, .int .u8 0, .int .u8 0] rfl rfl 43 #[.int .u8 0, .int .u8 0, .int .u8 0, .int .u8 0, .int .u8 0, .int .u8 0, .int .u8 0, .int .u8 0, .int .u8 0, .int .u8 0, .int .u8 0, .int .u8 0, .int .u8 0, .int .u8 0, .int .u8 0, .int .u8 0] (is_raw J2.out) (by kernel_rfl) (by simp) (by simp [Value.oneCell']) ?_))
  have RK := rh_key _ (w.heap.size + 1) #[.int .u8 0, .int .u8 0, .int .u8 0, .int .u8 0, .int .u8 0, .int .u8 0, .int .u8 0, .int .u8 0, .int .u8 0, .int .u8 0, .int .u8 0, .int .u8 0, .int .u8 0, .int .u8 0, .int .u8 0, .int .u8 0] (is_row J2.out) rfl
  refine bodyPost_ret (v := .tuple #[.agg #[.int .u8 0, .int .u8 0, .int .u8 0, .int .u8 0, .int .u8 0, .int .u8 0, .int .u8 0, .int .u8 0, .int .u8 0, .int .u8 0, .int .u8 0, .int .u8 0, .int .u8 0, .int .u8 0, .int .u8 0, .int .u8 0], .bool false]) (by simp [results, Try.results71, asAddr, RK]) rfl ⟨rfl, below_setRow HB2.out (Nat.le_succ _) _⟩
set_option maxHeartbeats 400000 in
theorem hat_o0 (key : List Int) (hk : key.length = 16) (ho : Octets key) (n : Nat) (hn : n < 18446744073709551616) (b : Int) (hb0 : b ≠ 0) (hb1 : b ≠ 1) (hx : n % 2 = 0) (w : World) : Calls Try.prog 71 #[.agg (rcs key n), .int .i64 b] w fun e w' => e = .returned (.tuple #[.agg #[.int .u8 0, .int .u8 0, .int .u8 0, .int .u8 0, .int .u8 0, .int .u8 0, .int .u8 0, .int .u8 0, .int .u8 0, .int .u8 0, .int .u8 0, .int .u8 0, .int .u8 0, .int .u8 0, .int .u8 0, .int .u8 0], .bool false]) ∧ Below w.heap.size w w' := by
  have hb0 : Below w.heap.size w ((w.alloc (.cells (rcs key n) 45)).alloc (.cells #[.int .u8 0, .int .u8 0, .int .u8 0, .int .u8 0, .int .u8 0, .int .u8 0, .int .u8 0, .int .u8 0, .int .u8 0, .int .u8 0, .int .u8 0, .int .u8 0, .int .u8 0, .int .u8 0, .int .u8 0, .int .u8 0] 43)) := ((Below.refl _ _).alloc (Nat.le_refl _) _).alloc (by simp) _
  have hr0 := (Is.new w 45 (rcs key n)).alloc (.cells #[.int .u8 0, .int .u8 0, .int .u8 0, .int .u8 0, .int .u8 0, .int .u8 0, .int .u8 0, .int .u8 0, .int .u8 0, .int .u8 0, .int .u8 0, .int .u8 0, .int .u8 0, .int .u8 0, .int .u8 0, .int .u8 0] 43)
  have hg0 := Is.new (w.alloc (.cells (rcs key n) 45)) 43 #[.int .u8 0, .int .u8 0, .int .u8 0, .int .u8 0, .int .u8 0, .int .u8 0, .int .u8 0, .int .u8 0, .int .u8 0, .int .u8 0, .int .u8 0, .int .u8 0, .int .u8 0, .int .u8 0, .int .u8 0, .int .u8 0]
  rw [show (w.alloc (.cells (rcs key n) 45)).heap.size = w.heap.size + 1 from by simp] at hg0
  have R0 := Lib.hid hr0; have J0 := Lib.hid hg0; have HB0 := Lib.hid hb0; have HK := Lib.hid hk; have RSZ := Lib.hid (rcs_size hk n)
  clear hr0 hg0 hb0
  have BT := hide (fun W => show Calls Try.prog 72 #[.agg (rcs key n)] W fun e w' => e = .returned (.int .i64 0) ∧ Below W.heap.size W w' from by have h := hbit key hk n hn W; rw [hx] at h; exact h)
  have hn0 : (b == 0) = false := by simp [hb0]
  have hn1 : (b == 1) = false := by simp [hb1]
  clear hk ho hx
  go_enter Try.func71, Try.ntmps71
  go_wp2_with (with_reducible show wpList _ _ _ (⟨some 8, _, _, _, _, _⟩ :: _) _ _; go_loud (refine Go.wpList_load_row rfl 45 (.tmp 2) rfl w.heap.size rfl 45 (rcs key n) (0, 0) _ (is_raw R0.out) Try.underlying45 rfl (by rw [RSZ.out]; kernel_rfl) ?_))
  refine (unhide BT _).mono ?_
  rintro e w1 ⟨rfl, hb⟩
  have R1 := Lib.hid (R0.out.below hb R0.out.lt); have J1 := Lib.hid (J0.out.below hb J0.out.lt); have HB1 := Lib.hid (HB0.out.trans (hb.mono HB0.out.size))
  clear hb R0 J0 HB0
  have c16 := ring_now HK.out R1.out
  go_wp2_with (with_reducible show wpList _ _ _ (⟨some 18, _, _, _, _, _⟩ :: _) _ _; go_loud (refine Go.wpList_load_row rfl 45 (.tmp 2) rfl w.heap.size rfl 45 (rcs key n) (0, 0) _ (is_raw R1.out) Try.underlying45 rfl (by rw [RSZ.out]; kernel_rfl) ?_))
  refine (unhide BT _).mono ?_
  clear c16
  rintro e w2 ⟨rfl, hb⟩
  have R2 := Lib.hid (R1.out.below hb R1.out.lt); have J2 := Lib.hid (J1.out.below hb J1.out.lt); have HB2 := Lib.hid (HB1.out.trans (hb.mono HB1.out.size))
  clear hb R1 J1 HB1
  have c16 := ring_now HK.out R2.out
  go_wp2_with (with_reducible show wpList _ _ _ (⟨none, _, _, _, _, _⟩ :: _) _ _; go_loud (refine Go.wpList_store_row rfl 43 (.tmp 4) (.tmp 33) rfl (w.heap.size + 1) #[.int .u8 0, .int .u8 0, .int .u8 0, .int .u8 0, .int .u8 0, .int .u8 0, .int .u8 0, .int .u8 0, .int .u8 0, .int .u8 0, .int .u8 0, .int .u8 0, .int .u8 0, .int .u8 0, .int .u8 0, .int .u8 0] rfl rfl 43 #[.int .u8 0, .int .u8 0, .int .u8 0, .int .u8 0, .int .u8 0, .int .u8 0, .int .u8 0, .int .u8 0, .int .u8 0, .int .u8 0, .int .u8 0, .int .u8 0, .int .u8 0, .int .u8 0, .int .u8 0, .int .u8 0] (is_raw J2.out) (by kernel_rfl) (by simp) (by simp [Value.oneCell']) ?_))
  have RK := rh_key _ (w.heap.size + 1) #[.int .u8 0, .int .u8 0, .int .u8 0, .int .u8 0, .int .u8 0, .int .u8 0, .int .u8 0, .int .u8 0, .int .u8 0, .int .u8 0, .int .u8 0, .int .u8 0, .int .u8 0, .int .u8 0, .int .u8 0, .int .u8 0] (is_row J2.out) rfl
  refine bodyPost_ret (v := .tuple #[.agg #[.int .u8 0, .int .u8 0, .int .u8 0, .int .u8 0, .int .u8 0, .int .u8 0, .int .u8 0, .int .u8 0, .int .u8 0, .int .u8 0, .int .u8 0, .int .u8 0, .int .u8 0, .int .u8 0, .int .u8 0, .int .u8 0], .bool false]) (by simp [results, Try.results71, asAddr, RK]) rfl ⟨rfl, below_setRow HB2.out (Nat.le_succ _) _⟩
set_option maxHeartbeats 400000 in
theorem hat_o1 (key : List Int) (hk : key.length = 16) (ho : Octets key) (n : Nat) (hn : n < 18446744073709551616) (b : Int) (hb0 : b ≠ 0) (hb1 : b ≠ 1) (hx : n % 2 = 1) (w : World) : Calls Try.prog 71 #[.agg (rcs key n), .int .i64 b] w fun e w' => e = .returned (.tuple #[.agg #[.int .u8 0, .int .u8 0, .int .u8 0, .int .u8 0, .int .u8 0, .int .u8 0, .int .u8 0, .int .u8 0, .int .u8 0, .int .u8 0, .int .u8 0, .int .u8 0, .int .u8 0, .int .u8 0, .int .u8 0, .int .u8 0], .bool false]) ∧ Below w.heap.size w w' := by
  have hb0 : Below w.heap.size w ((w.alloc (.cells (rcs key n) 45)).alloc (.cells #[.int .u8 0, .int .u8 0, .int .u8 0, .int .u8 0, .int .u8 0, .int .u8 0, .int .u8 0, .int .u8 0, .int .u8 0, .int .u8 0, .int .u8 0, .int .u8 0, .int .u8 0, .int .u8 0, .int .u8 0, .int .u8 0] 43)) := ((Below.refl _ _).alloc (Nat.le_refl _) _).alloc (by simp) _
  have hr0 := (Is.new w 45 (rcs key n)).alloc (.cells #[.int .u8 0, .int .u8 0, .int .u8 0, .int .u8 0, .int .u8 0, .int .u8 0, .int .u8 0, .int .u8 0, .int .u8 0, .int .u8 0, .int .u8 0, .int .u8 0, .int .u8 0, .int .u8 0, .int .u8 0, .int .u8 0] 43)
  have hg0 := Is.new (w.alloc (.cells (rcs key n) 45)) 43 #[.int .u8 0, .int .u8 0, .int .u8 0, .int .u8 0, .int .u8 0, .int .u8 0, .int .u8 0, .int .u8 0, .int .u8 0, .int .u8 0, .int .u8 0, .int .u8 0, .int .u8 0, .int .u8 0, .int .u8 0, .int .u8 0]
  rw [show (w.alloc (.cells (rcs key n) 45)).heap.size = w.heap.size + 1 from by simp] at hg0
  have R0 := Lib.hid hr0; have J0 := Lib.hid hg0; have HB0 := Lib.hid hb0; have HK := Lib.hid hk; have RSZ := Lib.hid (rcs_size hk n)
  clear hr0 hg0 hb0
  have BT := hide (fun W => show Calls Try.prog 72 #[.agg (rcs key n)] W fun e w' => e = .returned (.int .i64 1) ∧ Below W.heap.size W w' from by have h := hbit key hk n hn W; rw [hx] at h; exact h)
  have hn0 : (b == 0) = false := by simp [hb0]
  have hn1 : (b == 1) = false := by simp [hb1]
  clear hk ho hx
  go_enter Try.func71, Try.ntmps71
  go_wp2_with (with_reducible show wpList _ _ _ (⟨some 8, _, _, _, _, _⟩ :: _) _ _; go_loud (refine Go.wpList_load_row rfl 45 (.tmp 2) rfl w.heap.size rfl 45 (rcs key n) (0, 0) _ (is_raw R0.out) Try.underlying45 rfl (by rw [RSZ.out]; kernel_rfl) ?_))
  refine (unhide BT _).mono ?_
  rintro e w1 ⟨rfl, hb⟩
  have R1 := Lib.hid (R0.out.below hb R0.out.lt); have J1 := Lib.hid (J0.out.below hb J0.out.lt); have HB1 := Lib.hid (HB0.out.trans (hb.mono HB0.out.size))
  clear hb R0 J0 HB0
  have c16 := ring_now HK.out R1.out
  go_wp2_with (with_reducible show wpList _ _ _ (⟨some 18, _, _, _, _, _⟩ :: _) _ _; go_loud (refine Go.wpList_load_row rfl 45 (.tmp 2) rfl w.heap.size rfl 45 (rcs key n) (0, 0) _ (is_raw R1.out) Try.underlying45 rfl (by rw [RSZ.out]; kernel_rfl) ?_))
  refine (unhide BT _).mono ?_
  clear c16
  rintro e w2 ⟨rfl, hb⟩
  have R2 := Lib.hid (R1.out.below hb R1.out.lt); have J2 := Lib.hid (J1.out.below hb J1.out.lt); have HB2 := Lib.hid (HB1.out.trans (hb.mono HB1.out.size))
  clear hb R1 J1 HB1
  have c16 := ring_now HK.out R2.out
  go_wp2_with (with_reducible show wpList _ _ _ (⟨none, _, _, _, _, _⟩ :: _) _ _; go_loud (refine Go.wpList_store_row rfl 43 (.tmp 4) (.tmp 33) rfl (w.heap.size + 1) #[.int .u8 0, .int .u8 0, .int .u8 0, .int .u8 0, .int .u8 0, .int .u8 0, .int .u8 0, .int .u8 0, .int .u8 0, .int .u8 0, .int .u8 0, .int .u8 0, .int .u8 0, .int .u8 0, .int .u8 0, .int .u8 0] rfl rfl 43 #[.int .u8 0, .int .u8 0, .int .u8 0, .int .u8 0, .int .u8 0, .int .u8 0, .int .u8 0, .int .u8 0, .int .u8 0, .int .u8 0, .int .u8 0, .int .u8 0, .int .u8 0, .int .u8 0, .int .u8 0, .int .u8 0] (is_raw J2.out) (by kernel_rfl) (by simp) (by simp [Value.oneCell']) ?_))
  have RK := rh_key _ (w.heap.size + 1) #[.int .u8 0, .int .u8 0, .int .u8 0, .int .u8 0, .int .u8 0, .int .u8 0, .int .u8 0, .int .u8 0, .int .u8 0, .int .u8 0, .int .u8 0, .int .u8 0, .int .u8 0, .int .u8 0, .int .u8 0, .int .u8 0] (is_row J2.out) rfl
  refine bodyPost_ret (v := .tuple #[.agg #[.int .u8 0, .int .u8 0, .int .u8 0, .int .u8 0, .int .u8 0, .int .u8 0, .int .u8 0, .int .u8 0, .int .u8 0, .int .u8 0, .int .u8 0, .int .u8 0, .int .u8 0, .int .u8 0, .int .u8 0, .int .u8 0], .bool false]) (by simp [results, Try.results71, asAddr, RK]) rfl ⟨rfl, below_setRow HB2.out (Nat.le_succ _) _⟩
set_option maxHeartbeats 400000 in
theorem hat_a0 (key : List Int) (hk : key.length = 16) (ho : Octets key) (n : Nat) (hn : n < 18446744073709551616) (hx : n % 2 = 0) (w : World) : Calls Try.prog 71 #[.agg (rcs key n), .int .i64 0] w fun e w' => e = .returned (.tuple #[.agg (u8s (dvk key n)).toArray, .bool true]) ∧ Below w.heap.size w w' := by
  have hb0 : Below w.heap.size w ((w.alloc (.cells (rcs key n) 45)).alloc (.cells #[.int .u8 0, .int .u8 0, .int .u8 0, .int .u8 0, .int .u8 0, .int .u8 0, .int .u8 0, .int .u8 0, .int .u8 0, .int .u8 0, .int .u8 0, .int .u8 0, .int .u8 0, .int .u8 0, .int .u8 0, .int .u8 0] 43)) := ((Below.refl _ _).alloc (Nat.le_refl _) _).alloc (by simp) _
  have hr0 := (Is.new w 45 (rcs key n)).alloc (.cells #[.int .u8 0, .int .u8 0, .int .u8 0, .int .u8 0, .int .u8 0, .int .u8 0, .int .u8 0, .int .u8 0, .int .u8 0, .int .u8 0, .int .u8 0, .int .u8 0, .int .u8 0, .int .u8 0, .int .u8 0, .int .u8 0] 43)
  have hg0 := Is.new (w.alloc (.cells (rcs key n) 45)) 43 #[.int .u8 0, .int .u8 0, .int .u8 0, .int .u8 0, .int .u8 0, .int .u8 0, .int .u8 0, .int .u8 0, .int .u8 0, .int .u8 0, .int .u8 0, .int .u8 0, .int .u8 0, .int .u8 0, .int .u8 0, .int .u8 0]
  rw [show (w.alloc (.cells (rcs key n) 45)).heap.size = w.heap.size + 1 from by simp] at hg0
  have R0 := Lib.hid hr0; have J0 := Lib.hid hg0; have HB0 := Lib.hid hb0; have HK := Lib.hid hk; have RSZ := Lib.hid (rcs_size hk n)
  clear hr0 hg0 hb0
  have BT := hide (fun W => show Calls Try.prog 72 #[.agg (rcs key n)] W fun e w' => e = .returned (.int .i64 0) ∧ Below W.heap.size W w' from by have h := hbit key hk n hn W; rw [hx] at h; exact h)
  have HD := hide (fun W => dvk_run key n W hk ho hn)
  have HSZ := Lib.hid (show (u8s (dvk key n)).toArray.size = 16 from by simp [u8s, dvk_len]); have HONE := Lib.hid (one_u8s (dvk key n))
  generalize (u8s (dvk key n)).toArray = cs at *
  clear hk ho hx
  go_enter Try.func71, Try.ntmps71
  go_wp2_with (with_reducible show wpList _ _ _ (⟨some 8, _, _, _, _, _⟩ :: _) _ _; go_loud (refine Go.wpList_load_row rfl 45 (.tmp 2) rfl w.heap.size rfl 45 (rcs key n) (0, 0) _ (is_raw R0.out) Try.underlying45 rfl (by rw [RSZ.out]; kernel_rfl) ?_))
  refine (unhide BT _).mono ?_
  rintro e w1 ⟨rfl, hb⟩
  have R1 := Lib.hid (R0.out.below hb R0.out.lt); have J1 := Lib.hid (J0.out.below hb J0.out.lt); have HB1 := Lib.hid (HB0.out.trans (hb.mono HB0.out.size))
  clear hb R0 J0 HB0
  have c16 := ring_now HK.out R1.out
  go_wp2_with (with_reducible show wpList _ _ _ (⟨some 12, _, _, _, _, _⟩ :: _) _ _; go_loud (refine wpList_load_mid rfl 43 (.tmp 11) rfl w.heap.size 0 rfl (u8s key) _ (ring_range HK.out R1.out) Try.underlying43 rfl (by rw [show (u8s key).length = 16 from by simp [u8s, HK.out]]; kernel_rfl) ?_))
  refine (unhide HD _).mono ?_
  clear c16
  rintro e w2 ⟨rfl, hb⟩
  have R2 := Lib.hid (R1.out.below hb R1.out.lt); have J2 := Lib.hid (J1.out.below hb J1.out.lt); have HB2 := Lib.hid (HB1.out.trans (hb.mono HB1.out.size))
  clear hb R1 J1 HB1
  have c16 := ring_now HK.out R2.out
  clear c16
  go_wp2_with (with_reducible show wpList _ _ _ (⟨none, _, _, _, _, _⟩ :: _) _ _; go_loud (refine Go.wpList_store_row rfl 43 (.tmp 4) (.tmp 15) rfl (w.heap.size + 1) cs rfl rfl 43 #[.int .u8 0, .int .u8 0, .int .u8 0, .int .u8 0, .int .u8 0, .int .u8 0, .int .u8 0, .int .u8 0, .int .u8 0, .int .u8 0, .int .u8 0, .int .u8 0, .int .u8 0, .int .u8 0, .int .u8 0, .int .u8 0] (is_raw J2.out) (by rw [HSZ.out]; kernel_rfl) (by rw [HSZ.out]; simp) HONE.out ?_))
  have RK := rh_key _ (w.heap.size + 1) cs (is_row J2.out) HSZ.out
  refine bodyPost_ret (v := .tuple #[.agg cs, .bool true]) (by simp [results, Try.results71, asAddr, RK]) rfl ⟨rfl, below_setRow HB2.out (Nat.le_succ _) _⟩
set_option maxHeartbeats 400000 in
theorem hat_a1 (key : List Int) (hk : key.length = 16) (ho : Octets key) (n : Nat) (hn : n < 18446744073709551616) (hx : n % 2 = 1) (w : World) : Calls Try.prog 71 #[.agg (rcs key n), .int .i64 1] w fun e w' => e = .returned (.tuple #[.agg (u8s (dvk key n)).toArray, .bool true]) ∧ Below w.heap.size w w' := by
  have hb0 : Below w.heap.size w ((w.alloc (.cells (rcs key n) 45)).alloc (.cells #[.int .u8 0, .int .u8 0, .int .u8 0, .int .u8 0, .int .u8 0, .int .u8 0, .int .u8 0, .int .u8 0, .int .u8 0, .int .u8 0, .int .u8 0, .int .u8 0, .int .u8 0, .int .u8 0, .int .u8 0, .int .u8 0] 43)) := ((Below.refl _ _).alloc (Nat.le_refl _) _).alloc (by simp) _
  have hr0 := (Is.new w 45 (rcs key n)).alloc (.cells #[.int .u8 0, .int .u8 0, .int .u8 0, .int .u8 0, .int .u8 0, .int .u8 0, .int .u8 0, .int .u8 0, .int .u8 0, .int .u8 0, .int .u8 0, .int .u8 0, .int .u8 0, .int .u8 0, .int .u8 0, .int .u8 0] 43)
  have hg0 := Is.new (w.alloc (.cells (rcs key n) 45)) 43 #[.int .u8 0, .int .u8 0, .int .u8 0, .int .u8 0, .int .u8 0, .int .u8 0, .int .u8 0, .int .u8 0, .int .u8 0, .int .u8 0, .int .u8 0, .int .u8 0, .int .u8 0, .int .u8 0, .int .u8 0, .int .u8 0]
  rw [show (w.alloc (.cells (rcs key n) 45)).heap.size = w.heap.size + 1 from by simp] at hg0
  have R0 := Lib.hid hr0; have J0 := Lib.hid hg0; have HB0 := Lib.hid hb0; have HK := Lib.hid hk; have RSZ := Lib.hid (rcs_size hk n)
  clear hr0 hg0 hb0
  have BT := hide (fun W => show Calls Try.prog 72 #[.agg (rcs key n)] W fun e w' => e = .returned (.int .i64 1) ∧ Below W.heap.size W w' from by have h := hbit key hk n hn W; rw [hx] at h; exact h)
  have HD := hide (fun W => dvk_run key n W hk ho hn)
  have HSZ := Lib.hid (show (u8s (dvk key n)).toArray.size = 16 from by simp [u8s, dvk_len]); have HONE := Lib.hid (one_u8s (dvk key n))
  generalize (u8s (dvk key n)).toArray = cs at *
  clear hk ho hx
  go_enter Try.func71, Try.ntmps71
  go_wp2_with (with_reducible show wpList _ _ _ (⟨some 8, _, _, _, _, _⟩ :: _) _ _; go_loud (refine Go.wpList_load_row rfl 45 (.tmp 2) rfl w.heap.size rfl 45 (rcs key n) (0, 0) _ (is_raw R0.out) Try.underlying45 rfl (by rw [RSZ.out]; kernel_rfl) ?_))
  refine (unhide BT _).mono ?_
  rintro e w1 ⟨rfl, hb⟩
  have R1 := Lib.hid (R0.out.below hb R0.out.lt); have J1 := Lib.hid (J0.out.below hb J0.out.lt); have HB1 := Lib.hid (HB0.out.trans (hb.mono HB0.out.size))
  clear hb R0 J0 HB0
  have c16 := ring_now HK.out R1.out
  go_wp2_with (with_reducible show wpList _ _ _ (⟨some 12, _, _, _, _, _⟩ :: _) _ _; go_loud (refine wpList_load_mid rfl 43 (.tmp 11) rfl w.heap.size 0 rfl (u8s key) _ (ring_range HK.out R1.out) Try.underlying43 rfl (by rw [show (u8s key).length = 16 from by simp [u8s, HK.out]]; kernel_rfl) ?_))
  refine (unhide HD _).mono ?_
  clear c16
  rintro e w2 ⟨rfl, hb⟩
  have R2 := Lib.hid (R1.out.below hb R1.out.lt); have J2 := Lib.hid (J1.out.below hb J1.out.lt); have HB2 := Lib.hid (HB1.out.trans (hb.mono HB1.out.size))
  clear hb R1 J1 HB1
  have c16 := ring_now HK.out R2.out
  clear c16
  go_wp2_with (with_reducible show wpList _ _ _ (⟨none, _, _, _, _, _⟩ :: _) _ _; go_loud (refine Go.wpList_store_row rfl 43 (.tmp 4) (.tmp 15) rfl (w.heap.size + 1) cs rfl rfl 43 #[.int .u8 0, .int .u8 0, .int .u8 0, .int .u8 0, .int .u8 0, .int .u8 0, .int .u8 0, .int .u8 0, .int .u8 0, .int .u8 0, .int .u8 0, .int .u8 0, .int .u8 0, .int .u8 0, .int .u8 0, .int .u8 0] (is_raw J2.out) (by rw [HSZ.out]; kernel_rfl) (by rw [HSZ.out]; simp) HONE.out ?_))
  have RK := rh_key _ (w.heap.size + 1) cs (is_row J2.out) HSZ.out
  refine bodyPost_ret (v := .tuple #[.agg cs, .bool true]) (by simp [results, Try.results71, asAddr, RK]) rfl ⟨rfl, below_setRow HB2.out (Nat.le_succ _) _⟩
set_option maxHeartbeats 400000 in
theorem hat_c1 (key : List Int) (hk : key.length = 16) (ho : Octets key) (n m : Nat) (hn : n < 18446744073709551616) (hm : m + 1 = n) (hx : n % 2 = 0) (w : World) : Calls Try.prog 71 #[.agg (rcs key n), .int .i64 1] w fun e w' => e = .returned (.tuple #[.agg (u8s (dvk key m)).toArray, .bool true]) ∧ Below w.heap.size w w' := by
  have hb0 : Below w.heap.size w ((w.alloc (.cells (rcs key n) 45)).alloc (.cells #[.int .u8 0, .int .u8 0, .int .u8 0, .int .u8 0, .int .u8 0, .int .u8 0, .int .u8 0, .int .u8 0, .int .u8 0, .int .u8 0, .int .u8 0, .int .u8 0, .int .u8 0, .int .u8 0, .int .u8 0, .int .u8 0] 43)) := ((Below.refl _ _).alloc (Nat.le_refl _) _).alloc (by simp) _
  have hr0 := (Is.new w 45 (rcs key n)).alloc (.cells #[.int .u8 0, .int .u8 0, .int .u8 0, .int .u8 0, .int .u8 0, .int .u8 0, .int .u8 0, .int .u8 0, .int .u8 0, .int .u8 0, .int .u8 0, .int .u8 0, .int .u8 0, .int .u8 0, .int .u8 0, .int .u8 0] 43)
  have hg0 := Is.new (w.alloc (.cells (rcs key n) 45)) 43 #[.int .u8 0, .int .u8 0, .int .u8 0, .int .u8 0, .int .u8 0, .int .u8 0, .int .u8 0, .int .u8 0, .int .u8 0, .int .u8 0, .int .u8 0, .int .u8 0, .int .u8 0, .int .u8 0, .int .u8 0, .int .u8 0]
  rw [show (w.alloc (.cells (rcs key n) 45)).heap.size = w.heap.size + 1 from by simp] at hg0
  have R0 := Lib.hid hr0; have J0 := Lib.hid hg0; have HB0 := Lib.hid hb0; have HK := Lib.hid hk; have RSZ := Lib.hid (rcs_size hk n)
  clear hr0 hg0 hb0
  have BT := hide (fun W => show Calls Try.prog 72 #[.agg (rcs key n)] W fun e w' => e = .returned (.int .i64 0) ∧ Below W.heap.size W w' from by have h := hbit key hk n hn W; rw [hx] at h; exact h)
  have HD := hide (fun W => dvk_run key m W hk ho (by omega))
  have HSZ := Lib.hid (show (u8s (dvk key m)).toArray.size = 16 from by simp [u8s, dvk_len]); have HONE := Lib.hid (one_u8s (dvk key m))
  have hn0 : ¬ (n : Int) = 0 := by omega
  have hn1 : ((n : Int) == 0) = false := by rw [beq_eq_false_iff_ne]; omega
  have hnm : (n : Int) - 1 = (m : Int) := by omega
  generalize (u8s (dvk key m)).toArray = cs at *
  clear hk ho hx hm
  go_enter Try.func71, Try.ntmps71
  go_wp2_with (with_reducible show wpList _ _ _ (⟨some 8, _, _, _, _, _⟩ :: _) _ _; go_loud (refine Go.wpList_load_row rfl 45 (.tmp 2) rfl w.heap.size rfl 45 (rcs key n) (0, 0) _ (is_raw R0.out) Try.underlying45 rfl (by rw [RSZ.out]; kernel_rfl) ?_))
  refine (unhide BT _).mono ?_
  rintro e w1 ⟨rfl, hb⟩
  have R1 := Lib.hid (R0.out.below hb R0.out.lt); have J1 := Lib.hid (J0.out.below hb J0.out.lt); have HB1 := Lib.hid (HB0.out.trans (hb.mono HB0.out.size))
  clear hb R0 J0 HB0
  have c16 := ring_now HK.out R1.out
  go_wp2_with (with_reducible show wpList _ _ _ (⟨some 18, _, _, _, _, _⟩ :: _) _ _; go_loud (refine Go.wpList_load_row rfl 45 (.tmp 2) rfl w.heap.size rfl 45 (rcs key n) (0, 0) _ (is_raw R1.out) Try.underlying45 rfl (by rw [RSZ.out]; kernel_rfl) ?_))
  refine (unhide BT _).mono ?_
  clear c16
  rintro e w2 ⟨rfl, hb⟩
  have R2 := Lib.hid (R1.out.below hb R1.out.lt); have J2 := Lib.hid (J1.out.below hb J1.out.lt); have HB2 := Lib.hid (HB1.out.trans (hb.mono HB1.out.size))
  clear hb R1 J1 HB1
  have c16 := ring_now HK.out R2.out
  go_wp2_with (with_reducible show wpList _ _ _ (⟨some 28, _, _, _, _, _⟩ :: _) _ _; go_loud (refine wpList_load_mid rfl 43 (.tmp 27) rfl w.heap.size 0 rfl (u8s key) _ (ring_range HK.out R2.out) Try.underlying43 rfl (by rw [show (u8s key).length = 16 from by simp [u8s, HK.out]]; kernel_rfl) ?_))
  refine (unhide HD _).mono ?_
  clear c16
  rintro e w3 ⟨rfl, hb⟩
  have R3 := Lib.hid (R2.out.below hb R2.out.lt); have J3 := Lib.hid (J2.out.below hb J2.out.lt); have HB3 := Lib.hid (HB2.out.trans (hb.mono HB2.out.size))
  clear hb R2 J2 HB2
  have c16 := ring_now HK.out R3.out
  clear c16
  go_wp2_with (with_reducible show wpList _ _ _ (⟨none, _, _, _, _, _⟩ :: _) _ _; go_loud (refine Go.wpList_store_row rfl 43 (.tmp 4) (.tmp 32) rfl (w.heap.size + 1) cs rfl rfl 43 #[.int .u8 0, .int .u8 0, .int .u8 0, .int .u8 0, .int .u8 0, .int .u8 0, .int .u8 0, .int .u8 0, .int .u8 0, .int .u8 0, .int .u8 0, .int .u8 0, .int .u8 0, .int .u8 0, .int .u8 0, .int .u8 0] (is_raw J3.out) (by rw [HSZ.out]; kernel_rfl) (by rw [HSZ.out]; simp) HONE.out ?_))
  have RK := rh_key _ (w.heap.size + 1) cs (is_row J3.out) HSZ.out
  refine bodyPost_ret (v := .tuple #[.agg cs, .bool true]) (by simp [results, Try.results71, asAddr, RK]) rfl ⟨rfl, below_setRow HB3.out (Nat.le_succ _) _⟩
set_option maxHeartbeats 400000 in
theorem hat_c0 (key : List Int) (hk : key.length = 16) (ho : Octets key) (n m : Nat) (hn : n < 18446744073709551616) (hm : m + 1 = n) (hx : n % 2 = 1) (w : World) : Calls Try.prog 71 #[.agg (rcs key n), .int .i64 0] w fun e w' => e = .returned (.tuple #[.agg (u8s (dvk key m)).toArray, .bool true]) ∧ Below w.heap.size w w' := by
  have hb0 : Below w.heap.size w ((w.alloc (.cells (rcs key n) 45)).alloc (.cells #[.int .u8 0, .int .u8 0, .int .u8 0, .int .u8 0, .int .u8 0, .int .u8 0, .int .u8 0, .int .u8 0, .int .u8 0, .int .u8 0, .int .u8 0, .int .u8 0, .int .u8 0, .int .u8 0, .int .u8 0, .int .u8 0] 43)) := ((Below.refl _ _).alloc (Nat.le_refl _) _).alloc (by simp) _
  have hr0 := (Is.new w 45 (rcs key n)).alloc (.cells #[.int .u8 0, .int .u8 0, .int .u8 0, .int .u8 0, .int .u8 0, .int .u8 0, .int .u8 0, .int .u8 0, .int .u8 0, .int .u8 0, .int .u8 0, .int .u8 0, .int .u8 0, .int .u8 0, .int .u8 0, .int .u8 0] 43)
  have hg0 := Is.new (w.alloc (.cells (rcs key n) 45)) 43 #[.int .u8 0, .int .u8 0, .int .u8 0, .int .u8 0, .int .u8 0, .int .u8 0, .int .u8 0, .int .u8 0, .int .u8 0, .int .u8 0, .int .u8 0, .int .u8 0, .int .u8 0, .int .u8 0, .int .u8 0, .int .u8 0]
  rw [show (w.alloc (.cells (rcs key n) 45)).heap.size = w.heap.size + 1 from by simp] at hg0
  have R0 := Lib.hid hr0; have J0 := Lib.hid hg0; have HB0 := Lib.hid hb0; have HK := Lib.hid hk; have RSZ := Lib.hid (rcs_size hk n)
  clear hr0 hg0 hb0
  have BT := hide (fun W => show Calls Try.prog 72 #[.agg (rcs key n)] W fun e w' => e = .returned (.int .i64 1) ∧ Below W.heap.size W w' from by have h := hbit key hk n hn W; rw [hx] at h; exact h)
  have HD := hide (fun W => dvk_run key m W hk ho (by omega))
  have HSZ := Lib.hid (show (u8s (dvk key m)).toArray.size = 16 from by simp [u8s, dvk_len]); have HONE := Lib.hid (one_u8s (dvk key m))
  have hn0 : ¬ (n : Int) = 0 := by omega
  have hn1 : ((n : Int) == 0) = false := by rw [beq_eq_false_iff_ne]; omega
  have hnm : (n : Int) - 1 = (m : Int) := by omega
  generalize (u8s (dvk key m)).toArray = cs at *
  clear hk ho hx hm
  go_enter Try.func71, Try.ntmps71
  go_wp2_with (with_reducible show wpList _ _ _ (⟨some 8, _, _, _, _, _⟩ :: _) _ _; go_loud (refine Go.wpList_load_row rfl 45 (.tmp 2) rfl w.heap.size rfl 45 (rcs key n) (0, 0) _ (is_raw R0.out) Try.underlying45 rfl (by rw [RSZ.out]; kernel_rfl) ?_))
  refine (unhide BT _).mono ?_
  rintro e w1 ⟨rfl, hb⟩
  have R1 := Lib.hid (R0.out.below hb R0.out.lt); have J1 := Lib.hid (J0.out.below hb J0.out.lt); have HB1 := Lib.hid (HB0.out.trans (hb.mono HB0.out.size))
  clear hb R0 J0 HB0
  have c16 := ring_now HK.out R1.out
  go_wp2_with (with_reducible show wpList _ _ _ (⟨some 18, _, _, _, _, _⟩ :: _) _ _; go_loud (refine Go.wpList_load_row rfl 45 (.tmp 2) rfl w.heap.size rfl 45 (rcs key n) (0, 0) _ (is_raw R1.out) Try.underlying45 rfl (by rw [RSZ.out]; kernel_rfl) ?_))
  refine (unhide BT _).mono ?_
  clear c16
  rintro e w2 ⟨rfl, hb⟩
  have R2 := Lib.hid (R1.out.below hb R1.out.lt); have J2 := Lib.hid (J1.out.below hb J1.out.lt); have HB2 := Lib.hid (HB1.out.trans (hb.mono HB1.out.size))
  clear hb R1 J1 HB1
  have c16 := ring_now HK.out R2.out
  go_wp2_with (with_reducible show wpList _ _ _ (⟨some 28, _, _, _, _, _⟩ :: _) _ _; go_loud (refine wpList_load_mid rfl 43 (.tmp 27) rfl w.heap.size 0 rfl (u8s key) _ (ring_range HK.out R2.out) Try.underlying43 rfl (by rw [show (u8s key).length = 16 from by simp [u8s, HK.out]]; kernel_rfl) ?_))
  refine (unhide HD _).mono ?_
  clear c16
  rintro e w3 ⟨rfl, hb⟩
  have R3 := Lib.hid (R2.out.below hb R2.out.lt); have J3 := Lib.hid (J2.out.below hb J2.out.lt); have HB3 := Lib.hid (HB2.out.trans (hb.mono HB2.out.size))
  clear hb R2 J2 HB2
  have c16 := ring_now HK.out R3.out
  clear c16
  go_wp2_with (with_reducible show wpList _ _ _ (⟨none, _, _, _, _, _⟩ :: _) _ _; go_loud (refine Go.wpList_store_row rfl 43 (.tmp 4) (.tmp 32) rfl (w.heap.size + 1) cs rfl rfl 43 #[.int .u8 0, .int .u8 0, .int .u8 0, .int .u8 0, .int .u8 0, .int .u8 0, .int .u8 0, .int .u8 0, .int .u8 0, .int .u8 0, .int .u8 0, .int .u8 0, .int .u8 0, .int .u8 0, .int .u8 0, .int .u8 0] (is_raw J3.out) (by rw [HSZ.out]; kernel_rfl) (by rw [HSZ.out]; simp) HONE.out ?_))
  have RK := rh_key _ (w.heap.size + 1) cs (is_row J3.out) HSZ.out
  refine bodyPost_ret (v := .tuple #[.agg cs, .bool true]) (by simp [results, Try.results71, asAddr, RK]) rfl ⟨rfl, below_setRow HB3.out (Nat.le_succ _) _⟩
end Go.Proofs.Ythjkjohmaemmiaa
