/-
  The law RingKeeps, walked. Helper of the claim RingKeeps. No condition.
-/
import Derived.Test.YtkdcaipadejchaaRh3
namespace Go.Proofs.Ytkdcaipadejchaa
open Go.ChangeShapes Go.WideShapes Go.ChangeAt Go.RowKit
set_option linter.unusedSimpArgs false
set_option linter.unusedVariables false
set_option maxRecDepth 100000
theorem wpList_load_row_if {P : Program} {ops : Array Oper} {rest : List Oper} {o : Oper} {a : Act} {w : World} {Q : Exit → Act → World → Prop} (hw : Region.wanted o (yielded ops a.tmps) = true) (ty : TypeId) (x : Operand) (ho : o.op = .load ty x)
    (g : Nat) (hx : a.eval x = .pointer (some ⟨g, 0, none⟩)) (t : TypeId) (cs : Array Value) (d : TypeDesc) (hg : Is w g t cs) (hu : P.underlying ty = some d) (hd : d.isRow = true) (hi : (P.info? ty).map (·.size) = some cs.size)
    (h : wpList P ops Q rest (a.put o.dst (.agg cs)) w) : wpList P ops Q (o :: rest) a w := by
  unfold wpList
  rw [if_pos hw]
  exact .inl (wp_load_mid ty x ho g 0 hx cs.toList d (fun j v hj => by rw [Nat.zero_add, hg.cell, ← Array.getElem?_toList]; exact hj) hu hd (by rw [hi]; simp) h)
theorem wpList_keyeq_if {ops : Array Oper} {rest : List Oper} {o : Oper} {a : Act} {w : World} {Q : Exit → Act → World → Prop} (hw : Region.wanted o (yielded ops a.tmps) = true) (x y : Operand) (ho : o.op = .binOp .eql 78 x y 78)
    (cs : Array Value) (hx : a.eval x = .agg cs) (hy : a.eval y = .agg cs) (he : (binOp .eql 78 (.agg cs) (.agg cs)).run Try.prog w = .ok (.bool true) w)
    (h : wpList Try.prog ops Q rest (a.put o.dst (.bool true)) w) : wpList Try.prog ops Q (o :: rest) a w := by
  unfold wpList
  rw [if_pos hw]
  refine .inl ?_
  unfold Oper.wp execOp
  simp only [ho, hx, hy, Sem.run_bind, key_guard, he, Result.andThen_ok, Sem.run_pure]
  exact h
set_option maxHeartbeats 1000000 in
theorem keeps_max (key : List Int) (hk : key.length = 16) (n : Nat) (hn : n = 18446744073709551615) (w : World) : Calls Try.prog 14 #[.agg (rcs key n)] w fun e w' => e = .returned (.bool true) ∧ Below w.heap.size w w' := by
  have hb0 : Below w.heap.size w (w.alloc (.cells (rcs key n) 87)) := (Below.refl _ _).alloc (Nat.le_refl _) _
  have R0 := Lib.hid (Is.new w 87 (rcs key n)); have HB0 := Lib.hid hb0; have HK := Lib.hid hk; have RSZ := Lib.hid (rcs_size hk n); have RONE := Lib.hid (rcs_one key n)
  have H16 := rcs_now hk n
  have hmax : ((n : Int) == 18446744073709551615) = true := by rw [hn]; rfl
  have HN := Lib.hid hn
  clear hb0 hk hn
  go_enter Try.func14, Try.ntmps14
  go_wp2_with (with_reducible show wpList _ _ _ (⟨some 9, _, _, _, _, _⟩ :: _) _ _; go_loud (refine wpList_load_mid rfl 74 (.tmp 8) rfl w.heap.size 0 rfl (u8s key) _ (ring_range HK.out R0.out) Try.underlying74 rfl (by rw [show (u8s key).length = 16 from by simp [u8s, HK.out]]; kernel_rfl) ?_))
  refine (hnew key HK.out n _).mono ?_
  rintro e w1 ⟨rfl, hb⟩
  have B1 := Lib.hid (R0.out.below hb R0.out.lt); have HB1 := Lib.hid (HB0.out.trans (hb.mono HB0.out.size))
  have J1 := Lib.hid (Is.new w1 89 #[.int .u8 0, .int .u8 0, .int .u8 0, .int .u8 0, .int .u8 0, .int .u8 0, .int .u8 0, .int .u8 0, .int .u8 0, .int .u8 0, .int .u8 0, .int .u8 0, .int .u8 0, .int .u8 0, .int .u8 0, .int .u8 0, .int .u64 0])
  have hz := HB1.out.size
  have b2 := B1.out.alloc (.cells #[.int .u8 0, .int .u8 0, .int .u8 0, .int .u8 0, .int .u8 0, .int .u8 0, .int .u8 0, .int .u8 0, .int .u8 0, .int .u8 0, .int .u8 0, .int .u8 0, .int .u8 0, .int .u8 0, .int .u8 0, .int .u8 0, .int .u64 0] 89)
  have HB2 := Lib.hid (below_setRow (HB1.out.alloc hz (.cells #[.int .u8 0, .int .u8 0, .int .u8 0, .int .u8 0, .int .u8 0, .int .u8 0, .int .u8 0, .int .u8 0, .int .u8 0, .int .u8 0, .int .u8 0, .int .u8 0, .int .u8 0, .int .u8 0, .int .u8 0, .int .u8 0, .int .u64 0] 89)) (g := w1.heap.size) hz (rcs key n))
  have G2 := Lib.hid (is_row (cs' := (rcs key n)) J1.out)
  have B2 := Lib.hid (show Is ((w1.alloc (.cells #[.int .u8 0, .int .u8 0, .int .u8 0, .int .u8 0, .int .u8 0, .int .u8 0, .int .u8 0, .int .u8 0, .int .u8 0, .int .u8 0, .int .u8 0, .int .u8 0, .int .u8 0, .int .u8 0, .int .u8 0, .int .u8 0, .int .u64 0] 89)).setRow w1.heap.size (rcs key n)) w.heap.size 87 (rcs key n) from (setRow_other _ _ _ _ (by have := B1.out.lt; omega)).trans b2)
  clear hb b2 R0 HB0 H16 B1 HB1
  go_wp2_with (
    (with_reducible show wpList _ _ _ (⟨none, _, _, _, _, _⟩ :: _) _ _)
    go_loud (refine Go.wpList_store_row rfl 89 (.tmp 3) (.tmp 12) rfl w1.heap.size (rcs key n) rfl rfl 89 #[.int .u8 0, .int .u8 0, .int .u8 0, .int .u8 0, .int .u8 0, .int .u8 0, .int .u8 0, .int .u8 0, .int .u8 0, .int .u8 0, .int .u8 0, .int .u8 0, .int .u8 0, .int .u8 0, .int .u8 0, .int .u8 0, .int .u64 0] (is_raw J1.out) (by rw [RSZ.out]; kernel_rfl) (by rw [RSZ.out]; simp) RONE.out ?_)
    generalize (w1.alloc (.cells #[.int .u8 0, .int .u8 0, .int .u8 0, .int .u8 0, .int .u8 0, .int .u8 0, .int .u8 0, .int .u8 0, .int .u8 0, .int .u8 0, .int .u8 0, .int .u8 0, .int .u8 0, .int .u8 0, .int .u8 0, .int .u8 0, .int .u64 0] 89)).setRow w1.heap.size (rcs key n) = W at *
    have c16 := ring_now HK.out B2.out)
  refine (awake11 _).mono ?_
  rintro e w9 ⟨rfl, hb9⟩
  have HB9 := Lib.hid (HB2.out.trans (hb9.mono HB2.out.size))
  clear hb9
  go_wp2_with fail
  go_ret
  exact ⟨rfl, HB9.out⟩
set_option maxHeartbeats 1000000 in
theorem keeps0 (key : List Int) (hk : key.length = 16) (ho : Octets key) (n : Nat) (hn : n + 1 < 18446744073709551616) (hx : n % 2 = 0) (w : World) : Calls Try.prog 14 #[.agg (rcs key n)] w fun e w' => e = .returned (.bool true) ∧ Below w.heap.size w w' := by
  have BT := hide (fun W => show Calls Try.prog 55 #[.agg (rcs key n)] W fun e w' => e = .returned (.int .i64 0) ∧ Below W.heap.size W w' from by have h := hbit key hk n (by omega) W; rw [hx] at h; exact h)
  have AT1 := hide (fun W => hat_a0 key hk ho n (by omega) hx W)
  have AT2 := hide (fun W => hat_c0 key hk ho (n + 1) n hn rfl (by omega) W)
  have NXT := hide (fun W => hnext key hk n (n + 1) (by rw [show (n : Int) + 1 = ((n + 1 : Nat) : Int) from rfl]; exact IntWalk.u64_in _ (by omega)) W)
  have KSZ := Lib.hid (show (u8s (dvk key n)).toArray.size = 16 from by simp [u8s, dvk_len]); have KONE := Lib.hid (one_u8s (dvk key n))
  have KEQ := hide (fun W => key_eql (dvk key n) (dvk_len key n) (kof_ok _ _) W)
  generalize (u8s (dvk key n)).toArray = ks at *
  have hb0 : Below w.heap.size w (w.alloc (.cells (rcs key n) 87)) := (Below.refl _ _).alloc (Nat.le_refl _) _
  have R0 := Lib.hid (Is.new w 87 (rcs key n)); have HB0 := Lib.hid hb0; have HK := Lib.hid hk; have RSZ := Lib.hid (rcs_size hk n); have RONE := Lib.hid (rcs_one key n)
  have H16 := rcs_now hk n
  have hmax : ((n : Int) == 18446744073709551615) = false := by rw [beq_eq_false_iff_ne]; omega
  have HN := Lib.hid hn
  clear hb0 hk ho hx hn
  go_enter Try.func14, Try.ntmps14
  go_wp2_with (with_reducible show wpList _ _ _ (⟨some 9, _, _, _, _, _⟩ :: _) _ _; go_loud (refine wpList_load_mid rfl 74 (.tmp 8) rfl w.heap.size 0 rfl (u8s key) _ (ring_range HK.out R0.out) Try.underlying74 rfl (by rw [show (u8s key).length = 16 from by simp [u8s, HK.out]]; kernel_rfl) ?_))
  refine (hnew key HK.out n _).mono ?_
  rintro e w1 ⟨rfl, hb⟩
  have B1 := Lib.hid (R0.out.below hb R0.out.lt); have HB1 := Lib.hid (HB0.out.trans (hb.mono HB0.out.size))
  have J1 := Lib.hid (Is.new w1 89 #[.int .u8 0, .int .u8 0, .int .u8 0, .int .u8 0, .int .u8 0, .int .u8 0, .int .u8 0, .int .u8 0, .int .u8 0, .int .u8 0, .int .u8 0, .int .u8 0, .int .u8 0, .int .u8 0, .int .u8 0, .int .u8 0, .int .u64 0])
  have hz := HB1.out.size
  have b2 := B1.out.alloc (.cells #[.int .u8 0, .int .u8 0, .int .u8 0, .int .u8 0, .int .u8 0, .int .u8 0, .int .u8 0, .int .u8 0, .int .u8 0, .int .u8 0, .int .u8 0, .int .u8 0, .int .u8 0, .int .u8 0, .int .u8 0, .int .u8 0, .int .u64 0] 89)
  have HB2 := Lib.hid (below_setRow (HB1.out.alloc hz (.cells #[.int .u8 0, .int .u8 0, .int .u8 0, .int .u8 0, .int .u8 0, .int .u8 0, .int .u8 0, .int .u8 0, .int .u8 0, .int .u8 0, .int .u8 0, .int .u8 0, .int .u8 0, .int .u8 0, .int .u8 0, .int .u8 0, .int .u64 0] 89)) (g := w1.heap.size) hz (rcs key n))
  have G2 := Lib.hid (is_row (cs' := (rcs key n)) J1.out)
  have B2 := Lib.hid (show Is ((w1.alloc (.cells #[.int .u8 0, .int .u8 0, .int .u8 0, .int .u8 0, .int .u8 0, .int .u8 0, .int .u8 0, .int .u8 0, .int .u8 0, .int .u8 0, .int .u8 0, .int .u8 0, .int .u8 0, .int .u8 0, .int .u8 0, .int .u8 0, .int .u64 0] 89)).setRow w1.heap.size (rcs key n)) w.heap.size 87 (rcs key n) from (setRow_other _ _ _ _ (by have := B1.out.lt; omega)).trans b2)
  clear hb b2 R0 HB0 H16 B1 HB1
  go_wp2_with (
    (with_reducible show wpList _ _ _ (⟨none, _, _, _, _, _⟩ :: _) _ _)
    go_loud (refine Go.wpList_store_row rfl 89 (.tmp 3) (.tmp 12) rfl w1.heap.size (rcs key n) rfl rfl 89 #[.int .u8 0, .int .u8 0, .int .u8 0, .int .u8 0, .int .u8 0, .int .u8 0, .int .u8 0, .int .u8 0, .int .u8 0, .int .u8 0, .int .u8 0, .int .u8 0, .int .u8 0, .int .u8 0, .int .u8 0, .int .u8 0, .int .u64 0] (is_raw J1.out) (by rw [RSZ.out]; kernel_rfl) (by rw [RSZ.out]; simp) RONE.out ?_)
    generalize (w1.alloc (.cells #[.int .u8 0, .int .u8 0, .int .u8 0, .int .u8 0, .int .u8 0, .int .u8 0, .int .u8 0, .int .u8 0, .int .u8 0, .int .u8 0, .int .u8 0, .int .u8 0, .int .u8 0, .int .u8 0, .int .u8 0, .int .u8 0, .int .u64 0] 89)).setRow w1.heap.size (rcs key n) = W at *
    have c16 := ring_now HK.out B2.out)
  generalize w1.heap.size = g1 at *
  have HBW := HB2; have G1 := G2
  clear HB2 G2 B2 J1 c16
  refine Lin.wp_region_lin2 (turnsK W.heap.size 78 #[.int .u8 0, .int .u8 0, .int .u8 0, .int .u8 0, .int .u8 0, .int .u8 0, .int .u8 0, .int .u8 0, .int .u8 0, .int .u8 0, .int .u8 0, .int .u8 0, .int .u8 0, .int .u8 0, .int .u8 0, .int .u8 0] ks) (n := 44) (fun slotq => match slotq with | 18 => Lin.Spec.val (.agg (rcs key n)) | 19 => Lin.Spec.val (.agg (rcs key n)) | 20 => Lin.Spec.val (.int .i64 0) | 21 => Lin.Spec.val (.tuple #[.agg ks, .bool true]) | 17 => Lin.Spec.val (.tuple #[.agg ks, .bool true]) | 22 => Lin.Spec.val (.agg ks) | 23 => Lin.Spec.val (.bool true) | 4 => (specZk 78 W.heap.size #[.int .u8 0, .int .u8 0, .int .u8 0, .int .u8 0, .int .u8 0, .int .u8 0, .int .u8 0, .int .u8 0, .int .u8 0, .int .u8 0, .int .u8 0, .int .u8 0, .int .u8 0, .int .u8 0, .int .u8 0, .int .u8 0] ks) | 5 => Lin.Spec.val (.bool true) | _ => Lin.Spec.any) (fun iq => match iq with | 8 => 4 | _ => 0) (fun iq => match iq with | 8 => (specNk 78 W.heap.size #[.int .u8 0, .int .u8 0, .int .u8 0, .int .u8 0, .int .u8 0, .int .u8 0, .int .u8 0, .int .u8 0, .int .u8 0, .int .u8 0, .int .u8 0, .int .u8 0, .int .u8 0, .int .u8 0, .int .u8 0, .int .u8 0] ks) | _ => Lin.Spec.any) (by kernel_rfl) rfl (by kernel_rfl) ⟨?_, ?_, ?_, ?_, ?_, ?_, ?_, ?_, ?_, ?_, trivial⟩ ?_
  · intro ρ wq hb ho hc hd
    have hC : ∀ v, ρ (.const v) = v := fun v => hc _ (by intro t e; cases e)
    have hF : ∀ f, ρ (.func f) = .func (.func f) #[] #[] := fun f => hc _ (by intro t e; cases e)
    have h3 : ρ (.tmp 3) = .pointer (some ⟨g1, 0, none⟩) := ho 3 (by kernel_rfl)
    have hbq := Lin.Turns.below hb (Nat.le_refl _)
    exact Lin.Runs.load_row (turnsK W.heap.size 78 #[.int .u8 0, .int .u8 0, .int .u8 0, .int .u8 0, .int .u8 0, .int .u8 0, .int .u8 0, .int .u8 0, .int .u8 0, .int .u8 0, .int .u8 0, .int .u8 0, .int .u8 0, .int .u8 0, .int .u8 0, .int .u8 0] ks) 89 (.tmp 3) rfl g1 h3 89 (rcs key n) (G1.out.below hbq G1.out.lt) _ Try.underlying89 rfl (by rw [RSZ.out]; kernel_rfl) rfl
  · intro ρ wq hb ho hc hd
    have hC : ∀ v, ρ (.const v) = v := fun v => hc _ (by intro t e; cases e)
    have hF : ∀ f, ρ (.func f) = .func (.func f) #[] #[] := fun f => hc _ (by intro t e; cases e)
    have h3 : ρ (.tmp 3) = .pointer (some ⟨g1, 0, none⟩) := ho 3 (by kernel_rfl)
    have hbq := Lin.Turns.below hb (Nat.le_refl _)
    exact Lin.Runs.load_row (turnsK W.heap.size 78 #[.int .u8 0, .int .u8 0, .int .u8 0, .int .u8 0, .int .u8 0, .int .u8 0, .int .u8 0, .int .u8 0, .int .u8 0, .int .u8 0, .int .u8 0, .int .u8 0, .int .u8 0, .int .u8 0, .int .u8 0, .int .u8 0] ks) 89 (.tmp 3) rfl g1 h3 89 (rcs key n) (G1.out.below hbq G1.out.lt) _ Try.underlying89 rfl (by rw [RSZ.out]; kernel_rfl) rfl
  · intro ρ wq hb ho hc hd
    have hC : ∀ v, ρ (.const v) = v := fun v => hc _ (by intro t e; cases e)
    have hF : ∀ f, ρ (.func f) = .func (.func f) #[] #[] := fun f => hc _ (by intro t e; cases e)
    have h19 : ρ (.tmp 19) = .agg (rcs key n) := hd 19 (by kernel_rfl)
    exact Lin.Runs.call (turnsK W.heap.size 78 #[.int .u8 0, .int .u8 0, .int .u8 0, .int .u8 0, .int .u8 0, .int .u8 0, .int .u8 0, .int .u8 0, .int .u8 0, .int .u8 0, .int .u8 0, .int .u8 0, .int .u8 0, .int .u8 0, .int .u8 0, .int .u8 0] ks) (f := 55) (args := #[.agg (rcs key n)]) (by simp [execOp, go_sem, hF, h19]) ((unhide BT wq).mono fun e w9 h => ⟨_, h.1, Lin.Turns.keeps h.2, rfl⟩)
  · intro ρ wq hb ho hc hd
    have hC : ∀ v, ρ (.const v) = v := fun v => hc _ (by intro t e; cases e)
    have hF : ∀ f, ρ (.func f) = .func (.func f) #[] #[] := fun f => hc _ (by intro t e; cases e)
    have h18 : ρ (.tmp 18) = .agg (rcs key n) := hd 18 (by kernel_rfl)
    have h20 : ρ (.tmp 20) = .int .i64 0 := hd 20 (by kernel_rfl)
    exact Lin.Runs.call (turnsK W.heap.size 78 #[.int .u8 0, .int .u8 0, .int .u8 0, .int .u8 0, .int .u8 0, .int .u8 0, .int .u8 0, .int .u8 0, .int .u8 0, .int .u8 0, .int .u8 0, .int .u8 0, .int .u8 0, .int .u8 0, .int .u8 0, .int .u8 0] ks) (f := 52) (args := #[.agg (rcs key n), .int .i64 0]) (by simp [execOp, go_sem, hF, h18, h20]) ((unhide AT1 wq).mono fun e w9 h => ⟨_, h.1, Lin.Turns.keeps h.2, rfl⟩)
  · intro ρ wq hb ho hc hd
    have hC : ∀ v, ρ (.const v) = v := fun v => hc _ (by intro t e; cases e)
    have hF : ∀ f, ρ (.func f) = .func (.func f) #[] #[] := fun f => hc _ (by intro t e; cases e)
    have h21 : ρ (.tmp 21) = .tuple #[.agg ks, .bool true] := hd 21 (by kernel_rfl)
    exact Lin.Runs.value (turnsK W.heap.size 78 #[.int .u8 0, .int .u8 0, .int .u8 0, .int .u8 0, .int .u8 0, .int .u8 0, .int .u8 0, .int .u8 0, .int .u8 0, .int .u8 0, .int .u8 0, .int .u8 0, .int .u8 0, .int .u8 0, .int .u8 0, .int .u8 0] ks) (Lin.exec_move rfl) h21
  · intro ρ wq hb ho hc hd
    have hC : ∀ v, ρ (.const v) = v := fun v => hc _ (by intro t e; cases e)
    have hF : ∀ f, ρ (.func f) = .func (.func f) #[] #[] := fun f => hc _ (by intro t e; cases e)
    have h17 : ρ (.tmp 17) = .tuple #[.agg ks, .bool true] := hd 17 (by kernel_rfl)
    exact Lin.Runs.value (turnsK W.heap.size 78 #[.int .u8 0, .int .u8 0, .int .u8 0, .int .u8 0, .int .u8 0, .int .u8 0, .int .u8 0, .int .u8 0, .int .u8 0, .int .u8 0, .int .u8 0, .int .u8 0, .int .u8 0, .int .u8 0, .int .u8 0, .int .u8 0] ks) (v := .agg ks) (by simp [execOp, go_sem, h17]) rfl
  · intro ρ wq hb ho hc hd
    have hC : ∀ v, ρ (.const v) = v := fun v => hc _ (by intro t e; cases e)
    have hF : ∀ f, ρ (.func f) = .func (.func f) #[] #[] := fun f => hc _ (by intro t e; cases e)
    have h17 : ρ (.tmp 17) = .tuple #[.agg ks, .bool true] := hd 17 (by kernel_rfl)
    exact Lin.Runs.value (turnsK W.heap.size 78 #[.int .u8 0, .int .u8 0, .int .u8 0, .int .u8 0, .int .u8 0, .int .u8 0, .int .u8 0, .int .u8 0, .int .u8 0, .int .u8 0, .int .u8 0, .int .u8 0, .int .u8 0, .int .u8 0, .int .u8 0, .int .u8 0] ks) (v := .bool true) (by simp [execOp, go_sem, h17]) rfl
  · intro ρ wq hb ho hc hd
    have hC : ∀ v, ρ (.const v) = v := fun v => hc _ (by intro t e; cases e)
    have hF : ∀ f, ρ (.func f) = .func (.func f) #[] #[] := fun f => hc _ (by intro t e; cases e)
    exact Lin.Runs.made (v := .pointer (some ⟨wq.heap.size, 0, none⟩)) (w' := wq.alloc (.cells #[.int .u8 0, .int .u8 0, .int .u8 0, .int .u8 0, .int .u8 0, .int .u8 0, .int .u8 0, .int .u8 0, .int .u8 0, .int .u8 0, .int .u8 0, .int .u8 0, .int .u8 0, .int .u8 0, .int .u8 0, .int .u8 0] 78)) (by simp [execOp, go_sem]) (Lin.Turns.keeps ((Below.refl _ _).alloc (Nat.le_refl _) _)) ⟨_, rfl, hb.2.2.2.1, .inl (Is.new _ _ _)⟩
  · intro ρ wq hb ho hc hd
    have hC : ∀ v, ρ (.const v) = v := fun v => hc _ (by intro t e; cases e)
    obtain ⟨p, e4, hpB, hp⟩ := hd 4 (by kernel_rfl)
    have hks : ρ (.tmp 22) = .agg ks := hd 22 (by kernel_rfl)
    show Lin.RunsW Try.prog _ (specNk 78 W.heap.size #[.int .u8 0, .int .u8 0, .int .u8 0, .int .u8 0, .int .u8 0, .int .u8 0, .int .u8 0, .int .u8 0, .int .u8 0, .int .u8 0, .int .u8 0, .int .u8 0, .int .u8 0, .int .u8 0, .int .u8 0, .int .u8 0] ks) (ρ (.tmp 4)) ρ wq
    have hcs : ∃ old, Is wq p 78 old ∧ old.size = 16 := by rcases hp with hp | hp; exact ⟨_, hp, rfl⟩; exact ⟨_, hp, KSZ.out⟩
    obtain ⟨old, hcs, hos⟩ := hcs
    refine Lin.RunsW.mk (w' := wq.setRow p ks) (exec_store_rowk 78 (.tmp 4) (.tmp 22) rfl p ks e4 hks 78 old hcs (by rw [KSZ.out]; kernel_rfl) (by rw [hos, KSZ.out]) KONE.out) (turnsK_store hpB hp) ⟨p, e4, hpB, is_row hcs⟩
  · intro ρ wq hb ho hc hd
    have hC : ∀ v, ρ (.const v) = v := fun v => hc _ (by intro t e; cases e)
    have hF : ∀ f, ρ (.func f) = .func (.func f) #[] #[] := fun f => hc _ (by intro t e; cases e)
    have h23 : ρ (.tmp 23) = .bool true := hd 23 (by kernel_rfl)
    exact Lin.Runs.value (turnsK W.heap.size 78 #[.int .u8 0, .int .u8 0, .int .u8 0, .int .u8 0, .int .u8 0, .int .u8 0, .int .u8 0, .int .u8 0, .int .u8 0, .int .u8 0, .int .u8 0, .int .u8 0, .int .u8 0, .int .u8 0, .int .u8 0, .int .u8 0] ks) (Lin.exec_assign rfl) h23
  · intro vals w5 hr2 hv hw2
    have hb2 := Lin.Turns.below hr2 (Nat.le_refl _)
    obtain ⟨p4, e4, hpp4, hisp4⟩ := hw2 8 _ rfl rfl
    have e5 : vals 5 = .bool true := hv 5 (by kernel_rfl)
    have e4' : vals 4 = .pointer (some ⟨p4, 0, none⟩) := e4
    simp only [Lin.putAll, Option.getD_some]
    rw [e5, e4']
    have Pp4 := Lib.hid hisp4
    have HBX := Lib.hid (HBW.out.trans (hb2.mono HBW.out.size))
    have GX := Lib.hid (G1.out.below hb2 G1.out.lt)
    clear G1 HBW
    have G1 := GX
    clear GX
    clear hv hw2 hr2 hb2 e4 e4' e5 hisp4
    go_simp
    generalize vals = vv
    have HBW := HBX
    clear HBX
    go_wp2_with fail
    refine Lin.wp_region_lin2 (turnsK w5.heap.size 78 #[.int .u8 0, .int .u8 0, .int .u8 0, .int .u8 0, .int .u8 0, .int .u8 0, .int .u8 0, .int .u8 0, .int .u8 0, .int .u8 0, .int .u8 0, .int .u8 0, .int .u8 0, .int .u8 0, .int .u8 0, .int .u8 0] ks) (n := 44) (fun slotq => match slotq with | 25 => Lin.Spec.val (.agg (rcs key n)) | 26 => Lin.Spec.val (.agg (rcs key (n + 1))) | 27 => Lin.Spec.val (.agg (rcs key n)) | 28 => Lin.Spec.val (.int .i64 0) | 29 => Lin.Spec.val (.tuple #[.agg ks, .bool true]) | 24 => Lin.Spec.val (.tuple #[.agg ks, .bool true]) | 30 => Lin.Spec.val (.agg ks) | 31 => Lin.Spec.val (.bool true) | 6 => (specZk 78 w5.heap.size #[.int .u8 0, .int .u8 0, .int .u8 0, .int .u8 0, .int .u8 0, .int .u8 0, .int .u8 0, .int .u8 0, .int .u8 0, .int .u8 0, .int .u8 0, .int .u8 0, .int .u8 0, .int .u8 0, .int .u8 0, .int .u8 0] ks) | 7 => Lin.Spec.val (.bool true) | _ => Lin.Spec.any) (fun iq => match iq with | 9 => 6 | _ => 0) (fun iq => match iq with | 9 => (specNk 78 w5.heap.size #[.int .u8 0, .int .u8 0, .int .u8 0, .int .u8 0, .int .u8 0, .int .u8 0, .int .u8 0, .int .u8 0, .int .u8 0, .int .u8 0, .int .u8 0, .int .u8 0, .int .u8 0, .int .u8 0, .int .u8 0, .int .u8 0] ks) | _ => Lin.Spec.any) (by kernel_rfl) rfl (by kernel_rfl) ⟨?_, ?_, ?_, ?_, ?_, ?_, ?_, ?_, ?_, ?_, ?_, trivial⟩ ?_
    · intro ρ wq hb ho hc hd
      have hC : ∀ v, ρ (.const v) = v := fun v => hc _ (by intro t e; cases e)
      have hF : ∀ f, ρ (.func f) = .func (.func f) #[] #[] := fun f => hc _ (by intro t e; cases e)
      have h3 : ρ (.tmp 3) = .pointer (some ⟨g1, 0, none⟩) := ho 3 (by kernel_rfl)
      have hbq := Lin.Turns.below hb (Nat.le_refl _)
      exact Lin.Runs.load_row (turnsK w5.heap.size 78 #[.int .u8 0, .int .u8 0, .int .u8 0, .int .u8 0, .int .u8 0, .int .u8 0, .int .u8 0, .int .u8 0, .int .u8 0, .int .u8 0, .int .u8 0, .int .u8 0, .int .u8 0, .int .u8 0, .int .u8 0, .int .u8 0] ks) 89 (.tmp 3) rfl g1 h3 89 (rcs key n) (G1.out.below hbq G1.out.lt) _ Try.underlying89 rfl (by rw [RSZ.out]; kernel_rfl) rfl
    · intro ρ wq hb ho hc hd
      have hC : ∀ v, ρ (.const v) = v := fun v => hc _ (by intro t e; cases e)
      have hF : ∀ f, ρ (.func f) = .func (.func f) #[] #[] := fun f => hc _ (by intro t e; cases e)
      have h25 : ρ (.tmp 25) = .agg (rcs key n) := hd 25 (by kernel_rfl)
      exact Lin.Runs.call (turnsK w5.heap.size 78 #[.int .u8 0, .int .u8 0, .int .u8 0, .int .u8 0, .int .u8 0, .int .u8 0, .int .u8 0, .int .u8 0, .int .u8 0, .int .u8 0, .int .u8 0, .int .u8 0, .int .u8 0, .int .u8 0, .int .u8 0, .int .u8 0] ks) (f := 56) (args := #[.agg (rcs key n)]) (by simp [execOp, go_sem, hF, h25]) ((unhide NXT wq).mono fun e w9 h => ⟨_, h.1, Lin.Turns.keeps h.2, rfl⟩)
    · intro ρ wq hb ho hc hd
      have hC : ∀ v, ρ (.const v) = v := fun v => hc _ (by intro t e; cases e)
      have hF : ∀ f, ρ (.func f) = .func (.func f) #[] #[] := fun f => hc _ (by intro t e; cases e)
      have h3 : ρ (.tmp 3) = .pointer (some ⟨g1, 0, none⟩) := ho 3 (by kernel_rfl)
      have hbq := Lin.Turns.below hb (Nat.le_refl _)
      exact Lin.Runs.load_row (turnsK w5.heap.size 78 #[.int .u8 0, .int .u8 0, .int .u8 0, .int .u8 0, .int .u8 0, .int .u8 0, .int .u8 0, .int .u8 0, .int .u8 0, .int .u8 0, .int .u8 0, .int .u8 0, .int .u8 0, .int .u8 0, .int .u8 0, .int .u8 0] ks) 89 (.tmp 3) rfl g1 h3 89 (rcs key n) (G1.out.below hbq G1.out.lt) _ Try.underlying89 rfl (by rw [RSZ.out]; kernel_rfl) rfl
    · intro ρ wq hb ho hc hd
      have hC : ∀ v, ρ (.const v) = v := fun v => hc _ (by intro t e; cases e)
      have hF : ∀ f, ρ (.func f) = .func (.func f) #[] #[] := fun f => hc _ (by intro t e; cases e)
      have h27 : ρ (.tmp 27) = .agg (rcs key n) := hd 27 (by kernel_rfl)
      exact Lin.Runs.call (turnsK w5.heap.size 78 #[.int .u8 0, .int .u8 0, .int .u8 0, .int .u8 0, .int .u8 0, .int .u8 0, .int .u8 0, .int .u8 0, .int .u8 0, .int .u8 0, .int .u8 0, .int .u8 0, .int .u8 0, .int .u8 0, .int .u8 0, .int .u8 0] ks) (f := 55) (args := #[.agg (rcs key n)]) (by simp [execOp, go_sem, hF, h27]) ((unhide BT wq).mono fun e w9 h => ⟨_, h.1, Lin.Turns.keeps h.2, rfl⟩)
    · intro ρ wq hb ho hc hd
      have hC : ∀ v, ρ (.const v) = v := fun v => hc _ (by intro t e; cases e)
      have hF : ∀ f, ρ (.func f) = .func (.func f) #[] #[] := fun f => hc _ (by intro t e; cases e)
      have h26 : ρ (.tmp 26) = .agg (rcs key (n + 1)) := hd 26 (by kernel_rfl)
      have h28 : ρ (.tmp 28) = .int .i64 0 := hd 28 (by kernel_rfl)
      exact Lin.Runs.call (turnsK w5.heap.size 78 #[.int .u8 0, .int .u8 0, .int .u8 0, .int .u8 0, .int .u8 0, .int .u8 0, .int .u8 0, .int .u8 0, .int .u8 0, .int .u8 0, .int .u8 0, .int .u8 0, .int .u8 0, .int .u8 0, .int .u8 0, .int .u8 0] ks) (f := 52) (args := #[.agg (rcs key (n + 1)), .int .i64 0]) (by simp [execOp, go_sem, hF, h26, h28]) ((unhide AT2 wq).mono fun e w9 h => ⟨_, h.1, Lin.Turns.keeps h.2, rfl⟩)
    · intro ρ wq hb ho hc hd
      have hC : ∀ v, ρ (.const v) = v := fun v => hc _ (by intro t e; cases e)
      have hF : ∀ f, ρ (.func f) = .func (.func f) #[] #[] := fun f => hc _ (by intro t e; cases e)
      have h29 : ρ (.tmp 29) = .tuple #[.agg ks, .bool true] := hd 29 (by kernel_rfl)
      exact Lin.Runs.value (turnsK w5.heap.size 78 #[.int .u8 0, .int .u8 0, .int .u8 0, .int .u8 0, .int .u8 0, .int .u8 0, .int .u8 0, .int .u8 0, .int .u8 0, .int .u8 0, .int .u8 0, .int .u8 0, .int .u8 0, .int .u8 0, .int .u8 0, .int .u8 0] ks) (Lin.exec_move rfl) h29
    · intro ρ wq hb ho hc hd
      have hC : ∀ v, ρ (.const v) = v := fun v => hc _ (by intro t e; cases e)
      have hF : ∀ f, ρ (.func f) = .func (.func f) #[] #[] := fun f => hc _ (by intro t e; cases e)
      have h24 : ρ (.tmp 24) = .tuple #[.agg ks, .bool true] := hd 24 (by kernel_rfl)
      exact Lin.Runs.value (turnsK w5.heap.size 78 #[.int .u8 0, .int .u8 0, .int .u8 0, .int .u8 0, .int .u8 0, .int .u8 0, .int .u8 0, .int .u8 0, .int .u8 0, .int .u8 0, .int .u8 0, .int .u8 0, .int .u8 0, .int .u8 0, .int .u8 0, .int .u8 0] ks) (v := .agg ks) (by simp [execOp, go_sem, h24]) rfl
    · intro ρ wq hb ho hc hd
      have hC : ∀ v, ρ (.const v) = v := fun v => hc _ (by intro t e; cases e)
      have hF : ∀ f, ρ (.func f) = .func (.func f) #[] #[] := fun f => hc _ (by intro t e; cases e)
      have h24 : ρ (.tmp 24) = .tuple #[.agg ks, .bool true] := hd 24 (by kernel_rfl)
      exact Lin.Runs.value (turnsK w5.heap.size 78 #[.int .u8 0, .int .u8 0, .int .u8 0, .int .u8 0, .int .u8 0, .int .u8 0, .int .u8 0, .int .u8 0, .int .u8 0, .int .u8 0, .int .u8 0, .int .u8 0, .int .u8 0, .int .u8 0, .int .u8 0, .int .u8 0] ks) (v := .bool true) (by simp [execOp, go_sem, h24]) rfl
    · intro ρ wq hb ho hc hd
      have hC : ∀ v, ρ (.const v) = v := fun v => hc _ (by intro t e; cases e)
      have hF : ∀ f, ρ (.func f) = .func (.func f) #[] #[] := fun f => hc _ (by intro t e; cases e)
      exact Lin.Runs.made (v := .pointer (some ⟨wq.heap.size, 0, none⟩)) (w' := wq.alloc (.cells #[.int .u8 0, .int .u8 0, .int .u8 0, .int .u8 0, .int .u8 0, .int .u8 0, .int .u8 0, .int .u8 0, .int .u8 0, .int .u8 0, .int .u8 0, .int .u8 0, .int .u8 0, .int .u8 0, .int .u8 0, .int .u8 0] 78)) (by simp [execOp, go_sem]) (Lin.Turns.keeps ((Below.refl _ _).alloc (Nat.le_refl _) _)) ⟨_, rfl, hb.2.2.2.1, .inl (Is.new _ _ _)⟩
    · intro ρ wq hb ho hc hd
      have hC : ∀ v, ρ (.const v) = v := fun v => hc _ (by intro t e; cases e)
      obtain ⟨p, e4, hpB, hp⟩ := hd 6 (by kernel_rfl)
      have hks : ρ (.tmp 30) = .agg ks := hd 30 (by kernel_rfl)
      show Lin.RunsW Try.prog _ (specNk 78 w5.heap.size #[.int .u8 0, .int .u8 0, .int .u8 0, .int .u8 0, .int .u8 0, .int .u8 0, .int .u8 0, .int .u8 0, .int .u8 0, .int .u8 0, .int .u8 0, .int .u8 0, .int .u8 0, .int .u8 0, .int .u8 0, .int .u8 0] ks) (ρ (.tmp 6)) ρ wq
      have hcs : ∃ old, Is wq p 78 old ∧ old.size = 16 := by rcases hp with hp | hp; exact ⟨_, hp, rfl⟩; exact ⟨_, hp, KSZ.out⟩
      obtain ⟨old, hcs, hos⟩ := hcs
      refine Lin.RunsW.mk (w' := wq.setRow p ks) (exec_store_rowk 78 (.tmp 6) (.tmp 30) rfl p ks e4 hks 78 old hcs (by rw [KSZ.out]; kernel_rfl) (by rw [hos, KSZ.out]) KONE.out) (turnsK_store hpB hp) ⟨p, e4, hpB, is_row hcs⟩
    · intro ρ wq hb ho hc hd
      have hC : ∀ v, ρ (.const v) = v := fun v => hc _ (by intro t e; cases e)
      have hF : ∀ f, ρ (.func f) = .func (.func f) #[] #[] := fun f => hc _ (by intro t e; cases e)
      have h31 : ρ (.tmp 31) = .bool true := hd 31 (by kernel_rfl)
      exact Lin.Runs.value (turnsK w5.heap.size 78 #[.int .u8 0, .int .u8 0, .int .u8 0, .int .u8 0, .int .u8 0, .int .u8 0, .int .u8 0, .int .u8 0, .int .u8 0, .int .u8 0, .int .u8 0, .int .u8 0, .int .u8 0, .int .u8 0, .int .u8 0, .int .u8 0] ks) (Lin.exec_assign rfl) h31
    · intro vals w5 hr2 hv hw2
      have hb2 := Lin.Turns.below hr2 (Nat.le_refl _)
      obtain ⟨p6, e4, hpp6, hisp6⟩ := hw2 9 _ rfl rfl
      have e5 : vals 7 = .bool true := hv 7 (by kernel_rfl)
      have e4' : vals 6 = .pointer (some ⟨p6, 0, none⟩) := e4
      simp only [Lin.putAll, Option.getD_some]
      rw [e5, e4']
      have Pp6 := Lib.hid hisp6
      have HBX := Lib.hid (HBW.out.trans (hb2.mono HBW.out.size))
      have PX := Lib.hid (Pp4.out.below hb2 Pp4.out.lt)
      clear G1 HBW Pp4
      clear hv hw2 hr2 hb2 e4 e4' e5 hisp6
      go_simp
      generalize vals = vv
      go_wp2_with (first
        | ((with_reducible show wpList _ _ _ (⟨some 37, _, _, _, _, _⟩ :: _) _ _)
           go_loud (refine wpList_load_row_if (by rfl) 78 (.tmp 4) rfl p4 rfl 78 ks _ PX.out Try.underlying78 rfl (by rw [KSZ.out]; kernel_rfl) ?_))
        | ((with_reducible show wpList _ _ _ (⟨some 38, _, _, _, _, _⟩ :: _) _ _)
           go_loud (refine wpList_load_row_if (by rfl) 78 (.tmp 6) rfl p6 rfl 78 ks _ Pp6.out Try.underlying78 rfl (by rw [KSZ.out]; kernel_rfl) ?_))
        | ((with_reducible show wpList _ _ _ (⟨some 39, _, _, _, _, _⟩ :: _) _ _)
           go_loud (refine wpList_keyeq_if (by rfl) (.tmp 37) (.tmp 38) rfl ks rfl rfl (unhide KEQ _) ?_)))
      refine (awake11 _).mono ?_
      rintro e w9 ⟨rfl, hb9⟩
      have HB9 := Lib.hid (HBX.out.trans (hb9.mono HBX.out.size))
      clear hb9
      go_wp2_with fail
      go_ret
      exact ⟨rfl, HB9.out⟩
set_option maxHeartbeats 1000000 in
theorem keeps1 (key : List Int) (hk : key.length = 16) (ho : Octets key) (n : Nat) (hn : n + 1 < 18446744073709551616) (hx : n % 2 = 1) (w : World) : Calls Try.prog 14 #[.agg (rcs key n)] w fun e w' => e = .returned (.bool true) ∧ Below w.heap.size w w' := by
  have BT := hide (fun W => show Calls Try.prog 55 #[.agg (rcs key n)] W fun e w' => e = .returned (.int .i64 1) ∧ Below W.heap.size W w' from by have h := hbit key hk n (by omega) W; rw [hx] at h; exact h)
  have AT1 := hide (fun W => hat_a1 key hk ho n (by omega) hx W)
  have AT2 := hide (fun W => hat_c1 key hk ho (n + 1) n hn rfl (by omega) W)
  have NXT := hide (fun W => hnext key hk n (n + 1) (by rw [show (n : Int) + 1 = ((n + 1 : Nat) : Int) from rfl]; exact IntWalk.u64_in _ (by omega)) W)
  have KSZ := Lib.hid (show (u8s (dvk key n)).toArray.size = 16 from by simp [u8s, dvk_len]); have KONE := Lib.hid (one_u8s (dvk key n))
  have KEQ := hide (fun W => key_eql (dvk key n) (dvk_len key n) (kof_ok _ _) W)
  generalize (u8s (dvk key n)).toArray = ks at *
  have hb0 : Below w.heap.size w (w.alloc (.cells (rcs key n) 87)) := (Below.refl _ _).alloc (Nat.le_refl _) _
  have R0 := Lib.hid (Is.new w 87 (rcs key n)); have HB0 := Lib.hid hb0; have HK := Lib.hid hk; have RSZ := Lib.hid (rcs_size hk n); have RONE := Lib.hid (rcs_one key n)
  have H16 := rcs_now hk n
  have hmax : ((n : Int) == 18446744073709551615) = false := by rw [beq_eq_false_iff_ne]; omega
  have HN := Lib.hid hn
  clear hb0 hk ho hx hn
  go_enter Try.func14, Try.ntmps14
  go_wp2_with (with_reducible show wpList _ _ _ (⟨some 9, _, _, _, _, _⟩ :: _) _ _; go_loud (refine wpList_load_mid rfl 74 (.tmp 8) rfl w.heap.size 0 rfl (u8s key) _ (ring_range HK.out R0.out) Try.underlying74 rfl (by rw [show (u8s key).length = 16 from by simp [u8s, HK.out]]; kernel_rfl) ?_))
  refine (hnew key HK.out n _).mono ?_
  rintro e w1 ⟨rfl, hb⟩
  have B1 := Lib.hid (R0.out.below hb R0.out.lt); have HB1 := Lib.hid (HB0.out.trans (hb.mono HB0.out.size))
  have J1 := Lib.hid (Is.new w1 89 #[.int .u8 0, .int .u8 0, .int .u8 0, .int .u8 0, .int .u8 0, .int .u8 0, .int .u8 0, .int .u8 0, .int .u8 0, .int .u8 0, .int .u8 0, .int .u8 0, .int .u8 0, .int .u8 0, .int .u8 0, .int .u8 0, .int .u64 0])
  have hz := HB1.out.size
  have b2 := B1.out.alloc (.cells #[.int .u8 0, .int .u8 0, .int .u8 0, .int .u8 0, .int .u8 0, .int .u8 0, .int .u8 0, .int .u8 0, .int .u8 0, .int .u8 0, .int .u8 0, .int .u8 0, .int .u8 0, .int .u8 0, .int .u8 0, .int .u8 0, .int .u64 0] 89)
  have HB2 := Lib.hid (below_setRow (HB1.out.alloc hz (.cells #[.int .u8 0, .int .u8 0, .int .u8 0, .int .u8 0, .int .u8 0, .int .u8 0, .int .u8 0, .int .u8 0, .int .u8 0, .int .u8 0, .int .u8 0, .int .u8 0, .int .u8 0, .int .u8 0, .int .u8 0, .int .u8 0, .int .u64 0] 89)) (g := w1.heap.size) hz (rcs key n))
  have G2 := Lib.hid (is_row (cs' := (rcs key n)) J1.out)
  have B2 := Lib.hid (show Is ((w1.alloc (.cells #[.int .u8 0, .int .u8 0, .int .u8 0, .int .u8 0, .int .u8 0, .int .u8 0, .int .u8 0, .int .u8 0, .int .u8 0, .int .u8 0, .int .u8 0, .int .u8 0, .int .u8 0, .int .u8 0, .int .u8 0, .int .u8 0, .int .u64 0] 89)).setRow w1.heap.size (rcs key n)) w.heap.size 87 (rcs key n) from (setRow_other _ _ _ _ (by have := B1.out.lt; omega)).trans b2)
  clear hb b2 R0 HB0 H16 B1 HB1
  go_wp2_with (
    (with_reducible show wpList _ _ _ (⟨none, _, _, _, _, _⟩ :: _) _ _)
    go_loud (refine Go.wpList_store_row rfl 89 (.tmp 3) (.tmp 12) rfl w1.heap.size (rcs key n) rfl rfl 89 #[.int .u8 0, .int .u8 0, .int .u8 0, .int .u8 0, .int .u8 0, .int .u8 0, .int .u8 0, .int .u8 0, .int .u8 0, .int .u8 0, .int .u8 0, .int .u8 0, .int .u8 0, .int .u8 0, .int .u8 0, .int .u8 0, .int .u64 0] (is_raw J1.out) (by rw [RSZ.out]; kernel_rfl) (by rw [RSZ.out]; simp) RONE.out ?_)
    generalize (w1.alloc (.cells #[.int .u8 0, .int .u8 0, .int .u8 0, .int .u8 0, .int .u8 0, .int .u8 0, .int .u8 0, .int .u8 0, .int .u8 0, .int .u8 0, .int .u8 0, .int .u8 0, .int .u8 0, .int .u8 0, .int .u8 0, .int .u8 0, .int .u64 0] 89)).setRow w1.heap.size (rcs key n) = W at *
    have c16 := ring_now HK.out B2.out)
  generalize w1.heap.size = g1 at *
  have HBW := HB2; have G1 := G2
  clear HB2 G2 B2 J1 c16
  refine Lin.wp_region_lin2 (turnsK W.heap.size 78 #[.int .u8 0, .int .u8 0, .int .u8 0, .int .u8 0, .int .u8 0, .int .u8 0, .int .u8 0, .int .u8 0, .int .u8 0, .int .u8 0, .int .u8 0, .int .u8 0, .int .u8 0, .int .u8 0, .int .u8 0, .int .u8 0] ks) (n := 44) (fun slotq => match slotq with | 18 => Lin.Spec.val (.agg (rcs key n)) | 19 => Lin.Spec.val (.agg (rcs key n)) | 20 => Lin.Spec.val (.int .i64 1) | 21 => Lin.Spec.val (.tuple #[.agg ks, .bool true]) | 17 => Lin.Spec.val (.tuple #[.agg ks, .bool true]) | 22 => Lin.Spec.val (.agg ks) | 23 => Lin.Spec.val (.bool true) | 4 => (specZk 78 W.heap.size #[.int .u8 0, .int .u8 0, .int .u8 0, .int .u8 0, .int .u8 0, .int .u8 0, .int .u8 0, .int .u8 0, .int .u8 0, .int .u8 0, .int .u8 0, .int .u8 0, .int .u8 0, .int .u8 0, .int .u8 0, .int .u8 0] ks) | 5 => Lin.Spec.val (.bool true) | _ => Lin.Spec.any) (fun iq => match iq with | 8 => 4 | _ => 0) (fun iq => match iq with | 8 => (specNk 78 W.heap.size #[.int .u8 0, .int .u8 0, .int .u8 0, .int .u8 0, .int .u8 0, .int .u8 0, .int .u8 0, .int .u8 0, .int .u8 0, .int .u8 0, .int .u8 0, .int .u8 0, .int .u8 0, .int .u8 0, .int .u8 0, .int .u8 0] ks) | _ => Lin.Spec.any) (by kernel_rfl) rfl (by kernel_rfl) ⟨?_, ?_, ?_, ?_, ?_, ?_, ?_, ?_, ?_, ?_, trivial⟩ ?_
  · intro ρ wq hb ho hc hd
    have hC : ∀ v, ρ (.const v) = v := fun v => hc _ (by intro t e; cases e)
    have hF : ∀ f, ρ (.func f) = .func (.func f) #[] #[] := fun f => hc _ (by intro t e; cases e)
    have h3 : ρ (.tmp 3) = .pointer (some ⟨g1, 0, none⟩) := ho 3 (by kernel_rfl)
    have hbq := Lin.Turns.below hb (Nat.le_refl _)
    exact Lin.Runs.load_row (turnsK W.heap.size 78 #[.int .u8 0, .int .u8 0, .int .u8 0, .int .u8 0, .int .u8 0, .int .u8 0, .int .u8 0, .int .u8 0, .int .u8 0, .int .u8 0, .int .u8 0, .int .u8 0, .int .u8 0, .int .u8 0, .int .u8 0, .int .u8 0] ks) 89 (.tmp 3) rfl g1 h3 89 (rcs key n) (G1.out.below hbq G1.out.lt) _ Try.underlying89 rfl (by rw [RSZ.out]; kernel_rfl) rfl
  · intro ρ wq hb ho hc hd
    have hC : ∀ v, ρ (.const v) = v := fun v => hc _ (by intro t e; cases e)
    have hF : ∀ f, ρ (.func f) = .func (.func f) #[] #[] := fun f => hc _ (by intro t e; cases e)
    have h3 : ρ (.tmp 3) = .pointer (some ⟨g1, 0, none⟩) := ho 3 (by kernel_rfl)
    have hbq := Lin.Turns.below hb (Nat.le_refl _)
    exact Lin.Runs.load_row (turnsK W.heap.size 78 #[.int .u8 0, .int .u8 0, .int .u8 0, .int .u8 0, .int .u8 0, .int .u8 0, .int .u8 0, .int .u8 0, .int .u8 0, .int .u8 0, .int .u8 0, .int .u8 0, .int .u8 0, .int .u8 0, .int .u8 0, .int .u8 0] ks) 89 (.tmp 3) rfl g1 h3 89 (rcs key n) (G1.out.below hbq G1.out.lt) _ Try.underlying89 rfl (by rw [RSZ.out]; kernel_rfl) rfl
  · intro ρ wq hb ho hc hd
    have hC : ∀ v, ρ (.const v) = v := fun v => hc _ (by intro t e; cases e)
    have hF : ∀ f, ρ (.func f) = .func (.func f) #[] #[] := fun f => hc _ (by intro t e; cases e)
    have h19 : ρ (.tmp 19) = .agg (rcs key n) := hd 19 (by kernel_rfl)
    exact Lin.Runs.call (turnsK W.heap.size 78 #[.int .u8 0, .int .u8 0, .int .u8 0, .int .u8 0, .int .u8 0, .int .u8 0, .int .u8 0, .int .u8 0, .int .u8 0, .int .u8 0, .int .u8 0, .int .u8 0, .int .u8 0, .int .u8 0, .int .u8 0, .int .u8 0] ks) (f := 55) (args := #[.agg (rcs key n)]) (by simp [execOp, go_sem, hF, h19]) ((unhide BT wq).mono fun e w9 h => ⟨_, h.1, Lin.Turns.keeps h.2, rfl⟩)
  · intro ρ wq hb ho hc hd
    have hC : ∀ v, ρ (.const v) = v := fun v => hc _ (by intro t e; cases e)
    have hF : ∀ f, ρ (.func f) = .func (.func f) #[] #[] := fun f => hc _ (by intro t e; cases e)
    have h18 : ρ (.tmp 18) = .agg (rcs key n) := hd 18 (by kernel_rfl)
    have h20 : ρ (.tmp 20) = .int .i64 1 := hd 20 (by kernel_rfl)
    exact Lin.Runs.call (turnsK W.heap.size 78 #[.int .u8 0, .int .u8 0, .int .u8 0, .int .u8 0, .int .u8 0, .int .u8 0, .int .u8 0, .int .u8 0, .int .u8 0, .int .u8 0, .int .u8 0, .int .u8 0, .int .u8 0, .int .u8 0, .int .u8 0, .int .u8 0] ks) (f := 52) (args := #[.agg (rcs key n), .int .i64 1]) (by simp [execOp, go_sem, hF, h18, h20]) ((unhide AT1 wq).mono fun e w9 h => ⟨_, h.1, Lin.Turns.keeps h.2, rfl⟩)
  · intro ρ wq hb ho hc hd
    have hC : ∀ v, ρ (.const v) = v := fun v => hc _ (by intro t e; cases e)
    have hF : ∀ f, ρ (.func f) = .func (.func f) #[] #[] := fun f => hc _ (by intro t e; cases e)
    have h21 : ρ (.tmp 21) = .tuple #[.agg ks, .bool true] := hd 21 (by kernel_rfl)
    exact Lin.Runs.value (turnsK W.heap.size 78 #[.int .u8 0, .int .u8 0, .int .u8 0, .int .u8 0, .int .u8 0, .int .u8 0, .int .u8 0, .int .u8 0, .int .u8 0, .int .u8 0, .int .u8 0, .int .u8 0, .int .u8 0, .int .u8 0, .int .u8 0, .int .u8 0] ks) (Lin.exec_move rfl) h21
  · intro ρ wq hb ho hc hd
    have hC : ∀ v, ρ (.const v) = v := fun v => hc _ (by intro t e; cases e)
    have hF : ∀ f, ρ (.func f) = .func (.func f) #[] #[] := fun f => hc _ (by intro t e; cases e)
    have h17 : ρ (.tmp 17) = .tuple #[.agg ks, .bool true] := hd 17 (by kernel_rfl)
    exact Lin.Runs.value (turnsK W.heap.size 78 #[.int .u8 0, .int .u8 0, .int .u8 0, .int .u8 0, .int .u8 0, .int .u8 0, .int .u8 0, .int .u8 0, .int .u8 0, .int .u8 0, .int .u8 0, .int .u8 0, .int .u8 0, .int .u8 0, .int .u8 0, .int .u8 0] ks) (v := .agg ks) (by simp [execOp, go_sem, h17]) rfl
  · intro ρ wq hb ho hc hd
    have hC : ∀ v, ρ (.const v) = v := fun v => hc _ (by intro t e; cases e)
    have hF : ∀ f, ρ (.func f) = .func (.func f) #[] #[] := fun f => hc _ (by intro t e; cases e)
    have h17 : ρ (.tmp 17) = .tuple #[.agg ks, .bool true] := hd 17 (by kernel_rfl)
    exact Lin.Runs.value (turnsK W.heap.size 78 #[.int .u8 0, .int .u8 0, .int .u8 0, .int .u8 0, .int .u8 0, .int .u8 0, .int .u8 0, .int .u8 0, .int .u8 0, .int .u8 0, .int .u8 0, .int .u8 0, .int .u8 0, .int .u8 0, .int .u8 0, .int .u8 0] ks) (v := .bool true) (by simp [execOp, go_sem, h17]) rfl
  · intro ρ wq hb ho hc hd
    have hC : ∀ v, ρ (.const v) = v := fun v => hc _ (by intro t e; cases e)
    have hF : ∀ f, ρ (.func f) = .func (.func f) #[] #[] := fun f => hc _ (by intro t e; cases e)
    exact Lin.Runs.made (v := .pointer (some ⟨wq.heap.size, 0, none⟩)) (w' := wq.alloc (.cells #[.int .u8 0, .int .u8 0, .int .u8 0, .int .u8 0, .int .u8 0, .int .u8 0, .int .u8 0, .int .u8 0, .int .u8 0, .int .u8 0, .int .u8 0, .int .u8 0, .int .u8 0, .int .u8 0, .int .u8 0, .int .u8 0] 78)) (by simp [execOp, go_sem]) (Lin.Turns.keeps ((Below.refl _ _).alloc (Nat.le_refl _) _)) ⟨_, rfl, hb.2.2.2.1, .inl (Is.new _ _ _)⟩
  · intro ρ wq hb ho hc hd
    have hC : ∀ v, ρ (.const v) = v := fun v => hc _ (by intro t e; cases e)
    obtain ⟨p, e4, hpB, hp⟩ := hd 4 (by kernel_rfl)
    have hks : ρ (.tmp 22) = .agg ks := hd 22 (by kernel_rfl)
    show Lin.RunsW Try.prog _ (specNk 78 W.heap.size #[.int .u8 0, .int .u8 0, .int .u8 0, .int .u8 0, .int .u8 0, .int .u8 0, .int .u8 0, .int .u8 0, .int .u8 0, .int .u8 0, .int .u8 0, .int .u8 0, .int .u8 0, .int .u8 0, .int .u8 0, .int .u8 0] ks) (ρ (.tmp 4)) ρ wq
    have hcs : ∃ old, Is wq p 78 old ∧ old.size = 16 := by rcases hp with hp | hp; exact ⟨_, hp, rfl⟩; exact ⟨_, hp, KSZ.out⟩
    obtain ⟨old, hcs, hos⟩ := hcs
    refine Lin.RunsW.mk (w' := wq.setRow p ks) (exec_store_rowk 78 (.tmp 4) (.tmp 22) rfl p ks e4 hks 78 old hcs (by rw [KSZ.out]; kernel_rfl) (by rw [hos, KSZ.out]) KONE.out) (turnsK_store hpB hp) ⟨p, e4, hpB, is_row hcs⟩
  · intro ρ wq hb ho hc hd
    have hC : ∀ v, ρ (.const v) = v := fun v => hc _ (by intro t e; cases e)
    have hF : ∀ f, ρ (.func f) = .func (.func f) #[] #[] := fun f => hc _ (by intro t e; cases e)
    have h23 : ρ (.tmp 23) = .bool true := hd 23 (by kernel_rfl)
    exact Lin.Runs.value (turnsK W.heap.size 78 #[.int .u8 0, .int .u8 0, .int .u8 0, .int .u8 0, .int .u8 0, .int .u8 0, .int .u8 0, .int .u8 0, .int .u8 0, .int .u8 0, .int .u8 0, .int .u8 0, .int .u8 0, .int .u8 0, .int .u8 0, .int .u8 0] ks) (Lin.exec_assign rfl) h23
  · intro vals w5 hr2 hv hw2
    have hb2 := Lin.Turns.below hr2 (Nat.le_refl _)
    obtain ⟨p4, e4, hpp4, hisp4⟩ := hw2 8 _ rfl rfl
    have e5 : vals 5 = .bool true := hv 5 (by kernel_rfl)
    have e4' : vals 4 = .pointer (some ⟨p4, 0, none⟩) := e4
    simp only [Lin.putAll, Option.getD_some]
    rw [e5, e4']
    have Pp4 := Lib.hid hisp4
    have HBX := Lib.hid (HBW.out.trans (hb2.mono HBW.out.size))
    have GX := Lib.hid (G1.out.below hb2 G1.out.lt)
    clear G1 HBW
    have G1 := GX
    clear GX
    clear hv hw2 hr2 hb2 e4 e4' e5 hisp4
    go_simp
    generalize vals = vv
    have HBW := HBX
    clear HBX
    go_wp2_with fail
    refine Lin.wp_region_lin2 (turnsK w5.heap.size 78 #[.int .u8 0, .int .u8 0, .int .u8 0, .int .u8 0, .int .u8 0, .int .u8 0, .int .u8 0, .int .u8 0, .int .u8 0, .int .u8 0, .int .u8 0, .int .u8 0, .int .u8 0, .int .u8 0, .int .u8 0, .int .u8 0] ks) (n := 44) (fun slotq => match slotq with | 25 => Lin.Spec.val (.agg (rcs key n)) | 26 => Lin.Spec.val (.agg (rcs key (n + 1))) | 27 => Lin.Spec.val (.agg (rcs key n)) | 28 => Lin.Spec.val (.int .i64 1) | 29 => Lin.Spec.val (.tuple #[.agg ks, .bool true]) | 24 => Lin.Spec.val (.tuple #[.agg ks, .bool true]) | 30 => Lin.Spec.val (.agg ks) | 31 => Lin.Spec.val (.bool true) | 6 => (specZk 78 w5.heap.size #[.int .u8 0, .int .u8 0, .int .u8 0, .int .u8 0, .int .u8 0, .int .u8 0, .int .u8 0, .int .u8 0, .int .u8 0, .int .u8 0, .int .u8 0, .int .u8 0, .int .u8 0, .int .u8 0, .int .u8 0, .int .u8 0] ks) | 7 => Lin.Spec.val (.bool true) | _ => Lin.Spec.any) (fun iq => match iq with | 9 => 6 | _ => 0) (fun iq => match iq with | 9 => (specNk 78 w5.heap.size #[.int .u8 0, .int .u8 0, .int .u8 0, .int .u8 0, .int .u8 0, .int .u8 0, .int .u8 0, .int .u8 0, .int .u8 0, .int .u8 0, .int .u8 0, .int .u8 0, .int .u8 0, .int .u8 0, .int .u8 0, .int .u8 0] ks) | _ => Lin.Spec.any) (by kernel_rfl) rfl (by kernel_rfl) ⟨?_, ?_, ?_, ?_, ?_, ?_, ?_, ?_, ?_, ?_, ?_, trivial⟩ ?_
    · intro ρ wq hb ho hc hd
      have hC : ∀ v, ρ (.const v) = v := fun v => hc _ (by intro t e; cases e)
      have hF : ∀ f, ρ (.func f) = .func (.func f) #[] #[] := fun f => hc _ (by intro t e; cases e)
      have h3 : ρ (.tmp 3) = .pointer (some ⟨g1, 0, none⟩) := ho 3 (by kernel_rfl)
      have hbq := Lin.Turns.below hb (Nat.le_refl _)
      exact Lin.Runs.load_row (turnsK w5.heap.size 78 #[.int .u8 0, .int .u8 0, .int .u8 0, .int .u8 0, .int .u8 0, .int .u8 0, .int .u8 0, .int .u8 0, .int .u8 0, .int .u8 0, .int .u8 0, .int .u8 0, .int .u8 0, .int .u8 0, .int .u8 0, .int .u8 0] ks) 89 (.tmp 3) rfl g1 h3 89 (rcs key n) (G1.out.below hbq G1.out.lt) _ Try.underlying89 rfl (by rw [RSZ.out]; kernel_rfl) rfl
    · intro ρ wq hb ho hc hd
      have hC : ∀ v, ρ (.const v) = v := fun v => hc _ (by intro t e; cases e)
      have hF : ∀ f, ρ (.func f) = .func (.func f) #[] #[] := fun f => hc _ (by intro t e; cases e)
      have h25 : ρ (.tmp 25) = .agg (rcs key n) := hd 25 (by kernel_rfl)
      exact Lin.Runs.call (turnsK w5.heap.size 78 #[.int .u8 0, .int .u8 0, .int .u8 0, .int .u8 0, .int .u8 0, .int .u8 0, .int .u8 0, .int .u8 0, .int .u8 0, .int .u8 0, .int .u8 0, .int .u8 0, .int .u8 0, .int .u8 0, .int .u8 0, .int .u8 0] ks) (f := 56) (args := #[.agg (rcs key n)]) (by simp [execOp, go_sem, hF, h25]) ((unhide NXT wq).mono fun e w9 h => ⟨_, h.1, Lin.Turns.keeps h.2, rfl⟩)
    · intro ρ wq hb ho hc hd
      have hC : ∀ v, ρ (.const v) = v := fun v => hc _ (by intro t e; cases e)
      have hF : ∀ f, ρ (.func f) = .func (.func f) #[] #[] := fun f => hc _ (by intro t e; cases e)
      have h3 : ρ (.tmp 3) = .pointer (some ⟨g1, 0, none⟩) := ho 3 (by kernel_rfl)
      have hbq := Lin.Turns.below hb (Nat.le_refl _)
      exact Lin.Runs.load_row (turnsK w5.heap.size 78 #[.int .u8 0, .int .u8 0, .int .u8 0, .int .u8 0, .int .u8 0, .int .u8 0, .int .u8 0, .int .u8 0, .int .u8 0, .int .u8 0, .int .u8 0, .int .u8 0, .int .u8 0, .int .u8 0, .int .u8 0, .int .u8 0] ks) 89 (.tmp 3) rfl g1 h3 89 (rcs key n) (G1.out.below hbq G1.out.lt) _ Try.underlying89 rfl (by rw [RSZ.out]; kernel_rfl) rfl
    · intro ρ wq hb ho hc hd
      have hC : ∀ v, ρ (.const v) = v := fun v => hc _ (by intro t e; cases e)
      have hF : ∀ f, ρ (.func f) = .func (.func f) #[] #[] := fun f => hc _ (by intro t e; cases e)
      have h27 : ρ (.tmp 27) = .agg (rcs key n) := hd 27 (by kernel_rfl)
      exact Lin.Runs.call (turnsK w5.heap.size 78 #[.int .u8 0, .int .u8 0, .int .u8 0, .int .u8 0, .int .u8 0, .int .u8 0, .int .u8 0, .int .u8 0, .int .u8 0, .int .u8 0, .int .u8 0, .int .u8 0, .int .u8 0, .int .u8 0, .int .u8 0, .int .u8 0] ks) (f := 55) (args := #[.agg (rcs key n)]) (by simp [execOp, go_sem, hF, h27]) ((unhide BT wq).mono fun e w9 h => ⟨_, h.1, Lin.Turns.keeps h.2, rfl⟩)
    · intro ρ wq hb ho hc hd
      have hC : ∀ v, ρ (.const v) = v := fun v => hc _ (by intro t e; cases e)
      have hF : ∀ f, ρ (.func f) = .func (.func f) #[] #[] := fun f => hc _ (by intro t e; cases e)
      have h26 : ρ (.tmp 26) = .agg (rcs key (n + 1)) := hd 26 (by kernel_rfl)
      have h28 : ρ (.tmp 28) = .int .i64 1 := hd 28 (by kernel_rfl)
      exact Lin.Runs.call (turnsK w5.heap.size 78 #[.int .u8 0, .int .u8 0, .int .u8 0, .int .u8 0, .int .u8 0, .int .u8 0, .int .u8 0, .int .u8 0, .int .u8 0, .int .u8 0, .int .u8 0, .int .u8 0, .int .u8 0, .int .u8 0, .int .u8 0, .int .u8 0] ks) (f := 52) (args := #[.agg (rcs key (n + 1)), .int .i64 1]) (by simp [execOp, go_sem, hF, h26, h28]) ((unhide AT2 wq).mono fun e w9 h => ⟨_, h.1, Lin.Turns.keeps h.2, rfl⟩)
    · intro ρ wq hb ho hc hd
      have hC : ∀ v, ρ (.const v) = v := fun v => hc _ (by intro t e; cases e)
      have hF : ∀ f, ρ (.func f) = .func (.func f) #[] #[] := fun f => hc _ (by intro t e; cases e)
      have h29 : ρ (.tmp 29) = .tuple #[.agg ks, .bool true] := hd 29 (by kernel_rfl)
      exact Lin.Runs.value (turnsK w5.heap.size 78 #[.int .u8 0, .int .u8 0, .int .u8 0, .int .u8 0, .int .u8 0, .int .u8 0, .int .u8 0, .int .u8 0, .int .u8 0, .int .u8 0, .int .u8 0, .int .u8 0, .int .u8 0, .int .u8 0, .int .u8 0, .int .u8 0] ks) (Lin.exec_move rfl) h29
    · intro ρ wq hb ho hc hd
      have hC : ∀ v, ρ (.const v) = v := fun v => hc _ (by intro t e; cases e)
      have hF : ∀ f, ρ (.func f) = .func (.func f) #[] #[] := fun f => hc _ (by intro t e; cases e)
      have h24 : ρ (.tmp 24) = .tuple #[.agg ks, .bool true] := hd 24 (by kernel_rfl)
      exact Lin.Runs.value (turnsK w5.heap.size 78 #[.int .u8 0, .int .u8 0, .int .u8 0, .int .u8 0, .int .u8 0, .int .u8 0, .int .u8 0, .int .u8 0, .int .u8 0, .int .u8 0, .int .u8 0, .int .u8 0, .int .u8 0, .int .u8 0, .int .u8 0, .int .u8 0] ks) (v := .agg ks) (by simp [execOp, go_sem, h24]) rfl
    · intro ρ wq hb ho hc hd
      have hC : ∀ v, ρ (.const v) = v := fun v => hc _ (by intro t e; cases e)
      have hF : ∀ f, ρ (.func f) = .func (.func f) #[] #[] := fun f => hc _ (by intro t e; cases e)
      have h24 : ρ (.tmp 24) = .tuple #[.agg ks, .bool true] := hd 24 (by kernel_rfl)
      exact Lin.Runs.value (turnsK w5.heap.size 78 #[.int .u8 0, .int .u8 0, .int .u8 0, .int .u8 0, .int .u8 0, .int .u8 0, .int .u8 0, .int .u8 0, .int .u8 0, .int .u8 0, .int .u8 0, .int .u8 0, .int .u8 0, .int .u8 0, .int .u8 0, .int .u8 0] ks) (v := .bool true) (by simp [execOp, go_sem, h24]) rfl
    · intro ρ wq hb ho hc hd
      have hC : ∀ v, ρ (.const v) = v := fun v => hc _ (by intro t e; cases e)
      have hF : ∀ f, ρ (.func f) = .func (.func f) #[] #[] := fun f => hc _ (by intro t e; cases e)
      exact Lin.Runs.made (v := .pointer (some ⟨wq.heap.size, 0, none⟩)) (w' := wq.alloc (.cells #[.int .u8 0, .int .u8 0, .int .u8 0, .int .u8 0, .int .u8 0, .int .u8 0, .int .u8 0, .int .u8 0, .int .u8 0, .int .u8 0, .int .u8 0, .int .u8 0, .int .u8 0, .int .u8 0, .int .u8 0, .int .u8 0] 78)) (by simp [execOp, go_sem]) (Lin.Turns.keeps ((Below.refl _ _).alloc (Nat.le_refl _) _)) ⟨_, rfl, hb.2.2.2.1, .inl (Is.new _ _ _)⟩
    · intro ρ wq hb ho hc hd
      have hC : ∀ v, ρ (.const v) = v := fun v => hc _ (by intro t e; cases e)
      obtain ⟨p, e4, hpB, hp⟩ := hd 6 (by kernel_rfl)
      have hks : ρ (.tmp 30) = .agg ks := hd 30 (by kernel_rfl)
      show Lin.RunsW Try.prog _ (specNk 78 w5.heap.size #[.int .u8 0, .int .u8 0, .int .u8 0, .int .u8 0, .int .u8 0, .int .u8 0, .int .u8 0, .int .u8 0, .int .u8 0, .int .u8 0, .int .u8 0, .int .u8 0, .int .u8 0, .int .u8 0, .int .u8 0, .int .u8 0] ks) (ρ (.tmp 6)) ρ wq
      have hcs : ∃ old, Is wq p 78 old ∧ old.size = 16 := by rcases hp with hp | hp; exact ⟨_, hp, rfl⟩; exact ⟨_, hp, KSZ.out⟩
      obtain ⟨old, hcs, hos⟩ := hcs
      refine Lin.RunsW.mk (w' := wq.setRow p ks) (exec_store_rowk 78 (.tmp 6) (.tmp 30) rfl p ks e4 hks 78 old hcs (by rw [KSZ.out]; kernel_rfl) (by rw [hos, KSZ.out]) KONE.out) (turnsK_store hpB hp) ⟨p, e4, hpB, is_row hcs⟩
    · intro ρ wq hb ho hc hd
      have hC : ∀ v, ρ (.const v) = v := fun v => hc _ (by intro t e; cases e)
      have hF : ∀ f, ρ (.func f) = .func (.func f) #[] #[] := fun f => hc _ (by intro t e; cases e)
      have h31 : ρ (.tmp 31) = .bool true := hd 31 (by kernel_rfl)
      exact Lin.Runs.value (turnsK w5.heap.size 78 #[.int .u8 0, .int .u8 0, .int .u8 0, .int .u8 0, .int .u8 0, .int .u8 0, .int .u8 0, .int .u8 0, .int .u8 0, .int .u8 0, .int .u8 0, .int .u8 0, .int .u8 0, .int .u8 0, .int .u8 0, .int .u8 0] ks) (Lin.exec_assign rfl) h31
    · intro vals w5 hr2 hv hw2
      have hb2 := Lin.Turns.below hr2 (Nat.le_refl _)
      obtain ⟨p6, e4, hpp6, hisp6⟩ := hw2 9 _ rfl rfl
      have e5 : vals 7 = .bool true := hv 7 (by kernel_rfl)
      have e4' : vals 6 = .pointer (some ⟨p6, 0, none⟩) := e4
      simp only [Lin.putAll, Option.getD_some]
      rw [e5, e4']
      have Pp6 := Lib.hid hisp6
      have HBX := Lib.hid (HBW.out.trans (hb2.mono HBW.out.size))
      have PX := Lib.hid (Pp4.out.below hb2 Pp4.out.lt)
      clear G1 HBW Pp4
      clear hv hw2 hr2 hb2 e4 e4' e5 hisp6
      go_simp
      generalize vals = vv
      go_wp2_with (first
        | ((with_reducible show wpList _ _ _ (⟨some 37, _, _, _, _, _⟩ :: _) _ _)
           go_loud (refine wpList_load_row_if (by rfl) 78 (.tmp 4) rfl p4 rfl 78 ks _ PX.out Try.underlying78 rfl (by rw [KSZ.out]; kernel_rfl) ?_))
        | ((with_reducible show wpList _ _ _ (⟨some 38, _, _, _, _, _⟩ :: _) _ _)
           go_loud (refine wpList_load_row_if (by rfl) 78 (.tmp 6) rfl p6 rfl 78 ks _ Pp6.out Try.underlying78 rfl (by rw [KSZ.out]; kernel_rfl) ?_))
        | ((with_reducible show wpList _ _ _ (⟨some 39, _, _, _, _, _⟩ :: _) _ _)
           go_loud (refine wpList_keyeq_if (by rfl) (.tmp 37) (.tmp 38) rfl ks rfl rfl (unhide KEQ _) ?_)))
      refine (awake11 _).mono ?_
      rintro e w9 ⟨rfl, hb9⟩
      have HB9 := Lib.hid (HBX.out.trans (hb9.mono HBX.out.size))
      clear hb9
      go_wp2_with fail
      go_ret
      exact ⟨rfl, HB9.out⟩
end Go.Proofs.Ytkdcaipadejchaa
