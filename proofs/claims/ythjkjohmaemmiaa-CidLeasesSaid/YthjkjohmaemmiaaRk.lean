/-
  At of the reference of layer 11, At of package ring in all cases, Epoch. Helper of the claims of layers 11 to 13. No condition.
-/
import Derived.Test.YthjkjohmaemmiaaRhk
namespace Go.Proofs.Ythjkjohmaemmiaa
open Go.ChangeShapes Go.WideShapes Go.ChangeAt Go.RowKit
set_option linter.unusedSimpArgs false
set_option linter.unusedVariables false
set_option maxRecDepth 100000
theorem key_neq (p : List Int) (hn : p.length = 16) (ho : Octets p) (w : World) : (binOp .neq 43 (.agg (u8s p).toArray) (.agg (u8s p).toArray)).run Try.prog w = .ok (.bool false) w := by
  have h := equal_key (P := Try.prog) (k := 43) (e := 5) (n := 16) ⟨Try.underlying43, by kernel_rfl, by kernel_rfl, by kernel_rfl⟩ Try.underlying5 ⟨Try.prog.types.size - 1, by kernel_rfl⟩ (by kernel_rfl) hn ho w
  simp [binOp, Sem.run_bind, h]
theorem key_guardn (x y : Operand) (a b : Array Value) (w : World) : (eqGuard .neq 43 x y (.agg a) (.agg b)).run Try.prog w = .ok () w :=
  run_eqGuard_agg (w := w) .neq 43 x y a b (by kernel_rfl)
theorem wpList_keyneq_if {ops : Array Oper} {rest : List Oper} {o : Oper} {a : Act} {w : World} {Q : Exit → Act → World → Prop} (hw : Region.wanted o (yielded ops a.tmps) = true) (x y : Operand) (ho : o.op = .binOp .neq 43 x y 43)
    (cs : Array Value) (hx : a.eval x = .agg cs) (hy : a.eval y = .agg cs) (he : (binOp .neq 43 (.agg cs) (.agg cs)).run Try.prog w = .ok (.bool false) w)
    (h : wpList Try.prog ops Q rest (a.put o.dst (.bool false)) w) : wpList Try.prog ops Q (o :: rest) a w := by
  unfold wpList
  rw [if_pos hw]
  refine .inl ?_
  unfold Oper.wp execOp
  simp only [ho, hx, hy, Sem.run_bind, key_guardn, he, Result.andThen_ok, Sem.run_pure]
  exact h
/-- The key of a bit at an epoch, and whether there is one. -/
def atp (key : List Int) (n : Nat) (b : Int) : List Int := if b = ((n % 2 : Nat) : Int) then dvk key n else if (b = 0 ∨ b = 1) ∧ n ≠ 0 then dvk key (n - 1) else List.replicate 16 0
def ato (n : Nat) (b : Int) : Bool := decide (b = ((n % 2 : Nat) : Int)) || (decide (b = 0 ∨ b = 1) && decide (n ≠ 0))
theorem atp_len (key : List Int) (n : Nat) (b : Int) : (atp key n b).length = 16 := by
  unfold atp; split
  · exact dvk_len _ _
  · split
    · exact dvk_len _ _
    · rfl
theorem atp_ok (key : List Int) (n : Nat) (b : Int) : Octets (atp key n b) := by
  unfold atp; split
  · exact kof_ok _ _
  · split
    · exact kof_ok _ _
    · exact Octets.ofAll (by decide)
theorem zero_row : (u8s (List.replicate 16 0)).toArray = #[.int .u8 0, .int .u8 0, .int .u8 0, .int .u8 0, .int .u8 0, .int .u8 0, .int .u8 0, .int .u8 0, .int .u8 0, .int .u8 0, .int .u8 0, .int .u8 0, .int .u8 0, .int .u8 0, .int .u8 0, .int .u8 0] := rfl
theorem atp_own (key : List Int) (n : Nat) (b : Int) (h : b = ((n % 2 : Nat) : Int)) : atp key n b = dvk key n ∧ ato n b = true := by simp [atp, ato, h]
theorem atp_prev (key : List Int) (n m : Nat) (b : Int) (h : b ≠ ((n % 2 : Nat) : Int)) (hb : b = 0 ∨ b = 1) (hm : m + 1 = n) : atp key n b = dvk key m ∧ ato n b = true := by
  have h0 : n ≠ 0 := by omega
  unfold atp ato
  rw [if_neg h, if_pos ⟨hb, h0⟩, show n - 1 = m from by omega]
  simp [hb, h0]
theorem atp_none (key : List Int) (n : Nat) (b : Int) (h : b ≠ ((n % 2 : Nat) : Int)) (hb : ¬ ((b = 0 ∨ b = 1) ∧ n ≠ 0)) : atp key n b = List.replicate 16 0 ∧ ato n b = false := by
  unfold atp ato
  rw [if_neg h, if_neg hb]
  refine ⟨rfl, ?_⟩
  rw [decide_eq_false h, Bool.false_or, ← Bool.decide_and]
  exact decide_eq_false hb
theorem hat_any (key : List Int) (hk : key.length = 16) (ho : Octets key) (n : Nat) (hn : n < 18446744073709551616) (b : Int) (w : World) : Calls Try.prog 71 #[.agg (rcs key n), .int .i64 b] w fun e w' => e = .returned (.tuple #[.agg (u8s (atp key n b)).toArray, .bool (ato n b)]) ∧ Below w.heap.size w w' := by
  rcases (show n % 2 = 0 ∨ n % 2 = 1 from by omega) with hx | hx
  · by_cases h0 : b = 0
    · subst h0
      obtain ⟨e1, e2⟩ := atp_own key n 0 (by omega); rw [e1, e2]; exact hat_a0 key hk ho n hn hx w
    · by_cases h1 : b = 1
      · subst h1
        by_cases hz : n = 0
        · obtain ⟨e1, e2⟩ := atp_none key n 1 (by omega) (by omega); rw [e1, e2, zero_row]; exact hat_z key hk ho n hn hz hx w
        · obtain ⟨m, hm⟩ : ∃ m, m + 1 = n := ⟨n - 1, by omega⟩
          obtain ⟨e1, e2⟩ := atp_prev key n m 1 (by omega) (by omega) hm; rw [e1, e2]; exact hat_c1 key hk ho n m hn hm hx w
      · obtain ⟨e1, e2⟩ := atp_none key n b (by omega) (by omega); rw [e1, e2, zero_row]; exact hat_o0 key hk ho n hn b h0 h1 hx w
  · by_cases h1 : b = 1
    · subst h1
      obtain ⟨e1, e2⟩ := atp_own key n 1 (by omega); rw [e1, e2]; exact hat_a1 key hk ho n hn hx w
    · by_cases h0 : b = 0
      · subst h0
        obtain ⟨m, hm⟩ : ∃ m, m + 1 = n := ⟨n - 1, by omega⟩
        obtain ⟨e1, e2⟩ := atp_prev key n m 0 (by omega) (by omega) hm; rw [e1, e2]; exact hat_c0 key hk ho n m hn hm hx w
      · obtain ⟨e1, e2⟩ := atp_none key n b (by omega) (by omega); rw [e1, e2, zero_row]; exact hat_o1 key hk ho n hn b h0 h1 hx w
theorem rdvk_run (key : List Int) (n : Nat) (w : World) (hl : key.length = 16) (ho : Octets key) (hn : n < 18446744073709551616) : Calls Try.prog 111 #[.agg (u8s key).toArray, .int .u64 (n : Int)] w fun e w' => e = .returned (.agg (u8s (dvk key n)).toArray) ∧ Below w.heap.size w w' :=
  rderive_any key _ n w rfl hl ho hn
theorem rh_rkey (w : World) (g : Nat) (cs : Array Value) (hg : Is w g 36 cs) (hs : cs.size = 16) : (loadVar 36 ⟨g, 0, none⟩).run Try.prog w = .ok (.agg cs) w :=
  run_loadVar_row w g 36 36 cs (0, 0) _ (is_raw hg) Try.underlying36 rfl (by rw [hs]; kernel_rfl)
set_option maxHeartbeats 400000 in
theorem rat_a0 (key : List Int) (hk : key.length = 16) (ho : Octets key) (n : Nat) (hn : n < 18446744073709551616) (hx : n % 2 = 0) (w : World) : Calls Try.prog 81 #[.agg (rcs key n), .int .i64 0] w fun e w' => e = .returned (.tuple #[.agg (u8s (dvk key n)).toArray, .bool true]) ∧ Below w.heap.size w w' := by
  have hb0 : Below w.heap.size w ((w.alloc (.cells (rcs key n) 38)).alloc (.cells #[.int .u8 0, .int .u8 0, .int .u8 0, .int .u8 0, .int .u8 0, .int .u8 0, .int .u8 0, .int .u8 0, .int .u8 0, .int .u8 0, .int .u8 0, .int .u8 0, .int .u8 0, .int .u8 0, .int .u8 0, .int .u8 0] 36)) := ((Below.refl _ _).alloc (Nat.le_refl _) _).alloc (by simp) _
  have hr0 := (Is.new w 38 (rcs key n)).alloc (.cells #[.int .u8 0, .int .u8 0, .int .u8 0, .int .u8 0, .int .u8 0, .int .u8 0, .int .u8 0, .int .u8 0, .int .u8 0, .int .u8 0, .int .u8 0, .int .u8 0, .int .u8 0, .int .u8 0, .int .u8 0, .int .u8 0] 36)
  have hg0 := Is.new (w.alloc (.cells (rcs key n) 38)) 36 #[.int .u8 0, .int .u8 0, .int .u8 0, .int .u8 0, .int .u8 0, .int .u8 0, .int .u8 0, .int .u8 0, .int .u8 0, .int .u8 0, .int .u8 0, .int .u8 0, .int .u8 0, .int .u8 0, .int .u8 0, .int .u8 0]
  rw [show (w.alloc (.cells (rcs key n) 38)).heap.size = w.heap.size + 1 from by simp] at hg0
  have R0 := Lib.hid hr0; have J0 := Lib.hid hg0; have HB0 := Lib.hid hb0; have HK := Lib.hid hk; have RSZ := Lib.hid (rcs_size hk n)
  have H16 := rcs_now hk n
  have RR := hide (ring_range (n := n) hk R0.out)
  clear hr0 hg0 hb0
  have HD := hide (fun W => rdvk_run key n W hk ho (by omega))
  have HSZ := Lib.hid (show (u8s (dvk key n)).toArray.size = 16 from by simp [u8s, dvk_len]); have HONE := Lib.hid (one_u8s (dvk key n))
  have hr1 : (n : Int).tmod 2 = 0 := by rw [Int.tmod_eq_emod_of_nonneg (by omega)]; omega
  have hr2 : (n : Int) % 2 = 0 := by omega
  generalize (u8s (dvk key n)).toArray = cs at *
  generalize (rcs key n) = rs at *
  clear hk ho hx
  go_enter Try.func81, Try.ntmps81
  go_wp2_with (with_reducible show wpList _ _ _ (⟨some 27, _, _, _, _, _⟩ :: _) _ _; go_loud (refine wpList_load_mid rfl 36 (.tmp 26) rfl w.heap.size 0 rfl (u8s key) _ (unhide RR) Try.underlying36 rfl (by rw [show (u8s key).length = 16 from by simp [u8s, HK.out]]; kernel_rfl) ?_))
  refine (unhide HD _).mono ?_
  rintro e w1 ⟨rfl, hb⟩
  have J1 := Lib.hid (J0.out.below hb J0.out.lt); have HB1 := Lib.hid (HB0.out.trans (hb.mono HB0.out.size))
  clear hb J0 HB0 R0 RR H16
  go_wp2_with (with_reducible show wpList _ _ _ (⟨none, _, _, _, _, _⟩ :: _) _ _; go_loud (refine Go.wpList_store_row rfl 36 (.tmp 4) (.tmp 29) rfl (w.heap.size + 1) cs rfl rfl 36 #[.int .u8 0, .int .u8 0, .int .u8 0, .int .u8 0, .int .u8 0, .int .u8 0, .int .u8 0, .int .u8 0, .int .u8 0, .int .u8 0, .int .u8 0, .int .u8 0, .int .u8 0, .int .u8 0, .int .u8 0, .int .u8 0] (is_raw J1.out) (by rw [HSZ.out]; kernel_rfl) (by rw [HSZ.out]; simp) HONE.out ?_))
  have RK := rh_rkey _ (w.heap.size + 1) cs (is_row J1.out) HSZ.out
  refine bodyPost_ret (v := .tuple #[.agg cs, .bool true]) (by simp [results, Try.results81, asAddr, RK]) rfl ⟨rfl, below_setRow HB1.out (Nat.le_succ _) _⟩
set_option maxHeartbeats 400000 in
theorem rat_a1 (key : List Int) (hk : key.length = 16) (ho : Octets key) (n : Nat) (hn : n < 18446744073709551616) (hx : n % 2 = 1) (w : World) : Calls Try.prog 81 #[.agg (rcs key n), .int .i64 1] w fun e w' => e = .returned (.tuple #[.agg (u8s (dvk key n)).toArray, .bool true]) ∧ Below w.heap.size w w' := by
  have hb0 : Below w.heap.size w ((w.alloc (.cells (rcs key n) 38)).alloc (.cells #[.int .u8 0, .int .u8 0, .int .u8 0, .int .u8 0, .int .u8 0, .int .u8 0, .int .u8 0, .int .u8 0, .int .u8 0, .int .u8 0, .int .u8 0, .int .u8 0, .int .u8 0, .int .u8 0, .int .u8 0, .int .u8 0] 36)) := ((Below.refl _ _).alloc (Nat.le_refl _) _).alloc (by simp) _
  have hr0 := (Is.new w 38 (rcs key n)).alloc (.cells #[.int .u8 0, .int .u8 0, .int .u8 0, .int .u8 0, .int .u8 0, .int .u8 0, .int .u8 0, .int .u8 0, .int .u8 0, .int .u8 0, .int .u8 0, .int .u8 0, .int .u8 0, .int .u8 0, .int .u8 0, .int .u8 0] 36)
  have hg0 := Is.new (w.alloc (.cells (rcs key n) 38)) 36 #[.int .u8 0, .int .u8 0, .int .u8 0, .int .u8 0, .int .u8 0, .int .u8 0, .int .u8 0, .int .u8 0, .int .u8 0, .int .u8 0, .int .u8 0, .int .u8 0, .int .u8 0, .int .u8 0, .int .u8 0, .int .u8 0]
  rw [show (w.alloc (.cells (rcs key n) 38)).heap.size = w.heap.size + 1 from by simp] at hg0
  have R0 := Lib.hid hr0; have J0 := Lib.hid hg0; have HB0 := Lib.hid hb0; have HK := Lib.hid hk; have RSZ := Lib.hid (rcs_size hk n)
  have H16 := rcs_now hk n
  have RR := hide (ring_range (n := n) hk R0.out)
  clear hr0 hg0 hb0
  have HD := hide (fun W => rdvk_run key n W hk ho (by omega))
  have HSZ := Lib.hid (show (u8s (dvk key n)).toArray.size = 16 from by simp [u8s, dvk_len]); have HONE := Lib.hid (one_u8s (dvk key n))
  have hr1 : (n : Int).tmod 2 = 1 := by rw [Int.tmod_eq_emod_of_nonneg (by omega)]; omega
  have hr2 : (n : Int) % 2 = 1 := by omega
  generalize (u8s (dvk key n)).toArray = cs at *
  generalize (rcs key n) = rs at *
  clear hk ho hx
  go_enter Try.func81, Try.ntmps81
  go_wp2_with (with_reducible show wpList _ _ _ (⟨some 27, _, _, _, _, _⟩ :: _) _ _; go_loud (refine wpList_load_mid rfl 36 (.tmp 26) rfl w.heap.size 0 rfl (u8s key) _ (unhide RR) Try.underlying36 rfl (by rw [show (u8s key).length = 16 from by simp [u8s, HK.out]]; kernel_rfl) ?_))
  refine (unhide HD _).mono ?_
  rintro e w1 ⟨rfl, hb⟩
  have J1 := Lib.hid (J0.out.below hb J0.out.lt); have HB1 := Lib.hid (HB0.out.trans (hb.mono HB0.out.size))
  clear hb J0 HB0 R0 RR H16
  go_wp2_with (with_reducible show wpList _ _ _ (⟨none, _, _, _, _, _⟩ :: _) _ _; go_loud (refine Go.wpList_store_row rfl 36 (.tmp 4) (.tmp 29) rfl (w.heap.size + 1) cs rfl rfl 36 #[.int .u8 0, .int .u8 0, .int .u8 0, .int .u8 0, .int .u8 0, .int .u8 0, .int .u8 0, .int .u8 0, .int .u8 0, .int .u8 0, .int .u8 0, .int .u8 0, .int .u8 0, .int .u8 0, .int .u8 0, .int .u8 0] (is_raw J1.out) (by rw [HSZ.out]; kernel_rfl) (by rw [HSZ.out]; simp) HONE.out ?_))
  have RK := rh_rkey _ (w.heap.size + 1) cs (is_row J1.out) HSZ.out
  refine bodyPost_ret (v := .tuple #[.agg cs, .bool true]) (by simp [results, Try.results81, asAddr, RK]) rfl ⟨rfl, below_setRow HB1.out (Nat.le_succ _) _⟩
set_option maxHeartbeats 400000 in
theorem rat_c1 (key : List Int) (hk : key.length = 16) (ho : Octets key) (n m : Nat) (hn : n < 18446744073709551616) (hm : m + 1 = n) (hx : n % 2 = 0) (w : World) : Calls Try.prog 81 #[.agg (rcs key n), .int .i64 1] w fun e w' => e = .returned (.tuple #[.agg (u8s (dvk key m)).toArray, .bool true]) ∧ Below w.heap.size w w' := by
  have hb0 : Below w.heap.size w ((w.alloc (.cells (rcs key n) 38)).alloc (.cells #[.int .u8 0, .int .u8 0, .int .u8 0, .int .u8 0, .int .u8 0, .int .u8 0, .int .u8 0, .int .u8 0, .int .u8 0, .int .u8 0, .int .u8 0, .int .u8 0, .int .u8 0, .int .u8 0, .int .u8 0, .int .u8 0] 36)) := ((Below.refl _ _).alloc (Nat.le_refl _) _).alloc (by simp) _
  have hr0 := (Is.new w 38 (rcs key n)).alloc (.cells #[.int .u8 0, .int .u8 0, .int .u8 0, .int .u8 0, .int .u8 0, .int .u8 0, .int .u8 0, .int .u8 0, .int .u8 0, .int .u8 0, .int .u8 0, .int .u8 0, .int .u8 0, .int .u8 0, .int .u8 0, .int .u8 0] 36)
  have hg0 := Is.new (w.alloc (.cells (rcs key n) 38)) 36 #[.int .u8 0, .int .u8 0, .int .u8 0, .int .u8 0, .int .u8 0, .int .u8 0, .int .u8 0, .int .u8 0, .int .u8 0, .int .u8 0, .int .u8 0, .int .u8 0, .int .u8 0, .int .u8 0, .int .u8 0, .int .u8 0]
  rw [show (w.alloc (.cells (rcs key n) 38)).heap.size = w.heap.size + 1 from by simp] at hg0
  have R0 := Lib.hid hr0; have J0 := Lib.hid hg0; have HB0 := Lib.hid hb0; have HK := Lib.hid hk; have RSZ := Lib.hid (rcs_size hk n)
  have H16 := rcs_now hk n
  have RR := hide (ring_range (n := n) hk R0.out)
  clear hr0 hg0 hb0
  have HD := hide (fun W => rdvk_run key m W hk ho (by omega))
  have HSZ := Lib.hid (show (u8s (dvk key m)).toArray.size = 16 from by simp [u8s, dvk_len]); have HONE := Lib.hid (one_u8s (dvk key m))
  have hr1 : (n : Int).tmod 2 = 0 := by rw [Int.tmod_eq_emod_of_nonneg (by omega)]; omega
  have hr2 : (n : Int) % 2 = 0 := by omega
  have hn0 : ¬ (n : Int) = 0 := by omega
  have hn1 : ((n : Int) == 0) = false := by rw [beq_eq_false_iff_ne]; omega
  have hnm : (n : Int) - 1 = (m : Int) := by omega
  generalize (u8s (dvk key m)).toArray = cs at *
  generalize (rcs key n) = rs at *
  clear hk ho hx hm
  go_enter Try.func81, Try.ntmps81
  go_wp2_with (with_reducible show wpList _ _ _ (⟨some 27, _, _, _, _, _⟩ :: _) _ _; go_loud (refine wpList_load_mid rfl 36 (.tmp 26) rfl w.heap.size 0 rfl (u8s key) _ (unhide RR) Try.underlying36 rfl (by rw [show (u8s key).length = 16 from by simp [u8s, HK.out]]; kernel_rfl) ?_))
  refine (unhide HD _).mono ?_
  rintro e w1 ⟨rfl, hb⟩
  have J1 := Lib.hid (J0.out.below hb J0.out.lt); have HB1 := Lib.hid (HB0.out.trans (hb.mono HB0.out.size))
  clear hb J0 HB0 R0 RR H16
  go_wp2_with (with_reducible show wpList _ _ _ (⟨none, _, _, _, _, _⟩ :: _) _ _; go_loud (refine Go.wpList_store_row rfl 36 (.tmp 4) (.tmp 29) rfl (w.heap.size + 1) cs rfl rfl 36 #[.int .u8 0, .int .u8 0, .int .u8 0, .int .u8 0, .int .u8 0, .int .u8 0, .int .u8 0, .int .u8 0, .int .u8 0, .int .u8 0, .int .u8 0, .int .u8 0, .int .u8 0, .int .u8 0, .int .u8 0, .int .u8 0] (is_raw J1.out) (by rw [HSZ.out]; kernel_rfl) (by rw [HSZ.out]; simp) HONE.out ?_))
  have RK := rh_rkey _ (w.heap.size + 1) cs (is_row J1.out) HSZ.out
  refine bodyPost_ret (v := .tuple #[.agg cs, .bool true]) (by simp [results, Try.results81, asAddr, RK]) rfl ⟨rfl, below_setRow HB1.out (Nat.le_succ _) _⟩
set_option maxHeartbeats 400000 in
theorem rat_c0 (key : List Int) (hk : key.length = 16) (ho : Octets key) (n m : Nat) (hn : n < 18446744073709551616) (hm : m + 1 = n) (hx : n % 2 = 1) (w : World) : Calls Try.prog 81 #[.agg (rcs key n), .int .i64 0] w fun e w' => e = .returned (.tuple #[.agg (u8s (dvk key m)).toArray, .bool true]) ∧ Below w.heap.size w w' := by
  have hb0 : Below w.heap.size w ((w.alloc (.cells (rcs key n) 38)).alloc (.cells #[.int .u8 0, .int .u8 0, .int .u8 0, .int .u8 0, .int .u8 0, .int .u8 0, .int .u8 0, .int .u8 0, .int .u8 0, .int .u8 0, .int .u8 0, .int .u8 0, .int .u8 0, .int .u8 0, .int .u8 0, .int .u8 0] 36)) := ((Below.refl _ _).alloc (Nat.le_refl _) _).alloc (by simp) _
  have hr0 := (Is.new w 38 (rcs key n)).alloc (.cells #[.int .u8 0, .int .u8 0, .int .u8 0, .int .u8 0, .int .u8 0, .int .u8 0, .int .u8 0, .int .u8 0, .int .u8 0, .int .u8 0, .int .u8 0, .int .u8 0, .int .u8 0, .int .u8 0, .int .u8 0, .int .u8 0] 36)
  have hg0 := Is.new (w.alloc (.cells (rcs key n) 38)) 36 #[.int .u8 0, .int .u8 0, .int .u8 0, .int .u8 0, .int .u8 0, .int .u8 0, .int .u8 0, .int .u8 0, .int .u8 0, .int .u8 0, .int .u8 0, .int .u8 0, .int .u8 0, .int .u8 0, .int .u8 0, .int .u8 0]
  rw [show (w.alloc (.cells (rcs key n) 38)).heap.size = w.heap.size + 1 from by simp] at hg0
  have R0 := Lib.hid hr0; have J0 := Lib.hid hg0; have HB0 := Lib.hid hb0; have HK := Lib.hid hk; have RSZ := Lib.hid (rcs_size hk n)
  have H16 := rcs_now hk n
  have RR := hide (ring_range (n := n) hk R0.out)
  clear hr0 hg0 hb0
  have HD := hide (fun W => rdvk_run key m W hk ho (by omega))
  have HSZ := Lib.hid (show (u8s (dvk key m)).toArray.size = 16 from by simp [u8s, dvk_len]); have HONE := Lib.hid (one_u8s (dvk key m))
  have hr1 : (n : Int).tmod 2 = 1 := by rw [Int.tmod_eq_emod_of_nonneg (by omega)]; omega
  have hr2 : (n : Int) % 2 = 1 := by omega
  have hn0 : ¬ (n : Int) = 0 := by omega
  have hn1 : ((n : Int) == 0) = false := by rw [beq_eq_false_iff_ne]; omega
  have hnm : (n : Int) - 1 = (m : Int) := by omega
  generalize (u8s (dvk key m)).toArray = cs at *
  generalize (rcs key n) = rs at *
  clear hk ho hx hm
  go_enter Try.func81, Try.ntmps81
  go_wp2_with (with_reducible show wpList _ _ _ (⟨some 27, _, _, _, _, _⟩ :: _) _ _; go_loud (refine wpList_load_mid rfl 36 (.tmp 26) rfl w.heap.size 0 rfl (u8s key) _ (unhide RR) Try.underlying36 rfl (by rw [show (u8s key).length = 16 from by simp [u8s, HK.out]]; kernel_rfl) ?_))
  refine (unhide HD _).mono ?_
  rintro e w1 ⟨rfl, hb⟩
  have J1 := Lib.hid (J0.out.below hb J0.out.lt); have HB1 := Lib.hid (HB0.out.trans (hb.mono HB0.out.size))
  clear hb J0 HB0 R0 RR H16
  go_wp2_with (with_reducible show wpList _ _ _ (⟨none, _, _, _, _, _⟩ :: _) _ _; go_loud (refine Go.wpList_store_row rfl 36 (.tmp 4) (.tmp 29) rfl (w.heap.size + 1) cs rfl rfl 36 #[.int .u8 0, .int .u8 0, .int .u8 0, .int .u8 0, .int .u8 0, .int .u8 0, .int .u8 0, .int .u8 0, .int .u8 0, .int .u8 0, .int .u8 0, .int .u8 0, .int .u8 0, .int .u8 0, .int .u8 0, .int .u8 0] (is_raw J1.out) (by rw [HSZ.out]; kernel_rfl) (by rw [HSZ.out]; simp) HONE.out ?_))
  have RK := rh_rkey _ (w.heap.size + 1) cs (is_row J1.out) HSZ.out
  refine bodyPost_ret (v := .tuple #[.agg cs, .bool true]) (by simp [results, Try.results81, asAddr, RK]) rfl ⟨rfl, below_setRow HB1.out (Nat.le_succ _) _⟩
set_option maxHeartbeats 400000 in
theorem rat_z (key : List Int) (hk : key.length = 16) (ho : Octets key) (n : Nat) (hn : n < 18446744073709551616) (h0 : n = 0) (hx : n % 2 = 0) (w : World) : Calls Try.prog 81 #[.agg (rcs key n), .int .i64 1] w fun e w' => e = .returned (.tuple #[.agg #[.int .u8 0, .int .u8 0, .int .u8 0, .int .u8 0, .int .u8 0, .int .u8 0, .int .u8 0, .int .u8 0, .int .u8 0, .int .u8 0, .int .u8 0, .int .u8 0, .int .u8 0, .int .u8 0, .int .u8 0, .int .u8 0], .bool false]) ∧ Below w.heap.size w w' := by
  have hb0 : Below w.heap.size w ((w.alloc (.cells (rcs key n) 38)).alloc (.cells #[.int .u8 0, .int .u8 0, .int .u8 0, .int .u8 0, .int .u8 0, .int .u8 0, .int .u8 0, .int .u8 0, .int .u8 0, .int .u8 0, .int .u8 0, .int .u8 0, .int .u8 0, .int .u8 0, .int .u8 0, .int .u8 0] 36)) := ((Below.refl _ _).alloc (Nat.le_refl _) _).alloc (by simp) _
  have hr0 := (Is.new w 38 (rcs key n)).alloc (.cells #[.int .u8 0, .int .u8 0, .int .u8 0, .int .u8 0, .int .u8 0, .int .u8 0, .int .u8 0, .int .u8 0, .int .u8 0, .int .u8 0, .int .u8 0, .int .u8 0, .int .u8 0, .int .u8 0, .int .u8 0, .int .u8 0] 36)
  have hg0 := Is.new (w.alloc (.cells (rcs key n) 38)) 36 #[.int .u8 0, .int .u8 0, .int .u8 0, .int .u8 0, .int .u8 0, .int .u8 0, .int .u8 0, .int .u8 0, .int .u8 0, .int .u8 0, .int .u8 0, .int .u8 0, .int .u8 0, .int .u8 0, .int .u8 0, .int .u8 0]
  rw [show (w.alloc (.cells (rcs key n) 38)).heap.size = w.heap.size + 1 from by simp] at hg0
  have R0 := Lib.hid hr0; have J0 := Lib.hid hg0; have HB0 := Lib.hid hb0; have HK := Lib.hid hk; have RSZ := Lib.hid (rcs_size hk n)
  have H16 := rcs_now hk n
  clear hr0 hg0 hb0
  have hr1 : (n : Int).tmod 2 = 0 := by rw [Int.tmod_eq_emod_of_nonneg (by omega)]; omega
  have hr2 : (n : Int) % 2 = 0 := by omega
  have hn0 : (n : Int) = 0 := by omega
  clear h0
  generalize (rcs key n) = rs at *
  clear hk ho hx
  go_enter Try.func81, Try.ntmps81
  go_wp2_with (with_reducible show wpList _ _ _ (⟨none, _, _, _, _, _⟩ :: _) _ _; go_loud (refine Go.wpList_store_row rfl 36 (.tmp 4) (.tmp 23) rfl (w.heap.size + 1) #[.int .u8 0, .int .u8 0, .int .u8 0, .int .u8 0, .int .u8 0, .int .u8 0, .int .u8 0, .int .u8 0, .int .u8 0, .int .u8 0, .int .u8 0, .int .u8 0, .int .u8 0, .int .u8 0, .int .u8 0, .int .u8 0] rfl rfl 36 #[.int .u8 0, .int .u8 0, .int .u8 0, .int .u8 0, .int .u8 0, .int .u8 0, .int .u8 0, .int .u8 0, .int .u8 0, .int .u8 0, .int .u8 0, .int .u8 0, .int .u8 0, .int .u8 0, .int .u8 0, .int .u8 0] (is_raw J0.out) (by kernel_rfl) (by simp) (by simp [Value.oneCell']) ?_))
  have RK := rh_rkey _ (w.heap.size + 1) #[.int .u8 0, .int .u8 0, .int .u8 0, .int .u8 0, .int .u8 0, .int .u8 0, .int .u8 0, .int .u8 0, .int .u8 0, .int .u8 0, .int .u8 0, .int .u8 0, .int .u8 0, .int .u8 0, .int .u8 0, .int .u8 0] (is_row J0.out) rfl
  refine bodyPost_ret (v := .tuple #[.agg #[.int .u8 0, .int .u8 0, .int .u8 0, .int .u8 0, .int .u8 0, .int .u8 0, .int .u8 0, .int .u8 0, .int .u8 0, .int .u8 0, .int .u8 0, .int .u8 0, .int .u8 0, .int .u8 0, .int .u8 0, .int .u8 0], .bool false]) (by simp [results, Try.results81, asAddr, RK]) rfl ⟨rfl, below_setRow HB0.out (Nat.le_succ _) _⟩
set_option maxHeartbeats 400000 in
theorem rat_o0 (key : List Int) (hk : key.length = 16) (ho : Octets key) (n : Nat) (hn : n < 18446744073709551616) (b : Int) (hb0 : b ≠ 0) (hb1 : b ≠ 1) (hx : n % 2 = 0) (w : World) : Calls Try.prog 81 #[.agg (rcs key n), .int .i64 b] w fun e w' => e = .returned (.tuple #[.agg #[.int .u8 0, .int .u8 0, .int .u8 0, .int .u8 0, .int .u8 0, .int .u8 0, .int .u8 0, .int .u8 0, .int .u8 0, .int .u8 0, .int .u8 0, .int .u8 0, .int .u8 0, .int .u8 0, .int .u8 0, .int .u8 0], .bool false]) ∧ Below w.heap.size w w' := by
  have hb0 : Below w.heap.size w ((w.alloc (.cells (rcs key n) 38)).alloc (.cells #[.int .u8 0, .int .u8 0, .int .u8 0, .int .u8 0, .int .u8 0, .int .u8 0, .int .u8 0, .int .u8 0, .int .u8 0, .int .u8 0, .int .u8 0, .int .u8 0, .int .u8 0, .int .u8 0, .int .u8 0, .int .u8 0] 36)) := ((Below.refl _ _).alloc (Nat.le_refl _) _).alloc (by simp) _
  have hr0 := (Is.new w 38 (rcs key n)).alloc (.cells #[.int .u8 0, .int .u8 0, .int .u8 0, .int .u8 0, .int .u8 0, .int .u8 0, .int .u8 0, .int .u8 0, .int .u8 0, .int .u8 0, .int .u8 0, .int .u8 0, .int .u8 0, .int .u8 0, .int .u8 0, .int .u8 0] 36)
  have hg0 := Is.new (w.alloc (.cells (rcs key n) 38)) 36 #[.int .u8 0, .int .u8 0, .int .u8 0, .int .u8 0, .int .u8 0, .int .u8 0, .int .u8 0, .int .u8 0, .int .u8 0, .int .u8 0, .int .u8 0, .int .u8 0, .int .u8 0, .int .u8 0, .int .u8 0, .int .u8 0]
  rw [show (w.alloc (.cells (rcs key n) 38)).heap.size = w.heap.size + 1 from by simp] at hg0
  have R0 := Lib.hid hr0; have J0 := Lib.hid hg0; have HB0 := Lib.hid hb0; have HK := Lib.hid hk; have RSZ := Lib.hid (rcs_size hk n)
  have H16 := rcs_now hk n
  clear hr0 hg0 hb0
  have hr1 : (n : Int).tmod 2 = 0 := by rw [Int.tmod_eq_emod_of_nonneg (by omega)]; omega
  have hr2 : (n : Int) % 2 = 0 := by omega
  have hn0 : (b != 0) = true := by simp [hb0]
  have hn1 : (b != 1) = true := by simp [hb1]
  generalize (rcs key n) = rs at *
  clear hk ho hx
  go_enter Try.func81, Try.ntmps81
  go_wp2_with (with_reducible show wpList _ _ _ (⟨none, _, _, _, _, _⟩ :: _) _ _; go_loud (refine Go.wpList_store_row rfl 36 (.tmp 4) (.tmp 13) rfl (w.heap.size + 1) #[.int .u8 0, .int .u8 0, .int .u8 0, .int .u8 0, .int .u8 0, .int .u8 0, .int .u8 0, .int .u8 0, .int .u8 0, .int .u8 0, .int .u8 0, .int .u8 0, .int .u8 0, .int .u8 0, .int .u8 0, .int .u8 0] rfl rfl 36 #[.int .u8 0, .int .u8 0, .int .u8 0, .int .u8 0, .int .u8 0, .int .u8 0, .int .u8 0, .int .u8 0, .int .u8 0, .int .u8 0, .int .u8 0, .int .u8 0, .int .u8 0, .int .u8 0, .int .u8 0, .int .u8 0] (is_raw J0.out) (by kernel_rfl) (by simp) (by simp [Value.oneCell']) ?_))
  have RK := rh_rkey _ (w.heap.size + 1) #[.int .u8 0, .int .u8 0, .int .u8 0, .int .u8 0, .int .u8 0, .int .u8 0, .int .u8 0, .int .u8 0, .int .u8 0, .int .u8 0, .int .u8 0, .int .u8 0, .int .u8 0, .int .u8 0, .int .u8 0, .int .u8 0] (is_row J0.out) rfl
  refine bodyPost_ret (v := .tuple #[.agg #[.int .u8 0, .int .u8 0, .int .u8 0, .int .u8 0, .int .u8 0, .int .u8 0, .int .u8 0, .int .u8 0, .int .u8 0, .int .u8 0, .int .u8 0, .int .u8 0, .int .u8 0, .int .u8 0, .int .u8 0, .int .u8 0], .bool false]) (by simp [results, Try.results81, asAddr, RK]) rfl ⟨rfl, below_setRow HB0.out (Nat.le_succ _) _⟩
set_option maxHeartbeats 400000 in
theorem rat_o1 (key : List Int) (hk : key.length = 16) (ho : Octets key) (n : Nat) (hn : n < 18446744073709551616) (b : Int) (hb0 : b ≠ 0) (hb1 : b ≠ 1) (hx : n % 2 = 1) (w : World) : Calls Try.prog 81 #[.agg (rcs key n), .int .i64 b] w fun e w' => e = .returned (.tuple #[.agg #[.int .u8 0, .int .u8 0, .int .u8 0, .int .u8 0, .int .u8 0, .int .u8 0, .int .u8 0, .int .u8 0, .int .u8 0, .int .u8 0, .int .u8 0, .int .u8 0, .int .u8 0, .int .u8 0, .int .u8 0, .int .u8 0], .bool false]) ∧ Below w.heap.size w w' := by
  have hb0 : Below w.heap.size w ((w.alloc (.cells (rcs key n) 38)).alloc (.cells #[.int .u8 0, .int .u8 0, .int .u8 0, .int .u8 0, .int .u8 0, .int .u8 0, .int .u8 0, .int .u8 0, .int .u8 0, .int .u8 0, .int .u8 0, .int .u8 0, .int .u8 0, .int .u8 0, .int .u8 0, .int .u8 0] 36)) := ((Below.refl _ _).alloc (Nat.le_refl _) _).alloc (by simp) _
  have hr0 := (Is.new w 38 (rcs key n)).alloc (.cells #[.int .u8 0, .int .u8 0, .int .u8 0, .int .u8 0, .int .u8 0, .int .u8 0, .int .u8 0, .int .u8 0, .int .u8 0, .int .u8 0, .int .u8 0, .int .u8 0, .int .u8 0, .int .u8 0, .int .u8 0, .int .u8 0] 36)
  have hg0 := Is.new (w.alloc (.cells (rcs key n) 38)) 36 #[.int .u8 0, .int .u8 0, .int .u8 0, .int .u8 0, .int .u8 0, .int .u8 0, .int .u8 0, .int .u8 0, .int .u8 0, .int .u8 0, .int .u8 0, .int .u8 0, .int .u8 0, .int .u8 0, .int .u8 0, .int .u8 0]
  rw [show (w.alloc (.cells (rcs key n) 38)).heap.size = w.heap.size + 1 from by simp] at hg0
  have R0 := Lib.hid hr0; have J0 := Lib.hid hg0; have HB0 := Lib.hid hb0; have HK := Lib.hid hk; have RSZ := Lib.hid (rcs_size hk n)
  have H16 := rcs_now hk n
  clear hr0 hg0 hb0
  have hr1 : (n : Int).tmod 2 = 1 := by rw [Int.tmod_eq_emod_of_nonneg (by omega)]; omega
  have hr2 : (n : Int) % 2 = 1 := by omega
  have hn0 : (b != 0) = true := by simp [hb0]
  have hn1 : (b != 1) = true := by simp [hb1]
  generalize (rcs key n) = rs at *
  clear hk ho hx
  go_enter Try.func81, Try.ntmps81
  go_wp2_with (with_reducible show wpList _ _ _ (⟨none, _, _, _, _, _⟩ :: _) _ _; go_loud (refine Go.wpList_store_row rfl 36 (.tmp 4) (.tmp 13) rfl (w.heap.size + 1) #[.int .u8 0, .int .u8 0, .int .u8 0, .int .u8 0, .int .u8 0, .int .u8 0, .int .u8 0, .int .u8 0, .int .u8 0, .int .u8 0, .int .u8 0, .int .u8 0, .int .u8 0, .int .u8 0, .int .u8 0, .int .u8 0] rfl rfl 36 #[.int .u8 0, .int .u8 0, .int .u8 0, .int .u8 0, .int .u8 0, .int .u8 0, .int .u8 0, .int .u8 0, .int .u8 0, .int .u8 0, .int .u8 0, .int .u8 0, .int .u8 0, .int .u8 0, .int .u8 0, .int .u8 0] (is_raw J0.out) (by kernel_rfl) (by simp) (by simp [Value.oneCell']) ?_))
  have RK := rh_rkey _ (w.heap.size + 1) #[.int .u8 0, .int .u8 0, .int .u8 0, .int .u8 0, .int .u8 0, .int .u8 0, .int .u8 0, .int .u8 0, .int .u8 0, .int .u8 0, .int .u8 0, .int .u8 0, .int .u8 0, .int .u8 0, .int .u8 0, .int .u8 0] (is_row J0.out) rfl
  refine bodyPost_ret (v := .tuple #[.agg #[.int .u8 0, .int .u8 0, .int .u8 0, .int .u8 0, .int .u8 0, .int .u8 0, .int .u8 0, .int .u8 0, .int .u8 0, .int .u8 0, .int .u8 0, .int .u8 0, .int .u8 0, .int .u8 0, .int .u8 0, .int .u8 0], .bool false]) (by simp [results, Try.results81, asAddr, RK]) rfl ⟨rfl, below_setRow HB0.out (Nat.le_succ _) _⟩
theorem hrat_any (key : List Int) (hk : key.length = 16) (ho : Octets key) (n : Nat) (hn : n < 18446744073709551616) (b : Int) (w : World) : Calls Try.prog 81 #[.agg (rcs key n), .int .i64 b] w fun e w' => e = .returned (.tuple #[.agg (u8s (atp key n b)).toArray, .bool (ato n b)]) ∧ Below w.heap.size w w' := by
  rcases (show n % 2 = 0 ∨ n % 2 = 1 from by omega) with hx | hx
  · by_cases h0 : b = 0
    · subst h0
      obtain ⟨e1, e2⟩ := atp_own key n 0 (by omega); rw [e1, e2]; exact rat_a0 key hk ho n hn hx w
    · by_cases h1 : b = 1
      · subst h1
        by_cases hz : n = 0
        · obtain ⟨e1, e2⟩ := atp_none key n 1 (by omega) (by omega); rw [e1, e2, zero_row]; exact rat_z key hk ho n hn hz hx w
        · obtain ⟨m, hm⟩ : ∃ m, m + 1 = n := ⟨n - 1, by omega⟩
          obtain ⟨e1, e2⟩ := atp_prev key n m 1 (by omega) (by omega) hm; rw [e1, e2]; exact rat_c1 key hk ho n m hn hm hx w
      · obtain ⟨e1, e2⟩ := atp_none key n b (by omega) (by omega); rw [e1, e2, zero_row]; exact rat_o0 key hk ho n hn b h0 h1 hx w
  · by_cases h1 : b = 1
    · subst h1
      obtain ⟨e1, e2⟩ := atp_own key n 1 (by omega); rw [e1, e2]; exact rat_a1 key hk ho n hn hx w
    · by_cases h0 : b = 0
      · subst h0
        obtain ⟨m, hm⟩ : ∃ m, m + 1 = n := ⟨n - 1, by omega⟩
        obtain ⟨e1, e2⟩ := atp_prev key n m 0 (by omega) (by omega) hm; rw [e1, e2]; exact rat_c0 key hk ho n m hn hm hx w
      · obtain ⟨e1, e2⟩ := atp_none key n b (by omega) (by omega); rw [e1, e2, zero_row]; exact rat_o1 key hk ho n hn b h0 h1 hx w
end Go.Proofs.Ythjkjohmaemmiaa
