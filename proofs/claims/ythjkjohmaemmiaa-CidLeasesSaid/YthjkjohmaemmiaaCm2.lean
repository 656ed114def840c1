/-
  Make and Right of the reference of layer 13. Helper of the claims of layer 13. No condition.
-/
import Derived.Test.YthjkjohmaemmiaaCd2
import Derived.Test.YthjkjohmaemmiaaRk
import Derived.Test.YthjkjohmaemmiaaCm1
namespace Go.Proofs.Ythjkjohmaemmiaa
open Go.ChangeShapes Go.WideShapes Go.ChangeAt Go.RowKit
set_option linter.unusedSimpArgs false
set_option linter.unusedVariables false
set_option maxRecDepth 100000
set_option maxHeartbeats 2000000 in
theorem rmake_yes (key : List Int) (hk : key.length = 16) (ho : Octets key) (n : Nat) (hn : n < 18446744073709551616) (vv sl on : Nat) (hvv : vv < 8) (hsl : sl < 4096) (hon : on < 1099511627776) (wd : Nat) (hwd : n % 2 * 32768 + ((vv * 4096 + sl) ^^^ mkc (dvk key n) (be on 5)) = wd) (w : World) :
    Calls Try.prog 33 #[.agg (rcs key n), .int .i64 (vv : Int), .int .i64 (sl : Int), .int .u64 (on : Int)] w fun e w' => ∃ v, e = .returned v ∧ Below w.heap.size w w' ∧ IsB (idl (dvk key n) on wd) 12 v w' := by
  obtain ⟨x, hx⟩ : ∃ x, n % 2 = x := ⟨_, rfl⟩
  have hr1 : (n : Int).tmod 2 = (x : Int) := by rw [Int.tmod_eq_emod_of_nonneg (by omega)]; omega
  have hr2 : (n : Int) % 2 = (x : Int) := by omega
  obtain ⟨m, hm⟩ : ∃ y, mkc (dvk key n) (be on 5) = y := ⟨_, rfl⟩
  have hml : m < 32768 := by rw [← hm]; exact mkc_lt _ _
  have hwl : vv * 4096 + sl < 32768 := by omega
  have hx1 : x ≤ 1 := by omega
  rw [hx, hm] at hwd
  have hxm : (vv * 4096 + sl) ^^^ m < 2 ^ 15 := Nat.xor_lt_two_pow hwl hml
  have hwdl : wd < 65536 := by omega
  have f0 : IntKind.i64.wrap (x : Int) = (x : Int) := IntWalk.i64_in _ (by omega)
  have f1 : IntKind.u16.wrap (x : Int) = (x : Int) := by rw [IntKind.wrap_u16]; omega
  have f2 : IntKind.u16.wrap ((x : Int) * 32768) = ((x * 32768 : Nat) : Int) := by rw [IntKind.wrap_u16]; omega
  have f2' : (x : Int) * 32768 % 65536 = ((x * 32768 : Nat) : Int) := by omega
  have f3 : IntKind.u16.wrap ((vv : Int) * 4096 + (sl : Int)) = ((vv * 4096 + sl : Nat) : Int) := by rw [IntKind.wrap_u16]; omega
  have f5 : IntKind.u64.wrap (wd : Int) = (wd : Int) := IntWalk.u64_in _ (by omega)
  have RATT := hide (fun W => show Calls Try.prog 81 #[.agg (rcs key n), .int .i64 (x : Int)] W fun e w' => e = .returned (.tuple #[.agg (u8s (dvk key n)).toArray, .bool true]) ∧ Below W.heap.size W w' from by have h := hrat_any key hk ho n hn (x : Int) W; obtain ⟨e1, e2⟩ := atp_own key n (x : Int) (by omega); rw [e1, e2] at h; exact h)
  have MT := hide (fun W A c h => show Calls Try.prog 83 #[.agg (u8s (dvk key n)).toArray, .slice A 5 c, .int .u16 ((vv * 4096 + sl : Nat) : Int)] W fun e w' => e = .returned (.int .u16 (((vv * 4096 + sl) ^^^ m : Nat) : Int)) ∧ Below W.heap.size W w' from by have h2 := rhidden13 (dvk key n) (dvk_len key n) (kof_ok _ _) (be on 5) 4 c A (be_ok _ _) (by omega) (vv * 4096 + sl) (by omega) W h; rw [hm, Nat.mod_eq_of_lt hwl] at h2; exact h2)
  generalize (vv * 4096 + sl) ^^^ m = z at *
  have f4 : IntKind.u16.wrap (((x * 32768 : Nat) : Int) + (z : Int)) = (wd : Int) := by rw [IntKind.wrap_u16]; omega
  have f4' : (((x * 32768 : Nat) : Int) + (z : Int)) % 65536 = (wd : Int) := by omega
  generalize x * 32768 = xh at *
  generalize vv * 4096 + sl = wo at *
  have TT := hide (fun W A c h => rtag13 (dvk key n) (dvk_len key n) (kof_ok _ _) (bdy on wd) 6 c A (bdy_ok _ _) (by omega) W h)
  unfold idl
  generalize tgc (dvk key n) (bdy on wd) = tt at *
  have KSZ := Lib.hid (show (u8s (dvk key n)).toArray.size = 16 from by simp [u8s, dvk_len]); have KONE := Lib.hid (one_u8s (dvk key n))
  have RSZ := Lib.hid (rcs_size hk n)
  have H16 := rcs_now hk n
  generalize (u8s (dvk key n)).toArray = ks at *
  have HB0 := Lib.hid (show Below w.heap.size w (w.alloc (.cells (rcs key n) 38)) from (Below.refl _ _).alloc (Nat.le_refl _) _)
  have G0 := Lib.hid (Is.new w 38 (rcs key n))
  clear hm hx hwd hk ho hn hml hwl hxm
  go_enter Try.func33, Try.ntmps33
  go_wp2_with (with_reducible show wpList _ _ _ (⟨some 20, _, _, _, _, _⟩ :: _) _ _; go_loud (refine Go.wpList_load_row rfl 38 (.tmp 4) rfl w.heap.size rfl 38 (rcs key n) (0, 0) _ (is_raw G0.out) Try.underlying38 rfl (by rw [RSZ.out]; kernel_rfl) ?_))
  generalize (w.alloc (.cells (rcs key n) 38)) = V at *
  refine (unhide RATT _).mono ?_
  rintro e w3 ⟨rfl, hb⟩
  have J3 := Lib.hid (Is.new w3 36 #[.int .u8 0, .int .u8 0, .int .u8 0, .int .u8 0, .int .u8 0, .int .u8 0, .int .u8 0, .int .u8 0, .int .u8 0, .int .u8 0, .int .u8 0, .int .u8 0, .int .u8 0, .int .u8 0, .int .u8 0, .int .u8 0])
  have hz3 : w.heap.size ≤ w3.heap.size := Nat.le_trans HB0.out.size hb.size
  have K4 := Lib.hid (is_row (cs' := ks) J3.out)
  have HB4 := Lib.hid (below_setRow ((HB0.out.trans (hb.mono HB0.out.size)).alloc hz3 (.cells #[.int .u8 0, .int .u8 0, .int .u8 0, .int .u8 0, .int .u8 0, .int .u8 0, .int .u8 0, .int .u8 0, .int .u8 0, .int .u8 0, .int .u8 0, .int .u8 0, .int .u8 0, .int .u8 0, .int .u8 0, .int .u8 0] 36)) (g := w3.heap.size) hz3 ks)
  clear hb HB0 G0 hz3 H16
  go_wp2_with (
    (with_reducible show wpList _ _ _ (⟨none, _, _, _, _, _⟩ :: _) _ _)
    go_loud (refine Go.wpList_store_row rfl 36 (.tmp 10) (.tmp 23) rfl w3.heap.size ks rfl rfl 36 #[.int .u8 0, .int .u8 0, .int .u8 0, .int .u8 0, .int .u8 0, .int .u8 0, .int .u8 0, .int .u8 0, .int .u8 0, .int .u8 0, .int .u8 0, .int .u8 0, .int .u8 0, .int .u8 0, .int .u8 0, .int .u8 0] (is_raw J3.out) (by rw [KSZ.out]; kernel_rfl) (by rw [KSZ.out]; simp) KONE.out ?_)
    generalize (w3.alloc (.cells #[.int .u8 0, .int .u8 0, .int .u8 0, .int .u8 0, .int .u8 0, .int .u8 0, .int .u8 0, .int .u8 0, .int .u8 0, .int .u8 0, .int .u8 0, .int .u8 0, .int .u8 0, .int .u8 0, .int .u8 0, .int .u8 0] 36)).setRow w3.heap.size ks = w4 at *
    generalize w3.heap.size = g10 at *)
  clear J3
  have K4k := K4
  refine (rb_6 on 5 _ (by omega) (by omega)).mono ?_
  rintro e w5 ⟨A5, c5, rfl, ho5, hb⟩
  have HO5 := hide ho5; have HW := Lib.hid HB4.out; have hz5 : w4.heap.size ≤ w5.heap.size := hb.size; have HBS := Lib.hid hb
  have HB5 := Lib.hid (HB4.out.trans (hb.mono HB4.out.size)); have K5 := Lib.hid (K4.out.below hb K4.out.lt)
  clear hb ho5 K4 HB4
  go_wp2_with (with_reducible show wpList _ _ _ (⟨some 30, _, _, _, _, _⟩ :: _) _ _; go_loud (refine Go.wpList_load_row rfl 36 (.tmp 10) rfl g10 rfl 36 ks (0, 0) _ (is_raw K5.out) Try.underlying36 rfl (by rw [KSZ.out]; kernel_rfl) ?_))
  refine (unhide MT _ A5 c5 (IsB.own HO5.out)).mono ?_
  rintro e w6 ⟨rfl, hb⟩
  have HO6 := hide (HO5.out.below hb); have HBS6 := Lib.hid (HBS.out.trans (hb.mono hz5)); have HB6 := Lib.hid (HB5.out.trans (hb.mono HB5.out.size)); have K6 := Lib.hid (K5.out.below hb K5.out.lt); have hz6 : w4.heap.size ≤ w6.heap.size := Nat.le_trans hz5 hb.size
  clear hb HO5 HBS HB5 K5
  go_wp2_with fail
  refine (rb_6 wd 2 _ (by omega) (by omega)).mono ?_
  rintro e w7 ⟨A7, c7, rfl, ho7, hb⟩
  have HO7 := hide (HO6.out.below hb); have HV7 := hide (IsB.own ho7); have HBS7 := Lib.hid (HBS6.out.trans (hb.mono hz6)); have K7 := Lib.hid (K6.out.below hb K6.out.lt); have hz7 : w4.heap.size ≤ w7.heap.size := Nat.le_trans hz6 hb.size
  clear hb HO6 HBS6 HB6 K6 ho7
  go_wp2_with (first
    | ((with_reducible show wpList _ _ _ (⟨some 43, _, _, _, _, _⟩ :: _) _ _)
       go_loud (refine app_k (.tmp 39) (.tmp 42) _ rfl rfl Try.underlying22 info8 (v := .slice A5 5 c5) (base := w4.heap.size) (xs := be on 5) (k := 5) (k' := 7) (l := be wd 2) (m := 2) rfl HO7.out (be_len _ _) rfl HV7.out rfl (by omega) hz7 ?_)
       intro A8 c8 w8 ho8 hg8
       have hb8 : Below w4.heap.size w4 w8 := HBS7.out.grown hg8 hz7 (fun q hq => (World.ownsRow.lt HO7.out q hq).1)
       have HO8 := hide ho8
       have HBS8 := Lib.hid hb8
       have K8 := Lib.hid (K4k.out.below hb8 K4k.out.lt)
       have hz8 : w4.heap.size ≤ w8.heap.size := hb8.size
       clear ho8 hg8 hb8)
    | (with_reducible show wpList _ _ _ (⟨some 45, _, _, _, _, _⟩ :: _) _ _; go_loud (refine Go.wpList_load_row rfl 36 (.tmp 10) rfl g10 rfl 36 ks (0, 0) _ (is_raw K8.out) Try.underlying36 rfl (by rw [KSZ.out]; kernel_rfl) ?_)))
  refine (unhide TT _ A8 c8 (IsB.own HO8.out)).mono ?_
  rintro e w9 ⟨v9, rfl, hb, hv9⟩
  obtain ⟨A9, c9, rfl⟩ := hv9.shape
  have HV9 := hide hv9.isb; have HO9 := hide (HO8.out.below hb); have HBS9 := Lib.hid (HBS8.out.trans (hb.mono hz8)); have hz9 : w4.heap.size ≤ w9.heap.size := Nat.le_trans hz8 hb.size
  clear hb hv9 HO8 HBS8 K8
  go_wp2_with (first
    | ((with_reducible show wpList _ _ _ (⟨some 48, _, _, _, _, _⟩ :: _) _ _)
       go_loud (refine app_k (.tmp 44) (.tmp 47) _ rfl rfl Try.underlying22 info8 (v := .slice A8 7 c8) (base := w4.heap.size) (xs := bdy on wd) (k := 7) (k' := 12) (l := tt) (m := 5) rfl HO9.out (bdy_len _ _) rfl HV9.out rfl (by omega) hz9 ?_)
       intro Az cz wz hoz hgz
       have hbz : Below w4.heap.size w4 wz := HBS9.out.grown hgz hz9 (fun q hq => (World.ownsRow.lt HO9.out q hq).1)
       have HBZ := Lib.hid (HW.out.trans (hbz.mono HW.out.size))
       have HOZ := hide (IsB.own hoz)
       clear hoz hgz hbz))
  go_ret
  exact ⟨_, rfl, HBZ.out, HOZ.out⟩
set_option maxHeartbeats 1000000 in
theorem rright12 (v s : Int) (w : World) : Calls Try.prog 86 #[.int .i64 v, .int .i64 s] w fun e w' => e = .returned (.bool (pright v s)) ∧ w = w' := by
  by_cases h1 : 0 ≤ v
  · by_cases h2 : v ≤ 7
    · by_cases h3 : 0 ≤ s
      · by_cases h4 : s ≤ 4095
        · rw [show pright v s = true from by simp [pright, h1, h3]; omega]
          go_enter Try.func86, Try.ntmps86
          go_wp2_with fail
          go_ret
          exact ⟨rfl, rfl⟩
        · rw [show pright v s = false from by simp [pright]; omega]
          go_enter Try.func86, Try.ntmps86
          go_wp2_with fail
          go_ret
          exact ⟨rfl, rfl⟩
      · rw [show pright v s = false from by simp [pright, h3]]
        go_enter Try.func86, Try.ntmps86
        go_wp2_with fail
        go_ret
        exact ⟨rfl, rfl⟩
    · rw [show pright v s = false from by simp [pright]; omega]
      go_enter Try.func86, Try.ntmps86
      go_wp2_with fail
      go_ret
      exact ⟨rfl, rfl⟩
  · rw [show pright v s = false from by simp [pright, h1]]
    go_enter Try.func86, Try.ntmps86
    go_wp2_with fail
    go_ret
    exact ⟨rfl, rfl⟩
set_option maxHeartbeats 1000000 in
theorem rright13 (v s : Int) (on : Nat) (w : World) : Calls Try.prog 32 #[.int .i64 v, .int .i64 s, .int .u64 (on : Int)] w fun e w' => e = .returned (.bool (pright v s && decide (on < 1099511627776))) ∧ w = w' := by
  have RT := hide (fun W => rright12 v s W)
  generalize pright v s = b at *
  by_cases h : on < 1099511627776
  · have g : (on : Int) < 1099511627776 := by omega
    rw [decide_eq_true h]
    clear h
    cases b
    · go_enter Try.func32, Try.ntmps32
      go_wp2_with fail
      refine (unhide RT _).mono ?_
      rintro e w1 ⟨rfl, rfl⟩
      go_wp2_with fail
      go_ret
      exact ⟨rfl, rfl⟩
    · go_enter Try.func32, Try.ntmps32
      go_wp2_with fail
      refine (unhide RT _).mono ?_
      rintro e w1 ⟨rfl, rfl⟩
      go_wp2_with fail
      go_ret
      exact ⟨rfl, rfl⟩
  · have g : ¬ (on : Int) < 1099511627776 := by omega
    have g2 : decide ((on : Int) < 1099511627776) = false := decide_eq_false g
    rw [decide_eq_false h]
    clear h
    cases b
    · go_enter Try.func32, Try.ntmps32
      go_wp2_with fail
      refine (unhide RT _).mono ?_
      rintro e w1 ⟨rfl, rfl⟩
      go_wp2_with fail
      go_ret
      exact ⟨rfl, rfl⟩
    · go_enter Try.func32, Try.ntmps32
      go_wp2_with fail
      refine (unhide RT _).mono ?_
      rintro e w1 ⟨rfl, rfl⟩
      go_wp2_with fail
      go_ret
      exact ⟨by simp [g], rfl⟩
end Go.Proofs.Ythjkjohmaemmiaa
