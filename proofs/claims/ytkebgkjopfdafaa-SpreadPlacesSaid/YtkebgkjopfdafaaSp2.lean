/-
  More of package spread and its reference: Right, Places, Count, a clone of numbers. Helper of the claim SpreadPlaces. No condition.
-/
import Derived.Test.YtkebgkjopfdafaaSpread
import Derived.Test.YtkebgkjopfdafaaLin4
import Derived.Lib.SliceRun
namespace Go.Proofs.Ytkebgkjopfdafaa
open Go.ChangeShapes Go.WideShapes Go.ChangeAt Go.RowKit
set_option linter.unusedVariables false
set_option maxRecDepth 100000
def OwnI (w : World) (base : Nat) (v : Value) (l : List Int) : Prop := w.ownsRow base 3 1 v l.length (i64s l)
theorem OwnI.nil (w : World) (base : Nat) : OwnI w base (.slice none 0 0) [] := ⟨by simp [i64s], .inl ⟨rfl, rfl⟩⟩
theorem OwnI.below {w w' : World} {base : Nat} {v : Value} {l : List Int} (h : OwnI w base v l) (hb : Below w.heap.size w w') : OwnI w' base v l := own_below h hb
theorem OwnI.ints {w : World} {base n c : Nat} {A : Option Addr} {l : List Int} (h : OwnI w base (.slice A n c) l) (hn : l.length = n) : Ints w w.heap.size A l := by
  subst hn
  exact arr_of_own h fun i j hi hj => by
    obtain rfl : j = 0 := by omega
    rw [Nat.mul_one, Nat.add_zero]; exact i64s_get hi
theorem OwnI.lower {w : World} {B B' : Nat} {v : Value} {l : List Int} (h : OwnI w B v l) (hB : B' ≤ B) : OwnI w B' v l := by
  obtain ⟨h1, h2⟩ := h
  refine ⟨h1, ?_⟩
  rcases h2 with ⟨a, b⟩ | ⟨g, cap, cur, a, hb, rest⟩
  · exact .inl ⟨a, b⟩
  · exact .inr ⟨g, cap, cur, a, by omega, rest⟩
/-- append(s, l...) of numbers that lie. -/
theorem app_il {w : World} {ops : Array Oper} {rest : List Oper} {o : Oper} {a : Act} {Q : Exit → Act → World → Prop} (s x : Operand)
    (ho : o.op = .call { callee := .builtin .append, args := #[s, x], argTypes := #[64, 64] }) (hgd : o.guard = none)
    {base n : Nat} {v : Value} {xs : List Int} (hs : a.eval s = v) (hown : OwnI w base v xs) (hxn : xs.length = n) {b off m c : Nat} {l : List Int} (hx : a.eval x = .slice (some ⟨b, off, none⟩) m c) (hm : l.length = m)
    (hl : ∀ k, k < l.length → w.cell? ⟨b, off + k, none⟩ = some (.int .i64 (at0 l k))) (hn : n + m ≤ 1000000) (hbase : base ≤ w.heap.size)
    (h : ∀ g cap w', OwnI w' base (.slice (some ⟨g, 0, none⟩) (n + m) cap) (xs ++ l) → w.grownBy w' v.ownBlock → wpList Try.prog ops Q rest (a.put o.dst (.slice (some ⟨g, 0, none⟩) (n + m) cap)) w') (hm0 : 0 < m) : wpList Try.prog ops Q (o :: rest) a w := by
  obtain ⟨i, hi, hz, hz1, hz2⟩ := info_parts info3
  subst hxn; subst hm
  refine wpList_append_lies w hgd s x 64 ho base 3 i (.int .i64 0) 1 8 Try.underlying64 hi hz hz1 hz2 rfl (by omega) v xs.length (i64s xs) hs hown ⟨b, off, none⟩ l.length c (i64s l) hx (by simp [i64s])
    (fun j y hj => by
      have hjl : j < l.length := by
        apply Decidable.byContradiction; intro hn'
        rw [List.getElem?_eq_none (by simp [i64s]; omega)] at hj; cases hj
      rw [i64s_get hjl] at hj; injection hj with hj; subst hj
      have := hl j hjl
      unfold Addr.add
      by_cases h0 : j = 0
      · subst h0; simpa using this
      · rw [if_neg h0]; exact this)
    (fun y hy => by
      obtain ⟨k, hk, rfl⟩ := List.mem_map.1 hy
      rfl) (by omega) (by unfold maxLen; omega) (by omega) hbase w.heap.size rfl ?_
  intro g cap w' h1 h2 _ _
  refine h g cap w' ?_ h2
  unfold OwnI
  rw [show i64s (xs ++ l) = i64s xs ++ i64s l from by simp [i64s], List.length_append]; exact h1
/-- How often a number stands among the first k. -/
def cnt (l : List Int) (x : Int) : Nat → Nat | 0 => 0 | k + 1 => cnt l x k + (if at0 l k = x then 1 else 0)
theorem cnt_le (l : List Int) (x : Int) : ∀ k, cnt l x k ≤ k
  | 0 => Nat.le_refl _
  | k + 1 => by have := cnt_le l x k; unfold cnt; split <;> omega
def plc (to : List Int) (k : Nat) : List Int := (List.range k).map fun j => at0 to (j % to.length)
theorem plc_len (to : List Int) (k : Nat) : (plc to k).length = k := by simp [plc]
theorem plc_step (to : List Int) (k : Nat) : plc to (k + 1) = plc to k ++ [at0 to (k % to.length)] := by simp [plc, List.range_succ]
theorem plc_all (to : List Int) (n : Nat) : placed n to n = plc to n := by
  unfold placed plc
  refine List.map_congr_left fun j hj => ?_
  rw [if_pos (List.mem_range.1 hj)]
/-- A power of two up to 4096. -/
def P2 (s : Int) : Prop := ∃ k : Nat, k ≤ 12 ∧ s = 2 ^ k
def R2 (s : Int) (v : Value) : Prop := ∃ (k : Nat) (x : Int), k ≤ 13 ∧ v = .int .i64 x ∧ x = 2 ^ k ∧ ∀ j, j < k → s ≠ 2 ^ j
set_option maxHeartbeats 1000000 in
theorem rright41 (s : Int) (w : World) : Calls Try.prog 65 #[.int .i64 s] w fun e w' => ((e = .returned (.bool true) ∧ P2 s) ∨ (e = .returned (.bool false) ∧ ¬ P2 s)) ∧ w = w' := by
  go_enter Try.func65, Try.ntmps65
  go_wp2_with fail
  go_loop [3] (fun v => R2 s v) (fun v => (8193 - intOf v).toNat)
  case atStart => exact ⟨0, 1, by omega, rfl, rfl, fun j hj => absurd hj (by omega)⟩
  case round =>
    obtain ⟨k, x, hk, rfl, hx, hj⟩ := hrel
    have HJ := Lib.hid hj; have HX := Lib.hid hx
    have hxb : 1 ≤ x ∧ x ≤ 8192 ∧ (k ≤ 12 → x ≤ 4096) ∧ (k = 13 → x = 8192) := by
      have hk' : k = 0 ∨ k = 1 ∨ k = 2 ∨ k = 3 ∨ k = 4 ∨ k = 5 ∨ k = 6 ∨ k = 7 ∨ k = 8 ∨ k = 9 ∨ k = 10 ∨ k = 11 ∨ k = 12 ∨ k = 13 := by omega
      rcases hk' with rfl | rfl | rfl | rfl | rfl | rfl | rfl | rfl | rfl | rfl | rfl | rfl | rfl | rfl <;> simp at hx <;> omega
    obtain ⟨x1, x2, x3, x4⟩ := hxb
    have HX4 := Lib.hid x4
    clear hj hx x4
    by_cases h12 : k ≤ 12
    · have x5 := x3 h12
      have HK := Lib.hid h12
      clear x3
      by_cases he : x = s
      · have HE := Lib.hid he
        have heb : (x == s) = true := by simp [he]
        clear he
        go_wp2_with fail
        go_ret
        exact ⟨.inl ⟨rfl, k, HK.out, by rw [← HE.out]; exact HX.out⟩, rfl⟩
      · have heb : (x == s) = false := by simp [he]
        go_wp2_with fail
        go_round
        case rel =>
          refine ⟨k + 1, x * 2, by have := HK.out; omega, by first | rfl | go_num, by rw [HX.out, Int.pow_succ], fun j hj => ?_⟩
          by_cases hjk : j < k
          · exact HJ.out j hjk
          · obtain rfl : j = k := by omega
            rw [← HX.out]; exact fun e => he e.symm
        case measure => simp [intOf]; omega
    · have h13 : k = 13 := by omega
      have x5 : ¬ x ≤ 4096 := by have := HX4.out h13; omega
      have HK := Lib.hid h13
      clear x3 h13
      go_wp2_with fail
      go_ret
      refine ⟨.inr ⟨rfl, ?_⟩, rfl⟩
      rintro ⟨j, hj, e⟩
      exact HJ.out j (by have := HK.out; omega) e
theorem pick_zero (s : Int) (w : World) : Calls Try.prog 66 #[.agg #[.slice none 0 0], .int .u32 s] w fun e w' => e = .returned (.int .i64 (-1)) ∧ Below w.heap.size w w' := by
  have hb : Below w.heap.size w (w.alloc (.cells #[.slice none 0 0] 111)) := (Below.refl _ _).alloc (Nat.le_refl _) _
  go_enter Try.func66, Try.ntmps66
  go_wp2_with fail
  go_ret
  exact ⟨rfl, hb⟩
def CntRel (W : World) (l : List Int) (x : Int) (v5 v11 : Value) (wr : World) : Prop := ∃ k : Nat, k ≤ l.length ∧ v11 = .int .i64 (k : Int) ∧ v5 = .int .i64 (cnt l x k : Int) ∧ Below W.heap.size W wr
set_option maxHeartbeats 1000000 in
theorem count_any (A : Option Addr) (c : Nat) (l : List Int) (x : Int) (w : World) (h : Ints w w.heap.size A l) (hm : l.length ≤ 100000) : Calls Try.prog 67 #[.agg #[.slice A l.length c], .int .i64 x] w fun e w' => e = .returned (.int .i64 (cnt l x l.length : Int)) ∧ Below w.heap.size w w' := by
  have hb0 : Below w.heap.size w (w.alloc (.cells #[.slice A l.length c] 111)) := (Below.refl _ _).alloc (Nat.le_refl _) _
  have HA := Lib.hid h; have HB0 := Lib.hid hb0
  clear h hb0
  go_enter Try.func67, Try.ntmps67
  go_wp2_with fail
  go_loopw [5, 11] (fun v5 v11 wr => CntRel w l x v5 v11 wr) (fun _ v _ => (l.length - intOf v).toNat)
  case atStart => exact ⟨0, Nat.zero_le _, rfl, rfl, HB0.out⟩
  case round =>
    obtain ⟨k, hk, rfl, rfl, hb⟩ := hrel
    have HB := Lib.hid hb
    have hc9 := cnt_le l x k
    clear hb HB0
    by_cases hlt : k < l.length
    · obtain ⟨b, off, rfl, hbl, hc⟩ := HA.out.cells (by omega)
      have d0 := (HB.out.cell (p := ⟨b, off + k, none⟩) hbl).trans (hc k hlt)
      have HLT := Lib.hid hlt
      have hltz : (k : Int) < (l.length : Int) := by omega
      have HS := Lib.hid (show cnt l x (k + 1) = cnt l x k + (if at0 l k = x then 1 else 0) from rfl)
      clear hc hlt
      generalize at0 l k = y at *
      by_cases he : y = x
      · have heb : (y == x) = true := by simp [he]
        have HE := Lib.hid he
        clear he
        go_wp2_with fail
        go_roundw
        case rel => exact ⟨k + 1, HLT.out, by go_num, by rw [HS.out, if_pos HE.out]; go_num, HB.out⟩
        case measure => have := HLT.out; simp [intOf]; omega
      · have heb : (y == x) = false := by simp [he]
        go_wp2_with fail
        go_roundw
        case rel => exact ⟨k + 1, HLT.out, by go_num, by rw [HS.out, if_neg he]; go_num, HB.out⟩
        case measure => have := HLT.out; simp [intOf]; omega
    · obtain rfl : k = l.length := by omega
      have hge : ¬ (l.length : Int) < (l.length : Int) := by omega
      go_wp2_with fail
      go_ret
      exact ⟨rfl, HB.out⟩
def PlRel (W : World) (to : List Int) (n : Nat) (v5 v6 : Value) (wr : World) : Prop := ∃ k A c, k ≤ n ∧ v5 = .slice A k c ∧ v6 = .int .i64 (k : Nat) ∧ OwnI wr W.heap.size (.slice A k c) (plc to k) ∧ Below W.heap.size W wr
set_option maxHeartbeats 2000000 in
theorem places_any (A : Option Addr) (c : Nat) (to : List Int) (n : Nat) (w : World) (h : Ints w w.heap.size A to) (h0 : 0 < to.length) (hm : to.length ≤ 1000) (hn : n ≤ 4096) : Calls Try.prog 68 #[.int .i64 (n : Int), .slice A to.length c] w fun e w' => ∃ A' c', e = .returned (.slice A' n c') ∧ OwnI w' w.heap.size (.slice A' n c') (plc to n) ∧ Below w.heap.size w w' := by
  have HA := Lib.hid h; have H0 := Lib.hid h0
  have hn0 : ((to.length : Int) == 0) = false := by rw [beq_eq_false_iff_ne]; omega
  clear h
  go_enter Try.func68, Try.ntmps68
  go_wp2_with fail
  go_loopw [5, 6] (fun v5 v6 wr => PlRel w to n v5 v6 wr) (fun _ v _ => (n - intOf v).toNat)
  case atStart => exact ⟨0, none, 0, Nat.zero_le _, rfl, rfl, OwnI.nil _ _, Below.refl _ _⟩
  case round =>
    obtain ⟨k, A5, c5, hk, rfl, rfl, ho, hb⟩ := hrel
    have HB := Lib.hid hb; have HO := Lib.hid ho
    have hbz : w.heap.size ≤ wr.heap.size := hb.size
    clear hb ho
    by_cases hlt : k < n
    · obtain ⟨b, off, rfl, hbl, hc⟩ := HA.out.cells H0.out
      have hmod : k % to.length < to.length := Nat.mod_lt _ h0
      have d0 := (HB.out.cell (p := ⟨b, off + k % to.length, none⟩) hbl).trans (hc (k % to.length) hmod)
      have HST := Lib.hid (plc_step to k)
      have m0 : (0 : Int) ≤ ((k % to.length : Nat) : Int) := by omega
      have m1 : ((k % to.length : Nat) : Int) < (to.length : Int) := by omega
      have hltz : (k : Int) < (n : Int) := by omega
      have HLT := Lib.hid hlt
      have hne : ¬ to.length = 0 := by omega
      have hrem : (k : Int).tmod (to.length : Int) = ((k % to.length : Nat) : Int) := by rw [Int.tmod_eq_emod_of_nonneg (by omega)]; rfl
      have hwr : IntKind.i64.wrap ((k % to.length : Nat) : Int) = ((k % to.length : Nat) : Int) := IntWalk.i64_in _ (by omega)
      clear hc hlt
      generalize at0 to (k % to.length) = y at *
      generalize k % to.length = q at *
      go_wp2_with (first
        | ((with_reducible show wpList _ _ _ (⟨some 21, _, _, _, _, _⟩ :: _) _ _)
           have hown2 := HO.out.below ((Below.refl wr.heap.size wr).alloc (Nat.le_refl _) (.cells #[.int .i64 y] 3))
           have hcell2 : ∀ j, j < ([y] : List Int).length → (wr.alloc (.cells #[.int .i64 y] 3)).cell? ⟨wr.heap.size, 0 + j, none⟩ = some (.int .i64 (at0 [y] j)) := fun j hj => by
             obtain rfl : j = 0 := by simpa using hj
             exact (Is.new wr 3 #[.int .i64 y]).cell 0
           have hbase2 : w.heap.size ≤ (wr.alloc (.cells #[.int .i64 y] 3)).heap.size := by simp; omega
           go_loud (refine app_il (.tmp 12) (.tmp 20) rfl rfl (n := k) (base := w.heap.size) (v := .slice A5 k c5) (xs := plc to k) (l := [y]) rfl hown2 (plc_len to k) rfl rfl hcell2 (by omega) hbase2 ?_ (by omega))
           clear hown2 hcell2 hbase2
           intro g6 c6 w6 ho6 hg6
           have hb6 : Below w.heap.size w w6 := (HB.out.alloc hbz _).grown hg6 (by simp; omega) (fun q hq => (World.ownsRow.lt HO.out q hq).1)
           have HO6 := Lib.hid ho6; have HB6 := Lib.hid hb6
           clear ho6 hg6 hb6))
      go_roundw
      case rel => exact ⟨k + 1, _, c6, HLT.out, rfl, by go_num, by rw [HST.out]; exact HO6.out, HB6.out⟩
      case measure => have := HLT.out; simp [intOf]; omega
    · obtain rfl : k = n := by omega
      have hge : ¬ (k : Int) < (k : Int) := by omega
      go_wp2_with fail
      go_ret
      exact ⟨A5, c5, rfl, HO.out, HB.out⟩
set_option maxHeartbeats 1000000 in
theorem clone_i (b off c : Nat) (l : List Int) (w : World) (h : Ints w w.heap.size (some ⟨b, off, none⟩) l) (h0 : 0 < l.length) (hm : l.length ≤ 100000) : Calls Try.prog 92 #[.slice (some ⟨b, off, none⟩) l.length c] w fun e w' => ∃ g c', e = .returned (.slice (some ⟨g, 0, none⟩) l.length c') ∧ OwnI w' w.heap.size (.slice (some ⟨g, 0, none⟩) l.length c') l ∧ Below w.heap.size w w' := by
  have HA := Lib.hid h
  have hnil := Lib.run_eql_slice_nil (P := Try.prog) w 64 3 (some ⟨b, off, none⟩) l.length c 0 0 Try.underlying64
  clear h
  go_enter Try.func92, Try.ntmps92
  go_wp2_with (first
    | ((with_reducible show wpList _ _ _ (⟨some 7, _, _, _, _, _⟩ :: _) _ _)
       have hown2 : OwnI (w.alloc (.cells #[] 3)) w.heap.size (.slice (some ⟨w.heap.size, 0, none⟩) 0 0) [] := ⟨rfl, .inr ⟨w.heap.size, 0, #[], rfl, Nat.le_refl _, heap_alloc_new w _, Nat.le_refl _, by unfold maxLen; omega, rfl, rfl⟩⟩
       have hbx : Below w.heap.size w (w.alloc (.cells #[] 3)) := (Below.refl _ _).alloc (Nat.le_refl _) _
       have hcell2 : ∀ j, j < l.length → (w.alloc (.cells #[] 3)).cell? ⟨b, off + j, none⟩ = some (.int .i64 (at0 l j)) := fun j hj => by
         obtain ⟨b', off', e, hbl, hc⟩ := HA.out.cells h0
         injection e with e; injection e with e1 e2; subst e1; subst e2
         exact (hbx.cell (p := ⟨b, off + j, none⟩) hbl).trans (hc j hj)
       go_loud (refine app_il (.tmp 5) (.tmp 6) rfl rfl (n := 0) (base := w.heap.size) (v := .slice (some ⟨w.heap.size, 0, none⟩) 0 0) (xs := []) (l := l) rfl hown2 rfl rfl rfl hcell2 (by omega) (by simp) ?_ h0)
       clear hcell2
       intro g6 c6 w6 ho6 hg6
       have hb6 : Below w.heap.size w w6 := hbx.grown hg6 (by simp) (fun q hq => (World.ownsRow.lt hown2 q hq).1)
       have HO6 := Lib.hid ho6; have HB6 := Lib.hid hb6
       clear ho6 hg6 hb6 hown2 hbx))
  go_ret
  exact ⟨g6, c6, by simp, by have h := HO6.out; simpa using h, HB6.out⟩
end Go.Proofs.Ytkebgkjopfdafaa
