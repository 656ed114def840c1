/-
  The example of layer 10 and Fold: what each call returns. Helper of the claims on layers 10 and 11.
-/
import Derived.Test.YtkdcaipadejchaaSip5
namespace Go.Proofs.Ytkdcaipadejchaa
open Go.ChangeShapes Go.WideShapes Go.ChangeAt Go.RowKit
set_option linter.unusedSimpArgs false
set_option linter.unusedVariables false
def kst (i : Nat) : List Int := (List.range 16).map fun j => if j < i then (j : Int) else 0
theorem kst_len (i : Nat) : (kst i).length = 16 := by simp [kst]
theorem kst_step {i : Nat} (h : i < 16) : (kst i).set i (i : Int) = kst (i + 1) := by
  apply List.ext_getElem?
  intro j
  rw [List.getElem?_set]
  by_cases hij : i = j
  · subst hij; rw [if_pos rfl, if_pos (by rw [kst_len]; exact h)]; simp [kst, h]
  · rw [if_neg hij]
    by_cases hj : j < 16
    · simp only [kst, List.getElem?_map, List.getElem?_range hj, Option.map_some]
      congr 1
      by_cases h1 : j < i
      · rw [if_pos h1, if_pos (by omega)]
      · rw [if_neg h1, if_neg (by omega)]
    · rw [List.getElem?_eq_none (by rw [kst_len]; omega), List.getElem?_eq_none (by rw [kst_len]; omega)]
theorem is_raw {w : World} {g : Nat} {t : TypeId} {cs : Array Value} (h : Is w g t cs) : w.heap[g]? = some (.cells cs t (0, 0)) := by unfold Is at h; exact h
theorem kst_put {w : World} {g : Nat} {t : TypeId} {i : Nat} (h : Is w g t (u8s (kst i)).toArray) (hi : i < 16) : Is (w.setCell ⟨g, i, none⟩ (.int .u8 (i : Int))) g t (u8s (kst (i + 1))).toArray := by
  have := h.put i (.int .u8 (i : Int))
  rw [← kst_step hi, ← u8s_set]
  rw [List.setIfInBounds_toArray] at this
  exact this
def bst (i : Nat) : List Int := (List.range i).map fun (j : Nat) => (j : Int)
theorem bst_len (i : Nat) : (bst i).length = i := by simp [bst]
theorem bst_step (i : Nat) : bst i ++ [(i : Int)] = bst (i + 1) := by simp [bst, List.range_succ]
def WakeRel (w : World) (v i : Value) (wr : World) : Prop :=
  ∃ k : Nat, k ≤ 16 ∧ i = .int .i64 k ∧ Is wr w.heap.size 78 (u8s (kst k)).toArray ∧ OwnB wr (w.heap.size + 1) v (bst (min k 15)) ∧ Below w.heap.size w wr
set_option maxRecDepth 100000 in
set_option maxHeartbeats 4000000 in
theorem awake10 (w : World) : Calls Try.prog 43 #[] w fun e w' => e = .returned (.bool true) ∧ Below w.heap.size w w' := by
  go_enter Try.func43, Try.ntmps43
  go_wp2_with fail
  go_loopw [2, 3] (fun v i wr => WakeRel w v i wr) (fun _ i _ => (16 - intOf i).toNat)
  case atStart => exact ⟨0, by omega, rfl, Is.new w _ _, OwnB.nil _ _, (Below.refl _ _).alloc (Nat.le_refl _) _⟩
  case round =>
    obtain ⟨k, hk, rfl, hi, ho, hb⟩ := hrel
    obtain ⟨A, c, rfl⟩ := ho.shape
    rw [bst_len] at ho ⊢
    have hz := hi.lt
    by_cases hlt : k < 16
    · have e0 : wr.cell? ⟨w.heap.size, k, none⟩ = some (.int .u8 (at0 (kst k) k)) := by rw [hi.cell k]; simpa using u8s_get (l := kst k) (k := k) (by rw [kst_len]; exact hlt)
      have f0 := hi.free k
      have k0 : (0 : Int) ≤ (k : Int) := by omega
      have k1 : (k : Int) < 16 := by omega
      have hwk : IntKind.u8.wrap (k : Int) = (k : Int) := by rw [IntKind.wrap_u8]; omega
      have hput := kst_put hi hlt
      have hop : OwnB (wr.setCell ⟨w.heap.size, k, none⟩ (.int .u8 (k : Int))) (w.heap.size + 1) (.slice A (min k 15) c) (bst (min k 15)) := own_set ho (own_far ho (show w.heap.size < w.heap.size + 1 by omega)) _
      have hbp := hb.setCell (p := ⟨w.heap.size, k, none⟩) (Nat.le_refl _) (.int .u8 (k : Int))
      have HP := Lib.hid hput; have HOP := Lib.hid hop; have HBP := Lib.hid hbp
      clear hi ho hb hput hop hbp
      generalize at0 (kst k) k = y at *
      by_cases h15 : k < 15
      · have hmn : min k 15 = k := by omega
        have k15 : (k : Int) < 15 := by omega
        rw [hmn] at HOP ⊢
        have HST := Lib.hid (bst_step k)
        have hzz : w.heap.size + 1 ≤ (wr.setCell ⟨w.heap.size, k, none⟩ (.int .u8 (k : Int))).heap.size := Nat.succ_le_of_lt (by simpa using hz)
        have hone : Bytes ((wr.setCell ⟨w.heap.size, k, none⟩ (.int .u8 (k : Int))).alloc (.cells #[.int .u8 (k : Int)] 5)) (wr.heap.size + 1) (some ⟨wr.heap.size, 0, none⟩) [(k : Int)] := by
          have := Bytes.one (wr.setCell ⟨w.heap.size, k, none⟩ (.int .u8 (k : Int))) (k : Int)
          simpa using this
        have HONE := Lib.hid hone
        clear hmn hone
        go_wp2_with (at_builtin; go_loud (refine app_bytes (.tmp 14) (.tmp 17) _ rfl rfl Try.underlying22 info8 (v := .slice A k c) (base := w.heap.size + 1) (xs := bst k) (l := [(k : Int)]) rfl (HOP.out.alloc _) rfl rfl HONE.out (by rw [bst_len]; show k + 1 ≤ _; omega) (Nat.le_trans hzz (by simp)) ?_); rw [bst_len]; intro A2 c2 w2 ho2 hg2 _)
        rw [HST.out] at ho2
        have hi2 := (HP.out.alloc (.cells #[.int .u8 (k : Int)] 5)).only hg2 (fun e => by have := (World.ownsRow.lt (HOP.out.alloc (.cells #[.int .u8 (k : Int)] 5)) _ e.symm).1; omega)
        have hb2 := (HBP.out.alloc HBP.out.size (.cells #[.int .u8 (k : Int)] 5)).grown hg2 (by have := HBP.out.size; simp at this ⊢; omega) (fun q hq => by have := (World.ownsRow.lt (HOP.out.alloc (.cells #[.int .u8 (k : Int)] 5)) _ hq).1; omega)
        have HI2 := Lib.hid hi2; have HO2 := Lib.hid ho2; have HB2 := Lib.hid hb2
        clear hi2 ho2 hb2 hg2
        go_wp2_with fail
        go_roundw
        case rel => exact ⟨k + 1, by omega, by go_num, HI2.out, by rw [show min (k + 1) 15 = k + 1 by omega]; exact HO2.out, HB2.out⟩
        case measure => simp [intOf]; omega
      · obtain rfl : k = 15 := by omega
        go_wp2_with fail
        go_roundw
        case rel => exact ⟨16, by omega, rfl, HP.out, HOP.out, HBP.out⟩
        case measure => simp [intOf]
    · obtain rfl : k = 16 := by omega
      have ho2 : OwnB wr (w.heap.size + 1) (.slice A 15 c) (bst 15) := ho
      have hcp := ho2.cap
      have hs := sum_any (kst 16) (bst 15) (u8s (kst 16)).toArray A 15 c wr rfl (kst_len 16) (Octets.ofAll (by decide)) ho2.bytes (bst_len 15) (by have := hcp.1; rw [bst_len] at this; exact this) (Octets.ofAll (by decide)) (by omega) hcp.2.1
      rw [show sip (kst 16) (bst 15) = 11613035633349379557 from sip_example] at hs
      have HS := hide hs; have HI := Lib.hid hi; have HB := Lib.hid hb
      have hsz : (u8s (kst 16)).toArray.size = 16 := by simp [u8s, kst_len]
      clear hs ho ho2 hcp hi hb
      generalize (u8s (kst 16)).toArray = cs at *
      have HSZ := Lib.hid hsz
      clear hsz
      rw [show min 16 15 = 15 from rfl]
      go_wp2_with (with_reducible show wpList _ _ _ (⟨some 19, _, _, _, _, _⟩ :: _) _ _; go_loud (refine Go.wpList_load_row rfl 78 (.tmp 1) rfl w.heap.size rfl 78 cs (0, 0) _ (is_raw HI.out) Try.underlying78 rfl (by rw [HSZ.out]; kernel_rfl) ?_))
      refine (unhide HS).mono ?_
      rintro e w2 ⟨rfl, hb2⟩
      have HB2 := Lib.hid (HB.out.trans (hb2.mono HB.out.size))
      clear hb2
      go_wp2_with fail
      go_ret
      exact ⟨rfl, HB2.out⟩
def foldN (n : Nat) (s : Int) : Nat := if 1 ≤ s ∧ s ≤ 63 then n % 2 ^ s.toNat else n
set_option maxRecDepth 100000 in
set_option maxHeartbeats 4000000 in
theorem fold_mid (n k : Nat) (w : World) (k0 : 1 ≤ k) (k1 : k ≤ 63) (hn : n < 18446744073709551616) : Calls Try.prog 50 #[.int .u64 (n : Int), .int .i64 (k : Int)] w fun e w' => e = .returned (.int .u64 ((n % 2 ^ k : Nat) : Int)) ∧ w = w' := by
  have hp : 2 ^ k < 18446744073709551616 := Nat.lt_of_le_of_lt (Nat.pow_le_pow_right (by omega) k1) (by decide)
  have h1 : 1 ≤ 2 ^ k := Nat.one_le_two_pow
  have hw1 : IntKind.u64.wrap ((2 : Int) ^ k) = ((2 ^ k : Nat) : Int) := by rw [IntKind.wrap_u64]; rw [show ((2 : Int) ^ k) = ((2 ^ k : Nat) : Int) by simp]; omega
  have hw2 : IntKind.u64.wrap (((2 ^ k : Nat) : Int) - 1) = ((2 ^ k - 1 : Nat) : Int) := by rw [IntKind.wrap_u64]; omega
  have ha : bits .and .u64 (n : Int) ((2 ^ k - 1 : Nat) : Int) = ((n % 2 ^ k : Nat) : Int) := by rw [u64_and_nat _ _ hn (by omega), Nat.and_two_pow_sub_one_eq_mod]
  generalize n % 2 ^ k = r at *
  generalize 2 ^ k - 1 = q at *
  generalize 2 ^ k = p at *
  go_enter Try.func50, Try.ntmps50
  go_wp2_with fail
  go_ret
  exact ⟨rfl, rfl⟩
set_option maxRecDepth 100000 in
set_option maxHeartbeats 4000000 in
theorem fold_out (n : Nat) (s : Int) (w : World) (h : s < 1 ∨ (1 ≤ s ∧ 63 < s)) : Calls Try.prog 50 #[.int .u64 (n : Int), .int .i64 s] w fun e w' => e = .returned (.int .u64 (n : Int)) ∧ w = w' := by
  rcases h with h | ⟨h1, h⟩
  all_goals
    go_enter Try.func50, Try.ntmps50
    go_wp2_with fail
    go_ret
    exact ⟨rfl, rfl⟩
end Go.Proofs.Ytkdcaipadejchaa
