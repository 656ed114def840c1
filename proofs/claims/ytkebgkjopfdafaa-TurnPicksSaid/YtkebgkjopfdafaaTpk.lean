/-
  More of package turn and its reference, and the law TurnPicks, walked. Helper of the claim TurnPicks. No condition.
-/
import Derived.Test.YtkebgkjopfdafaaTurn
import Derived.Test.YtkebgkjopfdafaaLin
import Derived.Lib.SmallJoins
namespace Go.Proofs.Ytkebgkjopfdafaa
open Go.ChangeShapes Go.WideShapes Go.ChangeAt Go.RowKit
set_option linter.unusedVariables false
set_option maxRecDepth 100000
def TRel (w : World) (l : List Cand) (p i : Value) (wr : World) : Prop := ∃ (k : Nat) (last : Int), k ≤ l.length ∧ i = .int .i64 (k : Int) ∧ p = .int .i64 last ∧ rightB l = rightFrom last (l.drop k) ∧ Below w.heap.size w wr
set_option maxHeartbeats 4000000 in
theorem tright_any (A : Option Addr) (c : Nat) (l : List Cand) (w : World) (h : Cands w w.heap.size A l) (hm : l.length ≤ 1000) :
    Calls Try.prog 20 #[.slice A l.length c] w fun e w' => e = .returned (.bool (rightB l)) ∧ Below w.heap.size w w' := by
  have HC := Lib.hid h
  clear h
  go_enter Try.func20, Try.ntmps20
  go_wp2_with fail
  go_loopw [3, 8] (fun p i wr => TRel w l p i wr) (fun _ i _ => l.length - (intOf i).toNat)
  case atStart => exact ⟨0, -1, Nat.zero_le _, rfl, rfl, rfl, Below.refl _ _⟩
  case round =>
    obtain ⟨k, last, hk, rfl, rfl, hr, hb⟩ := hrel
    have HR := Lib.hid hr; have HB := Lib.hid hb
    clear hr hb
    have k1000 : k ≤ 1000 := by omega
    by_cases hlt : k < l.length
    · obtain ⟨b, off, rfl, hbl, hc⟩ := HC.out (by omega)
      obtain ⟨c0, c1, c2, c3⟩ := cell4 hlt hc
      have d0 := (HB.out.cell (p := ⟨b, off + k * 4, none⟩) hbl).trans c0
      have d1 := (HB.out.cell (p := ⟨b, off + k * 4 + 1, none⟩) hbl).trans c1
      have d2 := (HB.out.cell (p := ⟨b, off + k * 4 + 2, none⟩) hbl).trans c2
      have d3 := (HB.out.cell (p := ⟨b, off + k * 4 + 3, none⟩) hbl).trans c3
      have HD := Lib.hid (drop_get hlt)
      have hltz : (k : Int) < (l.length : Int) := by omega
      have hb2 := HB.out.size
      have HLT := Lib.hid hlt
      clear c0 c1 c2 c3 hc hlt
      generalize nth l k = x at *
      obtain ⟨xs, xb, xw, xl⟩ := x
      by_cases h1 : xs ≤ last
      · simp only at d0 d1 d2 d3
        go_wp2_with fail
        go_ret
        exact ⟨ret_bool (by rw [HR.out, HD.out, right_no (by simp only; omega)]), HB.out.alloc hb2 _⟩
      · by_cases h2 : 4096 ≤ xs
        · simp only at d0 d1 d2 d3
          go_wp2_with fail
          go_ret
          exact ⟨ret_bool (by rw [HR.out, HD.out, right_no (by simp only; omega)]), HB.out.alloc hb2 _⟩
        · by_cases h3 : xw < 0
          · simp only at d0 d1 d2 d3
            go_wp2_with fail
            go_ret
            exact ⟨ret_bool (by rw [HR.out, HD.out, right_no (by simp only; omega)]), HB.out.alloc hb2 _⟩
          · by_cases h4 : 100 < xw
            · simp only at d0 d1 d2 d3
              go_wp2_with fail
              go_ret
              exact ⟨ret_bool (by rw [HR.out, HD.out, right_no (by simp only; omega)]), HB.out.alloc hb2 _⟩
            · simp only at d0 d1 d2 d3
              go_wp2_with fail
              go_roundw
              case rel => exact ⟨k + 1, xs, HLT.out, by go_num, rfl, by rw [HR.out, HD.out, right_go (by simp only; omega)], HB.out.alloc hb2 _⟩
              case measure => have := HLT.out; simp [intOf]; omega
    · obtain rfl : k = l.length := by omega
      have hge : ¬ (l.length : Int) < (l.length : Int) := by omega
      go_wp2_with fail
      go_ret
      exact ⟨ret_bool (by rw [HR.out, List.drop_length]; rfl), HB.out⟩
theorem tnext (bt : Nat) (next : Int) (w : World) (h : Is w bt 37 #[.int .i64 next]) : Calls Try.prog 23 #[.pointer (some ⟨bt, 0, none⟩)] w fun e w' => e = .returned (.int .i64 next) ∧ w = w' := by
  have t0 := h.cell 0
  simp at t0
  clear h
  go_enter Try.func23, Try.ntmps23
  go_wp2_with fail
  go_ret
  exact ⟨rfl, rfl⟩
theorem tnext_nil (w : World) : Calls Try.prog 23 #[.pointer none] w fun e w' => e = .returned (.int .i64 0) ∧ w = w' := by
  go_enter Try.func23, Try.ntmps23
  go_wp2_with fail
  go_ret
  exact ⟨rfl, rfl⟩
theorem pick_nil (A : Option Addr) (n c : Nat) (w : World) :
    Calls Try.prog 21 #[.pointer none, .slice A n c] w fun e w' => e = .returned (.tuple #[.agg #[.int .i64 0, .int .i64 0, .int .i64 0, .int .u32 0], .bool false]) ∧ Below w.heap.size w w' := by
  go_enter Try.func21, Try.ntmps21
  go_wp2_with fail
  exact bodyPost_ret (v := .tuple #[.agg #[.int .i64 0, .int .i64 0, .int .i64 0, .int .u32 0], .bool false]) (by simp [results, Try.results21, go_sem]) rfl ⟨rfl, (Below.refl _ _).alloc (Nat.le_refl _) _⟩
def RPRel (l : List Cand) (next : Int) (i : Value) : Prop := ∃ k : Nat, k ≤ l.length ∧ i = .int .i64 (k : Int) ∧ ∀ j, j < k → (nth l j).slot < next
set_option maxHeartbeats 1000000 in
theorem rpick_any (A : Option Addr) (c : Nat) (l : List Cand) (next : Int) (B : Nat) (w : World) (h : Cands w B A l) (hm : l.length ≤ 1000) (h0 : 0 < l.length) :
    Calls Try.prog 22 #[.slice A l.length c, .int .i64 next] w fun e w' => ∃ k : Nat, IsPick l next k ∧ e = .returned (.int .i64 (k : Int)) ∧ w = w' := by
  have HC := Lib.hid h
  clear h
  go_enter Try.func22, Try.ntmps22
  go_wp2_with fail
  go_loop [5] (fun i => RPRel l next i) (fun i => l.length - (intOf i).toNat)
  case atStart => exact ⟨0, Nat.zero_le _, rfl, fun j hj => absurd hj (by omega)⟩
  case round =>
    obtain ⟨k, hk, rfl, hj⟩ := hrel
    have HJ := Lib.hid hj
    clear hj
    have k1000 : k ≤ 1000 := by omega
    by_cases hlt : k < l.length
    · obtain ⟨b, off, rfl, hbl, hc⟩ := HC.out (by omega)
      obtain ⟨c0, c1, c2, c3⟩ := cell4 hlt hc
      have HLT := Lib.hid hlt
      have hltz : (k : Int) < (l.length : Int) := by omega
      clear hc c1 c2 c3
      by_cases hs : next ≤ (nth l k).slot
      · go_wp2_with fail
        go_ret
        exact ⟨k, ⟨HLT.out, .inl ⟨HJ.out, hs⟩⟩, rfl, rfl⟩
      · go_wp2_with fail
        go_round
        case rel =>
          refine ⟨k + 1, HLT.out, by go_num, fun j hj => ?_⟩
          by_cases hjk : j < k
          · exact HJ.out j hjk
          · obtain rfl : j = k := by omega
            omega
        case measure => have := HLT.out; simp [intOf]; omega
    · obtain rfl : k = l.length := by omega
      have hge : ¬ (l.length : Int) < (l.length : Int) := by omega
      have hgt : (0 : Int) < (l.length : Int) := by omega
      go_wp2_with fail
      go_ret
      exact ⟨0, ⟨h0, .inr ⟨rfl, HJ.out⟩⟩, rfl, rfl⟩
theorem rpick_none (A : Option Addr) (c : Nat) (next : Int) (w : World) :
    Calls Try.prog 22 #[.slice A 0 c, .int .i64 next] w fun e w' => e = .returned (.int .i64 (-1)) ∧ w = w' := by
  go_enter Try.func22, Try.ntmps22
  go_wp2_with fail
  go_loop [5] (fun i => i = .int .i64 0) (fun _ => 0)
  case atStart => rfl
  case round =>
    obtain rfl := hrel
    go_wp2_with fail
    go_ret
    exact ⟨rfl, rfl⟩
end Go.Proofs.Ytkebgkjopfdafaa
