/-
  The functions of the reference of layer 1 (numbers in bytes, by places): what each call returns. Helper of the claims.
-/
import Derived.Test.YtmgendgfdhhgfaaOct
import Derived.Test.YtmgendgfdhhgfaaLinB
namespace Go.Proofs.Ytmgendgfdhhgfaa
open Go.ChangeShapes Go.WideShapes Go.ChangeAt Go.RowKit
set_option linter.unusedSimpArgs false
set_option linter.unusedVariables false

def FillRel (w : World) (n k : Nat) (nv i : Value) (wr : World) : Prop :=
  ∃ j q : Nat, q + j = k ∧ i = .int .i64 ((q : Int) - 1) ∧ nv = .int .u64 ((n / 256 ^ j : Nat) : Int) ∧ OwnB wr w.heap.size (.slice (some ⟨w.heap.size, 0, none⟩) k k) (fillB n k j) ∧ Below w.heap.size w wr
theorem make_own8 (w : World) (k : Nat) (hk : k ≤ 100000000) : OwnB (w.alloc (.cells (Array.replicate k (.int .u8 0)) 5)) w.heap.size (.slice (some ⟨w.heap.size, 0, none⟩) k k) (List.replicate k 0) :=
  own_mk (zeros_new w k) (Nat.le_refl _) (by simp) (Nat.le_refl _) (by unfold maxLen; omega) (by simp [u8s]) (by simp [u8s])
set_option maxRecDepth 100000 in
set_option maxHeartbeats 1000000 in
theorem rbytes_mid (n : Nat) (k : Nat) (k8 : k ≤ 8) (w : World) (hn : n < 18446744073709551616) :
    Calls Try.prog 69 #[.int .u64 (n : Int), .int .i64 (k : Int)] w (Gives w (be n k)) := by
  have hmk := fun W => make_bytes W k k (k : Int) (k : Int) rfl rfl (by omega) (by omega)
  go_enter Try.func69, Try.ntmps69
  go_wp2_with fail
  go_loopw [0, 6] (fun v i wr => FillRel w n k v i wr) (fun _ i _ => (intOf i + 1).toNat)
  case atStart => exact ⟨0, k, rfl, rfl, by simp, by rw [fillB_zero]; exact make_own8 w k (by omega), (Below.refl _ w).alloc (Nat.le_refl _) _⟩
  case round =>
    obtain ⟨j, q, hq, rfl, rfl, ho, hb⟩ := hrel
    have HB1 := Lib.hid hb; have HQ := Lib.hid hq
    clear hb
    cases q with
    | zero =>
      obtain rfl : j = k := by omega
      have HO1 := Lib.hid ho
      clear hq ho
      go_wp2_with fail
      go_ret
      rw [fillB_all] at HO1
      exact ⟨some ⟨w.heap.size, 0, none⟩, _, ret_slice (be_len _ _).symm, by rw [be_len]; exact HO1.out, HB1.out⟩
    | succ p =>
      rw [show ((p + 1 : Nat) : Int) - 1 = (p : Int) by omega]
      have hp : p < k := by omega
      have hp0 : (0 : Int) ≤ (p : Int) := by omega
      have hp1 : (p : Int) < (k : Int) := by omega
      have d0 := ho.at (k := p) (by rw [fillB_len _ _ _ (by omega)]; exact hp)
      have f0 := ho.free p
      have m0 : n / 256 ^ j < 18446744073709551616 := Nat.lt_of_le_of_lt (Nat.div_le_self _ _) hn
      have hput := ho.put p ((n / 256 ^ j % 256 : Nat) : Int)
      rw [fill_step hq] at hput
      have HP := Lib.hid hput; have HD := Lib.hid (div_step n j)
      clear hq ho hput hn hmk
      generalize at0 (fillB n k j) p = y at *
      generalize n / 256 ^ j = m at *
      go_wp2_with fail
      go_roundw
      case rel => exact ⟨j + 1, p, by have := HQ.out; omega, rfl, by rw [← HD.out]; rfl, HP.out, HB1.out.setCell (Nat.le_refl _) _⟩
      case measure => simp [intOf]
set_option maxRecDepth 100000 in
set_option maxHeartbeats 1000000 in
theorem rbytes_neg (n : Nat) (s : Int) (s0 : s < 0) (w : World) (hn : n < 18446744073709551616) :
    Calls Try.prog 69 #[.int .u64 (n : Int), .int .i64 s] w (Gives w (be n 0)) := by
  have hmk := fun W => make_bytes W 0 0 0 0 rfl rfl (by omega) (by omega)
  go_enter Try.func69, Try.ntmps69
  go_wp2_with fail
  go_loopw [0, 6] (fun v i wr => FillRel w n 0 v i wr) (fun _ i _ => (intOf i + 1).toNat)
  case atStart => exact ⟨0, 0, rfl, rfl, by simp, by rw [fillB_zero]; exact make_own8 w 0 (by omega), (Below.refl _ w).alloc (Nat.le_refl _) _⟩
  case round =>
    obtain ⟨j, q, hq, rfl, rfl, ho, hb⟩ := hrel
    have HB1 := Lib.hid hb; have HQ := Lib.hid hq
    clear hb
    cases q with
    | zero =>
      obtain rfl : j = 0 := by omega
      have HO1 := Lib.hid ho
      clear hq ho
      go_wp2_with fail
      go_ret
      rw [fillB_all] at HO1
      exact ⟨some ⟨w.heap.size, 0, none⟩, _, ret_slice (be_len _ _).symm, by rw [be_len]; exact HO1.out, HB1.out⟩
    | succ p => omega
set_option maxRecDepth 100000 in
set_option maxHeartbeats 1000000 in
theorem rbytes_big (n : Nat) (s : Int) (s0 : 8 < s) (w : World) (hn : n < 18446744073709551616) :
    Calls Try.prog 69 #[.int .u64 (n : Int), .int .i64 s] w (Gives w (be n 8)) := by
  have hmk := fun W => make_bytes W 8 8 8 8 rfl rfl (by omega) (by omega)
  have c0 : ¬ s < 0 := by omega
  go_enter Try.func69, Try.ntmps69
  go_wp2_with fail
  go_loopw [0, 6] (fun v i wr => FillRel w n 8 v i wr) (fun _ i _ => (intOf i + 1).toNat)
  case atStart => exact ⟨0, 8, rfl, rfl, by simp, by rw [fillB_zero]; exact make_own8 w 8 (by omega), (Below.refl _ w).alloc (Nat.le_refl _) _⟩
  case round =>
    obtain ⟨j, q, hq, rfl, rfl, ho, hb⟩ := hrel
    have HB1 := Lib.hid hb; have HQ := Lib.hid hq
    clear hb
    cases q with
    | zero =>
      obtain rfl : j = 8 := by omega
      have HO1 := Lib.hid ho
      clear hq ho
      go_wp2_with fail
      go_ret
      rw [fillB_all] at HO1
      exact ⟨some ⟨w.heap.size, 0, none⟩, _, ret_slice (be_len _ _).symm, by rw [be_len]; exact HO1.out, HB1.out⟩
    | succ p =>
      rw [show ((p + 1 : Nat) : Int) - 1 = (p : Int) by omega]
      have hp : p < 8 := by omega
      have hp0 : (0 : Int) ≤ (p : Int) := by omega
      have hp1 : (p : Int) < 8 := by omega
      have d0 := ho.at (k := p) (by rw [fillB_len _ _ _ (by omega)]; exact hp)
      have f0 := ho.free p
      have m0 : n / 256 ^ j < 18446744073709551616 := Nat.lt_of_le_of_lt (Nat.div_le_self _ _) hn
      have hput := ho.put p ((n / 256 ^ j % 256 : Nat) : Int)
      rw [fill_step hq] at hput
      have HP := Lib.hid hput; have HD := Lib.hid (div_step n j)
      clear hq ho hput hn hmk
      generalize at0 (fillB n 8 j) p = y at *
      generalize n / 256 ^ j = m at *
      go_wp2_with fail
      go_roundw
      case rel => exact ⟨j + 1, p, by have := HQ.out; omega, rfl, by rw [← HD.out]; rfl, HP.out, HB1.out.setCell (Nat.le_refl _) _⟩
      case measure => simp [intOf]

theorem rbytes_any (n : Nat) (s : Int) (w : World) (hn : n < 18446744073709551616) :
    Calls Try.prog 69 #[.int .u64 (n : Int), .int .i64 s] w (Gives w (be n (sz8 s))) := by
  by_cases c0 : s < 0
  · rw [show sz8 s = 0 from by unfold sz8; rw [if_pos (by omega)]]
    exact rbytes_neg n s c0 w hn
  by_cases c2 : 8 < s
  · rw [show sz8 s = 8 from by unfold sz8; rw [if_neg (by omega), if_pos (by omega)]]
    exact rbytes_big n s c2 w hn
  · obtain ⟨k, rfl⟩ := Int.eq_ofNat_of_zero_le (show 0 ≤ s by omega)
    rw [show sz8 (k : Int) = k from by
      unfold sz8
      by_cases h0 : (k : Int) ≤ 0
      · rw [if_pos h0]; omega
      · rw [if_neg h0]; split <;> omega]
    exact rbytes_mid n k (by omega) w hn

def RNumRel (l : List Int) (v i : Value) : Prop := ∃ k : Nat, k ≤ l.length ∧ i = .int .i64 k ∧ v = .int .u64 (numW (l.take k))
set_option maxRecDepth 100000 in
set_option maxHeartbeats 1000000 in
theorem rnum_any (A : Option Addr) (c : Nat) (l : List Int) (w : World) (B : Nat) (h : Bytes w B A l) (ho : Octets l) (hm : l.length ≤ 90000000) :
    Calls Try.prog 101 #[.slice A l.length c] w fun e w' => e = .returned (.int .u64 (numW l)) ∧ w = w' := by
  have HA := Lib.hid h; have HO := Lib.hid ho
  clear h ho
  go_enter Try.func101, Try.ntmps101
  go_wp2_with fail
  go_loop [3, 4] (fun v i => RNumRel l v i) (fun _ i => (l.length - intOf i).toNat)
  case atStart => exact ⟨0, Nat.zero_le _, rfl, rfl⟩
  case round =>
    obtain ⟨k, hk, rfl, rfl⟩ := hrel
    obtain ⟨m0, m1⟩ := numW_bd (l.take k)
    by_cases hlt : k < l.length
    · obtain ⟨b1, o1, rfl, hb1, hc1⟩ := HA.out.cells (by omega)
      have d1 := hc1 k hlt
      have HS := Lib.hid (numW_take l k hlt)
      have k0 : (0 : Int) ≤ (k : Int) := by omega
      have k1 : (k : Int) < (l.length : Int) := by omega
      clear hc1
      have HX := Lib.hid (HO.out k)
      generalize numW (l.take k) = m at *
      generalize at0 l k = x at *
      go_wp2_with fail
      go_round
      case rel => exact ⟨k + 1, by omega, by go_num, by rw [HS.out, num_wrap HX.out]⟩
      case measure => simp [intOf]; omega
    · obtain rfl : k = l.length := by omega
      go_wp2_with fail
      go_ret
      exact ⟨rfl, rfl⟩
set_option maxRecDepth 100000 in
set_option maxHeartbeats 1000000 in
theorem get_ok (A : Option Addr) (c : Nat) (l : List Int) (i n : Nat) (w : World) (B : Nat) (h : Bytes w B A l) (ho : Octets l) (hm : l.length ≤ 90000000) (hc : l.length ≤ c) (hcm : c ≤ maxLen) (hi : i + n ≤ l.length) :
    Calls Try.prog 63 #[.slice A l.length c, .int .i64 (i : Int), .int .i64 (n : Int)] w fun e w' => e = .returned (.int .u64 (numW ((l.drop i).take n))) ∧ w = w' := by
  have HA := Lib.hid h; have HO := Lib.hid ho
  unfold maxLen at hcm
  have i0 : ¬ ((i : Int) < 0) := by omega
  have n0 : ¬ ((n : Int) < 0) := by omega
  have in0 : ¬ ((l.length : Int) < (i : Int) + (n : Int)) := by omega
  clear h ho
  go_enter Try.func63, Try.ntmps63
  go_wp2_with fail
  · obtain rfl : n = 0 := by omega
    refine (rnum_any A 0 [] w 0 (Bytes.nil _ _ _) Octets.nil (by simp)).mono ?_
    rintro e w' ⟨rfl, rfl⟩
    go_wp2_with fail
    go_ret
    exact ⟨ret_int (by simp), rfl⟩
  · have hd := bytes_drop HA.out i c hc
    rw [if_neg ‹¬ c = i›] at hd
    have ht : ((l.drop i).take n).length = n := by rw [List.length_take, List.length_drop]; omega
    have hcl := rnum_any _ (c - i) _ w B (bytes_take hd n) ((HO.out.drop i).take n) (by omega)
    rw [ht] at hcl
    have HC := Lib.hid hcl
    clear hcl ht hd
    refine HC.out.mono ?_
    rintro e w' ⟨rfl, rfl⟩
    go_wp2_with fail
    go_ret
    exact ⟨rfl, rfl⟩
set_option maxRecDepth 100000 in
set_option maxHeartbeats 1000000 in
theorem get_bad (A : Option Addr) (c : Nat) (l : List Int) (i n : Nat) (w : World) (hm : l.length ≤ 90000000) (i9 : i ≤ 90000000) (n9 : n ≤ 90000000) (hi : l.length < i + n) :
    Calls Try.prog 63 #[.slice A l.length c, .int .i64 (i : Int), .int .i64 (n : Int)] w fun e w' => e = .returned (.int .u64 0) ∧ w = w' := by
  have i0 : ¬ ((i : Int) < 0) := by omega
  have n0 : ¬ ((n : Int) < 0) := by omega
  have in0 : (l.length : Int) < (i : Int) + (n : Int) := by omega
  go_enter Try.func63, Try.ntmps63
  go_wp2_with fail
  go_ret
  exact ⟨rfl, rfl⟩

def SetRel (w : World) (A' : Option Addr) (c' : Nat) (l x : List Int) (at_ : Nat) (i : Value) (wr : World) : Prop :=
  ∃ k : Nat, k ≤ x.length ∧ i = .int .i64 k ∧ OwnB wr w.heap.size (.slice A' l.length c') (setB l at_ (x.take k)) ∧ Below w.heap.size w wr
set_option maxRecDepth 100000 in
set_option maxHeartbeats 1000000 in
theorem rset_any (A X : Option Addr) (c d : Nat) (l x : List Int) (i : Nat) (w : World) (h : Bytes w w.heap.size A l) (hx : Bytes w w.heap.size X x) (hm : l.length ≤ 90000000) (hi : i + x.length ≤ l.length) :
    Calls Try.prog 71 #[.slice A l.length c, .int .i64 (i : Int), .slice X x.length d] w (Gives w (setB l i x)) := by
  have HA := Lib.hid h; have HX := Lib.hid hx
  clear h hx
  go_enter Try.func71, Try.ntmps71
  go_wp2_with (at_builtin; refine app_bytes _ _ _ rfl rfl Try.underlying22 info8 (v := .slice (some ⟨w.heap.size, 0, none⟩) 0 0) (base := w.heap.size) (xs := []) rfl (own_empty w) rfl rfl (HA.out.alloc (Nat.le_refl _) _) (by simp; omega) (by simp) ?_; intro A' c' w1 ho hg _)
  rw [List.nil_append, List.length_nil, Nat.zero_add] at ho
  have HO := Lib.hid ho
  have HB := Lib.hid (grown_own ((Below.refl _ w).alloc (Nat.le_refl _) _) hg (own_empty w))
  clear ho hg
  go_loopw [8] (fun i_ wr => SetRel w A' c' l x i i_ wr) (fun i_ _ => (x.length - intOf i_).toNat)
  case atStart => exact ⟨0, Nat.zero_le _, rfl, by rw [List.take_zero, setB_nil]; exact HO.out, HB.out⟩
  case round =>
    obtain ⟨k, hk, rfl, ho, hb⟩ := hrel
    by_cases hlt : k < x.length
    · have e1 : (x.take k).length = k := by rw [List.length_take]; omega
      have e0 := setB_len l i (x.take k) (by omega)
      obtain ⟨g, rfl, hg1, hg2⟩ := ho.blocks (by omega)
      obtain ⟨b, o, rfl, hbl, hcx⟩ := HX.out.cells (by omega)
      have d1 := (hb.cell (p := ⟨b, o + k, none⟩) hbl).trans (hcx k hlt)
      have d0 := ho.at (k := i + k) (by omega)
      have f0 := ho.free (i + k)
      have hput := ho.put (i + k) (at0 x k)
      rw [setB_step l i k x hi hlt] at hput
      have HP := Lib.hid hput; have HB1 := Lib.hid hb
      have k0 : (0 : Int) ≤ (i : Int) + (k : Int) := by omega
      have k1 : (i : Int) + (k : Int) < (l.length : Int) := by omega
      have kx0 : (0 : Int) ≤ (k : Int) := by omega
      have kx1 : (k : Int) < (x.length : Int) := by omega
      have e2 : ((i : Int) + (k : Int)).toNat = i + k := by omega
      clear e1 e0 ho hb hcx hput HO HB
      generalize at0 (setB l i (x.take k)) (i + k) = y at *
      generalize at0 x k = z at *
      go_wp2_with fail
      go_roundw
      case rel => exact ⟨k + 1, by omega, by go_num, HP.out, HB1.out.setCell hg1 _⟩
      case measure => simp [intOf]; omega
    · obtain rfl : k = x.length := by omega
      have e0 := setB_len l i x hi
      rw [List.take_length] at ho
      have HO1 := Lib.hid ho; have HB1 := Lib.hid hb; have HE := Lib.hid e0
      clear ho hb e0 HO HB
      go_wp2_with fail
      go_ret
      exact ⟨A', c', ret_slice HE.out.symm, by rw [HE.out]; exact HO1.out, HB1.out⟩

/-- A slice of slices of bytes at A. -/
def Parts (w : World) (B : Nat) (A : Option Addr) (ps : List (Value × List Int)) : Prop :=
  (0 < ps.length → ∃ b off, A = some ⟨b, off, none⟩ ∧ b < B ∧ ∀ (i : Nat) (p : Value × List Int), ps[i]? = some p → w.cell? ⟨b, off + i, none⟩ = some p.1) ∧
  ∀ p ∈ ps, ∃ A c, p.1 = .slice A p.2.length c ∧ Bytes w B A p.2
def flatP (ps : List (Value × List Int)) : List Int := ps.flatMap (·.2)
theorem flatP_take {ps : List (Value × List Int)} {k : Nat} {p : Value × List Int} (h : ps[k]? = some p) : flatP (ps.take (k + 1)) = flatP (ps.take k) ++ p.2 := by
  unfold flatP
  have hk : k < ps.length := by
    apply Decidable.byContradiction; intro hn
    rw [List.getElem?_eq_none (by omega)] at h; cases h
  rw [List.getElem?_eq_getElem hk] at h; injection h with h
  rw [List.take_succ_eq_append_getElem hk, List.flatMap_append, h]; simp
theorem flatP_le (ps : List (Value × List Int)) (k : Nat) : (flatP (ps.take k)).length ≤ (flatP ps).length := by
  unfold flatP
  have : ps.flatMap (·.2) = (ps.take k).flatMap (·.2) ++ (ps.drop k).flatMap (·.2) := by rw [← List.flatMap_append, List.take_append_drop]
  rw [this, List.length_append]; omega
def JoinRel (w : World) (ps : List (Value × List Int)) (v i : Value) (wr : World) : Prop :=
  ∃ k : Nat, k ≤ ps.length ∧ i = .int .i64 k ∧ OwnB wr w.heap.size v (flatP (ps.take k)) ∧ Below w.heap.size w wr
set_option maxRecDepth 100000 in
set_option maxHeartbeats 1000000 in
theorem join_any (A : Option Addr) (c : Nat) (ps : List (Value × List Int)) (w : World) (h : Parts w w.heap.size A ps) (hm : (flatP ps).length ≤ 90000000) (hl : ps.length ≤ 1000000) :
    Calls Try.prog 68 #[.slice A ps.length c] w (Gives w (flatP ps)) := by
  have HA := Lib.hid h
  clear h
  go_enter Try.func68, Try.ntmps68
  go_wp2_with fail
  go_loopw [3, 4] (fun v i wr => JoinRel w ps v i wr) (fun _ i _ => (ps.length - intOf i).toNat)
  case atStart => exact ⟨0, Nat.zero_le _, rfl, OwnB.nil _ _, Below.refl _ _⟩
  case round =>
    obtain ⟨k, hk, rfl, ho, hb⟩ := hrel
    obtain ⟨A1, c1, rfl⟩ := ho.shape
    by_cases hlt : k < ps.length
    · obtain ⟨b, o, rfl, hbl, hc⟩ := HA.out.1 (by omega)
      have hp := List.getElem?_eq_getElem hlt
      obtain ⟨A2, c2, e2, hb2⟩ := HA.out.2 _ (List.getElem_mem hlt)
      have d1 := (hb.cell (p := ⟨b, o + k, none⟩) hbl).trans (hc k _ hp)
      have hft := flatP_take hp
      have hle := flatP_le ps (k + 1)
      rw [e2] at d1
      generalize ps[k] = p at *
      have HF := Lib.hid hft; have HB1 := Lib.hid hb; have HO := Lib.hid ho; have HP := Lib.hid (hb2.below hb)
      have hz := hb.size
      have hln : (flatP (ps.take k)).length + p.2.length ≤ 90000000 := by rw [hft, List.length_append] at hle; omega
      have k0 : (0 : Int) ≤ (k : Int) := by omega
      have k1 : (k : Int) < (ps.length : Int) := by omega
      clear hft hle hb ho hc hp e2 hb2
      go_wp2_with (at_builtin; refine app_bytes _ _ _ rfl rfl Try.underlying22 info8 (v := .slice A1 (flatP (ps.take k)).length c1) (base := w.heap.size) (xs := flatP (ps.take k)) rfl HO.out rfl rfl HP.out (by omega) (by omega) ?_; intro A3 c3 w1 ho1 hg1 _)
      rw [← HF.out] at ho1
      have HO1 := Lib.hid ho1
      have HB2 := Lib.hid (grown_own HB1.out hg1 HO.out)
      clear ho1 hg1
      go_wp2_with fail
      go_roundw
      case rel => exact ⟨k + 1, by omega, by go_num, HO1.out, HB2.out⟩
      case measure => simp [intOf]; omega
    · obtain rfl : k = ps.length := by omega
      rw [List.take_length] at ho
      have HO1 := Lib.hid ho; have HB1 := Lib.hid hb
      clear ho hb
      go_wp2_with fail
      go_ret
      exact ⟨A1, c1, ret_slice (by simp), HO1.out, HB1.out⟩

/-- v is a slice of slices of bytes that read as ls. -/
def IsP (ls : List (List Int)) (v : Value) (w : World) : Prop := ∃ A c ps, v = .slice A ls.length c ∧ ps.map (·.2) = ls ∧ Parts w w.heap.size A ps
theorem Parts.below {w w' : World} {B B' : Nat} {A : Option Addr} {ps : List (Value × List Int)} (h : Parts w B A ps) (hb : Below B w w') (hB : B ≤ B') : Parts w' B' A ps :=
  ⟨fun h0 => by
    obtain ⟨b, off, e, hl, hc⟩ := h.1 h0
    exact ⟨b, off, e, by omega, fun i p hp => (hb.cell (p := ⟨b, off + i, none⟩) hl).trans (hc i p hp)⟩,
   fun p hp => by
    obtain ⟨A', c', e, hb'⟩ := h.2 p hp
    exact ⟨A', c', e, (hb'.below hb).more hB⟩⟩
theorem IsP.st {ls : List (List Int)} {v : Value} {w w' : World} (h : IsP ls v w) (hb : Below w.heap.size w w') : IsP ls v w' := by
  obtain ⟨A, c, ps, e, h1, h2⟩ := h
  exact ⟨A, c, ps, e, h1, h2.below hb hb.size⟩
def Lin.Spec.parts (ls : List (List Int)) : Lin.Spec Lin.Keeps := ⟨IsP ls, IsP.st⟩
/-- A literal of slices that were there. -/
theorem IsP.lit (w : World) (ps : List (Value × List Int)) (t : TypeId) (h : ∀ p ∈ ps, ∃ n, IsB p.2 n p.1 w) : IsP (ps.map (·.2)) (.slice (some ⟨w.heap.size, 0, none⟩) ps.length ps.length) (w.alloc (.cells (ps.map (·.1)).toArray t)) := by
  refine ⟨some ⟨w.heap.size, 0, none⟩, ps.length, ps, by rw [List.length_map], rfl, fun h0 => ⟨w.heap.size, 0, rfl, by simp, fun i p hp => ?_⟩, fun p hp => ?_⟩
  · rw [Nat.zero_add, (Is.new w t (ps.map (·.1)).toArray).cell i]
    simp [hp]
  · obtain ⟨n, A, c, e, h1, h2, _⟩ := h p hp
    subst h1
    exact ⟨A, c, e, (h2.alloc (Nat.le_refl _) _).more (by simp)⟩
/-- Join of such. -/
theorem join_p {ls : List (List Int)} {v : Value} {w : World} {L : List Int} (h : IsP ls v w) (hL : ls.flatten = L) (hm : L.length ≤ 90000000) (hl : ls.length ≤ 1000000) :
    Calls Try.prog 68 #[v] w fun e w'' => ∃ v, e = .returned v ∧ Below w.heap.size w w'' ∧ IsB L L.length v w'' := by
  obtain ⟨A, c, ps, rfl, h1, h2⟩ := h
  have e : flatP ps = L := by rw [← hL, ← h1]; unfold flatP; rw [List.flatMap_def]
  have e2 : ls.length = ps.length := by rw [← h1, List.length_map]
  rw [e2]
  have := join_any A c ps w h2 (by rw [e]; exact hm) (by omega)
  rw [e] at this
  refine this.mono ?_
  rintro e w' ⟨A', c', rfl, ho, hb⟩
  exact ⟨_, rfl, hb, IsB.own ho⟩
theorem rnum_p {l : List Int} {n : Nat} {v : Value} {w : World} (h : IsB l n v w) (ho : Octets l) (hm : l.length ≤ 90000000) : Calls Try.prog 101 #[v] w fun e w' => e = .returned (.int .u64 (numW l)) ∧ w = w' := by
  obtain ⟨A, c, rfl, rfl, h2, _⟩ := h
  exact rnum_any A c l w _ h2 ho hm
theorem rbytes_p (n : Nat) (s : Int) (w : World) (hn : n < 18446744073709551616) : Calls Try.prog 69 #[.int .u64 (n : Int), .int .i64 s] w fun e w'' => ∃ v, e = .returned v ∧ Below w.heap.size w w'' ∧ IsB (be n (sz8 s)) (be n (sz8 s)).length v w'' :=
  (rbytes_any n s w hn).mono fun e w' ⟨A, c, h, ho, hb⟩ => ⟨_, h, hb, IsB.own ho⟩
theorem put_p {l : List Int} {v : Value} {k : Nat} (n : Nat) (s : Int) {w : World} (h : IsB l k v w) (hm : l.length ≤ 80000000) (hn : n < 18446744073709551616) (s0 : -9223372036854775808 ≤ s) (s1 : s ≤ 9223372036854775807) :
    Calls Try.prog 91 #[v, .int .u64 (n : Int), .int .i64 s] w fun e w'' => ∃ v, e = .returned v ∧ Below w.heap.size w w'' ∧ IsB (l ++ be n (sz8 s)) (l ++ be n (sz8 s)).length v w'' := by
  obtain ⟨A, c, rfl, rfl, h2, _⟩ := h
  exact (put_any A c l n s w _ h2 (Nat.le_refl _) hm hn s0 s1).mono fun e w' ⟨A, c, h, ho, hb⟩ => ⟨_, h, hb, IsB.own ho⟩
end Go.Proofs.Ytmgendgfdhhgfaa
