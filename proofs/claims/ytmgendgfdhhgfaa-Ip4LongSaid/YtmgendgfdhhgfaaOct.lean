/-
  The functions of package octet and of its reference: what each call returns. Helper of the claims that read and write numbers in bytes.
-/
import Derived.Test.YtmgendgfdhhgfaaOctM
import Derived.BigQuiet
import Derived.Deep.QuietTactic
import Derived.Outline
import Derived.WalkSpells
import Derived.StillTailTactics
import Derived.Deep.RegionWith
namespace Go.Proofs.Ytmgendgfdhhgfaa
open Go.ChangeShapes Go.WideShapes Go.ChangeAt Go.RowKit
set_option linter.unusedSimpArgs false
set_option linter.unusedVariables false

theorem info8 : (Try.prog.info? 5).map (fun i => (i.zero, i.size, i.bytes)) = some (some (.int .u8 0), 1, 1) := by kernel_rfl
theorem own_empty (w : World) : OwnB (w.alloc (.cells #[] 5)) w.heap.size (.slice (some ⟨w.heap.size, 0, none⟩) 0 0) [] := World.ownsRow_lit w #[] 0 (Nat.le_refl _) (by unfold maxLen; omega) rfl
/-- A new slice of bytes is given back; nothing that there was is touched. -/
def Gives (w : World) (l : List Int) (e : Ending) (w' : World) : Prop := ∃ A c, e = .returned (.slice A l.length c) ∧ OwnB w' w.heap.size (.slice A l.length c) l ∧ Below w.heap.size w w'

set_option maxRecDepth 100000 in
set_option maxHeartbeats 1000000 in
theorem clone_any (A : Option Addr) (c : Nat) (l : List Int) (w : World) (B : Nat) (h : Bytes w B A l) (hB : B ≤ w.heap.size) (hm : l.length ≤ 90000000) (hA : A = none → c = 0) :
    Calls Try.prog 62 #[.slice A l.length c] w (Gives w l) := by
  cases A with
  | none =>
    obtain rfl : l = [] := by
      apply List.eq_nil_of_length_eq_zero
      apply Decidable.byContradiction; intro hne
      obtain ⟨b, off, e, _, _⟩ := h.cells (by omega)
      cases e
    obtain rfl := hA rfl
    have hnil := Lib.run_eql_slice_nil (P := Try.prog) w 22 5 none 0 0 0 0 Try.underlying22
    clear h
    go_enter Try.func62, Try.ntmps62
    go_wp2_with fail
    go_ret
    exact ⟨none, 0, rfl, OwnB.nil _ _, Below.refl _ _⟩
  | some ad =>
    have HA := Lib.hid h
    have hnil := Lib.run_eql_slice_nil (P := Try.prog) w 22 5 (some ad) l.length c 0 0 Try.underlying22
    clear h hA
    go_enter Try.func62, Try.ntmps62
    go_wp2_with (at_builtin; refine app_bytes _ _ _ rfl rfl Try.underlying22 info8 (v := .slice (some ⟨w.heap.size, 0, none⟩) 0 0) (base := w.heap.size) (xs := []) rfl (own_empty w) rfl rfl (HA.out.alloc hB _) (by simp; omega) (by simp) ?_; intro A' c' w1 ho hg _)
    go_ret
    rw [List.nil_append, List.length_nil, Nat.zero_add] at ho
    exact ⟨A', c', by simp, ho, grown_own ((Below.refl _ w).alloc (Nat.le_refl _) _) hg (own_empty w)⟩

/-! ### Put -/
/-- How many bytes a number is put in. -/
def sz8 (s : Int) : Nat := if s ≤ 0 then 0 else if 8 ≤ s then 8 else s.toNat
theorem sz8_le (s : Int) : sz8 s ≤ 8 := by unfold sz8; split <;> (try split) <;> omega
theorem make_bytes (W : World) (n c : Nat) (L C : Int) (hL : L = n) (hC : C = c) (hn : n ≤ c) (hc : c ≤ 100000000) : (Instr.makeSlice 22 (.int .i64 L) (.int .i64 C)).run Try.prog W = .ok (.slice (some ⟨W.heap.size, 0, none⟩) n c) (W.alloc (.cells (Array.replicate c (.int .u8 0)) 5)) := by
  subst hL; subst hC
  obtain ⟨ib, hib, hz0, hz1, hz2⟩ := info_parts info8
  have := run_make (P := Try.prog) W 22 5 ib (.int .u8 0) Try.underlying22 hib hz0 .i64 .i64 n c (by omega) (by omega) (by rw [hz2]; omega) (by omega)
  rw [hz1] at this
  rw [this, Int.toNat_natCast, Int.toNat_natCast, Nat.mul_one]
  show Result.ok _ (W.alloc (.cells (madeCells #[.int .u8 0] c) _)) = _
  rw [made_one]
theorem zeros_new (W : World) (n : Nat) : (W.alloc (.cells (Array.replicate n (.int .u8 0)) 5)).heap[W.heap.size]? = some (.cells (u8s (List.replicate n 0)).toArray 5 (0, 0)) := by
  rw [heap_alloc_new]; simp [u8s, List.toArray_replicate]
def PutRel (w : World) (l : List Int) (n k : Nat) (v i : Value) (wr : World) : Prop :=
  ∃ j q : Nat, q + j = k ∧ i = .int .i64 ((q : Int) - 1) ∧ (∃ A c, v = .slice A (l.length + j) c) ∧ OwnB wr w.heap.size v (l ++ (be n k).take j) ∧ Below w.heap.size w wr


set_option maxRecDepth 100000 in
set_option maxHeartbeats 2000000 in
theorem put_mid (A : Option Addr) (c : Nat) (l : List Int) (n : Nat) (k : Nat) (w : World) (B : Nat) (h : Bytes w B A l) (hB : B ≤ w.heap.size) (hm : l.length ≤ 80000000) (hn : n < 18446744073709551616) (k0 : 0 < k) (k8 : k ≤ 8) :
    Calls Try.prog 91 #[.slice A l.length c, .int .u64 (n : Int), .int .i64 (k : Int)] w (Gives w (l ++ be n k)) := by
  have HA := Lib.hid h
  have hmk := fun W => make_bytes W l.length (l.length + k) l.length ((l.length : Int) + (k : Int)) rfl (by omega) (by omega) (by omega)
  clear h
  go_enter Try.func91, Try.ntmps91
  go_wp2_with (with_reducible show wpList _ _ _ (⟨some 21, _, _, _, _, _⟩ :: _) _ _; refine wpList_copy_splice rfl (.tmp 19) (.tmp 20) 22 22 rfl 5 Try.underlying22 (by kernel_rfl) (some ⟨w.heap.size, 0, none⟩) A l.length (l.length + k) l.length c rfl rfl w.heap.size 0 _ 5 (zeros_new w _) (u8s l) (by simp [u8s]) (fun h0 => ⟨rfl, (HA.out.alloc hB _).src h0⟩) (by simp [u8s]) (u8s_one l) w.heap.size w ((Below.refl _ w).alloc (Nat.le_refl _) _) (Nat.le_refl _) ?_; intro w1 hg1 hb1)
  have ho1 : OwnB w1 w.heap.size (.slice (some ⟨w.heap.size, 0, none⟩) l.length (l.length + k)) l := own_mk (by have := hg1.out; rw [splice_head] at this; exact this) (Nat.le_refl _) rfl (by omega) (by unfold maxLen; omega) (by simp [u8s]) (by simp [u8s])
  have HO := Lib.hid ho1; have HB := Lib.hid hb1
  clear hg1 ho1 hb1 hmk
  go_loopw [7, 8] (fun v i wr => PutRel w l n k v i wr) (fun _ i _ => (intOf i + 1).toNat)
  case atStart => exact ⟨0, k, rfl, rfl, ⟨_, _, rfl⟩, by simpa using HO.out, HB.out⟩
  case round =>
    obtain ⟨j, q, hq, rfl, ⟨A', c', rfl⟩, ho, hb⟩ := hrel
    have HO1 := Lib.hid ho; have HB1 := Lib.hid hb; have HQ := Lib.hid hq
    clear ho hb HO HB
    cases q with
    | zero =>
      obtain rfl : j = k := by omega
      clear hq
      go_wp2_with fail
      go_ret
      have e : (be n j).take j = be n j := List.take_of_length_le (by rw [be_len]; omega)
      exact ⟨A', c', ret_slice (by rw [List.length_append, be_len]), by rw [List.length_append, be_len, ← e]; exact HO1.out, HB1.out⟩
    | succ p =>
      rw [show ((p + 1 : Nat) : Int) - 1 = (p : Int) by omega]
      have hp : p ≤ 7 := by omega
      have hj8 : j ≤ 8 := by omega
      have hl : (l ++ (be n k).take j).length = l.length + j := by rw [List.length_append, List.length_take, be_len]; omega
      have HL := Lib.hid hl
      have hw : w.heap.size ≤ wr.heap.size := HB1.out.size
      clear hq hl
      go_wp2_with (at_builtin; go_loud (refine app_bytes (.tmp 28) (.tmp 34) _ rfl rfl Try.underlying22 info8 (v := .slice A' (l.length + j) c') (base := w.heap.size) (xs := l ++ (be n k).take j) rfl (HO1.out.alloc _) rfl rfl (Bytes.one wr _) (by rw [HL.out]; simp; omega) (by simp; omega) ?_); rw [HL.out]; intro A2 c2 w2 ho2 hg2 _)
      have hb2 := grown_own (HB1.out.alloc hw _) hg2 (HO1.out.alloc _)
      rw [List.append_assoc, be_step HQ.out] at ho2
      have HO2 := Lib.hid ho2; have HB2 := Lib.hid hb2
      clear ho2 hb2 hg2
      go_wp2_with fail
      go_roundw
      case rel => exact ⟨j + 1, p, by have := HQ.out; omega, by go_num, ⟨A2, c2, by rw [← Nat.add_assoc]⟩, HO2.out, HB2.out⟩
      case measure => simp [intOf]
set_option maxRecDepth 100000 in
set_option maxHeartbeats 2000000 in
theorem put_big (A : Option Addr) (c : Nat) (l : List Int) (n : Nat) (s : Int) (w : World) (B : Nat) (h : Bytes w B A l) (hB : B ≤ w.heap.size) (hm : l.length ≤ 80000000) (hn : n < 18446744073709551616) (s8 : 8 < s) (s9 : s ≤ 9223372036854775807) :
    Calls Try.prog 91 #[.slice A l.length c, .int .u64 (n : Int), .int .i64 s] w (Gives w (l ++ be n 8)) := by
  have HA := Lib.hid h
  have hmk := fun W => make_bytes W l.length (l.length + 8) l.length ((l.length : Int) + 8) rfl (by omega) (by omega) (by omega)
  clear h
  go_enter Try.func91, Try.ntmps91
  go_wp2_with (with_reducible show wpList _ _ _ (⟨some 21, _, _, _, _, _⟩ :: _) _ _; refine wpList_copy_splice rfl (.tmp 19) (.tmp 20) 22 22 rfl 5 Try.underlying22 (by kernel_rfl) (some ⟨w.heap.size, 0, none⟩) A l.length (l.length + 8) l.length c rfl rfl w.heap.size 0 _ 5 (zeros_new w _) (u8s l) (by simp [u8s]) (fun h0 => ⟨rfl, (HA.out.alloc hB _).src h0⟩) (by simp [u8s]) (u8s_one l) w.heap.size w ((Below.refl _ w).alloc (Nat.le_refl _) _) (Nat.le_refl _) ?_; intro w1 hg1 hb1)
  have ho1 : OwnB w1 w.heap.size (.slice (some ⟨w.heap.size, 0, none⟩) l.length (l.length + 8)) l := own_mk (by have := hg1.out; rw [splice_head] at this; exact this) (Nat.le_refl _) rfl (by omega) (by unfold maxLen; omega) (by simp [u8s]) (by simp [u8s])
  have HO := Lib.hid ho1; have HB := Lib.hid hb1
  clear hg1 ho1 hb1 hmk
  go_loopw [7, 8] (fun v i wr => PutRel w l n 8 v i wr) (fun _ i _ => (intOf i + 1).toNat)
  case atStart => exact ⟨0, 8, rfl, rfl, ⟨_, _, rfl⟩, by simpa using HO.out, HB.out⟩
  case round =>
    obtain ⟨j, q, hq, rfl, ⟨A', c', rfl⟩, ho, hb⟩ := hrel
    have HO1 := Lib.hid ho; have HB1 := Lib.hid hb; have HQ := Lib.hid hq
    clear ho hb HO HB
    cases q with
    | zero =>
      obtain rfl : j = 8 := by omega
      clear hq
      go_wp2_with fail
      go_ret
      have e : (be n 8).take 8 = be n 8 := List.take_of_length_le (by rw [be_len]; omega)
      exact ⟨A', c', ret_slice (by rw [List.length_append, be_len]), by rw [List.length_append, be_len, ← e]; exact HO1.out, HB1.out⟩
    | succ p =>
      rw [show ((p + 1 : Nat) : Int) - 1 = (p : Int) by omega]
      have hp : p ≤ 7 := by omega
      have hj8 : j ≤ 8 := by omega
      have hl : (l ++ (be n 8).take j).length = l.length + j := by rw [List.length_append, List.length_take, be_len]; omega
      have HL := Lib.hid hl
      have hw : w.heap.size ≤ wr.heap.size := HB1.out.size
      clear hq hl
      go_wp2_with (at_builtin; go_loud (refine app_bytes (.tmp 28) (.tmp 34) _ rfl rfl Try.underlying22 info8 (v := .slice A' (l.length + j) c') (base := w.heap.size) (xs := l ++ (be n 8).take j) rfl (HO1.out.alloc _) rfl rfl (Bytes.one wr _) (by rw [HL.out]; simp; omega) (by simp; omega) ?_); rw [HL.out]; intro A2 c2 w2 ho2 hg2 _)
      have hb2 := grown_own (HB1.out.alloc hw _) hg2 (HO1.out.alloc _)
      rw [List.append_assoc, be_step HQ.out] at ho2
      have HO2 := Lib.hid ho2; have HB2 := Lib.hid hb2
      clear ho2 hb2 hg2
      go_wp2_with fail
      go_roundw
      case rel => exact ⟨j + 1, p, by have := HQ.out; omega, by go_num, ⟨A2, c2, by rw [← Nat.add_assoc]⟩, HO2.out, HB2.out⟩
      case measure => simp [intOf]
set_option maxRecDepth 100000 in
set_option maxHeartbeats 2000000 in
theorem put_neg (A : Option Addr) (c : Nat) (l : List Int) (n : Nat) (s : Int) (w : World) (B : Nat) (h : Bytes w B A l) (hB : B ≤ w.heap.size) (hm : l.length ≤ 80000000) (hn : n < 18446744073709551616) (s8 : s < 0) (s9 : -9223372036854775808 ≤ s) :
    Calls Try.prog 91 #[.slice A l.length c, .int .u64 (n : Int), .int .i64 s] w (Gives w (l ++ be n 0)) := by
  have HA := Lib.hid h
  have hmk := fun W => make_bytes W l.length (l.length) l.length (l.length : Int) rfl (by omega) (by omega) (by omega)
  clear h
  go_enter Try.func91, Try.ntmps91
  go_wp2_with (with_reducible show wpList _ _ _ (⟨some 21, _, _, _, _, _⟩ :: _) _ _; refine wpList_copy_splice rfl (.tmp 19) (.tmp 20) 22 22 rfl 5 Try.underlying22 (by kernel_rfl) (some ⟨w.heap.size, 0, none⟩) A l.length (l.length) l.length c rfl rfl w.heap.size 0 _ 5 (zeros_new w _) (u8s l) (by simp [u8s]) (fun h0 => ⟨rfl, (HA.out.alloc hB _).src h0⟩) (by simp [u8s]) (u8s_one l) w.heap.size w ((Below.refl _ w).alloc (Nat.le_refl _) _) (Nat.le_refl _) ?_; intro w1 hg1 hb1)
  have ho1 : OwnB w1 w.heap.size (.slice (some ⟨w.heap.size, 0, none⟩) l.length (l.length)) l := own_mk (by have := hg1.out; rw [splice_head0] at this; exact this) (Nat.le_refl _) rfl (by omega) (by unfold maxLen; omega) (by simp [u8s]) (List.take_of_length_le (by simp [u8s]))
  have HO := Lib.hid ho1; have HB := Lib.hid hb1
  clear hg1 ho1 hb1 hmk
  go_loopw [7, 8] (fun v i wr => PutRel w l n 0 v i wr) (fun _ i _ => (intOf i + 1).toNat)
  case atStart => exact ⟨0, 0, rfl, rfl, ⟨_, _, rfl⟩, by simpa using HO.out, HB.out⟩
  case round =>
    obtain ⟨j, q, hq, rfl, ⟨A', c', rfl⟩, ho, hb⟩ := hrel
    have HO1 := Lib.hid ho; have HB1 := Lib.hid hb; have HQ := Lib.hid hq
    clear ho hb HO HB
    cases q with
    | zero =>
      obtain rfl : j = 0 := by omega
      clear hq
      go_wp2_with fail
      go_ret
      have e : (be n 0).take 0 = be n 0 := List.take_of_length_le (by rw [be_len]; omega)
      exact ⟨A', c', ret_slice (by simp [be]), by rw [List.length_append, be_len, ← e]; exact HO1.out, HB1.out⟩
    | succ p => omega
set_option maxRecDepth 100000 in
set_option maxHeartbeats 2000000 in
theorem put_zero (A : Option Addr) (c : Nat) (l : List Int) (n : Nat) (w : World) (B : Nat) (h : Bytes w B A l) (hB : B ≤ w.heap.size) (hm : l.length ≤ 80000000) (hn : n < 18446744073709551616)  :
    Calls Try.prog 91 #[.slice A l.length c, .int .u64 (n : Int), .int .i64 0] w (Gives w (l ++ be n 0)) := by
  have HA := Lib.hid h
  have hmk := fun W => make_bytes W l.length (l.length) l.length (l.length : Int) rfl (by omega) (by omega) (by omega)
  clear h
  go_enter Try.func91, Try.ntmps91
  go_wp2_with (with_reducible show wpList _ _ _ (⟨some 21, _, _, _, _, _⟩ :: _) _ _; refine wpList_copy_splice rfl (.tmp 19) (.tmp 20) 22 22 rfl 5 Try.underlying22 (by kernel_rfl) (some ⟨w.heap.size, 0, none⟩) A l.length (l.length) l.length c rfl rfl w.heap.size 0 _ 5 (zeros_new w _) (u8s l) (by simp [u8s]) (fun h0 => ⟨rfl, (HA.out.alloc hB _).src h0⟩) (by simp [u8s]) (u8s_one l) w.heap.size w ((Below.refl _ w).alloc (Nat.le_refl _) _) (Nat.le_refl _) ?_; intro w1 hg1 hb1)
  have ho1 : OwnB w1 w.heap.size (.slice (some ⟨w.heap.size, 0, none⟩) l.length (l.length)) l := own_mk (by have := hg1.out; rw [splice_head0] at this; exact this) (Nat.le_refl _) rfl (by omega) (by unfold maxLen; omega) (by simp [u8s]) (List.take_of_length_le (by simp [u8s]))
  have HO := Lib.hid ho1; have HB := Lib.hid hb1
  clear hg1 ho1 hb1 hmk
  go_loopw [7, 8] (fun v i wr => PutRel w l n 0 v i wr) (fun _ i _ => (intOf i + 1).toNat)
  case atStart => exact ⟨0, 0, rfl, rfl, ⟨_, _, rfl⟩, by simpa using HO.out, HB.out⟩
  case round =>
    obtain ⟨j, q, hq, rfl, ⟨A', c', rfl⟩, ho, hb⟩ := hrel
    have HO1 := Lib.hid ho; have HB1 := Lib.hid hb; have HQ := Lib.hid hq
    clear ho hb HO HB
    cases q with
    | zero =>
      obtain rfl : j = 0 := by omega
      clear hq
      go_wp2_with fail
      go_ret
      have e : (be n 0).take 0 = be n 0 := List.take_of_length_le (by rw [be_len]; omega)
      exact ⟨A', c', ret_slice (by simp [be]), by rw [List.length_append, be_len, ← e]; exact HO1.out, HB1.out⟩
    | succ p => omega

/-- Put: b followed by the last bytes of n. -/
theorem put_any (A : Option Addr) (c : Nat) (l : List Int) (n : Nat) (s : Int) (w : World) (B : Nat) (h : Bytes w B A l) (hB : B ≤ w.heap.size) (hm : l.length ≤ 80000000) (hn : n < 18446744073709551616) (s0 : -9223372036854775808 ≤ s) (s1 : s ≤ 9223372036854775807) :
    Calls Try.prog 91 #[.slice A l.length c, .int .u64 (n : Int), .int .i64 s] w (Gives w (l ++ be n (sz8 s))) := by
  by_cases c0 : s < 0
  · rw [show sz8 s = 0 from by unfold sz8; rw [if_pos (by omega)]]
    exact put_neg A c l n s w B h hB hm hn c0 s0
  by_cases c1 : s = 0
  · subst c1; exact put_zero A c l n w B h hB hm hn
  by_cases c2 : 8 < s
  · rw [show sz8 s = 8 from by unfold sz8; rw [if_neg (by omega), if_pos (by omega)]]
    exact put_big A c l n s w B h hB hm hn c2 s1
  · obtain ⟨k, rfl⟩ := Int.eq_ofNat_of_zero_le (show 0 ≤ s by omega)
    rw [show sz8 (k : Int) = k from by unfold sz8; rw [if_neg (by omega)]; split <;> omega]
    exact put_mid A c l n k w B h hB hm hn (by omega) (by omega)
/-- A new slice of k bytes. -/
def GivesK (w : World) (l : List Int) (k : Nat) (e : Ending) (w' : World) : Prop := ∃ A c, e = .returned (.slice A k c) ∧ OwnB w' w.heap.size (.slice A k c) l ∧ Below w.heap.size w w'
theorem Gives.k {w w' : World} {l : List Int} {k : Nat} {e : Ending} (h : Gives w l e w') (hk : l.length = k) : GivesK w l k e w' := by subst hk; exact h
/-- Put of nothing but a number. -/
theorem put_nil (n : Nat) (s : Int) (k : Nat) (w : World) (hn : n < 18446744073709551616) (s0 : -9223372036854775808 ≤ s) (s1 : s ≤ 9223372036854775807) (hk : sz8 s = k) :
    Calls Try.prog 91 #[.slice none 0 0, .int .u64 (n : Int), .int .i64 s] w (GivesK w (be n k) k) := by
  have h := put_any none 0 [] n s w 0 (Bytes.nil _ _ _) (Nat.zero_le _) (by simp) hn s0 s1
  rw [hk, List.nil_append] at h
  exact h.mono fun e w' h => h.k (be_len _ _)
theorem sz8_mid {k : Nat} (h : k ≤ 8) : sz8 (k : Int) = k := by
  unfold sz8
  by_cases h0 : (k : Int) ≤ 0
  · rw [if_pos h0]; omega
  · rw [if_neg h0]; split <;> omega
end Go.Proofs.Ytmgendgfdhhgfaa
