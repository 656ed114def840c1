/-
  Right and Size of package ip4. Helper of the claims of layer 4.
-/
import Derived.Test.YtmgendgfdhhgfaaQa
namespace Go.Proofs.Ytmgendgfdhhgfaa
open Go.ChangeShapes Go.WideShapes Go.ChangeAt Go.RowKit
set_option linter.unusedSimpArgs false
set_option linter.unusedVariables false
set_option maxRecDepth 100000
set_option maxHeartbeats 1000000 in
theorem size4 (ts le id : Int) (st mo : Bool) (ofs tt pr sm : Int) (s6 : Bool) (sh sl : Int) (d6 : Bool) (dh dl : Int) (A : Option Addr) (n c : Nat) (w : World) (hn : n ≤ 1000) :
    Calls Try.prog 12 #[hv4 ts le id st mo ofs tt pr sm s6 sh sl d6 dh dl (.slice A n c)] w fun e w' => e = .returned (.int .i64 ((20 + n : Nat) : Int)) ∧ Below w.heap.size w w' := by
  have HB := Lib.hid ((Below.refl w.heap.size w).alloc (Nat.le_refl _) (.cells #[.int .u8 ts, .int .i64 le, .int .u16 id, .bool st, .bool mo, .int .i64 ofs, .int .u8 tt, .int .u8 pr, .int .u16 sm, .bool s6, .int .u64 sh, .int .u64 sl, .bool d6, .int .u64 dh, .int .u64 dl, .slice A n c] 28))
  have P1 := hide (Is.new w 28 #[.int .u8 ts, .int .i64 le, .int .u16 id, .bool st, .bool mo, .int .i64 ofs, .int .u8 tt, .int .u8 pr, .int .u16 sm, .bool s6, .int .u64 sh, .int .u64 sl, .bool d6, .int .u64 dh, .int .u64 dl, .slice A n c])
  have n0 : (0 : Int) ≤ (n : Int) := Int.natCast_nonneg _
  unfold hv4
  go_enter Try.func12, Try.ntmps12
  go_wp2_with fail
  go_ret
  exact ⟨ret_int (by omega), HB.out⟩
set_option maxHeartbeats 1000000 in
theorem ari4 (lo : Int) (w : World) (h0 : 0 ≤ lo) (h1 : lo ≤ 4294967295) : Calls Try.prog 103 #[.agg #[.bool false, .int .u64 0, .int .u64 lo]] w fun e w' => e = .returned (.bool true) ∧ Below w.heap.size w w' := by
  have HB := Lib.hid ((Below.refl w.heap.size w).alloc (Nat.le_refl _) (.cells #[.bool false, .int .u64 0, .int .u64 lo] 26))
  have g1 : lo < 4294967296 := by omega
  go_enter Try.func103, Try.ntmps103
  go_wp2_with fail
  go_ret
  exact ⟨rfl, HB.out⟩
set_option maxHeartbeats 1000000 in
theorem valid4 (lo : Int) (w : World) (h0 : 0 ≤ lo) (h1 : lo ≤ 4294967295) : Calls Try.prog 65 #[.agg #[.bool false, .int .u64 0, .int .u64 lo]] w fun e w' => e = .returned (.bool true) ∧ Below w.heap.size w w' := by
  have HB := Lib.hid ((Below.refl w.heap.size w).alloc (Nat.le_refl _) (.cells #[.bool false, .int .u64 0, .int .u64 lo] 26))
  have P1 := hide (Is.new w 26 #[.bool false, .int .u64 0, .int .u64 lo])
  go_enter Try.func65, Try.ntmps65
  go_wp2_with fail
  generalize w.alloc (.cells #[.bool false, .int .u64 0, .int .u64 lo] 26) = W at *
  refine (ari4 lo _ h0 h1).mono ?_
  rintro e w1 ⟨rfl, hb⟩
  have a0 := (P1.out.below hb P1.out.lt).cell 0
  simp at a0
  have HB1 := Lib.hid (HB.out.trans (hb.mono HB.out.size))
  clear hb HB
  go_wp2_with fail
  go_ret
  exact ⟨rfl, HB1.out⟩
end Go.Proofs.Ytmgendgfdhhgfaa
