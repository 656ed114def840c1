/-
  Same headers, and headers carried over. Helper of the claims of layer 4.
-/
import Derived.Test.YtmgendgfdhhgfaaQa
import Derived.BigRegion
namespace Go.Proofs.Ytmgendgfdhhgfaa
open Go.ChangeShapes Go.WideShapes Go.ChangeAt Go.RowKit
set_option linter.unusedSimpArgs false
set_option linter.unusedVariables false
set_option maxRecDepth 100000
set_option maxHeartbeats 4000000 in
theorem of4 (ts le id : Int) (st mo : Bool) (ofs tt pr sm : Int) (s6 : Bool) (sh sl : Int) (d6 : Bool) (dh dl : Int) (A : Option Addr) (n c : Nat) (w : World) :
    Calls Try.prog 18 #[hv4 ts le id st mo ofs tt pr sm s6 sh sl d6 dh dl (.slice A n c)] w fun e w' => e = .returned (hv4 ts le id st mo ofs tt pr sm s6 sh sl d6 dh dl (.slice A n c)) ∧ Below w.heap.size w w' := by
  have HB := Lib.hid (((Below.refl w.heap.size w).alloc (Nat.le_refl _) (.cells #[.int .u8 ts, .int .i64 le, .int .u16 id, .bool st, .bool mo, .int .i64 ofs, .int .u8 tt, .int .u8 pr, .int .u16 sm, .bool s6, .int .u64 sh, .int .u64 sl, .bool d6, .int .u64 dh, .int .u64 dl, .slice A n c] 28)).alloc (by simp) (.cells #[.int .u8 0, .int .i64 0, .int .u16 0, .bool false, .bool false, .int .i64 0, .int .u8 0, .int .u8 0, .int .u16 0, .bool false, .int .u64 0, .int .u64 0, .bool false, .int .u64 0, .int .u64 0, .slice none 0 0] 37))
  have P1 := hide ((Is.new w 28 #[.int .u8 ts, .int .i64 le, .int .u16 id, .bool st, .bool mo, .int .i64 ofs, .int .u8 tt, .int .u8 pr, .int .u16 sm, .bool s6, .int .u64 sh, .int .u64 sl, .bool d6, .int .u64 dh, .int .u64 dl, .slice A n c]).alloc (.cells #[.int .u8 0, .int .i64 0, .int .u16 0, .bool false, .bool false, .int .i64 0, .int .u8 0, .int .u8 0, .int .u16 0, .bool false, .int .u64 0, .int .u64 0, .bool false, .int .u64 0, .int .u64 0, .slice none 0 0] 37))
  have P2 := hide (Is.new (w.alloc (.cells #[.int .u8 ts, .int .i64 le, .int .u16 id, .bool st, .bool mo, .int .i64 ofs, .int .u8 tt, .int .u8 pr, .int .u16 sm, .bool s6, .int .u64 sh, .int .u64 sl, .bool d6, .int .u64 dh, .int .u64 dl, .slice A n c] 28)) 37 #[.int .u8 0, .int .i64 0, .int .u16 0, .bool false, .bool false, .int .i64 0, .int .u8 0, .int .u8 0, .int .u16 0, .bool false, .int .u64 0, .int .u64 0, .bool false, .int .u64 0, .int .u64 0, .slice none 0 0])
  have PN := Lib.hid (show (w.alloc (.cells #[.int .u8 ts, .int .i64 le, .int .u16 id, .bool st, .bool mo, .int .i64 ofs, .int .u8 tt, .int .u8 pr, .int .u16 sm, .bool s6, .int .u64 sh, .int .u64 sl, .bool d6, .int .u64 dh, .int .u64 dl, .slice A n c] 28)).heap.size = w.heap.size + 1 from by simp)
  rw [PN.out] at P2
  have GE := Lib.hid (show w.heap.size ≤ w.heap.size + 1 from Nat.le_succ _)
  clear PN
  unfold hv4
  go_enter Try.func18, Try.ntmps18
  go_wp2_with (
    (with_reducible show wpList _ _ _ (⟨none, _, _, _, _, _⟩ :: _) _ _)
    go_loud (refine Go.wpList_store_row rfl 37 (.tmp 2) (.tmp 27) rfl (w.heap.size + 1) #[.int .u8 ts, .int .i64 le, .int .u16 id, .bool st, .bool mo, .int .i64 ofs, .int .u8 tt, .int .u8 pr, .int .u16 sm, .bool s6, .int .u64 sh, .int .u64 sl, .bool d6, .int .u64 dh, .int .u64 dl, .slice A n c] rfl rfl 37 #[.int .u8 0, .int .i64 0, .int .u16 0, .bool false, .bool false, .int .i64 0, .int .u8 0, .int .u8 0, .int .u16 0, .bool false, .int .u64 0, .int .u64 0, .bool false, .int .u64 0, .int .u64 0, .slice none 0 0] (is_raw P2.out) (by kernel_rfl) rfl (by simp [Value.oneCell']) ?_)
    have P9 := hide (is_row6 (cs' := #[.int .u8 ts, .int .i64 le, .int .u16 id, .bool st, .bool mo, .int .i64 ofs, .int .u8 tt, .int .u8 pr, .int .u16 sm, .bool s6, .int .u64 sh, .int .u64 sl, .bool d6, .int .u64 dh, .int .u64 dl, .slice A n c]) P2.out)
    have HB9 := Lib.hid (below_setRow HB.out (g := w.heap.size + 1) GE.out #[.int .u8 ts, .int .i64 le, .int .u16 id, .bool st, .bool mo, .int .i64 ofs, .int .u8 tt, .int .u8 pr, .int .u16 sm, .bool s6, .int .u64 sh, .int .u64 sl, .bool d6, .int .u64 dh, .int .u64 dl, .slice A n c])
    generalize ((w.alloc (.cells #[.int .u8 ts, .int .i64 le, .int .u16 id, .bool st, .bool mo, .int .i64 ofs, .int .u8 tt, .int .u8 pr, .int .u16 sm, .bool s6, .int .u64 sh, .int .u64 sl, .bool d6, .int .u64 dh, .int .u64 dl, .slice A n c] 28)).alloc (.cells #[.int .u8 0, .int .i64 0, .int .u16 0, .bool false, .bool false, .int .i64 0, .int .u8 0, .int .u8 0, .int .u16 0, .bool false, .int .u64 0, .int .u64 0, .bool false, .int .u64 0, .int .u64 0, .slice none 0 0] 37)).setRow (w.heap.size + 1) #[.int .u8 ts, .int .i64 le, .int .u16 id, .bool st, .bool mo, .int .i64 ofs, .int .u8 tt, .int .u8 pr, .int .u16 sm, .bool s6, .int .u64 sh, .int .u64 sl, .bool d6, .int .u64 dh, .int .u64 dl, .slice A n c] = Wz at *)
  refine bodyPost_ret (v := hv4 ts le id st mo ofs tt pr sm s6 sh sl d6 dh dl (.slice A n c)) ?_ rfl ⟨rfl, HB9.out⟩
  exact results_cell_row Try.results18 _ _ (w.heap.size + 1) 37 #[.int .u8 ts, .int .i64 le, .int .u16 id, .bool st, .bool mo, .int .i64 ofs, .int .u8 tt, .int .u8 pr, .int .u16 sm, .bool s6, .int .u64 sh, .int .u64 sl, .bool d6, .int .u64 dh, .int .u64 dl, .slice A n c] (0, 0) _ rfl (is_raw P9.out) Try.underlying37 rfl (by kernel_rfl)
set_option maxHeartbeats 4000000 in
theorem to4 (ts le id : Int) (st mo : Bool) (ofs tt pr sm : Int) (s6 : Bool) (sh sl : Int) (d6 : Bool) (dh dl : Int) (A : Option Addr) (n c : Nat) (w : World) :
    Calls Try.prog 19 #[hv4 ts le id st mo ofs tt pr sm s6 sh sl d6 dh dl (.slice A n c)] w fun e w' => e = .returned (hv4 ts le id st mo ofs tt pr sm s6 sh sl d6 dh dl (.slice A n c)) ∧ Below w.heap.size w w' := by
  have HB := Lib.hid (((Below.refl w.heap.size w).alloc (Nat.le_refl _) (.cells #[.int .u8 ts, .int .i64 le, .int .u16 id, .bool st, .bool mo, .int .i64 ofs, .int .u8 tt, .int .u8 pr, .int .u16 sm, .bool s6, .int .u64 sh, .int .u64 sl, .bool d6, .int .u64 dh, .int .u64 dl, .slice A n c] 37)).alloc (by simp) (.cells #[.int .u8 0, .int .i64 0, .int .u16 0, .bool false, .bool false, .int .i64 0, .int .u8 0, .int .u8 0, .int .u16 0, .bool false, .int .u64 0, .int .u64 0, .bool false, .int .u64 0, .int .u64 0, .slice none 0 0] 28))
  have P1 := hide ((Is.new w 37 #[.int .u8 ts, .int .i64 le, .int .u16 id, .bool st, .bool mo, .int .i64 ofs, .int .u8 tt, .int .u8 pr, .int .u16 sm, .bool s6, .int .u64 sh, .int .u64 sl, .bool d6, .int .u64 dh, .int .u64 dl, .slice A n c]).alloc (.cells #[.int .u8 0, .int .i64 0, .int .u16 0, .bool false, .bool false, .int .i64 0, .int .u8 0, .int .u8 0, .int .u16 0, .bool false, .int .u64 0, .int .u64 0, .bool false, .int .u64 0, .int .u64 0, .slice none 0 0] 28))
  have P2 := hide (Is.new (w.alloc (.cells #[.int .u8 ts, .int .i64 le, .int .u16 id, .bool st, .bool mo, .int .i64 ofs, .int .u8 tt, .int .u8 pr, .int .u16 sm, .bool s6, .int .u64 sh, .int .u64 sl, .bool d6, .int .u64 dh, .int .u64 dl, .slice A n c] 37)) 28 #[.int .u8 0, .int .i64 0, .int .u16 0, .bool false, .bool false, .int .i64 0, .int .u8 0, .int .u8 0, .int .u16 0, .bool false, .int .u64 0, .int .u64 0, .bool false, .int .u64 0, .int .u64 0, .slice none 0 0])
  have PN := Lib.hid (show (w.alloc (.cells #[.int .u8 ts, .int .i64 le, .int .u16 id, .bool st, .bool mo, .int .i64 ofs, .int .u8 tt, .int .u8 pr, .int .u16 sm, .bool s6, .int .u64 sh, .int .u64 sl, .bool d6, .int .u64 dh, .int .u64 dl, .slice A n c] 37)).heap.size = w.heap.size + 1 from by simp)
  rw [PN.out] at P2
  have GE := Lib.hid (show w.heap.size ≤ w.heap.size + 1 from Nat.le_succ _)
  clear PN
  unfold hv4
  go_enter Try.func19, Try.ntmps19
  go_wp2_with (
    (with_reducible show wpList _ _ _ (⟨none, _, _, _, _, _⟩ :: _) _ _)
    go_loud (refine Go.wpList_store_row rfl 28 (.tmp 2) (.tmp 27) rfl (w.heap.size + 1) #[.int .u8 ts, .int .i64 le, .int .u16 id, .bool st, .bool mo, .int .i64 ofs, .int .u8 tt, .int .u8 pr, .int .u16 sm, .bool s6, .int .u64 sh, .int .u64 sl, .bool d6, .int .u64 dh, .int .u64 dl, .slice A n c] rfl rfl 28 #[.int .u8 0, .int .i64 0, .int .u16 0, .bool false, .bool false, .int .i64 0, .int .u8 0, .int .u8 0, .int .u16 0, .bool false, .int .u64 0, .int .u64 0, .bool false, .int .u64 0, .int .u64 0, .slice none 0 0] (is_raw P2.out) (by kernel_rfl) rfl (by simp [Value.oneCell']) ?_)
    have P9 := hide (is_row6 (cs' := #[.int .u8 ts, .int .i64 le, .int .u16 id, .bool st, .bool mo, .int .i64 ofs, .int .u8 tt, .int .u8 pr, .int .u16 sm, .bool s6, .int .u64 sh, .int .u64 sl, .bool d6, .int .u64 dh, .int .u64 dl, .slice A n c]) P2.out)
    have HB9 := Lib.hid (below_setRow HB.out (g := w.heap.size + 1) GE.out #[.int .u8 ts, .int .i64 le, .int .u16 id, .bool st, .bool mo, .int .i64 ofs, .int .u8 tt, .int .u8 pr, .int .u16 sm, .bool s6, .int .u64 sh, .int .u64 sl, .bool d6, .int .u64 dh, .int .u64 dl, .slice A n c])
    generalize ((w.alloc (.cells #[.int .u8 ts, .int .i64 le, .int .u16 id, .bool st, .bool mo, .int .i64 ofs, .int .u8 tt, .int .u8 pr, .int .u16 sm, .bool s6, .int .u64 sh, .int .u64 sl, .bool d6, .int .u64 dh, .int .u64 dl, .slice A n c] 37)).alloc (.cells #[.int .u8 0, .int .i64 0, .int .u16 0, .bool false, .bool false, .int .i64 0, .int .u8 0, .int .u8 0, .int .u16 0, .bool false, .int .u64 0, .int .u64 0, .bool false, .int .u64 0, .int .u64 0, .slice none 0 0] 28)).setRow (w.heap.size + 1) #[.int .u8 ts, .int .i64 le, .int .u16 id, .bool st, .bool mo, .int .i64 ofs, .int .u8 tt, .int .u8 pr, .int .u16 sm, .bool s6, .int .u64 sh, .int .u64 sl, .bool d6, .int .u64 dh, .int .u64 dl, .slice A n c] = Wz at *)
  refine bodyPost_ret (v := hv4 ts le id st mo ofs tt pr sm s6 sh sl d6 dh dl (.slice A n c)) ?_ rfl ⟨rfl, HB9.out⟩
  exact results_cell_row Try.results19 _ _ (w.heap.size + 1) 28 #[.int .u8 ts, .int .i64 le, .int .u16 id, .bool st, .bool mo, .int .i64 ofs, .int .u8 tt, .int .u8 pr, .int .u16 sm, .bool s6, .int .u64 sh, .int .u64 sl, .bool d6, .int .u64 dh, .int .u64 dl, .slice A n c] (0, 0) _ rfl (is_raw P9.out) Try.underlying28 rfl (by kernel_rfl)
end Go.Proofs.Ytmgendgfdhhgfaa
