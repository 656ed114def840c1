/-
  The chapter's example of layer 7, and the law's words. Helper of the claim UdpReads. No condition.
-/
import Derived.Test.YtmgendgfdhhgfaaUdpR
namespace Go.Proofs.Ytmgendgfdhhgfaa
open Go.ChangeShapes Go.WideShapes Go.ChangeAt Go.RowKit
set_option linter.unusedSimpArgs false
set_option linter.unusedVariables false
set_option maxRecDepth 100000

theorem isb_lit (W : World) (l : List Int) (hl : l.length ≤ 1000) : IsB l l.length (.slice (some ⟨W.heap.size, 0, none⟩) l.length l.length) (W.alloc (.cells (u8s l).toArray 5)) :=
  ⟨_, _, rfl, rfl, (Bytes.lit W l).more (by simp), Nat.le_refl _, by unfold maxLen; omega, fun h => by cases h⟩
/-- An ID that was taken. -/
def Took7 (W : World) (g : Nat) (l : List Int) (i n : Nat) (w : World) (e : Ending) (w' : World) : Prop :=
  ∃ A c, e = .returned (.tuple #[.slice A n c, .int .i64 0]) ∧ OwnB w' w.heap.size (.slice A n c) ((l.drop (i + 1)).take n) ∧ RS W g l (i + 1 + n) w' ∧ w.grownBy w' (some g)
def L7 : List Int := [192, 0, 0, 0, 1, 2, 171, 205, 0]
theorem L7_ok : Octets L7 := Octets.ofAll (by decide)
/-- What the example shows. -/
def Shown (W : World) (e : Ending) (w' : World) : Prop := ∃ v u, e = .returned (.tuple #[.agg #[.bool true, .int .u32 1, v, u, .bool true], .int .i64 0]) ∧ Below W.heap.size W w' ∧ OwnP W.heap.size [171, 205] 2 v w' ∧ ∃ A c, u = .slice A 0 c
end Go.Proofs.Ytmgendgfdhhgfaa
