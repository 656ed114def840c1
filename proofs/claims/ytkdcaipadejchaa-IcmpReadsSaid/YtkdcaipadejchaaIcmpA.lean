/-
  The chapter's example of layer 8. Helper of the claims on ICMP messages. No condition.
-/
import Derived.Test.YtkdcaipadejchaaIcmp2
namespace Go.Proofs.Ytkdcaipadejchaa
open Go.ChangeShapes Go.WideShapes Go.ChangeAt Go.RowKit
set_option linter.unusedVariables false
theorem isb_lit8 (W : World) (l : List Int) (hl : l.length ≤ 1000) : IsB l l.length (.slice (some ⟨W.heap.size, 0, none⟩) l.length l.length) (W.alloc (.cells (u8s l).toArray 5)) :=
  ⟨_, _, rfl, rfl, (Bytes.lit W l).more (by simp), Nat.le_refl _, by unfold maxLen; omega, fun h => by cases h⟩
set_option maxRecDepth 100000 in
set_option maxHeartbeats 1000000 in
theorem awake08 (w : World) : Calls Try.prog 36 #[] w fun e w' => e = .returned (.bool true) ∧ Below w.heap.size w w' := by
  go_enter Try.func36, Try.ntmps36
  go_wp2_with fail
  refine (toobig4 (some ⟨w.heap.size, 0, none⟩) 3 [7, 8, 9] 1400 3 _ (isb_lit8 w [7, 8, 9] (by decide)) (by decide) (by decide) (by decide) (.inr ⟨rfl, by decide⟩)).mono ?_
  rintro e w1 ⟨v, rfl, hb1, hv⟩
  have HV := hide hv
  have HB1 := Lib.hid (((Below.refl w.heap.size w).alloc (Nat.le_refl _) _).trans (hb1.mono (by simp)))
  clear hv hb1
  go_wp2_with fail
  refine (bytes8 3 4 0 1400 [7, 8, 9] 3 v w1 HV.out (by decide) (by decide) (by decide) (by decide) (by decide)).mono ?_
  rintro e w2 ⟨A2, c2, rfl, ho, hb⟩
  obtain ⟨g, rfl, hg, hgl⟩ := ho.blocks (by decide)
  have b0 : w2.cell? ⟨g, 0, none⟩ = some (.int .u8 3) := (ho.at (k := 0) (by decide)).trans (by rfl)
  have b1 : w2.cell? ⟨g, 1, none⟩ = some (.int .u8 4) := (ho.at (k := 1) (by decide)).trans (by rfl)
  have cc := ho.cap
  have cc1 : 11 ≤ c2 := cc.1
  have HB2 := Lib.hid (HB1.out.trans (hb.mono HB1.out.size))
  clear ho hb HV HB1 cc
  go_wp2_with fail
  go_ret
  exact ⟨rfl, HB2.out⟩

end Go.Proofs.Ytkdcaipadejchaa
