/-
  TcpWrites (P6.2) answers true and leaves its argument as it was, for every segment: the bytes of a valid one are those that the document gives and are read back, an invalid one has none. No condition.
-/
import Derived.Test.YtkgmgmlicgjfdaaRows
import Derived.WalkKit
import Derived.ProofKit
import Derived.OpenShut
import Derived.ShutString
import Derived.ChangeOld
import Derived.Below
import Derived.Test.YtkgmgmlicgjfdaaTw3
namespace Go.Proofs.Ytkgmgmlicgjfdaa.tcpWrites
open Go.ChangeShapes Go.WideShapes Go.ChangeAt Go.RowKit
open Go.ChangeMaps (open_string shut_string)
open Go.Proofs.Ytkgmgmlicgjfdaa
set_option maxRecDepth 100000
set_option linter.unusedVariables false

theorem own : ownKnob Try.prog.godebug = none := by kernel_rfl
theorem laidOut : laidOutB Try.prog = true := by kernel_rfl

def IsS (xa xb xs xk xf xn xm xg : Int) (o : List Int) (i : Nat) (l : List Int) (j : Nat) (x : Value) (w : World) : Prop := ∃ v u, x = sg6 xa xb xs xk xf xn xm xg v u ∧ IsB o i v w ∧ IsB l j u w
theorem IsS.st {xa xb xs xk xf xn xm xg : Int} {o l : List Int} {i j : Nat} {x : Value} {w w' : World} (h : IsS xa xb xs xk xf xn xm xg o i l j x w) (hb : Below w.heap.size w w') : IsS xa xb xs xk xf xn xm xg o i l j x w' := by
  obtain ⟨v, u, e, hv, hu⟩ := h; exact ⟨v, u, e, hv.st hb, hu.st hb⟩
def specS (xa xb xs xk xf xn xm xg : Int) (o : List Int) (i : Nat) (l : List Int) (j : Nat) : Lin.Spec Lin.Keeps := ⟨IsS xa xb xs xk xf xn xm xg o i l j, IsS.st⟩
section
open Go.Deep Go.Joins
variable {H : Type} {enc : TypeId × Value → H} {w : World} {held : Bool} {spare : Nat → Bool}
theorem nat_of {n b : Int} (h : 0 ≤ n ∧ n ≤ b) : ∃ k : Nat, n = (k : Int) ∧ (k : Int) ≤ b := ⟨n.toNat, by omega, by omega⟩
theorem open_segN {r : Reach} {b0 : Nat} {v : Value} {d : DataW H} {p : List MemPlace} (hv : Value.okWide Try.prog w r b0 35 v) (h : DataW.Trod enc Try.prog w 0 spare held 35 v d p) :
    ∃ (xa xb xs xk xf xn xm xg : Nat) (A8 : Option Addr) (n8 c8 : Nat) (A9 : Option Addr) (n9 c9 : Nat), v = sg6 xa xb xs xk xf xn xm xg (.slice A8 n8 c8) (.slice A9 n9 c9) ∧ (xa ≤ 65535 ∧ xb ≤ 65535 ∧ xs ≤ 4294967295 ∧ xk ≤ 4294967295 ∧ xf ≤ 255 ∧ xn ≤ 65535 ∧ xm ≤ 65535 ∧ xg ≤ 65535) ∧
      (∃ d8 p8, DataW.Trod enc Try.prog w 0 spare held 22 (.slice A8 n8 c8) d8 p8) ∧ ∃ d9 p9, DataW.Trod enc Try.prog w 0 spare held 22 (.slice A9 n9 c9) d9 p9 := by
  have hu := Try.underlying35
  obtain ⟨cs, rfl, hsz⟩ := okWide_struct hu hv
  obtain ⟨c0, c1, c2, c3, c4, c5, c6, c7, c8, c9, rfl⟩ := array10 (hsz.trans (by kernel_rfl))
  obtain ⟨fuel, hf⟩ := h
  obtain ⟨xs, n, _, _, hl, hlen, hf⟩ := DataW.trod_struct hu hf
  match xs, hlen with
  | [y0, y1, y2, y3, y4, y5, y6, y7, y8, y9], _ =>
    have g0 : DataW.trod enc Try.prog w 0 spare held n 23 [c0] = some y0 := hf 0 _ rfl
    have g1 : DataW.trod enc Try.prog w 0 spare held n 23 [c1] = some y1 := hf 1 _ rfl
    have g2 : DataW.trod enc Try.prog w 0 spare held n 33 [c2] = some y2 := hf 2 _ rfl
    have g3 : DataW.trod enc Try.prog w 0 spare held n 33 [c3] = some y3 := hf 3 _ rfl
    have g4 : DataW.trod enc Try.prog w 0 spare held n 5 [c4] = some y4 := hf 4 _ rfl
    have g5 : DataW.trod enc Try.prog w 0 spare held n 23 [c5] = some y5 := hf 5 _ rfl
    have g6 : DataW.trod enc Try.prog w 0 spare held n 23 [c6] = some y6 := hf 6 _ rfl
    have g7 : DataW.trod enc Try.prog w 0 spare held n 23 [c7] = some y7 := hf 7 _ rfl
    have g8 : DataW.trod enc Try.prog w 0 spare held n 22 [c8] = some y8 := hf 8 _ rfl
    have g9 : DataW.trod enc Try.prog w 0 spare held n 22 [c9] = some y9 := hf 9 _ rfl
    obtain ⟨z0, e0, _, w0⟩ := DataW.trod_int Try.underlying23 g0
    obtain ⟨k0, rfl, b0⟩ := nat_of (bounds_u16 w0)
    obtain ⟨z1, e1, _, w1⟩ := DataW.trod_int Try.underlying23 g1
    obtain ⟨k1, rfl, b1⟩ := nat_of (bounds_u16 w1)
    obtain ⟨z2, e2, _, w2⟩ := DataW.trod_int Try.underlying33 g2
    obtain ⟨k2, rfl, b2⟩ := nat_of (bounds_u32 w2)
    obtain ⟨z3, e3, _, w3⟩ := DataW.trod_int Try.underlying33 g3
    obtain ⟨k3, rfl, b3⟩ := nat_of (bounds_u32 w3)
    obtain ⟨z4, e4, _, w4⟩ := DataW.trod_int Try.underlying5 g4
    obtain ⟨k4, rfl, b4⟩ := nat_of (bounds_u8 w4)
    obtain ⟨z5, e5, _, w5⟩ := DataW.trod_int Try.underlying23 g5
    obtain ⟨k5, rfl, b5⟩ := nat_of (bounds_u16 w5)
    obtain ⟨z6, e6, _, w6⟩ := DataW.trod_int Try.underlying23 g6
    obtain ⟨k6, rfl, b6⟩ := nat_of (bounds_u16 w6)
    obtain ⟨z7, e7, _, w7⟩ := DataW.trod_int Try.underlying23 g7
    obtain ⟨k7, rfl, b7⟩ := nat_of (bounds_u16 w7)
    obtain ⟨A8, n8, s8, e8⟩ := slice_form Try.underlying22 g8
    obtain ⟨A9, n9, s9, e9⟩ := slice_form Try.underlying22 g9
    cases e0; cases e1; cases e2; cases e3; cases e4; cases e5; cases e6; cases e7; cases e8; cases e9
    exact ⟨k0, k1, k2, k3, k4, k5, k6, k7, A8, n8, s8, A9, n9, s9, rfl, ⟨by omega, by omega, by omega, by omega, by omega, by omega, by omega, by omega⟩, ⟨y8.1, y8.2, n, g8⟩, ⟨y9.1, y9.2, n, g9⟩⟩
end
set_option maxHeartbeats 2000000 in
theorem walk_no (xa xb xs xk xf xn xm xg : Int) (A1 A2 : Option Addr) (i c1 j c2 : Nat) (o l : List Int) (w : World) (hv : IsB o i (.slice A1 i c1) w) (hu : IsB l j (.slice A2 j c2) w) (h8 : ¬ (i ≤ 200 ∧ j ≤ 2000)) :
    Calls Try.prog 5 #[sg6 xa xb xs xk xf xn xm xg (.slice A1 i c1) (.slice A2 j c2)] w fun e w' => e = .returned (.bool true) ∧ Below w.heap.size w w' := by
  unfold sg6
  go_enter Try.func5, Try.ntmps5
  go_wp2_with fail
  have hg0 := Is.new w 35 #[.int .u16 xa, .int .u16 xb, .int .u32 xs, .int .u32 xk, .int .u8 xf, .int .u16 xn, .int .u16 xm, .int .u16 xg, .slice A1 i c1, .slice A2 j c2]
  have hb0 : Below w.heap.size w (w.alloc (.cells #[.int .u16 xa, .int .u16 xb, .int .u32 xs, .int .u32 xk, .int .u8 xf, .int .u16 xn, .int .u16 xm, .int .u16 xg, .slice A1 i c1, .slice A2 j c2] 35)) := (Below.refl _ _).alloc (Nat.le_refl _) _
  have hv0 := hv.st hb0; have hu0 := hu.st hb0
  clear hv hu
  generalize w.alloc (.cells #[.int .u16 xa, .int .u16 xb, .int .u32 xs, .int .u32 xk, .int .u8 xf, .int .u16 xn, .int .u16 xm, .int .u16 xg, .slice A1 i c1, .slice A2 j c2] 35) = W at *
  have a0 := hg0.cell 0
  have a1 := hg0.cell 1
  have a2 := hg0.cell 2
  have a3 := hg0.cell 3
  have a4 := hg0.cell 4
  have a5 := hg0.cell 5
  have a6 := hg0.cell 6
  have a7 := hg0.cell 7
  have a8 := hg0.cell 8
  have a9 := hg0.cell 9
  have af := hg0.lt
  simp at a0 a1 a2 a3 a4 a5 a6 a7 a8 a9
  have HG := hide hg0; have HV := hide hv0; have HU := hide hu0; have HB := Lib.hid hb0
  clear hg0 hv0 hu0 hb0
  refine (light_no xa xb xs xk xf xn xm xg A1 i c1 A2 j c2 _ h8).mono ?_
  rintro e w1 ⟨rfl, hb⟩
  have a9x := HG.out.below hb HG.out.lt
  have hv9 := HV.out.st hb; have hu9 := HU.out.st hb
  have hb9 := HB.out.trans (hb.mono HB.out.size)
  clear a0 a1 a2 a3 a4 a5 a6 a7 a8 a9 af hb HG HV HU HB
  have a0 := a9x.cell 0
  have a1 := a9x.cell 1
  have a2 := a9x.cell 2
  have a3 := a9x.cell 3
  have a4 := a9x.cell 4
  have a5 := a9x.cell 5
  have a6 := a9x.cell 6
  have a7 := a9x.cell 7
  have a8 := a9x.cell 8
  have a9 := a9x.cell 9
  have af := a9x.lt
  simp at a0 a1 a2 a3 a4 a5 a6 a7 a8 a9
  have HG := hide a9x
  clear a9x
  have HV := hide hv9; have HU := hide hu9; have HB := Lib.hid hb9
  clear hv9 hu9 hb9
  go_wp2_with fail
  refine (awake06 _).mono ?_
  rintro e w2 ⟨rfl, hb⟩
  have a9x := HG.out.below hb HG.out.lt
  have hv9 := HV.out.st hb; have hu9 := HU.out.st hb
  have hb9 := HB.out.trans (hb.mono HB.out.size)
  clear a0 a1 a2 a3 a4 a5 a6 a7 a8 a9 af hb HG HV HU HB
  have a0 := a9x.cell 0
  have a1 := a9x.cell 1
  have a2 := a9x.cell 2
  have a3 := a9x.cell 3
  have a4 := a9x.cell 4
  have a5 := a9x.cell 5
  have a6 := a9x.cell 6
  have a7 := a9x.cell 7
  have a8 := a9x.cell 8
  have a9 := a9x.cell 9
  have af := a9x.lt
  simp at a0 a1 a2 a3 a4 a5 a6 a7 a8 a9
  have HG := hide a9x
  clear a9x
  have HV := hide hv9; have HU := hide hu9; have HB := Lib.hid hb9
  clear hv9 hu9 hb9
  go_wp2_with fail
  go_ret
  exact ⟨rfl, HB.out⟩
set_option maxHeartbeats 8000000 in
theorem walk_bad (xa xb xs xk xf xn xm xg : Int) (A1 A2 : Option Addr) (i c1 j c2 : Nat) (o l : List Int) (w : World) (hv : IsB o i (.slice A1 i c1) w) (hu : IsB l j (.slice A2 j c2) w) (hi : i ≤ 200) (hj : j ≤ 2000) (hn : ¬ (i ≤ 40 ∧ i % 4 = 0)) :
    Calls Try.prog 5 #[sg6 xa xb xs xk xf xn xm xg (.slice A1 i c1) (.slice A2 j c2)] w fun e w' => e = .returned (.bool true) ∧ Below w.heap.size w w' := by
  have HN := Lib.hid hn
  clear hn
  unfold sg6
  go_enter Try.func5, Try.ntmps5
  go_wp2_with fail
  have hg0 := Is.new w 35 #[.int .u16 xa, .int .u16 xb, .int .u32 xs, .int .u32 xk, .int .u8 xf, .int .u16 xn, .int .u16 xm, .int .u16 xg, .slice A1 i c1, .slice A2 j c2]
  have hb0 : Below w.heap.size w (w.alloc (.cells #[.int .u16 xa, .int .u16 xb, .int .u32 xs, .int .u32 xk, .int .u8 xf, .int .u16 xn, .int .u16 xm, .int .u16 xg, .slice A1 i c1, .slice A2 j c2] 35)) := (Below.refl _ _).alloc (Nat.le_refl _) _
  have hv0 := hv.st hb0; have hu0 := hu.st hb0
  clear hv hu
  generalize w.alloc (.cells #[.int .u16 xa, .int .u16 xb, .int .u32 xs, .int .u32 xk, .int .u8 xf, .int .u16 xn, .int .u16 xm, .int .u16 xg, .slice A1 i c1, .slice A2 j c2] 35) = W at *
  have a0 := hg0.cell 0
  have a1 := hg0.cell 1
  have a2 := hg0.cell 2
  have a3 := hg0.cell 3
  have a4 := hg0.cell 4
  have a5 := hg0.cell 5
  have a6 := hg0.cell 6
  have a7 := hg0.cell 7
  have a8 := hg0.cell 8
  have a9 := hg0.cell 9
  have af := hg0.lt
  simp at a0 a1 a2 a3 a4 a5 a6 a7 a8 a9
  have HG := hide hg0; have HV := hide hv0; have HU := hide hu0; have HB := Lib.hid hb0
  clear hg0 hv0 hu0 hb0
  refine (light_yes xa xb xs xk xf xn xm xg A1 i c1 A2 j c2 _ (by omega) hj).mono ?_
  rintro e w1 ⟨rfl, hb⟩
  have a9x := HG.out.below hb HG.out.lt
  have hv9 := HV.out.st hb; have hu9 := HU.out.st hb
  have hb9 := HB.out.trans (hb.mono HB.out.size)
  clear a0 a1 a2 a3 a4 a5 a6 a7 a8 a9 af hb HG HV HU HB
  have a0 := a9x.cell 0
  have a1 := a9x.cell 1
  have a2 := a9x.cell 2
  have a3 := a9x.cell 3
  have a4 := a9x.cell 4
  have a5 := a9x.cell 5
  have a6 := a9x.cell 6
  have a7 := a9x.cell 7
  have a8 := a9x.cell 8
  have a9 := a9x.cell 9
  have af := a9x.lt
  simp at a0 a1 a2 a3 a4 a5 a6 a7 a8 a9
  have HG := hide a9x
  clear a9x
  have HV := hide hv9; have HU := hide hu9; have HB := Lib.hid hb9
  clear hv9 hu9 hb9
  go_wp2_with fail
  refine (to6 xa xb xs xk xf xn xm xg o l i j _ _ _ HV.out HU.out).mono ?_
  rintro e w2 ⟨rfl, hb⟩
  have a9x := HG.out.below hb HG.out.lt
  have hv9 := HV.out.st hb; have hu9 := HU.out.st hb
  have hb9 := HB.out.trans (hb.mono HB.out.size)
  clear a0 a1 a2 a3 a4 a5 a6 a7 a8 a9 af hb HG HV HU HB
  have a0 := a9x.cell 0
  have a1 := a9x.cell 1
  have a2 := a9x.cell 2
  have a3 := a9x.cell 3
  have a4 := a9x.cell 4
  have a5 := a9x.cell 5
  have a6 := a9x.cell 6
  have a7 := a9x.cell 7
  have a8 := a9x.cell 8
  have a9 := a9x.cell 9
  have af := a9x.lt
  simp at a0 a1 a2 a3 a4 a5 a6 a7 a8 a9
  have HG := hide a9x
  clear a9x
  have HV := hide hv9; have HU := hide hu9; have HB := Lib.hid hb9
  clear hv9 hu9 hb9
  unfold sg6
  go_wp2_with fail
  have hp0 := Is.new w2 41 #[.int .u16 xa, .int .u16 xb, .int .u32 xs, .int .u32 xk, .int .u8 xf, .int .u16 xn, .int .u16 xm, .int .u16 xg, .slice A1 i c1, .slice A2 j c2]
  have hb : Below w2.heap.size w2 (w2.alloc (.cells #[.int .u16 xa, .int .u16 xb, .int .u32 xs, .int .u32 xk, .int .u8 xf, .int .u16 xn, .int .u16 xm, .int .u16 xg, .slice A1 i c1, .slice A2 j c2] 41)) := (Below.refl _ _).alloc (Nat.le_refl _) _
  have hgx := HG.out.below hb HG.out.lt
  have hvx := HV.out.st hb; have hux := HU.out.st hb
  have hbx := HB.out.trans (hb.mono HB.out.size)
  clear a0 a1 a2 a3 a4 a5 a6 a7 a8 a9 af hb HG HV HU HB
  generalize w2.alloc (.cells #[.int .u16 xa, .int .u16 xb, .int .u32 xs, .int .u32 xk, .int .u8 xf, .int .u16 xn, .int .u16 xm, .int .u16 xg, .slice A1 i c1, .slice A2 j c2] 41) = W2 at *
  generalize w2.heap.size = p at *
  have a0 := hgx.cell 0
  have a1 := hgx.cell 1
  have a2 := hgx.cell 2
  have a3 := hgx.cell 3
  have a4 := hgx.cell 4
  have a5 := hgx.cell 5
  have a6 := hgx.cell 6
  have a7 := hgx.cell 7
  have a8 := hgx.cell 8
  have a9 := hgx.cell 9
  have af := hgx.lt
  simp at a0 a1 a2 a3 a4 a5 a6 a7 a8 a9
  have p0 := hp0.cell 0
  have p1 := hp0.cell 1
  have p2 := hp0.cell 2
  have p3 := hp0.cell 3
  have p4 := hp0.cell 4
  have p5 := hp0.cell 5
  have p6 := hp0.cell 6
  have p7 := hp0.cell 7
  have p8 := hp0.cell 8
  have p9 := hp0.cell 9
  have pf := hp0.lt
  simp at p0 p1 p2 p3 p4 p5 p6 p7 p8 p9
  have HG := hide hgx; have HP := hide hp0; have HV := hide hvx; have HU := hide hux; have HB := Lib.hid hbx
  clear hgx hp0 hvx hux hbx
  refine Lin.wp_region_lin Lin.keeps (n := 53)  (fun slotq => match slotq with | 12 => Lin.Spec.val (.agg #[.int .u16 xa, .int .u16 xb, .int .u32 xs, .int .u32 xk, .int .u8 xf, .int .u16 xn, .int .u16 xm, .int .u16 xg, .slice A1 i c1, .slice A2 j c2]) | 13 => Lin.Spec.val (.bool false) | 14 => Lin.Spec.val (.agg #[.int .u16 xa, .int .u16 xb, .int .u32 xs, .int .u32 xk, .int .u8 xf, .int .u16 xn, .int .u16 xm, .int .u16 xg, .slice A1 i c1, .slice A2 j c2]) | 15 => Lin.Spec.val (.bool false) | 16 => Lin.Spec.val (.bool false) | _ => Lin.Spec.any) (by kernel_rfl) rfl (by kernel_rfl) ⟨?_, ?_, ?_, ?_, ?_, trivial⟩ ?_
  · intro ρ wq hb ho hc hd
    have hC : ∀ v, ρ (.const v) = v := fun v => hc _ (by intro t e; cases e)
    have hF : ∀ f, ρ (.func f) = .func (.func f) #[] #[] := fun f => hc _ (by intro t e; cases e)
    have h3 : ρ (.tmp 3) = .pointer (some ⟨p, 0, none⟩) := ho 3 (by kernel_rfl)
    have m9x := HP.out.below hb HP.out.lt
    have m0 := m9x.cell 0
    have m1 := m9x.cell 1
    have m2 := m9x.cell 2
    have m3 := m9x.cell 3
    have m4 := m9x.cell 4
    have m5 := m9x.cell 5
    have m6 := m9x.cell 6
    have m7 := m9x.cell 7
    have m8 := m9x.cell 8
    have m9 := m9x.cell 9
    simp at m0 m1 m2 m3 m4 m5 m6 m7 m8 m9
    exact Lin.Runs.value Lin.keeps (v := .agg #[.int .u16 xa, .int .u16 xb, .int .u32 xs, .int .u32 xk, .int .u8 xf, .int .u16 xn, .int .u16 xm, .int .u16 xg, .slice A1 i c1, .slice A2 j c2]) (by simp [execOp, go_sem, hC, hF, h3, m0, m1, m2, m3, m4, m5, m6, m7, m8, m9]) rfl
  · intro ρ wq hb ho hc hd
    have hC : ∀ v, ρ (.const v) = v := fun v => hc _ (by intro t e; cases e)
    have hF : ∀ f, ρ (.func f) = .func (.func f) #[] #[] := fun f => hc _ (by intro t e; cases e)
    have h12 : ρ (.tmp 12) = .agg #[.int .u16 xa, .int .u16 xb, .int .u32 xs, .int .u32 xk, .int .u8 xf, .int .u16 xn, .int .u16 xm, .int .u16 xg, .slice A1 i c1, .slice A2 j c2] := hd 12 (by kernel_rfl)
    refine Lin.Runs.call Lin.keeps (f := 27) (args := #[.agg #[.int .u16 xa, .int .u16 xb, .int .u32 xs, .int .u32 xk, .int .u8 xf, .int .u16 xn, .int .u16 xm, .int .u16 xg, .slice A1 i c1, .slice A2 j c2]]) (by simp [execOp, go_sem, hC, hF, h12]) ?_
    exact (tright_no xa xb xs xk xf xn xm xg A1 i c1 A2 j c2 wq HN.out).mono fun e w9 ⟨he, hb9⟩ => ⟨_, he, hb9, rfl⟩
  · intro ρ wq hb ho hc hd
    have hC : ∀ v, ρ (.const v) = v := fun v => hc _ (by intro t e; cases e)
    have hF : ∀ f, ρ (.func f) = .func (.func f) #[] #[] := fun f => hc _ (by intro t e; cases e)
    have h1 : ρ (.tmp 1) = .pointer (some ⟨w.heap.size, 0, none⟩) := ho 1 (by kernel_rfl)
    have m9x := HG.out.below hb HG.out.lt
    have m0 := m9x.cell 0
    have m1 := m9x.cell 1
    have m2 := m9x.cell 2
    have m3 := m9x.cell 3
    have m4 := m9x.cell 4
    have m5 := m9x.cell 5
    have m6 := m9x.cell 6
    have m7 := m9x.cell 7
    have m8 := m9x.cell 8
    have m9 := m9x.cell 9
    simp at m0 m1 m2 m3 m4 m5 m6 m7 m8 m9
    exact Lin.Runs.value Lin.keeps (v := .agg #[.int .u16 xa, .int .u16 xb, .int .u32 xs, .int .u32 xk, .int .u8 xf, .int .u16 xn, .int .u16 xm, .int .u16 xg, .slice A1 i c1, .slice A2 j c2]) (by simp [execOp, go_sem, hC, hF, h1, m0, m1, m2, m3, m4, m5, m6, m7, m8, m9]) rfl
  · intro ρ wq hb ho hc hd
    have hC : ∀ v, ρ (.const v) = v := fun v => hc _ (by intro t e; cases e)
    have hF : ∀ f, ρ (.func f) = .func (.func f) #[] #[] := fun f => hc _ (by intro t e; cases e)
    have h14 : ρ (.tmp 14) = .agg #[.int .u16 xa, .int .u16 xb, .int .u32 xs, .int .u32 xk, .int .u8 xf, .int .u16 xn, .int .u16 xm, .int .u16 xg, .slice A1 i c1, .slice A2 j c2] := hd 14 (by kernel_rfl)
    refine Lin.Runs.call Lin.keeps (f := 28) (args := #[.agg #[.int .u16 xa, .int .u16 xb, .int .u32 xs, .int .u32 xk, .int .u8 xf, .int .u16 xn, .int .u16 xm, .int .u16 xg, .slice A1 i c1, .slice A2 j c2]]) (by simp [execOp, go_sem, hC, hF, h14]) ?_
    exact (rright_no xa xb xs xk xf xn xm xg A1 i c1 A2 j c2 wq HN.out).mono fun e w9 ⟨he, hb9⟩ => ⟨_, he, hb9, rfl⟩
  · intro ρ wq hb ho hc hd
    have hC : ∀ v, ρ (.const v) = v := fun v => hc _ (by intro t e; cases e)
    have hF : ∀ f, ρ (.func f) = .func (.func f) #[] #[] := fun f => hc _ (by intro t e; cases e)
    have h13 : ρ (.tmp 13) = .bool false := hd 13 (by kernel_rfl)
    have h15 : ρ (.tmp 15) = .bool false := hd 15 (by kernel_rfl)
    exact Lin.Runs.value Lin.keeps (v := .bool false) (by simp [execOp, go_sem, hC, hF, h13, h15]) rfl
  · intro vals w9 hb hv9
    have e16 : vals 16 = .bool false := hv9 16 (by kernel_rfl)
    simp only [Lin.putAll, Option.getD_some]
    rw [e16]
    clear hv9 e16
    have a9x := HG.out.below hb HG.out.lt
    have p9x := HP.out.below hb HP.out.lt
    have hv9 := HV.out.st hb; have hu9 := HU.out.st hb
    have hb9 := HB.out.trans (hb.mono HB.out.size)
    clear a0 a1 a2 a3 a4 a5 a6 a7 a8 a9 af p0 p1 p2 p3 p4 p5 p6 p7 p8 p9 pf hb HG HP HV HU HB
    have a0 := a9x.cell 0
    have a1 := a9x.cell 1
    have a2 := a9x.cell 2
    have a3 := a9x.cell 3
    have a4 := a9x.cell 4
    have a5 := a9x.cell 5
    have a6 := a9x.cell 6
    have a7 := a9x.cell 7
    have a8 := a9x.cell 8
    have a9 := a9x.cell 9
    have af := a9x.lt
    simp at a0 a1 a2 a3 a4 a5 a6 a7 a8 a9
    have HG := hide a9x
    clear a9x
    have p0 := p9x.cell 0
    have p1 := p9x.cell 1
    have p2 := p9x.cell 2
    have p3 := p9x.cell 3
    have p4 := p9x.cell 4
    have p5 := p9x.cell 5
    have p6 := p9x.cell 6
    have p7 := p9x.cell 7
    have p8 := p9x.cell 8
    have p9 := p9x.cell 9
    have pf := p9x.lt
    simp at p0 p1 p2 p3 p4 p5 p6 p7 p8 p9
    have HP := hide p9x
    clear p9x
    have HV := hide hv9; have HU := hide hu9; have HB := Lib.hid hb9
    clear hv9 hu9 hb9
    go_simp
    generalize vals = vv
    go_wp2_with fail
    refine (rright_no xa xb xs xk xf xn xm xg A1 i c1 A2 j c2 _ HN.out).mono ?_
    rintro e w6 ⟨rfl, hb⟩
    have a9x := HG.out.below hb HG.out.lt
    have p9x := HP.out.below hb HP.out.lt
    have hv9 := HV.out.st hb; have hu9 := HU.out.st hb
    have hb9 := HB.out.trans (hb.mono HB.out.size)
    clear a0 a1 a2 a3 a4 a5 a6 a7 a8 a9 af p0 p1 p2 p3 p4 p5 p6 p7 p8 p9 pf hb HG HP HV HU HB
    have a0 := a9x.cell 0
    have a1 := a9x.cell 1
    have a2 := a9x.cell 2
    have a3 := a9x.cell 3
    have a4 := a9x.cell 4
    have a5 := a9x.cell 5
    have a6 := a9x.cell 6
    have a7 := a9x.cell 7
    have a8 := a9x.cell 8
    have a9 := a9x.cell 9
    have af := a9x.lt
    simp at a0 a1 a2 a3 a4 a5 a6 a7 a8 a9
    have HG := hide a9x
    clear a9x
    have p0 := p9x.cell 0
    have p1 := p9x.cell 1
    have p2 := p9x.cell 2
    have p3 := p9x.cell 3
    have p4 := p9x.cell 4
    have p5 := p9x.cell 5
    have p6 := p9x.cell 6
    have p7 := p9x.cell 7
    have p8 := p9x.cell 8
    have p9 := p9x.cell 9
    have pf := p9x.lt
    simp at p0 p1 p2 p3 p4 p5 p6 p7 p8 p9
    have HP := hide p9x
    clear p9x
    have HV := hide hv9; have HU := hide hu9; have HB := Lib.hid hb9
    clear hv9 hu9 hb9
    go_wp2_with fail
    refine (tbytes_no xa xb xs xk xf xn xm xg A1 i c1 A2 j c2 _ HN.out).mono ?_
    rintro e w7 ⟨rfl, hb⟩
    have a9x := HG.out.below hb HG.out.lt
    have p9x := HP.out.below hb HP.out.lt
    have hv9 := HV.out.st hb; have hu9 := HU.out.st hb
    have hb9 := HB.out.trans (hb.mono HB.out.size)
    clear a0 a1 a2 a3 a4 a5 a6 a7 a8 a9 af p0 p1 p2 p3 p4 p5 p6 p7 p8 p9 pf hb HG HP HV HU HB
    have a0 := a9x.cell 0
    have a1 := a9x.cell 1
    have a2 := a9x.cell 2
    have a3 := a9x.cell 3
    have a4 := a9x.cell 4
    have a5 := a9x.cell 5
    have a6 := a9x.cell 6
    have a7 := a9x.cell 7
    have a8 := a9x.cell 8
    have a9 := a9x.cell 9
    have af := a9x.lt
    simp at a0 a1 a2 a3 a4 a5 a6 a7 a8 a9
    have HG := hide a9x
    clear a9x
    have p0 := p9x.cell 0
    have p1 := p9x.cell 1
    have p2 := p9x.cell 2
    have p3 := p9x.cell 3
    have p4 := p9x.cell 4
    have p5 := p9x.cell 5
    have p6 := p9x.cell 6
    have p7 := p9x.cell 7
    have p8 := p9x.cell 8
    have p9 := p9x.cell 9
    have pf := p9x.lt
    simp at p0 p1 p2 p3 p4 p5 p6 p7 p8 p9
    have HP := hide p9x
    clear p9x
    have HV := hide hv9; have HU := hide hu9; have HB := Lib.hid hb9
    clear hv9 hu9 hb9
    go_wp2_with fail
    refine (awake06 _).mono ?_
    rintro e w8 ⟨rfl, hb⟩
    have HB9 := Lib.hid (HB.out.trans (hb.mono HB.out.size))
    clear hb
    go_wp2_with fail
    go_ret
    exact ⟨rfl, HB9.out⟩
set_option maxHeartbeats 8000000 in
theorem walk_yes (xa xb xs xk xf xn xm xg : Nat) (A1 A2 : Option Addr) (i c1 j c2 : Nat) (o l : List Int) (w : World) (hv : IsB o i (.slice A1 i c1) w) (hu : IsB l j (.slice A2 j c2) w) (m : Nat) (hi : i = 4 * m) (hm : m ≤ 10) (hj : j ≤ 2000) (ba : xa ≤ 65535) (bb : xb ≤ 65535) (bs : xs ≤ 4294967295) (bk : xk ≤ 4294967295) (bf : xf ≤ 255) (bn : xn ≤ 65535) (bm : xm ≤ 65535) (bg : xg ≤ 65535) (oo : Octets o) (ol : Octets l) :
    Calls Try.prog 5 #[sg6 xa xb xs xk xf xn xm xg (.slice A1 i c1) (.slice A2 j c2)] w fun e w' => e = .returned (.bool true) ∧ Below w.heap.size w w' := by
  have HM4 := Lib.hid hi
  have hi40 : i ≤ 40 := by omega
  have HO1 := Lib.hid (show o.length = i from by obtain ⟨_, _, _, e, _⟩ := hv; exact e)
  have HO2 := Lib.hid (show l.length = j from by obtain ⟨_, _, _, e, _⟩ := hu; exact e)
  have HOO := hide oo; have HOL := hide ol
  clear hi oo ol
  unfold sg6
  go_enter Try.func5, Try.ntmps5
  go_wp2_with fail
  have hg0 := Is.new w 35 #[.int .u16 xa, .int .u16 xb, .int .u32 xs, .int .u32 xk, .int .u8 xf, .int .u16 xn, .int .u16 xm, .int .u16 xg, .slice A1 i c1, .slice A2 j c2]
  have hb0 : Below w.heap.size w (w.alloc (.cells #[.int .u16 xa, .int .u16 xb, .int .u32 xs, .int .u32 xk, .int .u8 xf, .int .u16 xn, .int .u16 xm, .int .u16 xg, .slice A1 i c1, .slice A2 j c2] 35)) := (Below.refl _ _).alloc (Nat.le_refl _) _
  have hv0 := hv.st hb0; have hu0 := hu.st hb0
  clear hv hu
  generalize w.alloc (.cells #[.int .u16 xa, .int .u16 xb, .int .u32 xs, .int .u32 xk, .int .u8 xf, .int .u16 xn, .int .u16 xm, .int .u16 xg, .slice A1 i c1, .slice A2 j c2] 35) = W at *
  have a0 := hg0.cell 0
  have a1 := hg0.cell 1
  have a2 := hg0.cell 2
  have a3 := hg0.cell 3
  have a4 := hg0.cell 4
  have a5 := hg0.cell 5
  have a6 := hg0.cell 6
  have a7 := hg0.cell 7
  have a8 := hg0.cell 8
  have a9 := hg0.cell 9
  have af := hg0.lt
  simp at a0 a1 a2 a3 a4 a5 a6 a7 a8 a9
  have HG := hide hg0; have HV := hide hv0; have HU := hide hu0; have HB := Lib.hid hb0
  clear hg0 hv0 hu0 hb0
  refine (light_yes xa xb xs xk xf xn xm xg A1 i c1 A2 j c2 _ (by omega) hj).mono ?_
  rintro e w1 ⟨rfl, hb⟩
  have a9x := HG.out.below hb HG.out.lt
  have hv9 := HV.out.st hb; have hu9 := HU.out.st hb
  have hb9 := HB.out.trans (hb.mono HB.out.size)
  clear a0 a1 a2 a3 a4 a5 a6 a7 a8 a9 af hb HG HV HU HB
  have a0 := a9x.cell 0
  have a1 := a9x.cell 1
  have a2 := a9x.cell 2
  have a3 := a9x.cell 3
  have a4 := a9x.cell 4
  have a5 := a9x.cell 5
  have a6 := a9x.cell 6
  have a7 := a9x.cell 7
  have a8 := a9x.cell 8
  have a9 := a9x.cell 9
  have af := a9x.lt
  simp at a0 a1 a2 a3 a4 a5 a6 a7 a8 a9
  have HG := hide a9x
  clear a9x
  have HV := hide hv9; have HU := hide hu9; have HB := Lib.hid hb9
  clear hv9 hu9 hb9
  go_wp2_with fail
  refine (to6 xa xb xs xk xf xn xm xg o l i j _ _ _ HV.out HU.out).mono ?_
  rintro e w2 ⟨rfl, hb⟩
  have a9x := HG.out.below hb HG.out.lt
  have hv9 := HV.out.st hb; have hu9 := HU.out.st hb
  have hb9 := HB.out.trans (hb.mono HB.out.size)
  clear a0 a1 a2 a3 a4 a5 a6 a7 a8 a9 af hb HG HV HU HB
  have a0 := a9x.cell 0
  have a1 := a9x.cell 1
  have a2 := a9x.cell 2
  have a3 := a9x.cell 3
  have a4 := a9x.cell 4
  have a5 := a9x.cell 5
  have a6 := a9x.cell 6
  have a7 := a9x.cell 7
  have a8 := a9x.cell 8
  have a9 := a9x.cell 9
  have af := a9x.lt
  simp at a0 a1 a2 a3 a4 a5 a6 a7 a8 a9
  have HG := hide a9x
  clear a9x
  have HV := hide hv9; have HU := hide hu9; have HB := Lib.hid hb9
  clear hv9 hu9 hb9
  unfold sg6
  go_wp2_with fail
  have hp0 := Is.new w2 41 #[.int .u16 xa, .int .u16 xb, .int .u32 xs, .int .u32 xk, .int .u8 xf, .int .u16 xn, .int .u16 xm, .int .u16 xg, .slice A1 i c1, .slice A2 j c2]
  have hb : Below w2.heap.size w2 (w2.alloc (.cells #[.int .u16 xa, .int .u16 xb, .int .u32 xs, .int .u32 xk, .int .u8 xf, .int .u16 xn, .int .u16 xm, .int .u16 xg, .slice A1 i c1, .slice A2 j c2] 41)) := (Below.refl _ _).alloc (Nat.le_refl _) _
  have hgx := HG.out.below hb HG.out.lt
  have hvx := HV.out.st hb; have hux := HU.out.st hb
  have hbx := HB.out.trans (hb.mono HB.out.size)
  clear a0 a1 a2 a3 a4 a5 a6 a7 a8 a9 af hb HG HV HU HB
  generalize w2.alloc (.cells #[.int .u16 xa, .int .u16 xb, .int .u32 xs, .int .u32 xk, .int .u8 xf, .int .u16 xn, .int .u16 xm, .int .u16 xg, .slice A1 i c1, .slice A2 j c2] 41) = W2 at *
  generalize w2.heap.size = p at *
  have a0 := hgx.cell 0
  have a1 := hgx.cell 1
  have a2 := hgx.cell 2
  have a3 := hgx.cell 3
  have a4 := hgx.cell 4
  have a5 := hgx.cell 5
  have a6 := hgx.cell 6
  have a7 := hgx.cell 7
  have a8 := hgx.cell 8
  have a9 := hgx.cell 9
  have af := hgx.lt
  simp at a0 a1 a2 a3 a4 a5 a6 a7 a8 a9
  have p0 := hp0.cell 0
  have p1 := hp0.cell 1
  have p2 := hp0.cell 2
  have p3 := hp0.cell 3
  have p4 := hp0.cell 4
  have p5 := hp0.cell 5
  have p6 := hp0.cell 6
  have p7 := hp0.cell 7
  have p8 := hp0.cell 8
  have p9 := hp0.cell 9
  have pf := hp0.lt
  simp at p0 p1 p2 p3 p4 p5 p6 p7 p8 p9
  have HG := hide hgx; have HP := hide hp0; have HV := hide hvx; have HU := hide hux; have HB := Lib.hid hbx
  clear hgx hp0 hvx hux hbx
  refine Lin.wp_region_lin Lin.keeps (n := 53)  (fun slotq => match slotq with | 12 => Lin.Spec.val (.agg #[.int .u16 xa, .int .u16 xb, .int .u32 xs, .int .u32 xk, .int .u8 xf, .int .u16 xn, .int .u16 xm, .int .u16 xg, .slice A1 i c1, .slice A2 j c2]) | 13 => Lin.Spec.val (.bool true) | 14 => Lin.Spec.val (.agg #[.int .u16 xa, .int .u16 xb, .int .u32 xs, .int .u32 xk, .int .u8 xf, .int .u16 xn, .int .u16 xm, .int .u16 xg, .slice A1 i c1, .slice A2 j c2]) | 15 => Lin.Spec.val (.bool true) | 16 => Lin.Spec.val (.bool false) | _ => Lin.Spec.any) (by kernel_rfl) rfl (by kernel_rfl) ⟨?_, ?_, ?_, ?_, ?_, trivial⟩ ?_
  · intro ρ wq hb ho hc hd
    have hC : ∀ v, ρ (.const v) = v := fun v => hc _ (by intro t e; cases e)
    have hF : ∀ f, ρ (.func f) = .func (.func f) #[] #[] := fun f => hc _ (by intro t e; cases e)
    have h3 : ρ (.tmp 3) = .pointer (some ⟨p, 0, none⟩) := ho 3 (by kernel_rfl)
    have m9x := HP.out.below hb HP.out.lt
    have m0 := m9x.cell 0
    have m1 := m9x.cell 1
    have m2 := m9x.cell 2
    have m3 := m9x.cell 3
    have m4 := m9x.cell 4
    have m5 := m9x.cell 5
    have m6 := m9x.cell 6
    have m7 := m9x.cell 7
    have m8 := m9x.cell 8
    have m9 := m9x.cell 9
    simp at m0 m1 m2 m3 m4 m5 m6 m7 m8 m9
    exact Lin.Runs.value Lin.keeps (v := .agg #[.int .u16 xa, .int .u16 xb, .int .u32 xs, .int .u32 xk, .int .u8 xf, .int .u16 xn, .int .u16 xm, .int .u16 xg, .slice A1 i c1, .slice A2 j c2]) (by simp [execOp, go_sem, hC, hF, h3, m0, m1, m2, m3, m4, m5, m6, m7, m8, m9]) rfl
  · intro ρ wq hb ho hc hd
    have hC : ∀ v, ρ (.const v) = v := fun v => hc _ (by intro t e; cases e)
    have hF : ∀ f, ρ (.func f) = .func (.func f) #[] #[] := fun f => hc _ (by intro t e; cases e)
    have h12 : ρ (.tmp 12) = .agg #[.int .u16 xa, .int .u16 xb, .int .u32 xs, .int .u32 xk, .int .u8 xf, .int .u16 xn, .int .u16 xm, .int .u16 xg, .slice A1 i c1, .slice A2 j c2] := hd 12 (by kernel_rfl)
    refine Lin.Runs.call Lin.keeps (f := 27) (args := #[.agg #[.int .u16 xa, .int .u16 xb, .int .u32 xs, .int .u32 xk, .int .u8 xf, .int .u16 xn, .int .u16 xm, .int .u16 xg, .slice A1 i c1, .slice A2 j c2]]) (by simp [execOp, go_sem, hC, hF, h12]) ?_
    exact (tright_yes xa xb xs xk xf xn xm xg A1 i c1 A2 j c2 wq m HM4.out hm hj).mono fun e w9 ⟨he, hb9⟩ => ⟨_, he, hb9, rfl⟩
  · intro ρ wq hb ho hc hd
    have hC : ∀ v, ρ (.const v) = v := fun v => hc _ (by intro t e; cases e)
    have hF : ∀ f, ρ (.func f) = .func (.func f) #[] #[] := fun f => hc _ (by intro t e; cases e)
    have h1 : ρ (.tmp 1) = .pointer (some ⟨w.heap.size, 0, none⟩) := ho 1 (by kernel_rfl)
    have m9x := HG.out.below hb HG.out.lt
    have m0 := m9x.cell 0
    have m1 := m9x.cell 1
    have m2 := m9x.cell 2
    have m3 := m9x.cell 3
    have m4 := m9x.cell 4
    have m5 := m9x.cell 5
    have m6 := m9x.cell 6
    have m7 := m9x.cell 7
    have m8 := m9x.cell 8
    have m9 := m9x.cell 9
    simp at m0 m1 m2 m3 m4 m5 m6 m7 m8 m9
    exact Lin.Runs.value Lin.keeps (v := .agg #[.int .u16 xa, .int .u16 xb, .int .u32 xs, .int .u32 xk, .int .u8 xf, .int .u16 xn, .int .u16 xm, .int .u16 xg, .slice A1 i c1, .slice A2 j c2]) (by simp [execOp, go_sem, hC, hF, h1, m0, m1, m2, m3, m4, m5, m6, m7, m8, m9]) rfl
  · intro ρ wq hb ho hc hd
    have hC : ∀ v, ρ (.const v) = v := fun v => hc _ (by intro t e; cases e)
    have hF : ∀ f, ρ (.func f) = .func (.func f) #[] #[] := fun f => hc _ (by intro t e; cases e)
    have h14 : ρ (.tmp 14) = .agg #[.int .u16 xa, .int .u16 xb, .int .u32 xs, .int .u32 xk, .int .u8 xf, .int .u16 xn, .int .u16 xm, .int .u16 xg, .slice A1 i c1, .slice A2 j c2] := hd 14 (by kernel_rfl)
    refine Lin.Runs.call Lin.keeps (f := 28) (args := #[.agg #[.int .u16 xa, .int .u16 xb, .int .u32 xs, .int .u32 xk, .int .u8 xf, .int .u16 xn, .int .u16 xm, .int .u16 xg, .slice A1 i c1, .slice A2 j c2]]) (by simp [execOp, go_sem, hC, hF, h14]) ?_
    exact (rright_yes xa xb xs xk xf xn xm xg A1 i c1 A2 j c2 wq m HM4.out hm hj).mono fun e w9 ⟨he, hb9⟩ => ⟨_, he, hb9, rfl⟩
  · intro ρ wq hb ho hc hd
    have hC : ∀ v, ρ (.const v) = v := fun v => hc _ (by intro t e; cases e)
    have hF : ∀ f, ρ (.func f) = .func (.func f) #[] #[] := fun f => hc _ (by intro t e; cases e)
    have h13 : ρ (.tmp 13) = .bool true := hd 13 (by kernel_rfl)
    have h15 : ρ (.tmp 15) = .bool true := hd 15 (by kernel_rfl)
    exact Lin.Runs.value Lin.keeps (v := .bool false) (by simp [execOp, go_sem, hC, hF, h13, h15]) rfl
  · intro vals w9 hb hv9
    have e16 : vals 16 = .bool false := hv9 16 (by kernel_rfl)
    simp only [Lin.putAll, Option.getD_some]
    rw [e16]
    clear hv9 e16
    have a9x := HG.out.below hb HG.out.lt
    have p9x := HP.out.below hb HP.out.lt
    have hv9 := HV.out.st hb; have hu9 := HU.out.st hb
    have hb9 := HB.out.trans (hb.mono HB.out.size)
    clear a0 a1 a2 a3 a4 a5 a6 a7 a8 a9 af p0 p1 p2 p3 p4 p5 p6 p7 p8 p9 pf hb HG HP HV HU HB
    have a0 := a9x.cell 0
    have a1 := a9x.cell 1
    have a2 := a9x.cell 2
    have a3 := a9x.cell 3
    have a4 := a9x.cell 4
    have a5 := a9x.cell 5
    have a6 := a9x.cell 6
    have a7 := a9x.cell 7
    have a8 := a9x.cell 8
    have a9 := a9x.cell 9
    have af := a9x.lt
    simp at a0 a1 a2 a3 a4 a5 a6 a7 a8 a9
    have HG := hide a9x
    clear a9x
    have p0 := p9x.cell 0
    have p1 := p9x.cell 1
    have p2 := p9x.cell 2
    have p3 := p9x.cell 3
    have p4 := p9x.cell 4
    have p5 := p9x.cell 5
    have p6 := p9x.cell 6
    have p7 := p9x.cell 7
    have p8 := p9x.cell 8
    have p9 := p9x.cell 9
    have pf := p9x.lt
    simp at p0 p1 p2 p3 p4 p5 p6 p7 p8 p9
    have HP := hide p9x
    clear p9x
    have HV := hide hv9; have HU := hide hu9; have HB := Lib.hid hb9
    clear hv9 hu9 hb9
    go_simp
    generalize vals = vv
    go_wp2_with fail
    refine (rright_yes xa xb xs xk xf xn xm xg A1 i c1 A2 j c2 _ m HM4.out hm hj).mono ?_
    rintro e w6 ⟨rfl, hb⟩
    have a9x := HG.out.below hb HG.out.lt
    have p9x := HP.out.below hb HP.out.lt
    have hv9 := HV.out.st hb; have hu9 := HU.out.st hb
    have hb9 := HB.out.trans (hb.mono HB.out.size)
    clear a0 a1 a2 a3 a4 a5 a6 a7 a8 a9 af p0 p1 p2 p3 p4 p5 p6 p7 p8 p9 pf hb HG HP HV HU HB
    have a0 := a9x.cell 0
    have a1 := a9x.cell 1
    have a2 := a9x.cell 2
    have a3 := a9x.cell 3
    have a4 := a9x.cell 4
    have a5 := a9x.cell 5
    have a6 := a9x.cell 6
    have a7 := a9x.cell 7
    have a8 := a9x.cell 8
    have a9 := a9x.cell 9
    have af := a9x.lt
    simp at a0 a1 a2 a3 a4 a5 a6 a7 a8 a9
    have HG := hide a9x
    clear a9x
    have p0 := p9x.cell 0
    have p1 := p9x.cell 1
    have p2 := p9x.cell 2
    have p3 := p9x.cell 3
    have p4 := p9x.cell 4
    have p5 := p9x.cell 5
    have p6 := p9x.cell 6
    have p7 := p9x.cell 7
    have p8 := p9x.cell 8
    have p9 := p9x.cell 9
    have pf := p9x.lt
    simp at p0 p1 p2 p3 p4 p5 p6 p7 p8 p9
    have HP := hide p9x
    clear p9x
    have HV := hide hv9; have HU := hide hu9; have HB := Lib.hid hb9
    clear hv9 hu9 hb9
    go_wp2_with fail
    refine (tbytes_yes xa xb xs xk xf xn xm xg o l A1 i c1 A2 j c2 _ m HM4.out hm hj ba bb bs bk bf bn bm bg HV.out HU.out).mono ?_
    rintro e w7 ⟨A7, c7, rfl, ho7, hb⟩
    have HL7 := hide (IsB.own ho7)
    clear ho7
    have a9x := HG.out.below hb HG.out.lt
    have p9x := HP.out.below hb HP.out.lt
    have hv9 := HV.out.st hb; have hu9 := HU.out.st hb
    have hb9 := HB.out.trans (hb.mono HB.out.size)
    clear a0 a1 a2 a3 a4 a5 a6 a7 a8 a9 af p0 p1 p2 p3 p4 p5 p6 p7 p8 p9 pf hb HG HP HV HU HB
    have a0 := a9x.cell 0
    have a1 := a9x.cell 1
    have a2 := a9x.cell 2
    have a3 := a9x.cell 3
    have a4 := a9x.cell 4
    have a5 := a9x.cell 5
    have a6 := a9x.cell 6
    have a7 := a9x.cell 7
    have a8 := a9x.cell 8
    have a9 := a9x.cell 9
    have af := a9x.lt
    simp at a0 a1 a2 a3 a4 a5 a6 a7 a8 a9
    have HG := hide a9x
    clear a9x
    have p0 := p9x.cell 0
    have p1 := p9x.cell 1
    have p2 := p9x.cell 2
    have p3 := p9x.cell 3
    have p4 := p9x.cell 4
    have p5 := p9x.cell 5
    have p6 := p9x.cell 6
    have p7 := p9x.cell 7
    have p8 := p9x.cell 8
    have p9 := p9x.cell 9
    have pf := p9x.lt
    simp at p0 p1 p2 p3 p4 p5 p6 p7 p8 p9
    have HP := hide p9x
    clear p9x
    have HV := hide hv9; have HU := hide hu9; have HB := Lib.hid hb9
    clear hv9 hu9 hb9
    go_wp2_with fail
    refine (parse_back xa xb xs xk xf xn xm xg o l i j m _ _ HM4.out hm hj ba bb bs bk bf bn bm bg HO1.out HO2.out HOO.out HOL.out HL7.out).mono ?_
    rintro e w8 ⟨v5, u5, rfl, hb, hv5, hu5⟩
    obtain ⟨A5, c5, rfl⟩ := hv5.shape
    obtain ⟨A6, c6, rfl⟩ := hu5.shape
    have HV50 := hide hv5; have HU50 := hide hu5
    clear hv5 hu5 HL7
    have a9x := HG.out.below hb HG.out.lt
    have p9x := HP.out.below hb HP.out.lt
    have hv9 := HV.out.st hb; have hu9 := HU.out.st hb
    have hb9 := HB.out.trans (hb.mono HB.out.size)
    clear a0 a1 a2 a3 a4 a5 a6 a7 a8 a9 af p0 p1 p2 p3 p4 p5 p6 p7 p8 p9 pf hb HG HP HV HU HB
    have a0 := a9x.cell 0
    have a1 := a9x.cell 1
    have a2 := a9x.cell 2
    have a3 := a9x.cell 3
    have a4 := a9x.cell 4
    have a5 := a9x.cell 5
    have a6 := a9x.cell 6
    have a7 := a9x.cell 7
    have a8 := a9x.cell 8
    have a9 := a9x.cell 9
    have af := a9x.lt
    simp at a0 a1 a2 a3 a4 a5 a6 a7 a8 a9
    have HG := hide a9x
    clear a9x
    have p0 := p9x.cell 0
    have p1 := p9x.cell 1
    have p2 := p9x.cell 2
    have p3 := p9x.cell 3
    have p4 := p9x.cell 4
    have p5 := p9x.cell 5
    have p6 := p9x.cell 6
    have p7 := p9x.cell 7
    have p8 := p9x.cell 8
    have p9 := p9x.cell 9
    have pf := p9x.lt
    simp at p0 p1 p2 p3 p4 p5 p6 p7 p8 p9
    have HP := hide p9x
    clear p9x
    have HV := hide hv9; have HU := hide hu9; have HB := Lib.hid hb9
    clear hv9 hu9 hb9
    unfold sg6
    go_wp2_with fail
    have hq0 := Is.new w8 41 #[.int .u16 xa, .int .u16 xb, .int .u32 xs, .int .u32 xk, .int .u8 xf, .int .u16 xn, .int .u16 xm, .int .u16 xg, .slice A5 i c5, .slice A6 j c6]
    have hb : Below w8.heap.size w8 (w8.alloc (.cells #[.int .u16 xa, .int .u16 xb, .int .u32 xs, .int .u32 xk, .int .u8 xf, .int .u16 xn, .int .u16 xm, .int .u16 xg, .slice A5 i c5, .slice A6 j c6] 41)) := (Below.refl _ _).alloc (Nat.le_refl _) _
    have HV5 := hide (HV50.out.st hb); have HU5 := hide (HU50.out.st hb)
    clear HV50 HU50
    generalize w8.alloc (.cells #[.int .u16 xa, .int .u16 xb, .int .u32 xs, .int .u32 xk, .int .u8 xf, .int .u16 xn, .int .u16 xm, .int .u16 xg, .slice A5 i c5, .slice A6 j c6] 41) = W8 at *
    have HQ := hide hq0
    clear hq0
    have hgx := HG.out.below hb HG.out.lt
    have hpx := HP.out.below hb HP.out.lt
    have hvx := HV.out.st hb; have hux := HU.out.st hb
    have hbx := HB.out.trans (hb.mono HB.out.size)
    clear a0 a1 a2 a3 a4 a5 a6 a7 a8 a9 af p0 p1 p2 p3 p4 p5 p6 p7 p8 p9 pf hb HG HP HV HU HB
    generalize w8.heap.size = q at *
    have a0 := hgx.cell 0
    have a1 := hgx.cell 1
    have a2 := hgx.cell 2
    have a3 := hgx.cell 3
    have a4 := hgx.cell 4
    have a5 := hgx.cell 5
    have a6 := hgx.cell 6
    have a7 := hgx.cell 7
    have a8 := hgx.cell 8
    have a9 := hgx.cell 9
    have af := hgx.lt
    simp at a0 a1 a2 a3 a4 a5 a6 a7 a8 a9
    have p0 := hpx.cell 0
    have p1 := hpx.cell 1
    have p2 := hpx.cell 2
    have p3 := hpx.cell 3
    have p4 := hpx.cell 4
    have p5 := hpx.cell 5
    have p6 := hpx.cell 6
    have p7 := hpx.cell 7
    have p8 := hpx.cell 8
    have p9 := hpx.cell 9
    have pf := hpx.lt
    simp at p0 p1 p2 p3 p4 p5 p6 p7 p8 p9
    have q0 := HQ.out.cell 0
    have q1 := HQ.out.cell 1
    have q2 := HQ.out.cell 2
    have q3 := HQ.out.cell 3
    have q4 := HQ.out.cell 4
    have q5 := HQ.out.cell 5
    have q6 := HQ.out.cell 6
    have q7 := HQ.out.cell 7
    have q8 := HQ.out.cell 8
    have q9 := HQ.out.cell 9
    have qf := HQ.out.lt
    simp at q0 q1 q2 q3 q4 q5 q6 q7 q8 q9
    have HG := hide hgx; have HP := hide hpx; have HV := hide hvx; have HU := hide hux; have HB := Lib.hid hbx
    clear hgx hpx hvx hux hbx
    refine Lin.wp_region_lin Lin.keeps (n := 53)  (fun slotq => match slotq with | 33 => Lin.Spec.val (.agg #[.int .u16 xa, .int .u16 xb, .int .u32 xs, .int .u32 xk, .int .u8 xf, .int .u16 xn, .int .u16 xm, .int .u16 xg, .slice A1 i c1, .slice A2 j c2]) | 34 => Lin.Spec.sl (hd6 xa xb xs xk xf xn xm xg m ++ o ++ l) (20 + i + j) | 35 => Lin.Spec.val (.string (strOfNums (hd6 xa xb xs xk xf xn xm xg m ++ o ++ l))) | 36 => Lin.Spec.val (.agg #[.int .u16 xa, .int .u16 xb, .int .u32 xs, .int .u32 xk, .int .u8 xf, .int .u16 xn, .int .u16 xm, .int .u16 xg, .slice A1 i c1, .slice A2 j c2]) | 37 => Lin.Spec.sl (hd6 xa xb xs xk xf xn xm xg m ++ o ++ l) (20 + i + j) | 38 => Lin.Spec.val (.string (strOfNums (hd6 xa xb xs xk xf xn xm xg m ++ o ++ l))) | 39 => Lin.Spec.val (.bool true) | 40 => Lin.Spec.val (.bool true) | 41 => Lin.Spec.val (.agg #[.int .u16 xa, .int .u16 xb, .int .u32 xs, .int .u32 xk, .int .u8 xf, .int .u16 xn, .int .u16 xm, .int .u16 xg, .slice A5 i c5, .slice A6 j c6]) | 42 => specS xa xb xs xk xf xn xm xg o i l j | 43 => Lin.Spec.val (.agg #[.int .u16 xa, .int .u16 xb, .int .u32 xs, .int .u32 xk, .int .u8 xf, .int .u16 xn, .int .u16 xm, .int .u16 xg, .slice A1 i c1, .slice A2 j c2]) | 44 => Lin.Spec.val (.bool true) | 45 => Lin.Spec.val (.bool true) | 46 => Lin.Spec.val (.bool true) | 47 => Lin.Spec.val (.int .i64 0) | 48 => Lin.Spec.val (.bool true) | 49 => Lin.Spec.val (.bool true) | 50 => Lin.Spec.val (.bool true) | 51 => Lin.Spec.val (.bool true) | 52 => Lin.Spec.val (.bool true) | 2 => Lin.Spec.val (.bool true) | _ => Lin.Spec.any) (by kernel_rfl) rfl (by kernel_rfl) ⟨?_, ?_, ?_, ?_, ?_, ?_, ?_, ?_, ?_, ?_, ?_, ?_, ?_, ?_, ?_, ?_, ?_, ?_, ?_, ?_, ?_, trivial⟩ ?_
    · intro ρ wq hb ho hc hd
      have hC : ∀ v, ρ (.const v) = v := fun v => hc _ (by intro t e; cases e)
      have hF : ∀ f, ρ (.func f) = .func (.func f) #[] #[] := fun f => hc _ (by intro t e; cases e)
      have h3 : ρ (.tmp 3) = .pointer (some ⟨p, 0, none⟩) := ho 3 (by kernel_rfl)
      have m9x := HP.out.below hb HP.out.lt
      have m0 := m9x.cell 0
      have m1 := m9x.cell 1
      have m2 := m9x.cell 2
      have m3 := m9x.cell 3
      have m4 := m9x.cell 4
      have m5 := m9x.cell 5
      have m6 := m9x.cell 6
      have m7 := m9x.cell 7
      have m8 := m9x.cell 8
      have m9 := m9x.cell 9
      simp at m0 m1 m2 m3 m4 m5 m6 m7 m8 m9
      exact Lin.Runs.value Lin.keeps (v := .agg #[.int .u16 xa, .int .u16 xb, .int .u32 xs, .int .u32 xk, .int .u8 xf, .int .u16 xn, .int .u16 xm, .int .u16 xg, .slice A1 i c1, .slice A2 j c2]) (by simp [execOp, go_sem, hC, hF, h3, m0, m1, m2, m3, m4, m5, m6, m7, m8, m9]) rfl
    · intro ρ wq hb ho hc hd
      have hC : ∀ v, ρ (.const v) = v := fun v => hc _ (by intro t e; cases e)
      have hF : ∀ f, ρ (.func f) = .func (.func f) #[] #[] := fun f => hc _ (by intro t e; cases e)
      have h33 : ρ (.tmp 33) = .agg #[.int .u16 xa, .int .u16 xb, .int .u32 xs, .int .u32 xk, .int .u8 xf, .int .u16 xn, .int .u16 xm, .int .u16 xg, .slice A1 i c1, .slice A2 j c2] := hd 33 (by kernel_rfl)
      refine Lin.Runs.call Lin.keeps (f := 29) (args := #[.agg #[.int .u16 xa, .int .u16 xb, .int .u32 xs, .int .u32 xk, .int .u8 xf, .int .u16 xn, .int .u16 xm, .int .u16 xg, .slice A1 i c1, .slice A2 j c2]]) (by simp [execOp, go_sem, hC, hF, h33]) ?_
      exact (tbytes_yes xa xb xs xk xf xn xm xg o l A1 i c1 A2 j c2 wq m HM4.out hm hj ba bb bs bk bf bn bm bg (HV.out.st hb) (HU.out.st hb)).mono fun e w9 ⟨A9, c9, he, ho9, hb9⟩ => ⟨_, he, hb9, IsB.own ho9⟩
    · intro ρ wq hb ho hc hd
      have hC : ∀ v, ρ (.const v) = v := fun v => hc _ (by intro t e; cases e)
      have hF : ∀ f, ρ (.func f) = .func (.func f) #[] #[] := fun f => hc _ (by intro t e; cases e)
      have h34 := hd 34 (by kernel_rfl)
      exact Lin.Runs.value Lin.keeps (Lin.exec_convert rfl h34.conv) rfl
    · intro ρ wq hb ho hc hd
      have hC : ∀ v, ρ (.const v) = v := fun v => hc _ (by intro t e; cases e)
      have hF : ∀ f, ρ (.func f) = .func (.func f) #[] #[] := fun f => hc _ (by intro t e; cases e)
      have h1 : ρ (.tmp 1) = .pointer (some ⟨w.heap.size, 0, none⟩) := ho 1 (by kernel_rfl)
      have m9x := HG.out.below hb HG.out.lt
      have m0 := m9x.cell 0
      have m1 := m9x.cell 1
      have m2 := m9x.cell 2
      have m3 := m9x.cell 3
      have m4 := m9x.cell 4
      have m5 := m9x.cell 5
      have m6 := m9x.cell 6
      have m7 := m9x.cell 7
      have m8 := m9x.cell 8
      have m9 := m9x.cell 9
      simp at m0 m1 m2 m3 m4 m5 m6 m7 m8 m9
      exact Lin.Runs.value Lin.keeps (v := .agg #[.int .u16 xa, .int .u16 xb, .int .u32 xs, .int .u32 xk, .int .u8 xf, .int .u16 xn, .int .u16 xm, .int .u16 xg, .slice A1 i c1, .slice A2 j c2]) (by simp [execOp, go_sem, hC, hF, h1, m0, m1, m2, m3, m4, m5, m6, m7, m8, m9]) rfl
    · intro ρ wq hb ho hc hd
      have hC : ∀ v, ρ (.const v) = v := fun v => hc _ (by intro t e; cases e)
      have hF : ∀ f, ρ (.func f) = .func (.func f) #[] #[] := fun f => hc _ (by intro t e; cases e)
      have h36 : ρ (.tmp 36) = .agg #[.int .u16 xa, .int .u16 xb, .int .u32 xs, .int .u32 xk, .int .u8 xf, .int .u16 xn, .int .u16 xm, .int .u16 xg, .slice A1 i c1, .slice A2 j c2] := hd 36 (by kernel_rfl)
      refine Lin.Runs.call Lin.keeps (f := 31) (args := #[.agg #[.int .u16 xa, .int .u16 xb, .int .u32 xs, .int .u32 xk, .int .u8 xf, .int .u16 xn, .int .u16 xm, .int .u16 xg, .slice A1 i c1, .slice A2 j c2]]) (by simp [execOp, go_sem, hC, hF, h36]) ?_
      exact rbytes6 xa xb xs xk xf xn xm xg o l A1 i c1 A2 j c2 wq m HM4.out hm hj ba bb bs bk bf bn bm bg (HV.out.st hb) (HU.out.st hb)
    · intro ρ wq hb ho hc hd
      have hC : ∀ v, ρ (.const v) = v := fun v => hc _ (by intro t e; cases e)
      have hF : ∀ f, ρ (.func f) = .func (.func f) #[] #[] := fun f => hc _ (by intro t e; cases e)
      have h37 := hd 37 (by kernel_rfl)
      exact Lin.Runs.value Lin.keeps (Lin.exec_convert rfl h37.conv) rfl
    · intro ρ wq hb ho hc hd
      have hC : ∀ v, ρ (.const v) = v := fun v => hc _ (by intro t e; cases e)
      have hF : ∀ f, ρ (.func f) = .func (.func f) #[] #[] := fun f => hc _ (by intro t e; cases e)
      have h35 : ρ (.tmp 35) = .string (strOfNums (hd6 xa xb xs xk xf xn xm xg m ++ o ++ l)) := hd 35 (by kernel_rfl)
      have h38 : ρ (.tmp 38) = .string (strOfNums (hd6 xa xb xs xk xf xn xm xg m ++ o ++ l)) := hd 38 (by kernel_rfl)
      exact Lin.Runs.value Lin.keeps (v := .bool true) (by simp [execOp, go_sem, hC, hF, h35, h38]) rfl
    · intro ρ wq hb ho hc hd
      have hC : ∀ v, ρ (.const v) = v := fun v => hc _ (by intro t e; cases e)
      have hF : ∀ f, ρ (.func f) = .func (.func f) #[] #[] := fun f => hc _ (by intro t e; cases e)
      have h39 : ρ (.tmp 39) = .bool true := hd 39 (by kernel_rfl)
      exact Lin.Runs.value Lin.keeps (Lin.exec_move rfl) h39
    · intro ρ wq hb ho hc hd
      have hC : ∀ v, ρ (.const v) = v := fun v => hc _ (by intro t e; cases e)
      have hF : ∀ f, ρ (.func f) = .func (.func f) #[] #[] := fun f => hc _ (by intro t e; cases e)
      intro t ht; cases (show some 40 = some t from ht)
      refine ⟨fun _ => ?_, fun hn => absurd (hd 40 (by kernel_rfl)) hn⟩
      have h4 : ρ (.tmp 4) = .pointer (some ⟨q, 0, none⟩) := ho 4 (by kernel_rfl)
      have m9x := HQ.out.below hb HQ.out.lt
      have m0 := m9x.cell 0
      have m1 := m9x.cell 1
      have m2 := m9x.cell 2
      have m3 := m9x.cell 3
      have m4 := m9x.cell 4
      have m5 := m9x.cell 5
      have m6 := m9x.cell 6
      have m7 := m9x.cell 7
      have m8 := m9x.cell 8
      have m9 := m9x.cell 9
      simp at m0 m1 m2 m3 m4 m5 m6 m7 m8 m9
      exact Lin.Runs.value Lin.keeps (v := .agg #[.int .u16 xa, .int .u16 xb, .int .u32 xs, .int .u32 xk, .int .u8 xf, .int .u16 xn, .int .u16 xm, .int .u16 xg, .slice A5 i c5, .slice A6 j c6]) (by simp [execOp, go_sem, hC, hF, h4, m0, m1, m2, m3, m4, m5, m6, m7, m8, m9]) rfl
    · intro ρ wq hb ho hc hd
      have hC : ∀ v, ρ (.const v) = v := fun v => hc _ (by intro t e; cases e)
      have hF : ∀ f, ρ (.func f) = .func (.func f) #[] #[] := fun f => hc _ (by intro t e; cases e)
      intro t ht; cases (show some 40 = some t from ht)
      refine ⟨fun _ => ?_, fun hn => absurd (hd 40 (by kernel_rfl)) hn⟩
      have h41 : ρ (.tmp 41) = .agg #[.int .u16 xa, .int .u16 xb, .int .u32 xs, .int .u32 xk, .int .u8 xf, .int .u16 xn, .int .u16 xm, .int .u16 xg, .slice A5 i c5, .slice A6 j c6] := hd 41 (by kernel_rfl)
      refine Lin.Runs.call Lin.keeps (f := 33) (args := #[.agg #[.int .u16 xa, .int .u16 xb, .int .u32 xs, .int .u32 xk, .int .u8 xf, .int .u16 xn, .int .u16 xm, .int .u16 xg, .slice A5 i c5, .slice A6 j c6]]) (by simp [execOp, go_sem, hC, hF, h41]) ?_
      exact (of6 xa xb xs xk xf xn xm xg o l i j (.slice A5 i c5) (.slice A6 j c6) wq (HV5.out.st hb) (HU5.out.st hb)).mono fun e w9 ⟨v, u, he, hb9, hv, hu⟩ => ⟨_, he, hb9, v, u, rfl, hv, hu⟩
    · intro ρ wq hb ho hc hd
      have hC : ∀ v, ρ (.const v) = v := fun v => hc _ (by intro t e; cases e)
      have hF : ∀ f, ρ (.func f) = .func (.func f) #[] #[] := fun f => hc _ (by intro t e; cases e)
      intro t ht; cases (show some 40 = some t from ht)
      refine ⟨fun _ => ?_, fun hn => absurd (hd 40 (by kernel_rfl)) hn⟩
      have h1 : ρ (.tmp 1) = .pointer (some ⟨w.heap.size, 0, none⟩) := ho 1 (by kernel_rfl)
      have m9x := HG.out.below hb HG.out.lt
      have m0 := m9x.cell 0
      have m1 := m9x.cell 1
      have m2 := m9x.cell 2
      have m3 := m9x.cell 3
      have m4 := m9x.cell 4
      have m5 := m9x.cell 5
      have m6 := m9x.cell 6
      have m7 := m9x.cell 7
      have m8 := m9x.cell 8
      have m9 := m9x.cell 9
      simp at m0 m1 m2 m3 m4 m5 m6 m7 m8 m9
      exact Lin.Runs.value Lin.keeps (v := .agg #[.int .u16 xa, .int .u16 xb, .int .u32 xs, .int .u32 xk, .int .u8 xf, .int .u16 xn, .int .u16 xm, .int .u16 xg, .slice A1 i c1, .slice A2 j c2]) (by simp [execOp, go_sem, hC, hF, h1, m0, m1, m2, m3, m4, m5, m6, m7, m8, m9]) rfl
    · intro ρ wq hb ho hc hd
      have hC : ∀ v, ρ (.const v) = v := fun v => hc _ (by intro t e; cases e)
      have hF : ∀ f, ρ (.func f) = .func (.func f) #[] #[] := fun f => hc _ (by intro t e; cases e)
      intro t ht; cases (show some 40 = some t from ht)
      refine ⟨fun _ => ?_, fun hn => absurd (hd 40 (by kernel_rfl)) hn⟩
      have h42 := hd 42 (by kernel_rfl)
      have h43 : ρ (.tmp 43) = .agg #[.int .u16 xa, .int .u16 xb, .int .u32 xs, .int .u32 xk, .int .u8 xf, .int .u16 xn, .int .u16 xm, .int .u16 xg, .slice A1 i c1, .slice A2 j c2] := hd 43 (by kernel_rfl)
      obtain ⟨v, u, e42, hv, hu⟩ := h42
      refine Lin.Runs.call Lin.keeps (f := 32) (args := #[sg6 xa xb xs xk xf xn xm xg v u, .agg #[.int .u16 xa, .int .u16 xb, .int .u32 xs, .int .u32 xk, .int .u8 xf, .int .u16 xn, .int .u16 xm, .int .u16 xg, .slice A1 i c1, .slice A2 j c2]]) (by simp [execOp, go_sem, hC, hF, e42, h43]) ?_
      exact (same6 xa xb xs xk xf xn xm xg o l i j i j v u (.slice A1 i c1) (.slice A2 j c2) wq hv hu (HV.out.st hb) (HU.out.st hb)).mono fun e w9 ⟨he, hb9⟩ => ⟨_, he, hb9, rfl⟩
    · intro ρ wq hb ho hc hd
      have hC : ∀ v, ρ (.const v) = v := fun v => hc _ (by intro t e; cases e)
      have hF : ∀ f, ρ (.func f) = .func (.func f) #[] #[] := fun f => hc _ (by intro t e; cases e)
      have h40 : ρ (.tmp 40) = .bool true := hd 40 (by kernel_rfl)
      have h44 : ρ (.tmp 44) = .bool true := hd 44 (by kernel_rfl)
      exact Lin.Runs.value Lin.keeps (v := .bool true) (by simp [execOp, go_sem, hC, hF, h40, h44]) rfl
    · intro ρ wq hb ho hc hd
      have hC : ∀ v, ρ (.const v) = v := fun v => hc _ (by intro t e; cases e)
      have hF : ∀ f, ρ (.func f) = .func (.func f) #[] #[] := fun f => hc _ (by intro t e; cases e)
      have h45 : ρ (.tmp 45) = .bool true := hd 45 (by kernel_rfl)
      exact Lin.Runs.value Lin.keeps (Lin.exec_move rfl) h45
    · intro ρ wq hb ho hc hd
      have hC : ∀ v, ρ (.const v) = v := fun v => hc _ (by intro t e; cases e)
      have hF : ∀ f, ρ (.func f) = .func (.func f) #[] #[] := fun f => hc _ (by intro t e; cases e)
      intro t ht; cases (show some 46 = some t from ht)
      refine ⟨fun _ => ?_, fun hn => absurd (hd 46 (by kernel_rfl)) hn⟩
      have h5 : ρ (.tmp 5) = .int .i64 0 := ho 5 (by kernel_rfl)
      exact Lin.Runs.value Lin.keeps (Lin.exec_move rfl) h5
    · intro ρ wq hb ho hc hd
      have hC : ∀ v, ρ (.const v) = v := fun v => hc _ (by intro t e; cases e)
      have hF : ∀ f, ρ (.func f) = .func (.func f) #[] #[] := fun f => hc _ (by intro t e; cases e)
      intro t ht; cases (show some 46 = some t from ht)
      refine ⟨fun _ => ?_, fun hn => absurd (hd 46 (by kernel_rfl)) hn⟩
      have h47 : ρ (.tmp 47) = .int .i64 0 := hd 47 (by kernel_rfl)
      exact Lin.Runs.value Lin.keeps (v := .bool true) (by simp [execOp, go_sem, hC, hF, h47]) rfl
    · intro ρ wq hb ho hc hd
      have hC : ∀ v, ρ (.const v) = v := fun v => hc _ (by intro t e; cases e)
      have hF : ∀ f, ρ (.func f) = .func (.func f) #[] #[] := fun f => hc _ (by intro t e; cases e)
      have h46 : ρ (.tmp 46) = .bool true := hd 46 (by kernel_rfl)
      have h48 : ρ (.tmp 48) = .bool true := hd 48 (by kernel_rfl)
      exact Lin.Runs.value Lin.keeps (v := .bool true) (by simp [execOp, go_sem, hC, hF, h46, h48]) rfl
    · intro ρ wq hb ho hc hd
      have hC : ∀ v, ρ (.const v) = v := fun v => hc _ (by intro t e; cases e)
      have hF : ∀ f, ρ (.func f) = .func (.func f) #[] #[] := fun f => hc _ (by intro t e; cases e)
      have h49 : ρ (.tmp 49) = .bool true := hd 49 (by kernel_rfl)
      exact Lin.Runs.value Lin.keeps (Lin.exec_move rfl) h49
    · intro ρ wq hb ho hc hd
      have hC : ∀ v, ρ (.const v) = v := fun v => hc _ (by intro t e; cases e)
      have hF : ∀ f, ρ (.func f) = .func (.func f) #[] #[] := fun f => hc _ (by intro t e; cases e)
      intro t ht; cases (show some 50 = some t from ht)
      refine ⟨fun _ => ?_, fun hn => absurd (hd 50 (by kernel_rfl)) hn⟩
      refine Lin.Runs.call Lin.keeps (f := 20) (args := #[]) (by simp [execOp, go_sem, hC, hF]) ?_
      exact (awake06 wq).mono fun e w9 ⟨he, hb9⟩ => ⟨_, he, hb9, rfl⟩
    · intro ρ wq hb ho hc hd
      have hC : ∀ v, ρ (.const v) = v := fun v => hc _ (by intro t e; cases e)
      have hF : ∀ f, ρ (.func f) = .func (.func f) #[] #[] := fun f => hc _ (by intro t e; cases e)
      have h50 : ρ (.tmp 50) = .bool true := hd 50 (by kernel_rfl)
      have h51 : ρ (.tmp 51) = .bool true := hd 51 (by kernel_rfl)
      exact Lin.Runs.value Lin.keeps (v := .bool true) (by simp [execOp, go_sem, hC, hF, h50, h51]) rfl
    · intro ρ wq hb ho hc hd
      have hC : ∀ v, ρ (.const v) = v := fun v => hc _ (by intro t e; cases e)
      have hF : ∀ f, ρ (.func f) = .func (.func f) #[] #[] := fun f => hc _ (by intro t e; cases e)
      have h52 : ρ (.tmp 52) = .bool true := hd 52 (by kernel_rfl)
      exact Lin.Runs.value Lin.keeps (Lin.exec_assign rfl) h52
    · intro vals w9 hb9 hv
      have e2 : vals 2 = .bool true := hv 2 (by kernel_rfl)
      simp only [Lin.putAll, Option.getD_some]
      rw [e2]
      have HB9 := Lib.hid (HB.out.trans (hb9.mono HB.out.size))
      clear hv hb9
      go_simp
      generalize vals = vv
      go_wp2_with fail
      go_ret
      exact ⟨rfl, HB9.out⟩
theorem walk (xa xb xs xk xf xn xm xg : Nat) (A1 A2 : Option Addr) (i c1 j c2 : Nat) (o l : List Int) (w : World) (hv : IsB o i (.slice A1 i c1) w) (hu : IsB l j (.slice A2 j c2) w) (ba : xa ≤ 65535) (bb : xb ≤ 65535) (bs : xs ≤ 4294967295) (bk : xk ≤ 4294967295) (bf : xf ≤ 255) (bn : xn ≤ 65535) (bm : xm ≤ 65535) (bg : xg ≤ 65535) (oo : Octets o) (ol : Octets l) : Calls Try.prog 5 #[sg6 xa xb xs xk xf xn xm xg (.slice A1 i c1) (.slice A2 j c2)] w fun e w' => e = .returned (.bool true) ∧ Below w.heap.size w w' := by
  by_cases h : i ≤ 200 ∧ j ≤ 2000
  · by_cases h2 : i ≤ 40 ∧ i % 4 = 0
    · exact walk_yes xa xb xs xk xf xn xm xg A1 A2 i c1 j c2 o l w hv hu (i / 4) (by omega) (by omega) h.2 ba bb bs bk bf bn bm bg oo ol
    · exact walk_bad xa xb xs xk xf xn xm xg A1 A2 i c1 j c2 o l w hv hu h.1 h.2 h2
  · exact walk_no xa xb xs xk xf xn xm xg A1 A2 i c1 j c2 o l w hv hu h

/-! ### The step from the walk to the row -/
set_option maxRecDepth 100000 in
theorem lifted (os : Os) (started : os.Started) (H : Type) (enc : TypeId × Value → H) :
    ReturnsInHanded {} Try.checked os 5 .any (Rows.tcpWritesSpec.pre6 enc Try.prog Try.f5 Rows.tcpWritesRow.domain false) (Rows.tcpWritesSpec.post enc Try.prog Try.f5 false true false false) := by
  refine returnsInHanded_of_change (C := Try.checked) own started (by kernel_rfl) Try.func5
    (ChangeSpec.witness6 (enc := enc) (C := Try.checked) false ⟨#[], #[.agg #[.int .u16 0, .int .u16 0, .int .u32 0, .int .u32 0, .int .u8 0, .int .u16 0, .int .u16 0, .int .u16 0, .slice none 0 0, .slice none 0 0]], []⟩ 8 (by kernel_rfl) (by kernel_rfl) (by kernel_rfl) (by kernel_rfl)) ?_
  intro W base args ds gs before hval0 hW hcnd _
  have hval : ∀ (j : Nat) t v, Try.f5.params[j]? = some t → args[j]? = some v → Value.okWide Try.prog W .any base t v := hval0
  have hW' := hW
  obtain ⟨p, q, hA0, hV, rfl, hfz, hnd⟩ := hW
  have hA : DataW.TrodAll enc Try.prog W 0 (fun _ => true) true Try.f5.params.toList args.toList ds p := hA0
  rw [Try.params5] at hA hval
  obtain ⟨v0, vs0, d0, ds0, p0, q0, hargs, rfl, rfl, h0, r0⟩ := trodAll_cons hA
  obtain ⟨rfl, rfl, rfl⟩ := trodAll_nil r0
  obtain rfl : args = #[v0] := by cases args; simp_all
  obtain ⟨rfl, rfl⟩ := trodVars_none hV
  have k0 := h0
  have lt0 : ∀ x ∈ p0, x.block < W.heap.size := by obtain ⟨m, hm⟩ := k0; exact DataW.trod_lt m _ _ _ hm
  have ok0 := hval 0 35 v0 rfl rfl
  clear hA0 hval0
  obtain ⟨xa, xb, xs, xk, xf, xn, xm, xg, A1, n1, c1, A2, n2, c2, rfl, ⟨ba, bb, bs, bk, bf, bn, bm, bg⟩, ⟨d8, p8, t8⟩, d9, p9, t9⟩ := open_segN ok0 h0
  obtain ⟨o, rfl, oo, io, _⟩ := open_isb (e := 5) Try.underlying22 Try.underlying5 (by kernel_rfl) t8
  obtain ⟨l, rfl, ol, il, _⟩ := open_isb (e := 5) Try.underlying22 Try.underlying5 (by kernel_rfl) t9
  refine (walk xa xb xs xk xf xn xm xg A1 A2 o.length c1 l.length c2 o l W io il ba bb bs bk bf bn bm bg oo ol).mono fun e W' ⟨he, bel⟩ => ?_
  subst he
  exact ⟨_, rfl, _, _, _, [], _, [], hW', trodAll_mk1 (shut_bool Try.underlying4 _), (trodAll_cons_mk (Below.trod laidOut (by kernel_rfl) (of_decide_eq_true (by kernel_rfl)) k0 bel lt0) trodAll_mk0), rfl, bel.frame _, fun h => by cases h⟩

theorem over : Rows.tcpWritesRow.holds Try.pinned (OpenSpec.ofChange Rows.tcpWritesSpec) :=
  OpenClaim.holds_of_wide 5 Try.f5 rfl rfl rfl rfl rfl rfl rfl ⟨rfl, rfl, rfl, rfl, rfl⟩ rfl rfl rfl rfl rfl (by kernel_rfl) Try.func5 (by kernel_rfl)
    (of_decide_eq_true (by kernel_rfl)) (by unfold Func.isWrapper; first | (rw [if_pos (by decide +kernel)]; kernel_rfl) | (rw [if_neg (by decide +kernel)]; exact ⟨rfl, rfl⟩))
    (fun os started H enc _ => lifted os started H enc)

theorem proved : Rows.TcpWritesSaid := over
#print axioms proved
end Go.Proofs.Ytkgmgmlicgjfdaa.tcpWrites
