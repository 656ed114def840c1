/-
  UdpLong (P7.1, P7.2) answers true, for every number: a datagram that is too long has no bytes and is not fine. No condition.
-/
import Derived.Test.YtkgmgmlicgjfdaaRows
import Derived.WalkKit
import Derived.ProofKit
import Derived.OpenShut
import Derived.ShutString
import Derived.ChangeOld
import Derived.Below
import Derived.Test.YtkgmgmlicgjfdaaUdpL
namespace Go.Proofs.Ytkgmgmlicgjfdaa.udpLong
open Go.ChangeShapes Go.WideShapes Go.ChangeAt Go.RowKit
open Go.ChangeMaps (open_string shut_string)
open Go.Proofs.Ytkgmgmlicgjfdaa
set_option maxRecDepth 100000
set_option linter.unusedVariables false

theorem own : ownKnob Try.prog.godebug = none := by kernel_rfl
theorem laidOut : laidOutB Try.prog = true := by kernel_rfl


set_option maxHeartbeats 4000000 in
theorem walk (more : Nat) (w : World) (hm : more ≤ 255) :
    Calls Try.prog 3 #[.int .u8 (more : Int)] w fun e w' => e = .returned (.bool true) ∧ Below w.heap.size w w' := by
  have h1 := fun W => make_bytes W 65527 65527 65527 65527 rfl rfl (by omega) (by omega)
  have h2 := fun W => make_bytes W (65528 + more) (65528 + more) (65528 + (more : Int)) (65528 + (more : Int)) (by simp) (by simp) (by omega) (by omega)
  go_enter Try.func3, Try.ntmps3
  go_upto_region 1 with (fail)
  go_cut [3, 4] from 5 (fun u v wx => Two7 w 65527 (65528 + more) u v wx)
  case first =>
    go_region
    all_goals (go_wp2_with fail)
    all_goals go_meet
    all_goals
      clear h1 h2
      exact two7_mk
        (by apply Is.drew; repeat' first | (with_reducible refine isnew_at ?_; simp; done) | with_reducible apply Is.alloc)
        (by apply Is.drew; repeat' first | (with_reducible refine isnew_at ?_; simp; done) | with_reducible apply Is.alloc)
        (by refine isb_zeros ?_ (by omega); apply Is.drew; repeat' first | (with_reducible refine isnew_at ?_; simp; done) | with_reducible apply Is.alloc)
        (by exact (((((Below.refl w.heap.size w).alloc (Nat.le_refl _) _).alloc (by simp) _).alloc (by simp; omega) _).alloc (by simp; omega) _).drew)
  case rest =>
    clear h1 h2
    obtain ⟨g, h, A, B, rfl, rfl, hg, hh, hz, hb⟩ := hcut
    have a0 := hg.cell 0
    have a1 := hg.cell 1
    have a2 := hg.cell 2
    have a3 := hg.cell 3
    have fa := hg.lt
    simp at a0 a1 a2 a3
    have HG := hide hg; have HH := hide hh; have HZ := hide hz; have HB := Lib.hid hb
    clear hg hh hz hb
    go_wp2_with fail
    refine (right7_yes 0 0 0 A 65527 65527 wc (by omega)).mono ?_
    rintro e w1 ⟨rfl, hb1⟩
    have hg1 := HG.out.below hb1 HG.out.lt
    have HH1 := hide (HH.out.below hb1 HH.out.lt); have HZ1 := hide (HZ.out.st hb1); have HB1 := Lib.hid (HB.out.trans (hb1.mono HB.out.size))
    clear a0 a1 a2 a3 fa hb1 HG HH HZ HB
    have a0 := hg1.cell 0
    have a1 := hg1.cell 1
    have a2 := hg1.cell 2
    have a3 := hg1.cell 3
    have fa := hg1.lt
    simp at a0 a1 a2 a3
    clear hg1
    go_wp2_with fail
    refine (bytes7_yes 0 0 0 A 65527 65527 (List.replicate 65527 0) w1 HZ1.out (by omega) (by omega) (by omega) (by omega)).mono ?_
    rintro e w2 ⟨A2, c2, rfl, _, hb2⟩
    have hh2 := HH1.out.below hb2 HH1.out.lt
    have HB2 := Lib.hid (HB1.out.trans (hb2.mono HB1.out.size))
    clear a0 a1 a2 a3 fa hb2 HH1 HZ1 HB1
    have a0 := hh2.cell 0
    have a1 := hh2.cell 1
    have a2 := hh2.cell 2
    have a3 := hh2.cell 3
    have fa := hh2.lt
    simp at a0 a1 a2 a3
    have HH2 := hide hh2
    clear hh2
    go_wp2_with fail
    refine (right7_no 0 0 0 B (65528 + more) (65528 + more) w2 (by omega)).mono ?_
    rintro e w3 ⟨rfl, hb3⟩
    have hh3 := HH2.out.below hb3 HH2.out.lt
    have HB3 := Lib.hid (HB2.out.trans (hb3.mono HB2.out.size))
    clear a0 a1 a2 a3 fa hb3 HH2 HB2
    have a0 := hh3.cell 0
    have a1 := hh3.cell 1
    have a2 := hh3.cell 2
    have a3 := hh3.cell 3
    have fa := hh3.lt
    simp at a0 a1 a2 a3
    have HH3 := hide hh3
    clear hh3
    go_wp2_with fail
    refine (bytes7_no 0 0 0 B (65528 + more) (65528 + more) w3 (by omega)).mono ?_
    rintro e w4 ⟨rfl, hb4⟩
    have hh4 := HH3.out.below hb4 HH3.out.lt
    have HB4 := Lib.hid (HB3.out.trans (hb4.mono HB3.out.size))
    clear a0 a1 a2 a3 fa hb4 HH3 HB3
    have a0 := hh4.cell 0
    have a1 := hh4.cell 1
    have a2 := hh4.cell 2
    have a3 := hh4.cell 3
    have fa := hh4.lt
    simp at a0 a1 a2 a3
    clear hh4
    go_wp2_with fail
    refine (fine7_no 0 0 0 B (65528 + more) (65528 + more) _ _ _ _ rfl rfl w4 (by omega)).mono ?_
    rintro e w5 ⟨rfl, hb5⟩
    have HB5 := Lib.hid (HB4.out.trans (hb5.mono HB4.out.size))
    clear a0 a1 a2 a3 fa hb5 HB4
    go_wp2_with fail
    refine (awake07 _).mono ?_
    rintro e w6 ⟨rfl, hb6⟩
    have HB6 := Lib.hid (HB5.out.trans (hb6.mono HB5.out.size))
    clear hb6 HB5
    go_wp2_with fail
    go_ret
    exact ⟨rfl, HB6.out⟩

/-! ### The step from the walk to the row -/
set_option maxRecDepth 100000 in
theorem lifted (os : Os) (started : os.Started) (H : Type) (enc : TypeId × Value → H) :
    ReturnsInHanded {} Try.checked os 3 .any (Rows.udpLongSpec.pre6 enc Try.prog Try.f3 Rows.udpLongRow.domain false) (Rows.udpLongSpec.post enc Try.prog Try.f3 false true false false) := by
  refine returnsInHanded_of_change (C := Try.checked) own started (by kernel_rfl) Try.func3
    (ChangeSpec.witness6 (enc := enc) (C := Try.checked) false ⟨#[], #[.int .u8 0], []⟩ 8 (by kernel_rfl) (by kernel_rfl) (by kernel_rfl) (by kernel_rfl)) ?_
  intro W base args ds gs before hval0 hW hcnd _
  have hval : ∀ (j : Nat) t v, Try.f3.params[j]? = some t → args[j]? = some v → Value.okWide Try.prog W .any base t v := hval0
  have hW' := hW
  obtain ⟨p, q, hA0, hV, rfl, hfz, hnd⟩ := hW
  have hA : DataW.TrodAll enc Try.prog W 0 (fun _ => true) true Try.f3.params.toList args.toList ds p := hA0
  rw [Try.params3] at hA hval
  obtain ⟨v0, vs0, d0, ds0, p0, q0, hargs, rfl, rfl, h0, r0⟩ := trodAll_cons hA
  obtain ⟨rfl, rfl, rfl⟩ := trodAll_nil r0
  obtain rfl : args = #[v0] := by cases args; simp_all
  obtain ⟨rfl, rfl⟩ := trodVars_none hV
  have k0 := h0
  have lt0 : ∀ x ∈ p0, x.block < W.heap.size := by obtain ⟨m, hm⟩ := k0; exact DataW.trod_lt m _ _ _ hm
  have ok0 := hval 0 5 v0 rfl rfl
  clear hA0 hval0
  obtain ⟨x, rfl, rfl, rfl, w1⟩ := open_int Try.underlying5 ok0 h0
  have g1 := bounds_u8 w1
  obtain ⟨more, rfl⟩ := Int.eq_ofNat_of_zero_le g1.1
  refine (walk more W (by omega)).mono fun e W' ⟨he, bel⟩ => ?_
  subst he
  exact ⟨_, rfl, _, _, _, [], _, [], hW', trodAll_mk1 (shut_bool Try.underlying4 _), (trodAll_cons_mk (Below.trod laidOut (by kernel_rfl) (of_decide_eq_true (by kernel_rfl)) k0 bel lt0) trodAll_mk0), rfl, bel.frame _, fun h => by cases h⟩

theorem over : Rows.udpLongRow.holds Try.pinned (OpenSpec.ofChange Rows.udpLongSpec) :=
  OpenClaim.holds_of_wide 3 Try.f3 rfl rfl rfl rfl rfl rfl rfl ⟨rfl, rfl, rfl, rfl, rfl⟩ rfl rfl rfl rfl rfl (by kernel_rfl) Try.func3 (by kernel_rfl)
    (of_decide_eq_true (by kernel_rfl)) (by unfold Func.isWrapper; first | (rw [if_pos (by decide +kernel)]; kernel_rfl) | (rw [if_neg (by decide +kernel)]; exact ⟨rfl, rfl⟩))
    (fun os started H enc _ => lifted os started H enc)

theorem proved : Rows.UdpLongSaid := over
#print axioms proved
end Go.Proofs.Ytkgmgmlicgjfdaa.udpLong
