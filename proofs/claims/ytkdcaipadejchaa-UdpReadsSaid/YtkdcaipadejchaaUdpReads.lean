/-
  UdpReads (P7.1) answers true and leaves its argument as it was, for all bytes: Parse gives the datagram or the error that the document asks for. No condition.
-/
import Derived.Test.YtkdcaipadejchaaRows
import Derived.WalkKit
import Derived.ProofKit
import Derived.OpenShut
import Derived.ShutString
import Derived.ChangeOld
import Derived.Below
import Derived.Test.YtkdcaipadejchaaUdpA
namespace Go.Proofs.Ytkdcaipadejchaa.udpReads
open Go.ChangeShapes Go.WideShapes Go.ChangeAt Go.RowKit
open Go.ChangeMaps (open_string shut_string)
open Go.Proofs.Ytkdcaipadejchaa
set_option maxRecDepth 100000
set_option linter.unusedVariables false

theorem own : ownKnob Try.prog.godebug = none := by kernel_rfl
theorem laidOut : laidOutB Try.prog = true := by kernel_rfl


theorem parses (A : Option Addr) (c : Nat) (l : List Int) (ho : Octets l) (hm : l.length ≤ 3000) :
    ∃ (s d m : Int) (L : List Int) (k : Nat) (x : Int), ∀ w, IsB l l.length (.slice A l.length c) w →
      Calls Try.prog 33 #[.slice A l.length c] w (Dg w s d m L k x) ∧
      Calls Try.prog 34 #[.slice A l.length c] w (Dg w s d m L k x) := by
  by_cases h8 : l.length < 8
  · exact ⟨0, 0, 0, [], 0, 20, fun w hi => ⟨uparse_short A c l.length w h8, ruparse_short A c l.length w h8⟩⟩
  · have b4 := nw2_bd (i := 4) (by omega) ho
    by_cases h1 : nw l 4 2 < 8
    · exact ⟨0, 0, 0, [], 0, 21, fun w hi => ⟨uparse_form A c l w hi ho hm (by omega) _ rfl h1, ruparse_form A c l w hi ho hm (by omega) _ rfl h1⟩⟩
    · by_cases h2 : (l.length : Int) < nw l 4 2
      · exact ⟨0, 0, 0, [], 0, 20, fun w hi => ⟨uparse_long A c l w hi ho hm (by omega) _ rfl h2, ruparse_long A c l w hi ho hm (by omega) _ rfl h2⟩⟩
      · obtain ⟨k, hk⟩ : ∃ k : Nat, nw l 4 2 = ((8 + k : Nat) : Int) := ⟨(nw l 4 2 - 8).toNat, by omega⟩
        have hkl : 8 + k ≤ l.length := by omega
        exact ⟨nw l 0 2, nw l 2 2, nw l 6 2, (l.drop 8).take k, k, 0, fun w hi => ⟨uparse_ok A c l w hi ho hm (by omega) k hk hkl, ruparse_ok A c l w hi ho hm (by omega) k hk hkl⟩⟩
set_option maxHeartbeats 1000000 in
theorem walk (A : Option Addr) (c : Nat) (l : List Int) (w : World) (h : IsB l l.length (.slice A l.length c) w) (ho : Octets l) (hlm : l.length ≤ maxLen) :
    Calls Try.prog 6 #[.slice A l.length c] w fun e w' => e = .returned (.bool true) ∧ Below w.heap.size w w' := by
  unfold maxLen at hlm
  by_cases q : 3000 < l.length
  · clear h ho
    go_enter Try.func6, Try.ntmps6
    go_wp2_with fail
    refine (awake07 _).mono ?_
    rintro e w1 ⟨rfl, hb⟩
    go_wp2_with fail
    go_ret
    exact ⟨rfl, hb⟩
  · obtain ⟨s, d, m, L, k, x, hk⟩ := parses A c l ho (by omega)
    have HK := Lib.hid hk
    have HI := hide h
    clear h hk ho
    go_enter Try.func6, Try.ntmps6
    go_wp2_with fail
    refine ((HK.out w HI.out).1).mono ?_
    rintro e w1 ⟨v, rfl, hb1, hv⟩
    obtain ⟨A1, c1, rfl⟩ := hv.shape
    have HV := hide hv
    have HB1 := Lib.hid hb1
    unfold dg7
    clear hv hb1
    go_wp2_with fail
    have hb1 : Below w.heap.size w (w1.alloc (.cells #[.int .u16 s, .int .u16 d, .int .u16 m, .slice A1 k c1] 55)) := HB1.out.alloc HB1.out.size _
    have hg1 := Is.new w1 55 #[.int .u16 s, .int .u16 d, .int .u16 m, .slice A1 k c1]
    have hv1 := HV.out.alloc (.cells #[.int .u16 s, .int .u16 d, .int .u16 m, .slice A1 k c1] 55)
    generalize w1.alloc (.cells #[.int .u16 s, .int .u16 d, .int .u16 m, .slice A1 k c1] 55) = W1 at *
    generalize w1.heap.size = g1 at *
    have HV1 := hide hv1; have HG1 := hide hg1; have HB2 := Lib.hid hb1
    clear hv1 hg1 hb1 HV HB1
    refine ((HK.out W1 (HI.out.st HB2.out)).2).mono ?_
    rintro e w2 ⟨u, rfl, hb2, hu⟩
    obtain ⟨A2, c2, rfl⟩ := hu.shape
    have HU := hide (hu.alloc (.cells #[.int .u16 s, .int .u16 d, .int .u16 m, .slice A2 k c2] 58))
    have HV2 := hide ((HV1.out.st hb2).alloc (.cells #[.int .u16 s, .int .u16 d, .int .u16 m, .slice A2 k c2] 58))
    have HB3 := Lib.hid ((HB2.out.trans (hb2.mono HB2.out.size)).alloc (HB2.out.trans (hb2.mono HB2.out.size)).size (.cells #[.int .u16 s, .int .u16 d, .int .u16 m, .slice A2 k c2] 58))
    have hg2 := HG1.out.below hb2 HG1.out.lt
    have d0 := hg2.cell 0
    have d1 := hg2.cell 1
    have d2 := hg2.cell 2
    have d3 := hg2.cell 3
    have ld := hg2.lt
    simp at d0 d1 d2 d3
    unfold dg7
    clear hu hb2 HV1 HG1 HB2 hg2
    go_wp2_with fail
    refine (is7 s d m L k k (.slice A1 k c1) (.slice A2 k c2) _ HV2.out HU.out).mono ?_
    rintro e w4 ⟨rfl, hb4⟩
    have HB4 := Lib.hid (HB3.out.trans (hb4.mono HB3.out.size))
    clear hb4 HB3
    go_wp2_with fail
    refine (awake07 _).mono ?_
    rintro e w5 ⟨rfl, hb5⟩
    have HB5 := Lib.hid (HB4.out.trans (hb5.mono HB4.out.size))
    clear hb5 HB4
    go_wp2_with fail
    go_ret
    exact ⟨rfl, HB5.out⟩

/-! ### The step from the walk to the row -/
set_option maxRecDepth 100000 in
theorem lifted (os : Os) (started : os.Started) (H : Type) (enc : TypeId × Value → H) :
    ReturnsInHanded {} Try.checked os 6 .any (Rows.udpReadsSpec.pre6 enc Try.prog Try.f6 Rows.udpReadsRow.domain false) (Rows.udpReadsSpec.post enc Try.prog Try.f6 false true false false) := by
  refine returnsInHanded_of_change (C := Try.checked) own started (by kernel_rfl) Try.func6
    (ChangeSpec.witness6 (enc := enc) (C := Try.checked) false ⟨#[], #[.slice none 0 0], []⟩ 8 (by kernel_rfl) (by kernel_rfl) (by kernel_rfl) (by kernel_rfl)) ?_
  intro W base args ds gs before hval0 hW hcnd _
  have hval : ∀ (j : Nat) t v, Try.f6.params[j]? = some t → args[j]? = some v → Value.okWide Try.prog W .any base t v := hval0
  have hW' := hW
  obtain ⟨p, q, hA0, hV, rfl, hfz, hnd⟩ := hW
  have hA : DataW.TrodAll enc Try.prog W 0 (fun _ => true) true Try.f6.params.toList args.toList ds p := hA0
  rw [Try.params6] at hA hval
  obtain ⟨v0, vs0, d0, ds0, p0, q0, hargs, rfl, rfl, h0, r0⟩ := trodAll_cons hA
  obtain ⟨rfl, rfl, rfl⟩ := trodAll_nil r0
  obtain rfl : args = #[v0] := by cases args; simp_all
  obtain ⟨rfl, rfl⟩ := trodVars_none hV
  have k0 := h0
  have lt0 : ∀ x ∈ p0, x.block < W.heap.size := by obtain ⟨m, hm⟩ := k0; exact DataW.trod_lt m _ _ _ hm
  have ok0 := hval 0 22 v0 rfl rfl
  clear hA0 hval0
  obtain ⟨A, na, c, rfl⟩ := okWide_slice Try.underlying22 ok0
  obtain ⟨l, rfl, ob, ha, hba⟩ := open_isb (e := 5) Try.underlying22 Try.underlying5 (by kernel_rfl) h0
  have m0 := ha.maxlen
  refine (walk A c l W ha ob m0).mono fun e W' ⟨he, bel⟩ => ?_
  subst he
  exact ⟨_, rfl, _, _, _, [], _, [], hW', trodAll_mk1 (shut_bool Try.underlying4 _), (trodAll_cons_mk (Below.trod laidOut (by kernel_rfl) (of_decide_eq_true (by kernel_rfl)) k0 bel lt0) trodAll_mk0), rfl, bel.frame _, fun h => by cases h⟩

theorem over : Rows.udpReadsRow.holds Try.pinned (OpenSpec.ofChange Rows.udpReadsSpec) :=
  OpenClaim.holds_of_wide 6 Try.f6 rfl rfl rfl rfl rfl rfl rfl ⟨rfl, rfl, rfl, rfl, rfl⟩ rfl rfl rfl rfl rfl (by kernel_rfl) Try.func6 (by kernel_rfl)
    (of_decide_eq_true (by kernel_rfl)) (by unfold Func.isWrapper; first | (rw [if_pos (by decide +kernel)]; kernel_rfl) | (rw [if_neg (by decide +kernel)]; exact ⟨rfl, rfl⟩))
    (fun os started H enc _ => lifted os started H enc)

theorem proved : Rows.UdpReadsSaid := over
#print axioms proved
end Go.Proofs.Ytkdcaipadejchaa.udpReads
