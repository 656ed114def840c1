/-
  TooBig of package icmp gives, for any bytes, any greatest size and both families, the message that the document asks for. No condition.
-/
import Derived.Test.YtkdcaipadejchaaRows
import Derived.WalkKit
import Derived.ProofKit
import Derived.OpenShut
import Derived.ShutString
import Derived.ChangeOld
import Derived.Below
import Derived.Test.YtkdcaipadejchaaIcmp2
namespace Go.Proofs.Ytkdcaipadejchaa.icmpBig
open Go.ChangeShapes Go.WideShapes Go.ChangeAt Go.RowKit
open Go.ChangeMaps (open_string shut_string)
open Go.Proofs.Ytkdcaipadejchaa
set_option linter.unusedVariables false

theorem own : ownKnob Try.prog.godebug = none := by kernel_rfl
theorem laidOut : laidOutB Try.prog = true := by kernel_rfl


theorem IsB.lit (W : World) (l : List Int) (hl : l.length ≤ 1000) : IsB l l.length (.slice (some ⟨W.heap.size, 0, none⟩) l.length l.length) (W.alloc (.cells (u8s l).toArray 5)) :=
  ⟨_, _, rfl, rfl, (Bytes.lit W l).more (by simp), Nat.le_refl _, by unfold maxLen; omega, fun h => by cases h⟩
set_option maxRecDepth 100000 in
set_option maxHeartbeats 1000000 in
theorem awake08 (w : World) : Calls Try.prog 36 #[] w fun e w' => e = .returned (.bool true) ∧ Below w.heap.size w w' := by
  go_enter Try.func36, Try.ntmps36
  go_wp2_with fail
  refine (toobig4 (some ⟨w.heap.size, 0, none⟩) 3 [7, 8, 9] 1400 3 _ (IsB.lit w [7, 8, 9] (by decide)) (by decide) (by decide) (by decide) (.inr ⟨rfl, by decide⟩)).mono ?_
  rintro e w1 ⟨v, rfl, hb1, hv⟩
  have HV := hide hv
  have HB1 := Lib.hid (((Below.refl w.heap.size w).alloc (Nat.le_refl _) _).trans (hb1.mono (by simp)))
  clear hv hb1
  go_wp2_with fail
  refine (bytes8 3 4 0 1400 [7, 8, 9] 3 v w1 HV.out (by decide) (by decide) (by decide) (by decide) (by decide)).mono ?_
  rintro e w2 ⟨A2, c2, rfl, ho, hb⟩
  obtain ⟨g, rfl, hg, hgl⟩ := ho.blocks (by decide)
  have b0 : w2.cell? ⟨g, 0, none⟩ = some (.int .u8 3) := (ho.at (k := 0) (by decide)).trans (by rfl)
  have b1 : w2.cell? ⟨g, 1, none⟩ = some (.int .u8 4) := (ho.at (k := 1) (by decide)).trans (by rfl)
  have cc := ho.cap
  have cc1 : 11 ≤ c2 := cc.1
  have HB2 := Lib.hid (HB1.out.trans (hb.mono HB1.out.size))
  clear ho hb HV HB1 cc
  go_wp2_with fail
  go_ret
  exact ⟨rfl, HB2.out⟩

theorem tbs (six : Bool) (A : Option Addr) (c : Nat) (l : List Int) (most : Int) (hm : l.length ≤ 90000000) (m0 : 0 ≤ most) (m1 : most ≤ 65535) :
    ∃ (ty co : Int) (k : Nat), ∀ w, IsB l l.length (.slice A l.length c) w →
      Calls Try.prog 41 #[.slice A l.length c, .int .u16 most, .bool six] w (Msg w ty co 0 most (l.take k) k) ∧
      Calls Try.prog 42 #[.slice A l.length c, .int .u16 most, .bool six] w (Msg w ty co 0 most (l.take k) k) := by
  cases six with
  | false =>
    by_cases h : 548 ≤ l.length
    · exact ⟨3, 4, 548, fun w hi => ⟨toobig4 A c l most 548 w hi hm m0 m1 (.inl ⟨rfl, h⟩), rtoobig4_a A c l most w hi hm m0 m1 h⟩⟩
    · exact ⟨3, 4, l.length, fun w hi => ⟨toobig4 A c l most l.length w hi hm m0 m1 (.inr ⟨rfl, by omega⟩), rtoobig4_b A c l most w hi hm m0 m1 (by omega)⟩⟩
  | true =>
    by_cases h : 1232 ≤ l.length
    · exact ⟨2, 0, 1232, fun w hi => ⟨toobig6 A c l most 1232 w hi hm m0 m1 (.inl ⟨rfl, h⟩), rtoobig6_a A c l most w hi hm m0 m1 h⟩⟩
    · exact ⟨2, 0, l.length, fun w hi => ⟨toobig6 A c l most l.length w hi hm m0 m1 (.inr ⟨rfl, by omega⟩), rtoobig6_b A c l most w hi hm m0 m1 (by omega)⟩⟩

set_option maxRecDepth 100000 in
set_option maxHeartbeats 1000000 in
theorem walk (A : Option Addr) (c : Nat) (l : List Int) (most : Int) (six : Bool) (w : World) (h : IsB l l.length (.slice A l.length c) w) (m0 : 0 ≤ most) (m1 : most ≤ 65535) (hlm : l.length ≤ maxLen) :
    Calls Try.prog 8 #[.slice A l.length c, .int .u16 most, .bool six] w fun e w' => e = .returned (.bool true) ∧ Below w.heap.size w w' := by
  unfold maxLen at hlm
  by_cases q : 4000 < l.length
  · clear h
    go_enter Try.func8, Try.ntmps8
    go_wp2_with fail
    refine (awake08 _).mono ?_
    rintro e w1 ⟨rfl, hb⟩
    go_wp2_with fail
    go_ret
    exact ⟨rfl, hb⟩
  · obtain ⟨ty, co, k, hk⟩ := tbs six A c l most (by omega) m0 m1
    have HK := Lib.hid hk
    have HI := hide h
    clear h hk
    go_enter Try.func8, Try.ntmps8
    go_wp2_with fail
    refine ((HK.out w HI.out).1).mono ?_
    rintro e w1 ⟨v, rfl, hb1, hv⟩
    have HV := hide hv
    have HB1 := Lib.hid hb1
    clear hv hb1
    go_wp2_with fail
    refine (of8 ty co 0 most (l.take k) k v w1 HV.out).mono ?_
    rintro e w2 ⟨v2, rfl, hb2, hv2⟩
    have HV2 := hide hv2
    have HB2 := Lib.hid (HB1.out.trans (hb2.mono HB1.out.size))
    clear hv2 hb2 HV HB1
    go_wp2_with fail
    refine ((HK.out w2 (HI.out.st HB2.out)).2).mono ?_
    rintro e w3 ⟨v3, rfl, hb3, hv3⟩
    have HV3 := hide hv3
    have HB3 := Lib.hid (HB2.out.trans (hb3.mono HB2.out.size))
    have HV4 := hide (HV2.out.st hb3)
    clear hv3 hb3 HB2 HV2
    go_wp2_with fail
    refine (same8 ty co 0 most (l.take k) k k v2 v3 w3 HV4.out HV3.out).mono ?_
    rintro e w4 ⟨rfl, hb4⟩
    have HB4 := Lib.hid (HB3.out.trans (hb4.mono HB3.out.size))
    clear hb4 HB3
    go_wp2_with fail
    refine (awake08 _).mono ?_
    rintro e w5 ⟨rfl, hb5⟩
    have HB5 := Lib.hid (HB4.out.trans (hb5.mono HB4.out.size))
    clear hb5 HB4
    go_wp2_with fail
    go_ret
    exact ⟨rfl, HB5.out⟩

/-! ### The step from the walk to the row -/
set_option maxRecDepth 100000 in
theorem lifted (os : Os) (started : os.Started) (H : Type) (enc : TypeId × Value → H) :
    ReturnsInHanded {} Try.checked os 8 .any (Rows.icmpBigSpec.pre6 enc Try.prog Try.f8 Rows.icmpBigRow.domain false) (Rows.icmpBigSpec.post enc Try.prog Try.f8 false true false false) := by
  refine returnsInHanded_of_change (C := Try.checked) own started (by kernel_rfl) Try.func8
    (ChangeSpec.witness6 (enc := enc) (C := Try.checked) false ⟨#[], #[.slice none 0 0, .int .u16 0, .bool false], []⟩ 8 (by kernel_rfl) (by kernel_rfl) (by kernel_rfl) (by kernel_rfl)) ?_
  intro W base args ds gs before hval0 hW hcnd _
  have hval : ∀ (j : Nat) t v, Try.f8.params[j]? = some t → args[j]? = some v → Value.okWide Try.prog W .any base t v := hval0
  have hW' := hW
  obtain ⟨p, q, hA0, hV, rfl, hfz, hnd⟩ := hW
  have hA : DataW.TrodAll enc Try.prog W 0 (fun _ => true) true Try.f8.params.toList args.toList ds p := hA0
  rw [Try.params8] at hA hval
  obtain ⟨v0, vs0, d0, ds0, p0, q0, hargs, rfl, rfl, h0, r0⟩ := trodAll_cons hA
  obtain ⟨v1, vs1, d1, ds1, p1, q1, rfl, rfl, rfl, h1, r1⟩ := trodAll_cons r0
  obtain ⟨v2, vs2, d2, ds2, p2, q2, rfl, rfl, rfl, h2, r2⟩ := trodAll_cons r1
  obtain ⟨rfl, rfl, rfl⟩ := trodAll_nil r2
  obtain rfl : args = #[v0, v1, v2] := by cases args; simp_all
  obtain ⟨rfl, rfl⟩ := trodVars_none hV
  have k0 := h0
  have lt0 : ∀ x ∈ p0, x.block < W.heap.size := by obtain ⟨m, hm⟩ := k0; exact DataW.trod_lt m _ _ _ hm
  have ok0 := hval 0 22 v0 rfl rfl
  have k1 := h1
  have lt1 : ∀ x ∈ p1, x.block < W.heap.size := by obtain ⟨m, hm⟩ := k1; exact DataW.trod_lt m _ _ _ hm
  have ok1 := hval 1 42 v1 rfl rfl
  have k2 := h2
  have lt2 : ∀ x ∈ p2, x.block < W.heap.size := by obtain ⟨m, hm⟩ := k2; exact DataW.trod_lt m _ _ _ hm
  have ok2 := hval 2 4 v2 rfl rfl
  clear hA0 hval0
  obtain ⟨A, na, c, rfl⟩ := okWide_slice Try.underlying22 ok0
  obtain ⟨l, rfl, ob, ha, hba⟩ := open_isb (e := 5) Try.underlying22 Try.underlying5 (by kernel_rfl) h0
  obtain ⟨most, rfl, rfl, rfl, w1⟩ := open_int Try.underlying42 ok1 h1
  obtain ⟨six, rfl, rfl, rfl⟩ := open_bool Try.underlying4 ok2 h2
  have m0 := ha.maxlen
  refine (walk A c l most six W ha (bounds_u16 w1).1 (by have := (bounds_u16 w1).2; omega) m0).mono fun e W' ⟨he, bel⟩ => ?_
  subst he
  exact ⟨_, rfl, _, _, _, [], _, [], hW', trodAll_mk1 (shut_bool Try.underlying4 _), (trodAll_cons_mk (Below.trod laidOut (by kernel_rfl) (of_decide_eq_true (by kernel_rfl)) k0 bel lt0) (trodAll_cons_mk (Below.trod laidOut (by kernel_rfl) (of_decide_eq_true (by kernel_rfl)) k1 bel lt1) (trodAll_cons_mk (Below.trod laidOut (by kernel_rfl) (of_decide_eq_true (by kernel_rfl)) k2 bel lt2) trodAll_mk0))), rfl, bel.frame _, fun h => by cases h⟩

theorem over : Rows.icmpBigRow.holds Try.pinned (OpenSpec.ofChange Rows.icmpBigSpec) :=
  OpenClaim.holds_of_wide 8 Try.f8 rfl rfl rfl rfl rfl rfl rfl ⟨rfl, rfl, rfl, rfl, rfl⟩ rfl rfl rfl rfl rfl (by kernel_rfl) Try.func8 (by kernel_rfl)
    (of_decide_eq_true (by kernel_rfl)) (by unfold Func.isWrapper; first | (rw [if_pos (by decide +kernel)]; kernel_rfl) | (rw [if_neg (by decide +kernel)]; exact ⟨rfl, rfl⟩))
    (fun os started H enc _ => lifted os started H enc)

theorem proved : Rows.IcmpBigSaid := over
#print axioms proved
end Go.Proofs.Ytkdcaipadejchaa.icmpBig
