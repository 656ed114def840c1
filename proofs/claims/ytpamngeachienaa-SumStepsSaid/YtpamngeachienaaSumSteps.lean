/-
  SumSteps (P2.2) answers true and leaves its arguments as they were, for every sum, words and list of changes: Update, UpdateLong and UpdateAll agree with the reference. No condition.
-/
import Derived.Test.YtpamngeachienaaRows
import Derived.WalkKit
import Derived.ProofKit
import Derived.OpenShut
import Derived.ShutString
import Derived.ChangeOld
import Derived.Below
import Derived.Test.YtpamngeachienaaSum
import Derived.Outline
namespace Go.Proofs.Ytpamngeachienaa.sumSteps
open Go.ChangeShapes Go.WideShapes Go.ChangeAt Go.RowKit
open Go.ChangeMaps (open_string shut_string)
open Go.Proofs.Ytpamngeachienaa
set_option linter.unusedVariables false

theorem own : ownKnob Try.prog.godebug = none := by kernel_rfl
theorem laidOut : laidOutB Try.prog = true := by kernel_rfl

def LRel (s : Int) (l : List Chg) (v i : Value) (w wr : World) : Prop := ∃ k : Nat, k ≤ l.length ∧ i = .int .i64 k ∧ v = .int .u16 (updAll s (l.take k)) ∧ Below w.heap.size w wr
section
variable {H : Type} {enc : TypeId × Value → H} {held : Bool} {spare : Nat → Bool}
theorem open_chgs {w : World} {A : Option Addr} {n c : Nat} {d : DataW H} {p : List MemPlace} (h : DataW.Trod enc Try.prog w 0 spare held 44 (.slice A n c) d p) :
    ∃ l : List Chg, l.length = n ∧ n ≤ maxLen ∧ Chgs w w.heap.size A l ∧ WordsOk l := by
  obtain ⟨hnc, hcm, hr⟩ := open_els (e := 47) (sz := 2) Try.underlying44 (by kernel_rfl) (by omega) h
  by_cases hn : n = 0
  · subst hn; exact ⟨[], rfl, by omega, fun h => absurd h (by simp), fun k => by simp [chg, default]⟩
  obtain ⟨b, off, rfl, hb, hi⟩ := hr (by omega)
  have key : ∀ i, i < n → ∃ x : Chg, (∀ j, j < 2 → w.cell? ⟨b, off + i * 2 + j, none⟩ = some (if j = 0 then .int .u16 x.was else .int .u16 x.now)) ∧ 0 ≤ x.was ∧ x.was ≤ 65535 ∧ 0 ≤ x.now ∧ x.now ≤ 65535 := by
    intro i hin
    obtain ⟨cs, m, y, hl, hc, ht⟩ := hi i hin
    obtain ⟨xs, k, _, _, _, hxl, hf⟩ := DataW.trod_struct Try.underlying47 ht
    have f0 := hf 0 _ rfl
    have f1 := hf 1 _ rfl
    match cs, hl with
    | [a0, a1], _ =>
      match xs, hxl with
      | [x0, x1], _ =>
        obtain ⟨n0, e0, _, w0⟩ := DataW.trod_int Try.underlying42 f0
        obtain ⟨n1, e1, _, w1⟩ := DataW.trod_int Try.underlying42 f1
        have g0 : [a0] = [Value.int .u16 n0] := e0
        have g1 : [a1] = [Value.int .u16 n1] := e1
        injection g0 with g0; injection g1 with g1
        subst g0 g1
        refine ⟨⟨n0, n1⟩, fun j hj => ?_, (bounds_u16 w0).1, (bounds_u16 w0).2, (bounds_u16 w1).1, (bounds_u16 w1).2⟩
        rw [hc j hj]
        match j, hj with
        | 0, _ => rfl
        | 1, _ => rfl
  obtain ⟨l, hl, hp⟩ := list_of n key
  refine ⟨l, hl, by omega, fun _ => ⟨b, off, rfl, hb, fun i j hi hj => (hp i (chg l i) (by simp [chg, List.getD, hi])).1 j hj⟩, fun k => ?_⟩
  by_cases hk : k < l.length
  · exact (hp k (chg l k) (by simp [chg, List.getD, hk])).2
  · have : chg l k = default := by simp [chg, List.getD, List.getElem?_eq_none (Nat.le_of_not_lt hk)]
    rw [this]; decide
end

set_option maxHeartbeats 4000000 in
theorem walk (A : Option Addr) (c : Nat) (l : List Chg) (s was now : Int) (w : World) (h : Chgs w w.heap.size A l) (hw : WordsOk l) (hm : l.length ≤ maxLen) (a0 : 0 ≤ s) (a1 : s ≤ 65535) (b0 : 0 ≤ was) (b1 : was ≤ 4294967295) (c0 : 0 ≤ now) (c1 : now ≤ 4294967295) :
    Calls Try.prog 5 #[.int .u16 s, .int .u32 was, .int .u32 now, .slice A l.length c] w fun e w' => e = .returned (.bool true) ∧ Below w.heap.size w w' := by
  unfold maxLen at hm
  have HA := Lib.hid h
  have HW := Lib.hid hw
  clear h hw
  by_cases h100 : 100 < l.length
  · go_enter Try.func5, Try.ntmps5
    go_wp2_with fail
    refine (awake02 _).mono ?_
    rintro e w0 ⟨rfl, hb⟩
    go_wp2_with fail
    go_ret
    exact ⟨rfl, hb⟩
  · have g1 : IntKind.u16.wrap was = was % 65536 := IntKind.wrap_u16 _
    have g2 : IntKind.u16.wrap now = now % 65536 := IntKind.wrap_u16 _
    obtain ⟨v0, v1⟩ := upd_bd s (was / 65536) (now / 65536)
    go_enter Try.func5, Try.ntmps5
    go_wp2_with fail
    refine (rupdate_any _ _ _ _ (by omega) (by omega) (by omega) (by omega) (by omega) (by omega)).mono ?_
    rintro e w' ⟨rfl, rfl⟩
    go_wp2_with fail
    go_loopw [10, 11] (fun v i wr => LRel s l v i w wr) (fun _ i _ => l.length - (intOf i).toNat)
    case atStart => exact ⟨0, Nat.zero_le _, rfl, rfl, Below.refl _ _⟩
    case round =>
      obtain ⟨k, hk, rfl, rfl, hbw⟩ := hrel
      have HB := Lib.hid hbw
      clear hbw
      obtain ⟨u0, u1⟩ := updAll_bd s (l.take k) a0 a1
      by_cases hlt : k < l.length
      · obtain ⟨b, off, rfl, hbl, hc⟩ := HA.out (by omega)
        have d0 : wr.cell? ⟨b, off + k * 2, none⟩ = some (.int .u16 (chg l k).was) := (HB.out.cell (p := ⟨b, _, none⟩) hbl).trans (by simpa using hc k 0 hlt (by omega))
        have d1 : wr.cell? ⟨b, off + k * 2 + 1, none⟩ = some (.int .u16 (chg l k).now) := (HB.out.cell (p := ⟨b, _, none⟩) hbl).trans (by simpa using hc k 1 hlt (by omega))
        have HS := Lib.hid (updAll_snoc s l k hlt)
        obtain ⟨q0, q1, q2, q3⟩ := HW.out k
        have i0 : (0 : Int) ≤ (k : Int) := by omega
        have i1 : (k : Int) < (l.length : Int) := by omega
        clear hc
        generalize chg l k = x at *
        generalize hy : updAll s (l.take k) = y at *
        have HY := Lib.hid hy
        clear hy
        go_wp2_with fail
        go_quiet ((go_at_call 20; exact Calls.quiet_of_same ((rupdate_any _ _ _ _ (by omega) (by omega) (by omega) (by omega) (by omega) (by omega)).mono fun _ _ hh => ⟨hh.1, hh.2.symm⟩)))
        go_wp2_with fail
        go_roundw
        case rel => exact ⟨k + 1, by omega, by go_num, by rw [HS.out], below_drewN HB.out _⟩
        case measure => simp [intOf]; omega
      · obtain rfl : k = l.length := by omega
        rw [List.take_length] at u0 u1 ⊢
        have hz := HB.out.size
        go_wp2_with fail
        refine (update_any _ _ _ _ (by omega) (by omega) (by omega) (by omega) (by omega) (by omega)).mono ?_
        rintro e w' ⟨rfl, rfl⟩
        go_wp2_with fail
        refine (rupdate_any _ _ _ _ (by omega) (by omega) (by omega) (by omega) (by omega) (by omega)).mono ?_
        rintro e w' ⟨rfl, rfl⟩
        go_wp2_with fail
        refine (updateLong_any _ _ _ _ (by omega) (by omega) (by omega) (by omega) (by omega) (by omega)).mono ?_
        rintro e w1 ⟨rfl, hb1⟩
        have HB1 := Lib.hid (HB.out.trans (hb1.mono hz))
        clear hb1
        have hz1 := HB1.out.size
        go_wp2_with fail
        refine (rupdate_any _ _ _ _ (by omega) (by omega) (by omega) (by omega) (by omega) (by omega)).mono ?_
        rintro e w' ⟨rfl, rfl⟩
        go_wp2_with fail
        refine (updateAll_any s A c l _ ((HA.out.below HB1.out).more hz1) HW.out (by omega) a0 a1).mono ?_
        rintro e w2 ⟨rfl, hb2⟩
        have HB2 := Lib.hid (HB1.out.trans (hb2.mono hz1))
        clear hb2
        have hz2 := HB2.out.size
        go_wp2_with fail
        refine (awake02 _).mono ?_
        rintro e w3 ⟨rfl, hb3⟩
        go_wp2_with fail
        go_ret
        exact ⟨rfl, HB2.out.trans (hb3.mono hz2)⟩

/-! ### The step from the walk to the row -/
set_option maxRecDepth 100000 in
theorem lifted (os : Os) (started : os.Started) (H : Type) (enc : TypeId × Value → H) :
    ReturnsInHanded {} Try.checked os 5 .any (Rows.sumStepsSpec.pre6 enc Try.prog Try.f5 Rows.sumStepsRow.domain false) (Rows.sumStepsSpec.post enc Try.prog Try.f5 false true false false) := by
  refine returnsInHanded_of_change (C := Try.checked) own started (by kernel_rfl) Try.func5
    (ChangeSpec.witness6 (enc := enc) (C := Try.checked) false ⟨#[], #[.int .u16 0, .int .u32 0, .int .u32 0, .slice none 0 0], []⟩ 8 (by kernel_rfl) (by kernel_rfl) (by kernel_rfl) (by kernel_rfl)) ?_
  intro W base args ds gs before hval0 hW hcnd _
  have hval : ∀ (j : Nat) t v, Try.f5.params[j]? = some t → args[j]? = some v → Value.okWide Try.prog W .any base t v := hval0
  have hW' := hW
  obtain ⟨p, q, hA0, hV, rfl, hfz, hnd⟩ := hW
  have hA : DataW.TrodAll enc Try.prog W 0 (fun _ => true) true Try.f5.params.toList args.toList ds p := hA0
  rw [Try.params5] at hA hval
  obtain ⟨v0, vs0, d0, ds0, p0, q0, hargs, rfl, rfl, h0, r0⟩ := trodAll_cons hA
  obtain ⟨v1, vs1, d1, ds1, p1, q1, rfl, rfl, rfl, h1, r1⟩ := trodAll_cons r0
  obtain ⟨v2, vs2, d2, ds2, p2, q2, rfl, rfl, rfl, h2, r2⟩ := trodAll_cons r1
  obtain ⟨v3, vs3, d3, ds3, p3, q3, rfl, rfl, rfl, h3, r3⟩ := trodAll_cons r2
  obtain ⟨rfl, rfl, rfl⟩ := trodAll_nil r3
  obtain rfl : args = #[v0, v1, v2, v3] := by cases args; simp_all
  obtain ⟨rfl, rfl⟩ := trodVars_none hV
  have k0 := h0
  have lt0 : ∀ x ∈ p0, x.block < W.heap.size := by obtain ⟨m, hm⟩ := k0; exact DataW.trod_lt m _ _ _ hm
  have ok0 := hval 0 42 v0 rfl rfl
  have k1 := h1
  have lt1 : ∀ x ∈ p1, x.block < W.heap.size := by obtain ⟨m, hm⟩ := k1; exact DataW.trod_lt m _ _ _ hm
  have ok1 := hval 1 43 v1 rfl rfl
  have k2 := h2
  have lt2 : ∀ x ∈ p2, x.block < W.heap.size := by obtain ⟨m, hm⟩ := k2; exact DataW.trod_lt m _ _ _ hm
  have ok2 := hval 2 43 v2 rfl rfl
  have k3 := h3
  have lt3 : ∀ x ∈ p3, x.block < W.heap.size := by obtain ⟨m, hm⟩ := k3; exact DataW.trod_lt m _ _ _ hm
  have ok3 := hval 3 44 v3 rfl rfl
  clear hA0 hval0
  obtain ⟨s, rfl, rfl, rfl, w0⟩ := open_int Try.underlying42 ok0 h0
  obtain ⟨was, rfl, rfl, rfl, w1⟩ := open_int Try.underlying43 ok1 h1
  obtain ⟨now, rfl, rfl, rfl, w2⟩ := open_int Try.underlying43 ok2 h2
  obtain ⟨A, n, c, rfl⟩ := okWide_slice Try.underlying44 ok3
  obtain ⟨l, rfl, hm, hc, hw⟩ := open_chgs h3
  refine (walk A c l s was now W hc hw hm (bounds_u16 w0).1 (bounds_u16 w0).2 (bounds_u32 w1).1 (bounds_u32 w1).2 (bounds_u32 w2).1 (bounds_u32 w2).2).mono fun e W' ⟨he, bel⟩ => ?_
  subst he
  exact ⟨_, rfl, _, _, _, [], _, [], hW', trodAll_mk1 (shut_bool Try.underlying4 _), (trodAll_cons_mk (Below.trod laidOut (by kernel_rfl) (of_decide_eq_true (by kernel_rfl)) k0 bel lt0) (trodAll_cons_mk (Below.trod laidOut (by kernel_rfl) (of_decide_eq_true (by kernel_rfl)) k1 bel lt1) (trodAll_cons_mk (Below.trod laidOut (by kernel_rfl) (of_decide_eq_true (by kernel_rfl)) k2 bel lt2) (trodAll_cons_mk (Below.trod laidOut (by kernel_rfl) (of_decide_eq_true (by kernel_rfl)) k3 bel lt3) trodAll_mk0)))), rfl, bel.frame _, fun h => by cases h⟩

theorem over : Rows.sumStepsRow.holds Try.pinned (OpenSpec.ofChange Rows.sumStepsSpec) :=
  OpenClaim.holds_of_wide 5 Try.f5 rfl rfl rfl rfl rfl rfl rfl ⟨rfl, rfl, rfl, rfl, rfl⟩ rfl rfl rfl rfl rfl (by kernel_rfl) Try.func5 (by kernel_rfl)
    (of_decide_eq_true (by kernel_rfl)) (by unfold Func.isWrapper; first | (rw [if_pos (by decide +kernel)]; kernel_rfl) | (rw [if_neg (by decide +kernel)]; exact ⟨rfl, rfl⟩))
    (fun os started H enc _ => lifted os started H enc)

theorem proved : Rows.SumStepsSaid := over
#print axioms proved
end Go.Proofs.Ytpamngeachienaa.sumSteps
