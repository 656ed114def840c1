/-
  PolicyNames (P21.1) answers true, for every integer and any string: Right, Name and Of agree with the reference. No condition.
-/
import Derived.Test.YtkebgkjopfdafaaRows
import Derived.WalkKit
import Derived.ProofKit
import Derived.OpenShut
import Derived.ShutString
import Derived.ChangeOld
import Derived.Below
import Derived.Test.YtkebgkjopfdafaaPol
namespace Go.Proofs.Ytkebgkjopfdafaa.policyNames
open Go.ChangeShapes Go.WideShapes Go.ChangeAt Go.RowKit
open Go.ChangeMaps (open_string shut_string)
open Go.Proofs.Ytkebgkjopfdafaa
set_option maxRecDepth 100000
set_option linter.unusedVariables false

theorem own : ownKnob Try.prog.godebug = none := by kernel_rfl
theorem laidOut : laidOutB Try.prog = true := by kernel_rfl


def Lits : Array Value := #[.int .i64 0, .int .i64 0, .int .i64 0, .int .u32 5, .int .i64 1, .int .i64 0, .int .i64 0, .int .u32 2]
def two21 : List Cand := [⟨0, 0, 0, 5⟩, ⟨1, 0, 0, 2⟩]
set_option maxHeartbeats 1000000 in
theorem choose3 (g : Nat) (A : Option Addr) (c : Nat) (l : List Cand) (a b : Int) (w : World) (h : Cands w w.heap.size A l) (hm : l.length ≤ maxLen) (h0 : 0 < l.length) :
    Calls Try.prog 82 #[.pointer (some ⟨g, 0, none⟩), .int .i64 3, .slice A l.length c, .int .u32 a, .int .u32 b] w fun e w' => e = .returned (.tuple #[(nth l (bestTo l l.length)).val, .bool true]) ∧ Below w.heap.size w w' := by
  have HC := hide0 h
  obtain ⟨q, hq⟩ : ∃ q, nth l (bestTo l l.length) = q := ⟨_, rfl⟩
  rw [hq]
  have HQ := Lib.hid hq
  unfold Cand.val
  clear h hq
  go_enter Try.func82, Try.ntmps82
  go_wp2_with fail
  refine (least_any A c l _ ((HC.out.below ((Below.refl _ _).alloc (Nat.le_refl _) _)).more (by simp)) hm h0).mono ?_
  rintro e w1 ⟨rfl, hb1⟩
  have hr := (Is.new w 29 #[.int .i64 0, .int .i64 0, .int .i64 0, .int .u32 0]).below hb1 (by simp)
  have r0 := hr.cell 0
  have r1 := hr.cell 1
  have r2 := hr.cell 2
  have r3 := hr.cell 3
  have fr := hr.free
  have lr := hr.lt
  simp at r0 r1 r2 r3 fr
  have HB := Lib.hid (((Below.refl w.heap.size w).alloc (Nat.le_refl _) _).trans (hb1.mono (by simp)))
  clear hr hb1
  rw [HQ.out]
  unfold Cand.val
  go_wp2_with fail
  refine bodyPost_ret (v := .tuple #[.agg #[.int .i64 q.slot, .int .i64 q.backend, .int .i64 q.weight, .int .u32 q.load], .bool true]) (by simp [results, Try.results82, go_sem, r0, r1, r2, r3]) rfl ⟨rfl, ?_⟩
  have ob := HB.out
  repeat' first | with_reducible exact ob | with_reducible apply set1c
  all_goals omega
set_option maxHeartbeats 1000000 in
theorem awake21 (w : World) : Calls Try.prog 39 #[] w fun e w' => e = .returned (.bool true) ∧ Below w.heap.size w w' := by
  go_enter Try.func39, Try.ntmps39
  go_wp2_with fail
  refine (choose3 w.heap.size (some ⟨w.heap.size + 1, 0, none⟩) 2 two21 0 0 _ ?_ (by decide) (by decide)).mono ?_
  · have h9 := cands_of_is (l := two21) (Is.new (w.alloc (.cells #[.int .i64 0, .slice none 0 0] 149)) 29 (cellsOf two21).toArray)
    rw [show (w.alloc (.cells #[.int .i64 0, .slice none 0 0] 149)).heap.size = w.heap.size + 1 from by simp] at h9
    exact h9
  rintro e w1 ⟨rfl, hb1⟩
  have HB := Lib.hid (hb1.size)
  have HB2 := Lib.hid hb1
  rw [show nth two21 (bestTo two21 two21.length) = ⟨1, 0, 0, 2⟩ from rfl]
  unfold Cand.val
  clear hb1
  go_wp2_with fail
  go_ret
  refine ⟨rfl, ?_⟩
  have h9 := ((((Below.refl w.heap.size w).alloc (Nat.le_refl _) _).alloc (by simp) _).trans (HB2.out.mono (by simp; omega)))
  exact h9.alloc h9.size _
def Matches (s : ByteArray) (j : Nat) : Prop := ∀ k : Nat, 1 ≤ k → k ≤ 4 → ((pname (k : Int)).toList == s.toList) = decide (k = j)
theorem matches_of (s : ByteArray) : ∃ j, 1 ≤ j ∧ j ≤ 5 ∧ Matches s j := by
  have d1 : (pname 1).toList = [116, 117, 114, 110, 115] := by decide +kernel
  have d2 : (pname 2).toList = [119, 101, 105, 103, 104, 116, 115] := by decide +kernel
  have d3 : (pname 3).toList = [108, 111, 97, 100, 115] := by decide +kernel
  have d4 : (pname 4).toList = [100, 114, 97, 119, 115] := by decide +kernel
  have key : ∀ j : Nat, (((pname 1).toList == s.toList) = decide (1 = j)) → (((pname 2).toList == s.toList) = decide (2 = j)) → (((pname 3).toList == s.toList) = decide (3 = j)) → (((pname 4).toList == s.toList) = decide (4 = j)) → Matches s j := by
    intro j h1 h2 h3 h4 k k1 k4
    have : k = 1 ∨ k = 2 ∨ k = 3 ∨ k = 4 := by omega
    rcases this with rfl | rfl | rfl | rfl
    · exact h1
    · exact h2
    · exact h3
    · exact h4
  rw [d1, d2, d3, d4] at key
  generalize s.toList = t at key
  by_cases q1 : [116, 117, 114, 110, 115] = t
  · subst q1; exact ⟨1, by omega, by omega, key 1 (by decide) (by decide) (by decide) (by decide)⟩
  by_cases q2 : [119, 101, 105, 103, 104, 116, 115] = t
  · subst q2; exact ⟨2, by omega, by omega, key 2 (by decide) (by decide) (by decide) (by decide)⟩
  by_cases q3 : [108, 111, 97, 100, 115] = t
  · subst q3; exact ⟨3, by omega, by omega, key 3 (by decide) (by decide) (by decide) (by decide)⟩
  by_cases q4 : [100, 114, 97, 119, 115] = t
  · subst q4; exact ⟨4, by omega, by omega, key 4 (by decide) (by decide) (by decide) (by decide)⟩
  exact ⟨5, by omega, by omega, key 5 (by simpa using q1) (by simpa using q2) (by simpa using q3) (by simpa using q4)⟩
def ofVal (j : Nat) : Int := if j ≤ 4 then (j : Int) else 0
def wantV (j k : Nat) : Int := if j < k then (j : Int) else 0
theorem wantV_next {j k : Nat} (h : k ≠ j) : wantV j (k + 1) = wantV j k := by
  unfold wantV
  by_cases q9 : j < k
  · rw [if_pos q9, if_pos (by omega)]
  · rw [if_neg q9, if_neg (by omega)]
theorem wantV_at {j k : Nat} (h : k = j) : wantV j (k + 1) = (k : Int) := by unfold wantV; rw [if_pos (by omega), h]
theorem wantV_end (j : Nat) : wantV j 5 = ofVal j := by
  unfold wantV ofVal
  by_cases q9 : j < 5
  · rw [if_pos q9, if_pos (by omega)]
  · rw [if_neg q9, if_neg (by omega)]
def OfRel (j : Nat) (i : Value) : Prop := ∃ k : Nat, 1 ≤ k ∧ k ≤ 5 ∧ k ≤ j ∧ i = .int .i64 (k : Int)
set_option maxHeartbeats 1000000 in
theorem of_any (s : ByteArray) (j : Nat) (w : World) (j1 : 1 ≤ j) (j5 : j ≤ 5) (hj : Matches s j) :
    Calls Try.prog 43 #[.string s] w fun e w' => e = .returned (.int .i64 (ofVal j)) ∧ w = w' := by
  have HJ := Lib.hid hj
  clear hj
  go_enter Try.func43, Try.ntmps43
  go_wp2_with fail
  go_loop [3] (fun i => OfRel j i) (fun i => (5 - intOf i).toNat)
  case atStart => exact ⟨1, by omega, by omega, by omega, rfl⟩
  case round =>
    obtain ⟨k, k1, k5, kj, rfl⟩ := hrel
    by_cases h4 : k ≤ 4
    · have hm := HJ.out k k1 h4
      by_cases e : k = j
      · rw [decide_eq_true e] at hm
        have EJ := Lib.hid e
        clear e
        go_wp2_with fail
        refine (name_any (k : Int) w).mono ?_
        rintro e w1 ⟨rfl, rfl⟩
        go_wp2_with fail
        go_ret
        exact ⟨ret_int (by unfold ofVal; rw [if_pos (by have := EJ.out; omega), EJ.out]), rfl⟩
      · rw [decide_eq_false e] at hm
        go_wp2_with fail
        refine (name_any (k : Int) w).mono ?_
        rintro e w1 ⟨rfl, rfl⟩
        go_wp2_with fail
        go_round
        case rel => exact ⟨k + 1, by omega, by omega, by omega, by go_num⟩
        case measure => simp [intOf]; omega
    · obtain rfl : k = 5 := by omega
      go_wp2_with fail
      go_ret
      exact ⟨ret_int (by unfold ofVal; rw [if_neg (by omega)]), rfl⟩
theorem right_any (k : Int) (w : World) : Calls Try.prog 41 #[.int .i64 k] w fun e w' => e = .returned (.bool (decide (1 ≤ k) && decide (k ≤ 4))) ∧ w = w' := by
  by_cases h1 : 1 ≤ k
  · by_cases h2 : k ≤ 4
    · go_enter Try.func41, Try.ntmps41
      go_wp2_with fail
      go_ret
      exact ⟨ret_bool (by rw [Bool.eq_iff_iff]; simp; try omega), rfl⟩
    · go_enter Try.func41, Try.ntmps41
      go_wp2_with fail
      go_ret
      exact ⟨ret_bool (by rw [Bool.eq_iff_iff]; simp; try omega), rfl⟩
  · go_enter Try.func41, Try.ntmps41
    go_wp2_with fail
    go_ret
    exact ⟨ret_bool (by rw [Bool.eq_iff_iff]; simp; try omega), rfl⟩
def WantRel (w : World) (j : Nat) (v i : Value) (wr : World) : Prop := ∃ k : Nat, 1 ≤ k ∧ k ≤ 5 ∧ i = .int .i64 (k : Int) ∧ v = .int .i64 (wantV j k) ∧ Below w.heap.size w wr
set_option maxHeartbeats 2000000 in
theorem walk (way : Int) (s : ByteArray) (w : World) (hs : s.size ≤ maxLen) :
    Calls Try.prog 9 #[.int .i64 way, .string s] w fun e w' => e = .returned (.bool true) ∧ Below w.heap.size w w' := by
  unfold maxLen at hs
  by_cases q : 50 < s.size
  · go_enter Try.func9, Try.ntmps9
    go_wp2_with fail
    refine (awake21 _).mono ?_
    rintro e w1 ⟨rfl, hb⟩
    go_wp2_with fail
    go_ret
    exact ⟨rfl, hb⟩
  · obtain ⟨j, j1, j5, hj⟩ := matches_of s
    have HJ := Lib.hid hj
    clear hj
    go_enter Try.func9, Try.ntmps9
    go_wp2_with fail
    go_loopw [5, 6] (fun v i wr => WantRel w j v i wr) (fun _ i _ => (5 - intOf i).toNat)
    case atStart => exact ⟨1, by omega, by omega, rfl, by unfold wantV; rw [if_neg (by omega)], Below.refl _ _⟩
    case round =>
      obtain ⟨k, k1, k5, rfl, hv, hb⟩ := hrel
      by_cases h4 : k ≤ 4
      · have hm := HJ.out k k1 h4
        by_cases e : k = j
        · rw [decide_eq_true e] at hm
          have EW := Lib.hid (wantV_at e)
          clear e
          generalize wantV j k = z at *
          subst hv
          have HB := Lib.hid hb
          clear hb
          have HM := Lib.hid hm
          clear hm
          go_wp2_with fail
          refine (rname_any (k : Int) wr).mono ?_
          rintro e w1 ⟨rfl, hb1⟩
          have HB1 := Lib.hid (HB.out.trans (hb1.mono HB.out.size))
          have hm := HM.out
          clear hb1 HB
          go_wp2_with fail
          go_roundw
          case rel => exact ⟨k + 1, by omega, by omega, by go_num, by rw [EW.out], HB1.out⟩
          case measure => simp [intOf]; omega
        · rw [decide_eq_false e] at hm
          have HIF := Lib.hid (wantV_next e)
          have HB := Lib.hid hb
          have HM := Lib.hid hm
          clear hb hm
          generalize wantV j k = z at *
          subst hv
          go_wp2_with fail
          refine (rname_any (k : Int) wr).mono ?_
          rintro e w1 ⟨rfl, hb1⟩
          have HB1 := Lib.hid (HB.out.trans (hb1.mono HB.out.size))
          have hm := HM.out
          clear hb1 HB
          go_wp2_with fail
          go_roundw
          case rel => exact ⟨k + 1, by omega, by omega, by go_num, by rw [HIF.out], HB1.out⟩
          case measure => simp [intOf]; omega
      · obtain rfl : k = 5 := by omega
        rw [wantV_end] at hv
        have HB := Lib.hid hb
        have HOF := Lib.hid (fun W => of_any s j W j1 j5 HJ.out)
        clear hb
        generalize ofVal j = z at *
        subst hv
        by_cases q1 : 1 ≤ way
        · by_cases q2 : way ≤ 4
          all_goals
            go_wp2_with fail
            refine (right_any way _).mono ?_
            rintro e w1 ⟨rfl, rfl⟩
            go_wp2_with fail
            refine (name_any way _).mono ?_
            rintro e w2 ⟨rfl, rfl⟩
            go_wp2_with fail
            refine (rname_any way _).mono ?_
            rintro e w3 ⟨rfl, hb3⟩
            have HB3 := Lib.hid (HB.out.trans (hb3.mono HB.out.size))
            clear hb3
            go_wp2_with fail
            refine (HOF.out _).mono ?_
            rintro e w4 ⟨rfl, rfl⟩
            go_wp2_with fail
            refine (awake21 _).mono ?_
            rintro e w5 ⟨rfl, hb5⟩
            have HB5 := Lib.hid (HB3.out.trans (hb5.mono HB3.out.size))
            clear hb5
            go_wp2_with fail
            go_ret
            exact ⟨rfl, HB5.out⟩
        · go_wp2_with fail
          refine (right_any way _).mono ?_
          rintro e w1 ⟨rfl, rfl⟩
          go_wp2_with fail
          refine (name_any way _).mono ?_
          rintro e w2 ⟨rfl, rfl⟩
          go_wp2_with fail
          refine (rname_any way _).mono ?_
          rintro e w3 ⟨rfl, hb3⟩
          have HB3 := Lib.hid (HB.out.trans (hb3.mono HB.out.size))
          clear hb3
          go_wp2_with fail
          refine (HOF.out _).mono ?_
          rintro e w4 ⟨rfl, rfl⟩
          go_wp2_with fail
          refine (awake21 _).mono ?_
          rintro e w5 ⟨rfl, hb5⟩
          have HB5 := Lib.hid (HB3.out.trans (hb5.mono HB3.out.size))
          clear hb5
          go_wp2_with fail
          go_ret
          exact ⟨rfl, HB5.out⟩

/-! ### The step from the walk to the row -/
set_option maxRecDepth 100000 in
theorem lifted (os : Os) (started : os.Started) (H : Type) (enc : TypeId × Value → H) :
    ReturnsInHanded {} Try.checked os 9 .any (Rows.policyNamesSpec.pre6 enc Try.prog Try.f9 Rows.policyNamesRow.domain false) (Rows.policyNamesSpec.post enc Try.prog Try.f9 false true false false) := by
  refine returnsInHanded_of_change (C := Try.checked) own started (by kernel_rfl) Try.func9
    (ChangeSpec.witness6 (enc := enc) (C := Try.checked) false ⟨#[], #[.int .i64 0, .string ⟨#[]⟩], []⟩ 8 (by kernel_rfl) (by kernel_rfl) (by kernel_rfl) (by kernel_rfl)) ?_
  intro W base args ds gs before hval0 hW hcnd _
  have hval : ∀ (j : Nat) t v, Try.f9.params[j]? = some t → args[j]? = some v → Value.okWide Try.prog W .any base t v := hval0
  have hW' := hW
  obtain ⟨p, q, hA0, hV, rfl, hfz, hnd⟩ := hW
  have hA : DataW.TrodAll enc Try.prog W 0 (fun _ => true) true Try.f9.params.toList args.toList ds p := hA0
  rw [Try.params9] at hA hval
  obtain ⟨v0, vs0, d0, ds0, p0, q0, hargs, rfl, rfl, h0, r0⟩ := trodAll_cons hA
  obtain ⟨v1, vs1, d1, ds1, p1, q1, rfl, rfl, rfl, h1, r1⟩ := trodAll_cons r0
  obtain ⟨rfl, rfl, rfl⟩ := trodAll_nil r1
  obtain rfl : args = #[v0, v1] := by cases args; simp_all
  obtain ⟨rfl, rfl⟩ := trodVars_none hV
  have k0 := h0
  have lt0 : ∀ x ∈ p0, x.block < W.heap.size := by obtain ⟨m, hm⟩ := k0; exact DataW.trod_lt m _ _ _ hm
  have ok0 := hval 0 3 v0 rfl rfl
  have k1 := h1
  have lt1 : ∀ x ∈ p1, x.block < W.heap.size := by obtain ⟨m, hm⟩ := k1; exact DataW.trod_lt m _ _ _ hm
  have ok1 := hval 1 9 v1 rfl rfl
  clear hA0 hval0
  obtain ⟨way, rfl, rfl, rfl, w1⟩ := open_int Try.underlying3 ok0 h0
  obtain ⟨s, rfl, rfl, rfl, hs⟩ := open_string Try.underlying9 ok1 h1
  refine (walk way s W hs).mono fun e W' ⟨he, bel⟩ => ?_
  subst he
  exact ⟨_, rfl, _, _, _, [], _, [], hW', trodAll_mk1 (shut_bool Try.underlying4 _), (trodAll_cons_mk (Below.trod laidOut (by kernel_rfl) (of_decide_eq_true (by kernel_rfl)) k0 bel lt0) (trodAll_cons_mk (Below.trod laidOut (by kernel_rfl) (of_decide_eq_true (by kernel_rfl)) k1 bel lt1) trodAll_mk0)), rfl, bel.frame _, fun h => by cases h⟩

theorem over : Rows.policyNamesRow.holds Try.pinned (OpenSpec.ofChange Rows.policyNamesSpec) :=
  OpenClaim.holds_of_wide 9 Try.f9 rfl rfl rfl rfl rfl rfl rfl ⟨rfl, rfl, rfl, rfl, rfl⟩ rfl rfl rfl rfl rfl (by kernel_rfl) Try.func9 (by kernel_rfl)
    (of_decide_eq_true (by kernel_rfl)) (by unfold Func.isWrapper; first | (rw [if_pos (by decide +kernel)]; kernel_rfl) | (rw [if_neg (by decide +kernel)]; exact ⟨rfl, rfl⟩))
    (fun os started H enc _ => lifted os started H enc)

theorem proved : Rows.PolicyNamesSaid := over
#print axioms proved
end Go.Proofs.Ytkebgkjopfdafaa.policyNames
