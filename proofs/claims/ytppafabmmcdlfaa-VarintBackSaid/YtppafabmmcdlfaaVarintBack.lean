/-
VarintBack (P39.5) answers true and leaves its arguments as they were, for all numbers: Expand recovers a packet number from its low Bits bytes. No condition.
-/
import Derived.Test.YtppafabmmcdlfaaRows
import Derived.WalkKit
import Derived.ProofKit
import Derived.OpenShut
import Derived.ShutString
import Derived.Test.YtppafabmmcdlfaaVarExp
namespace Go.Proofs.Ytppafabmmcdlfaa.varintBack
open Go.ChangeShapes Go.WideShapes Go.ChangeAt Go.RowKit
open Go.ChangeMaps (open_string shut_string)
set_option linter.unusedVariables false      -- a walk need not use every 'w<i>' (that an integer argument fits its kind)

theorem own : ownKnob Try.prog.godebug = none := by kernel_rfl

/-! ### STEP 1: THE WALK: the Go text returns true. 'Grown w w'': the world has at most new blocks (Derived/RowKit3.lean). Part the cases AHEAD of 'go_enter' where a test parts the walk; take each callee by a contract of your own. -/
open Go.Proofs.Ytppafabmmcdlfaa.varnum
theorem rem_bd (b d : Int) (h : 0 < d) (hb : 0 ≤ b) : 0 ≤ b % d ∧ b % d < d := ⟨Int.emod_nonneg _ (by omega), Int.emod_lt_of_pos _ h⟩
theorem back1 (n a r : Int) (h0 : 0 ≤ a) (h1 : a < n) (h2 : n < 2305843009213693952) (h3 : n - a ≤ 128) (h4 : 0 ≤ r) (h5 : r < n - a) : expOf (a + 1 + r) (n % 256) 256 = n := by
  unfold expOf
  repeat' split
  all_goals omega
theorem back2 (n a r : Int) (h0 : 0 ≤ a) (h1 : a < n) (h2 : n < 2305843009213693952) (h3 : n - a ≤ 32768) (h4 : 0 ≤ r) (h5 : r < n - a) : expOf (a + 1 + r) (n % 65536) 65536 = n := by
  unfold expOf
  repeat' split
  all_goals omega
theorem back3 (n a r : Int) (h0 : 0 ≤ a) (h1 : a < n) (h2 : n < 2305843009213693952) (h3 : n - a ≤ 8388608) (h4 : 0 ≤ r) (h5 : r < n - a) : expOf (a + 1 + r) (n % 16777216) 16777216 = n := by
  unfold expOf
  repeat' split
  all_goals omega
theorem back4 (n a r : Int) (h0 : 0 ≤ a) (h1 : a < n) (h2 : n < 2305843009213693952) (h3 : n - a ≤ 2147483648) (h4 : 0 ≤ r) (h5 : r < n - a) : expOf (a + 1 + r) (n % 4294967296) 4294967296 = n := by
  unfold expOf
  repeat' split
  all_goals omega
set_option maxHeartbeats 4000000 in
theorem walk (a0 : Int) (a1 : Int) (a2 : Int) (w0 : (Lit.int .u64 a0).wf = true) (w1 : (Lit.int .u64 a1).wf = true) (w2 : (Lit.int .u64 a2).wf = true) (w : World) :
    Calls Try.prog 9 #[.int .u64 a0, .int .u64 a1, .int .u64 a2] w fun e w' => e = .returned (.bool true) ∧ Grown w w' := by
  obtain ⟨p0, q0⟩ := bounds_u64 w0
  obtain ⟨p1, q1⟩ := bounds_u64 w1
  obtain ⟨p2, q2⟩ := bounds_u64 w2
  clear w0 w1 w2
  by_cases cz : bitsOf a0 a1 = 0
  · have he : bitsErr a0 a1 = 1 := by unfold bitsErr; rw [if_pos cz]
    by_cases c3 : 2305843009213693952 ≤ a0
    all_goals
      go_enter Try.func9, Try.ntmps9
      go_wp2_with (first | (go_at_call 27; refine (bits_any _ _ _ (by omega) (by omega) (by omega) (by omega)).mono ?_; rintro e w' ⟨rfl, rfl⟩) | (go_at_call 28; refine (rbits_any _ _ _ (by omega) (by omega) (by omega) (by omega)).mono ?_; rintro e w' ⟨rfl, rfl⟩) | (go_at_call 30; refine (awake_any _).mono ?_; rintro e w' ⟨rfl, rfl⟩))
      go_ret
      exact ⟨rfl, by repeat (first | exact Grown.refl _ | apply Grown.drew | apply Grown.alloc)⟩
  have he : bitsErr a0 a1 = 0 := by unfold bitsErr; rw [if_neg cz]
  have hk : a1 < a0 ∧ a0 < 4611686018427387904 ∧ ((bitsOf a0 a1 = 1 ∧ a0 - a1 ≤ 128) ∨ (bitsOf a0 a1 = 2 ∧ a0 - a1 ≤ 32768) ∨ (bitsOf a0 a1 = 3 ∧ a0 - a1 ≤ 8388608) ∨ (bitsOf a0 a1 = 4 ∧ a0 - a1 ≤ 2147483648)) := by
    revert cz; unfold bitsOf; repeat' split
    all_goals omega
  clear cz
  obtain ⟨c1, c2, hk⟩ := hk
  by_cases c3 : 2305843009213693952 ≤ a0
  · rcases hk with ⟨hb, h⟩ | ⟨hb, h⟩ | ⟨hb, h⟩ | ⟨hb, h⟩
    all_goals
      go_enter Try.func9, Try.ntmps9
      go_wp2_with (first | (go_at_call 27; refine (bits_any _ _ _ (by omega) (by omega) (by omega) (by omega)).mono ?_; rintro e w' ⟨rfl, rfl⟩) | (go_at_call 28; refine (rbits_any _ _ _ (by omega) (by omega) (by omega) (by omega)).mono ?_; rintro e w' ⟨rfl, rfl⟩) | (go_at_call 30; refine (awake_any _).mono ?_; rintro e w' ⟨rfl, rfl⟩))
      go_ret
      exact ⟨rfl, by repeat (first | exact Grown.refl _ | apply Grown.drew | apply Grown.alloc)⟩
  obtain ⟨r0, r1⟩ := rem_bd a2 (a0 - a1) (by omega) p2
  rcases hk with ⟨hb, h⟩ | ⟨hb, h⟩ | ⟨hb, h⟩ | ⟨hb, h⟩
  · have hx := back1 a0 a1 (a2 % (a0 - a1)) p1 c1 (by omega) h r0 r1
    go_enter Try.func9, Try.ntmps9
    go_wp2_with (first | (go_at_call 27; refine (bits_any _ _ _ (by omega) (by omega) (by omega) (by omega)).mono ?_; rintro e w' ⟨rfl, rfl⟩) | (go_at_call 28; refine (rbits_any _ _ _ (by omega) (by omega) (by omega) (by omega)).mono ?_; rintro e w' ⟨rfl, rfl⟩) | (go_at_call 30; refine (awake_any _).mono ?_; rintro e w' ⟨rfl, rfl⟩) | (go_at_call 29; refine (expand_ok _ _ _ 256 _ (.inl ⟨rfl, rfl⟩) (by omega) (by omega) (by omega) (by omega)).mono ?_; rintro e w' ⟨rfl, rfl⟩))
    go_ret
    exact ⟨rfl, by repeat (first | exact Grown.refl _ | apply Grown.drew | apply Grown.alloc)⟩
  · have hx := back2 a0 a1 (a2 % (a0 - a1)) p1 c1 (by omega) h r0 r1
    go_enter Try.func9, Try.ntmps9
    go_wp2_with (first | (go_at_call 27; refine (bits_any _ _ _ (by omega) (by omega) (by omega) (by omega)).mono ?_; rintro e w' ⟨rfl, rfl⟩) | (go_at_call 28; refine (rbits_any _ _ _ (by omega) (by omega) (by omega) (by omega)).mono ?_; rintro e w' ⟨rfl, rfl⟩) | (go_at_call 30; refine (awake_any _).mono ?_; rintro e w' ⟨rfl, rfl⟩) | (go_at_call 29; refine (expand_ok _ _ _ 65536 _ (.inr (.inl ⟨rfl, rfl⟩)) (by omega) (by omega) (by omega) (by omega)).mono ?_; rintro e w' ⟨rfl, rfl⟩))
    go_ret
    exact ⟨rfl, by repeat (first | exact Grown.refl _ | apply Grown.drew | apply Grown.alloc)⟩
  · have hx := back3 a0 a1 (a2 % (a0 - a1)) p1 c1 (by omega) h r0 r1
    go_enter Try.func9, Try.ntmps9
    go_wp2_with (first | (go_at_call 27; refine (bits_any _ _ _ (by omega) (by omega) (by omega) (by omega)).mono ?_; rintro e w' ⟨rfl, rfl⟩) | (go_at_call 28; refine (rbits_any _ _ _ (by omega) (by omega) (by omega) (by omega)).mono ?_; rintro e w' ⟨rfl, rfl⟩) | (go_at_call 30; refine (awake_any _).mono ?_; rintro e w' ⟨rfl, rfl⟩) | (go_at_call 29; refine (expand_ok _ _ _ 16777216 _ (.inr (.inr (.inl ⟨rfl, rfl⟩))) (by omega) (by omega) (by omega) (by omega)).mono ?_; rintro e w' ⟨rfl, rfl⟩))
    go_ret
    exact ⟨rfl, by repeat (first | exact Grown.refl _ | apply Grown.drew | apply Grown.alloc)⟩
  · have hx := back4 a0 a1 (a2 % (a0 - a1)) p1 c1 (by omega) h r0 r1
    go_enter Try.func9, Try.ntmps9
    go_wp2_with (first | (go_at_call 27; refine (bits_any _ _ _ (by omega) (by omega) (by omega) (by omega)).mono ?_; rintro e w' ⟨rfl, rfl⟩) | (go_at_call 28; refine (rbits_any _ _ _ (by omega) (by omega) (by omega) (by omega)).mono ?_; rintro e w' ⟨rfl, rfl⟩) | (go_at_call 30; refine (awake_any _).mono ?_; rintro e w' ⟨rfl, rfl⟩) | (go_at_call 29; refine (expand_ok _ _ _ 4294967296 _ (.inr (.inr (.inr ⟨rfl, rfl⟩))) (by omega) (by omega) (by omega) (by omega)).mono ?_; rintro e w' ⟨rfl, rfl⟩))
    go_ret
    exact ⟨rfl, by repeat (first | exact Grown.refl _ | apply Grown.drew | apply Grown.alloc)⟩

/-! ### THE ROW's STEP: WRITTEN OUT: LEAVE IT -/
set_option maxRecDepth 100000 in
theorem lifted (os : Os) (started : os.Started) (H : Type) (enc : TypeId × Value → H) :
    ReturnsInHanded {} Try.checked os 9 .any (Rows.varintBackSpec.pre6 enc Try.prog Try.f9 Rows.varintBackRow.domain false) (Rows.varintBackSpec.post enc Try.prog Try.f9 false true false false) := by
  refine returnsInHanded_of_change (C := Try.checked) own started (by kernel_rfl) Try.func9
    (ChangeSpec.witness6 (enc := enc) (C := Try.checked) false ⟨#[], #[.int .u64 0, .int .u64 0, .int .u64 0], []⟩ 8 (by kernel_rfl) (by kernel_rfl) (by kernel_rfl) (by kernel_rfl)) ?_
  intro W base args ds gs before hval0 hW hcnd _
  have hval : ∀ (j : Nat) t v, Try.f9.params[j]? = some t → args[j]? = some v → Value.okWide Try.prog W .any base t v := hval0
  have hW' := hW
  obtain ⟨p, q, hA0, hV, rfl, hfz, hnd⟩ := hW
  have hA : DataW.TrodAll enc Try.prog W 0 (fun _ => true) true Try.f9.params.toList args.toList ds p := hA0
  rw [Try.params9] at hA hval
  obtain ⟨v0, vs0, d0, ds0, p0, q0, hargs, rfl, rfl, h0, r0⟩ := trodAll_cons hA
  obtain ⟨v1, vs1, d1, ds1, p1, q1, rfl, rfl, rfl, h1, r1⟩ := trodAll_cons r0
  obtain ⟨v2, vs2, d2, ds2, p2, q2, rfl, rfl, rfl, h2, r2⟩ := trodAll_cons r1
  obtain ⟨rfl, rfl, rfl⟩ := trodAll_nil r2
  obtain rfl : args = #[v0, v1, v2] := by cases args; simp_all
  obtain ⟨rfl, rfl⟩ := trodVars_none hV
  obtain ⟨a0, rfl, rfl, rfl, w0⟩ := open_int Try.underlying52 (hval 0 52 v0 rfl rfl) h0
  obtain ⟨a1, rfl, rfl, rfl, w1⟩ := open_int Try.underlying52 (hval 1 52 v1 rfl rfl) h1
  obtain ⟨a2, rfl, rfl, rfl, w2⟩ := open_int Try.underlying52 (hval 2 52 v2 rfl rfl) h2
  clear hA0 hval0
  simp only [List.append_nil] at hW'
  refine (walk a0 a1 a2 w0 w1 w2 W).mono fun e W' ⟨he, hg⟩ => ?_
  subst he
  exact ⟨_, rfl, post_of_same (pa := []) (pv := []) hW' (fun _ _ _ => (trodAll_cons_mk (shut_bool Try.underlying4 _) trodAll_mk0)) (fun sp _ => (trodAll_cons_mk (shut_int Try.underlying52 w0) (trodAll_cons_mk (shut_int Try.underlying52 w1) (trodAll_cons_mk (shut_int Try.underlying52 w2) trodAll_mk0)))) (fun _ _ => rfl) rfl
    (hg.frame _) hg.2.1 (ok_one (by kernel_rfl) rfl (okWide_bool_mk Try.underlying4 _))⟩

theorem over : Rows.varintBackRow.holds Try.pinned (OpenSpec.ofChange Rows.varintBackSpec) :=
  OpenClaim.holds_of_wide 9 Try.f9 rfl rfl rfl rfl rfl rfl rfl ⟨rfl, rfl, rfl, rfl, rfl⟩ rfl rfl rfl rfl rfl (by kernel_rfl) Try.func9 (by kernel_rfl)
    (of_decide_eq_true (by kernel_rfl)) (by unfold Func.isWrapper; first | (rw [if_pos (by decide +kernel)]; kernel_rfl) | (rw [if_neg (by decide +kernel)]; exact ⟨rfl, rfl⟩))
    (fun os started H enc _ => lifted os started H enc)

/-- ████ THE STATEMENT ████ -/
theorem proved : Rows.VarintBackSaid :=
  over
#print axioms proved
end Go.Proofs.Ytppafabmmcdlfaa.varintBack
