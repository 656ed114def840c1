/-
  SmoothPicks (P19.1, P19.2) answers true and leaves its arguments as they were, for all lists of candidates and every backend: who is told, and what all are owed, is what the document says. No condition.
-/
import Derived.Test.YtkebgkjopfdafaaRows
import Derived.WalkKit
import Derived.ProofKit
import Derived.OpenShut
import Derived.ShutString
import Derived.ChangeOld
import Derived.Below
import Derived.Test.YtkebgkjopfdafaaSmq
namespace Go.Proofs.Ytkebgkjopfdafaa.smoothPicks
open Go.ChangeShapes Go.WideShapes Go.ChangeAt Go.RowKit
open Go.ChangeMaps (open_string shut_string)
open Go.Proofs.Ytkebgkjopfdafaa Go.Joins
set_option linter.unusedSimpArgs false
set_option maxRecDepth 100000
set_option linter.unusedVariables false

theorem own : ownKnob Try.prog.godebug = none := by kernel_rfl
theorem laidOut : laidOutB Try.prog = true := by kernel_rfl

section
open Go.Deep Go.Joins
variable {H : Type} {enc : TypeId × Value → H} {held : Bool} {spare : Nat → Bool}
theorem open_candss {w : World} {A : Option Addr} {n c : Nat} {d : DataW H} {p : List MemPlace} (h : DataW.Trod enc Try.prog w 0 spare held 34 (.slice A n c) d p) :
    ∃ ls : List (List Cand), ls.length = n ∧ CandsS w w.heap.size A ls ∧ n ≤ maxLen := by
  obtain ⟨hnc, hcm, hr⟩ := open_els (e := 22) (sz := 1) Try.underlying34 (by kernel_rfl) (by omega) h
  by_cases hn : n = 0
  · subst hn; exact ⟨[], rfl, fun h => absurd h (by simp), by omega⟩
  obtain ⟨b, off, rfl, hb, hi⟩ := hr (by omega)
  have key : ∀ i, i < n → ∃ x : List Cand, ∃ Ai ci, w.cell? ⟨b, off + i, none⟩ = some (.slice Ai x.length ci) ∧ Cands w w.heap.size Ai x ∧ x.length ≤ maxLen := by
    intro i hin
    obtain ⟨cs, m, y, hl, hc, ht⟩ := hi i hin
    match cs, hl with
    | [a0], _ =>
      obtain ⟨A1, n1, c1, e1⟩ := slice_form Try.underlying22 ht
      cases e1
      have htr : DataW.Trod enc Try.prog w 0 spare held 22 (.slice A1 n1 c1) y.1 y.2 := ⟨m, ht⟩
      obtain ⟨x, rfl, hx⟩ := open_cands htr
      obtain ⟨h1, h2, _⟩ := open_els (e := 63) (sz := 4) Try.underlying22 (by kernel_rfl) (by omega) htr
      refine ⟨x, A1, c1, ?_, hx, by omega⟩
      have := hc 0 (by omega)
      simpa using this
  obtain ⟨ls, hl, hp⟩ := list_of n key
  refine ⟨ls, hl, fun _ => ⟨b, off, rfl, hb, fun i hi => ?_⟩, by omega⟩
  have hx := hp i (nths ls i) (by simp [nths, List.getD, hi])
  exact hx
end

/-! ### The step from the walk to the row -/
set_option maxRecDepth 100000 in
theorem lifted (os : Os) (started : os.Started) (H : Type) (enc : TypeId × Value → H) :
    ReturnsInHanded {} Try.checked os 7 .any (Rows.smoothPicksSpec.pre6 enc Try.prog Try.f7 Rows.smoothPicksRow.domain false) (Rows.smoothPicksSpec.post enc Try.prog Try.f7 false true false false) := by
  refine returnsInHanded_of_change (C := Try.checked) own started (by kernel_rfl) Try.func7
    (ChangeSpec.witness6 (enc := enc) (C := Try.checked) false ⟨#[], #[.slice none 0 0, .int .i64 0], []⟩ 8 (by kernel_rfl) (by kernel_rfl) (by kernel_rfl) (by kernel_rfl)) ?_
  intro W base args ds gs before hval0 hW hcnd _
  have hval : ∀ (j : Nat) t v, Try.f7.params[j]? = some t → args[j]? = some v → Value.okWide Try.prog W .any base t v := hval0
  have hW' := hW
  obtain ⟨p, q, hA0, hV, rfl, hfz, hnd⟩ := hW
  have hA : DataW.TrodAll enc Try.prog W 0 (fun _ => true) true Try.f7.params.toList args.toList ds p := hA0
  rw [Try.params7] at hA hval
  obtain ⟨v0, vs0, d0, ds0, p0, q0, hargs, rfl, rfl, h0, r0⟩ := trodAll_cons hA
  obtain ⟨v1, vs1, d1, ds1, p1, q1, rfl, rfl, rfl, h1, r1⟩ := trodAll_cons r0
  obtain ⟨rfl, rfl, rfl⟩ := trodAll_nil r1
  obtain rfl : args = #[v0, v1] := by cases args; simp_all
  obtain ⟨rfl, rfl⟩ := trodVars_none hV
  have k0 := h0
  have lt0 : ∀ x ∈ p0, x.block < W.heap.size := by obtain ⟨m, hm⟩ := k0; exact DataW.trod_lt m _ _ _ hm
  have ok0 := hval 0 34 v0 rfl rfl
  have k1 := h1
  have lt1 : ∀ x ∈ p1, x.block < W.heap.size := by obtain ⟨m, hm⟩ := k1; exact DataW.trod_lt m _ _ _ hm
  have ok1 := hval 1 3 v1 rfl rfl
  clear hA0 hval0
  obtain ⟨A, n, c, rfl⟩ := okWide_slice Try.underlying34 ok0
  obtain ⟨ls, rfl, hcs, hmx⟩ := open_candss h0
  obtain ⟨x, rfl, rfl, rfl, wx⟩ := open_int Try.underlying3 ok1 h1
  refine (picks_all A c ls x W hcs hmx).mono fun e W' ⟨he, bel⟩ => ?_
  subst he
  exact ⟨_, rfl, _, _, _, [], _, [], hW', trodAll_mk1 (shut_bool Try.underlying4 _), (trodAll_cons_mk (Below.trod laidOut (by kernel_rfl) (of_decide_eq_true (by kernel_rfl)) k0 bel lt0) (trodAll_cons_mk (Below.trod laidOut (by kernel_rfl) (of_decide_eq_true (by kernel_rfl)) k1 bel lt1) trodAll_mk0)), rfl, bel.frame _, fun h => by cases h⟩

theorem over : Rows.smoothPicksRow.holds Try.pinned (OpenSpec.ofChange Rows.smoothPicksSpec) :=
  OpenClaim.holds_of_wide 7 Try.f7 rfl rfl rfl rfl rfl rfl rfl ⟨rfl, rfl, rfl, rfl, rfl⟩ rfl rfl rfl rfl rfl (by kernel_rfl) Try.func7 (by kernel_rfl)
    (of_decide_eq_true (by kernel_rfl)) (by unfold Func.isWrapper; first | (rw [if_pos (by decide +kernel)]; kernel_rfl) | (rw [if_neg (by decide +kernel)]; exact ⟨rfl, rfl⟩))
    (fun os started H enc _ => lifted os started H enc)

theorem proved : Rows.SmoothPicksSaid := over
#print axioms proved
end Go.Proofs.Ytkebgkjopfdafaa.smoothPicks
