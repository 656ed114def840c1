/-
  SpreadPlaces (P41.2, P41.3) answers true and leaves its arguments as they were, for every number of places, any numbers and any sum: New, Pick, Count and Without of spread give what the document asks. No condition.
-/
import Derived.Test.YtkebgkjopfdafaaRows
import Derived.WalkKit
import Derived.ProofKit
import Derived.OpenShut
import Derived.ShutString
import Derived.ChangeOld
import Derived.Below
import Derived.Test.YtkebgkjopfdafaaSpg
namespace Go.Proofs.Ytkebgkjopfdafaa.spreadPlaces
open Go.ChangeShapes Go.WideShapes Go.ChangeAt Go.RowKit
open Go.ChangeMaps (open_string shut_string)
open Go.Proofs.Ytkebgkjopfdafaa
set_option linter.unusedVariables false

theorem own : ownKnob Try.prog.godebug = none := by kernel_rfl
theorem laidOut : laidOutB Try.prog = true := by kernel_rfl

section
open Go.Deep
variable {H : Type} {enc : TypeId × Value → H} {held : Bool} {spare : Nat → Bool}
theorem open_nums {w : World} {A : Option Addr} {n c : Nat} {d : DataW H} {p : List MemPlace} (h : DataW.Trod enc Try.prog w 0 spare held 64 (.slice A n c) d p) :
    ∃ l : List Int, l.length = n ∧ Ints w w.heap.size A l := by
  obtain ⟨hnc, hcm, hr⟩ := open_els (e := 3) (sz := 1) Try.underlying64 (by kernel_rfl) (by omega) h
  by_cases hn : n = 0
  · subst hn; exact ⟨[], rfl, fun h => absurd h (by simp)⟩
  obtain ⟨b, off, rfl, hb, hi⟩ := hr (by omega)
  have key : ∀ i, i < n → ∃ x : Int, w.cell? ⟨b, off + i * 1, none⟩ = some (.int .i64 x) := by
    intro i hin
    obtain ⟨cs, m, y, hl, hc, htr⟩ := hi i hin
    match cs, hl with
    | [a0], _ =>
      obtain ⟨n0, e0, _, w0⟩ := DataW.trod_int Try.underlying3 htr
      injection e0 with e0
      subst e0
      exact ⟨n0, by simpa using hc 0 (by omega)⟩
  obtain ⟨l, hl, hp⟩ := list_of n key
  refine ⟨l, hl, fun _ => ⟨b, off, rfl, hb, fun i j hi hj => ?_⟩⟩
  obtain rfl : j = 0 := by omega
  exact hp i (at0 l i) (by simp [at0, List.getD, hi])
end
theorem walk (n : Int) (A : Option Addr) (c : Nat) (to : List Int) (s : Int) (g : Int) (B : Option Addr) (d : Nat) (left : List Int) (w : World) (hA : Ints w w.heap.size A to) (hB : Ints w w.heap.size B left) (s0 : 0 ≤ s) (s1 : s ≤ 4294967295) :
    Calls Try.prog 13 #[.int .i64 n, .slice A to.length c, .int .u32 s, .int .i64 g, .slice B left.length d] w fun e w' => e = .returned (.bool true) ∧ Below w.heap.size w w' := by
  by_cases h : 100 < to.length ∨ 100 < left.length ∨ (512 < n ∧ n ≤ 4096)
  · exact law_big n A c to s g B d left w h
  by_cases h0 : to.length = 0
  · exact law_empty n A c to s g B d left w h0 (by omega) (by omega)
  by_cases hp : P2 n
  · obtain ⟨p1, p2, _⟩ := p2_range hp
    obtain ⟨m, rfl⟩ : ∃ m : Nat, n = m := ⟨n.toNat, by omega⟩
    exact law_good m A c to s g B d left w hA hB (by omega) (by omega) (by omega) hp (by omega) s0 s1
  · exact law_bad n A c to s g B d left w (by omega) (by omega) (by omega) (by omega) hp

/-! ### The step from the walk to the row -/
set_option maxRecDepth 100000 in
theorem lifted (os : Os) (started : os.Started) (H : Type) (enc : TypeId × Value → H) :
    ReturnsInHanded {} Try.checked os 13 .any (Rows.spreadPlacesSpec.pre6 enc Try.prog Try.f13 Rows.spreadPlacesRow.domain false) (Rows.spreadPlacesSpec.post enc Try.prog Try.f13 false true false false) := by
  refine returnsInHanded_of_change (C := Try.checked) own started (by kernel_rfl) Try.func13
    (ChangeSpec.witness6 (enc := enc) (C := Try.checked) false ⟨#[], #[.int .i64 0, .slice none 0 0, .int .u32 0, .int .i64 0, .slice none 0 0], []⟩ 8 (by kernel_rfl) (by kernel_rfl) (by kernel_rfl) (by kernel_rfl)) ?_
  intro W base args ds gs before hval0 hW hcnd _
  have hval : ∀ (j : Nat) t v, Try.f13.params[j]? = some t → args[j]? = some v → Value.okWide Try.prog W .any base t v := hval0
  have hW' := hW
  obtain ⟨p, q, hA0, hV, rfl, hfz, hnd⟩ := hW
  have hA : DataW.TrodAll enc Try.prog W 0 (fun _ => true) true Try.f13.params.toList args.toList ds p := hA0
  rw [Try.params13] at hA hval
  obtain ⟨v0, vs0, d0, ds0, p0, q0, hargs, rfl, rfl, h0, r0⟩ := trodAll_cons hA
  obtain ⟨v1, vs1, d1, ds1, p1, q1, rfl, rfl, rfl, h1, r1⟩ := trodAll_cons r0
  obtain ⟨v2, vs2, d2, ds2, p2, q2, rfl, rfl, rfl, h2, r2⟩ := trodAll_cons r1
  obtain ⟨v3, vs3, d3, ds3, p3, q3, rfl, rfl, rfl, h3, r3⟩ := trodAll_cons r2
  obtain ⟨v4, vs4, d4, ds4, p4, q4, rfl, rfl, rfl, h4, r4⟩ := trodAll_cons r3
  obtain ⟨rfl, rfl, rfl⟩ := trodAll_nil r4
  obtain rfl : args = #[v0, v1, v2, v3, v4] := by cases args; simp_all
  obtain ⟨rfl, rfl⟩ := trodVars_none hV
  have k0 := h0
  have lt0 : ∀ x ∈ p0, x.block < W.heap.size := by obtain ⟨m, hm⟩ := k0; exact DataW.trod_lt m _ _ _ hm
  have ok0 := hval 0 3 v0 rfl rfl
  have k1 := h1
  have lt1 : ∀ x ∈ p1, x.block < W.heap.size := by obtain ⟨m, hm⟩ := k1; exact DataW.trod_lt m _ _ _ hm
  have ok1 := hval 1 64 v1 rfl rfl
  have k2 := h2
  have lt2 : ∀ x ∈ p2, x.block < W.heap.size := by obtain ⟨m, hm⟩ := k2; exact DataW.trod_lt m _ _ _ hm
  have ok2 := hval 2 23 v2 rfl rfl
  have k3 := h3
  have lt3 : ∀ x ∈ p3, x.block < W.heap.size := by obtain ⟨m, hm⟩ := k3; exact DataW.trod_lt m _ _ _ hm
  have ok3 := hval 3 3 v3 rfl rfl
  have k4 := h4
  have lt4 : ∀ x ∈ p4, x.block < W.heap.size := by obtain ⟨m, hm⟩ := k4; exact DataW.trod_lt m _ _ _ hm
  have ok4 := hval 4 64 v4 rfl rfl
  clear hA0 hval0
  obtain ⟨n, rfl, rfl, rfl, w0⟩ := open_int Try.underlying3 ok0 h0
  obtain ⟨A, na, c, rfl⟩ := okWide_slice Try.underlying64 ok1
  obtain ⟨to, rfl, hia⟩ := open_nums h1
  obtain ⟨s, rfl, rfl, rfl, w2⟩ := open_int Try.underlying23 ok2 h2
  obtain ⟨g, rfl, rfl, rfl, w3⟩ := open_int Try.underlying3 ok3 h3
  obtain ⟨B, nb, d, rfl⟩ := okWide_slice Try.underlying64 ok4
  obtain ⟨left, rfl, hib⟩ := open_nums h4
  refine (walk n A c to s g B d left W hia hib (bounds_u32 w2).1 (bounds_u32 w2).2).mono fun e W' ⟨he, bel⟩ => ?_
  subst he
  exact ⟨_, rfl, _, _, _, [], _, [], hW', trodAll_mk1 (shut_bool Try.underlying4 _), (trodAll_cons_mk (Below.trod laidOut (by kernel_rfl) (of_decide_eq_true (by kernel_rfl)) k0 bel lt0) (trodAll_cons_mk (Below.trod laidOut (by kernel_rfl) (of_decide_eq_true (by kernel_rfl)) k1 bel lt1) (trodAll_cons_mk (Below.trod laidOut (by kernel_rfl) (of_decide_eq_true (by kernel_rfl)) k2 bel lt2) (trodAll_cons_mk (Below.trod laidOut (by kernel_rfl) (of_decide_eq_true (by kernel_rfl)) k3 bel lt3) (trodAll_cons_mk (Below.trod laidOut (by kernel_rfl) (of_decide_eq_true (by kernel_rfl)) k4 bel lt4) trodAll_mk0))))), rfl, bel.frame _, fun h => by cases h⟩

theorem over : Rows.spreadPlacesRow.holds Try.pinned (OpenSpec.ofChange Rows.spreadPlacesSpec) :=
  OpenClaim.holds_of_wide 13 Try.f13 rfl rfl rfl rfl rfl rfl rfl ⟨rfl, rfl, rfl, rfl, rfl⟩ rfl rfl rfl rfl rfl (by kernel_rfl) Try.func13 (by kernel_rfl)
    (of_decide_eq_true (by kernel_rfl)) (by unfold Func.isWrapper; first | (rw [if_pos (by decide +kernel)]; kernel_rfl) | (rw [if_neg (by decide +kernel)]; exact ⟨rfl, rfl⟩))
    (fun os started H enc _ => lifted os started H enc)

theorem proved : Rows.SpreadPlacesSaid := over
#print axioms proved
end Go.Proofs.Ytkebgkjopfdafaa.spreadPlaces
