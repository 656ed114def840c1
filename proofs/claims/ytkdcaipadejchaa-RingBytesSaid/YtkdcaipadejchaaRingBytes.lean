/-
  RingBytes (P11.3) answers true, for every ring and all bytes: Bytes and Parse agree with the reference, and Parse inverts Bytes. No condition.
-/
import Derived.Test.YtkdcaipadejchaaRows
import Derived.WalkKit
import Derived.ProofKit
import Derived.OpenShut
import Derived.ShutString
import Derived.ChangeOld
import Derived.Below
import Derived.Test.YtkdcaipadejchaaRb4
namespace Go.Proofs.Ytkdcaipadejchaa.ringBytes
open Go.ChangeShapes Go.WideShapes Go.ChangeAt Go.RowKit
open Go.ChangeMaps (open_string shut_string)
open Go.Proofs.Ytkdcaipadejchaa
set_option linter.unusedSimpArgs false
set_option maxRecDepth 100000
set_option linter.unusedVariables false

theorem own : ownKnob Try.prog.godebug = none := by kernel_rfl
theorem laidOut : laidOutB Try.prog = true := by kernel_rfl

section
open Go.Deep
variable {H : Type} {enc : TypeId × Value → H} {P : Program} {base : Nat} {W : World} {held : Bool} {sp : Nat → Bool} {k e : TypeId} {n : Nat}
theorem open_key2 (hu : P.underlying k = some (.array n e)) (he : P.underlying e = some (.int .u8)) (h1 : P.cellsOf e = 1) (hk : P.cellsOf k = n) {xs : Array Value} {d : DataW H} {ps : List MemPlace}
    (hn : xs.size = n) (hd : DataW.Trod enc P W base sp held k (.agg xs) d ps) : ∃ key : List Int, Value.agg xs = .agg (u8s key).toArray ∧ key.length = n ∧ Octets key := by
  obtain ⟨fuel, hf⟩ := hd
  cases fuel with
  | zero => simp [DataW.trod] at hf
  | succ m =>
    rw [DataW.trod_step] at hf
    unfold DataW.trodStep at hf
    simp only [hu, Value.cells] at hf
    rw [if_pos (by rw [hk]; simpa using hn)] at hf
    simp only [Option.map_eq_some_iff] at hf
    obtain ⟨ys, hy, _⟩ := hf
    have hall := each_u8 he _ ys hy
    rw [h1] at hall
    have hget : ∀ i (hi : i < n), ∃ a : Int, xs.toList[i]? = some (.int .u8 a) ∧ 0 ≤ a ∧ a ≤ 255 := fun i hi => by
      obtain ⟨a, ea, ha⟩ := hall i (List.mem_range.2 hi)
      refine ⟨a, ?_, ha⟩
      have := congrArg (fun l => l[0]?) ea
      simpa using this
    refine ⟨xs.toList.map fun v => intOf v, ?_, by simpa using hn, ?_⟩
    · congr 1
      apply Array.ext'
      rw [List.toList_toArray]
      apply List.ext_getElem?
      intro i
      by_cases hi : i < n
      · obtain ⟨a, ea, _⟩ := hget i hi
        simp only [u8s, List.map_map, List.getElem?_map, ea, Option.map_some]
        rfl
      · rw [List.getElem?_eq_none (by simp; omega), List.getElem?_eq_none (by simp [u8s]; omega)]
    · intro i
      by_cases hi : i < n
      · obtain ⟨a, ea, h0, h2⟩ := hget i hi
        have : at0 (xs.toList.map fun v => intOf v) i = a := by
          unfold at0; rw [List.getD_eq_getElem?_getD, List.getElem?_map, ea]; rfl
        rw [this]; exact ⟨h0, h2⟩
      · rw [at0_out (by simp; omega)]; omega
theorem list17 : ∀ {l : List Value}, l.length = 17 → ∃ c0 c1 c2 c3 c4 c5 c6 c7 c8 c9 c10 c11 c12 c13 c14 c15 c16, l = [c0, c1, c2, c3, c4, c5, c6, c7, c8, c9, c10, c11, c12, c13, c14, c15, c16]
  | [c0, c1, c2, c3, c4, c5, c6, c7, c8, c9, c10, c11, c12, c13, c14, c15, c16], _ => ⟨c0, c1, c2, c3, c4, c5, c6, c7, c8, c9, c10, c11, c12, c13, c14, c15, c16, rfl⟩
theorem array17 {cs : Array Value} (h : cs.size = 17) : ∃ c0 c1 c2 c3 c4 c5 c6 c7 c8 c9 c10 c11 c12 c13 c14 c15 c16, cs = #[c0, c1, c2, c3, c4, c5, c6, c7, c8, c9, c10, c11, c12, c13, c14, c15, c16] := by
  obtain ⟨l⟩ := cs
  obtain ⟨c0, c1, c2, c3, c4, c5, c6, c7, c8, c9, c10, c11, c12, c13, c14, c15, c16, rfl⟩ := list17 (l := l) h
  exact ⟨c0, c1, c2, c3, c4, c5, c6, c7, c8, c9, c10, c11, c12, c13, c14, c15, c16, rfl⟩
set_option maxRecDepth 1000000 in
set_option linter.constructorNameAsVariable false in
theorem open_ring {w : World} {spare : Nat → Bool} {r : Reach} {b0 : Nat} {v : Value} {d : DataW H} {p : List MemPlace} (hv : Value.okWide Try.prog w r b0 87 v) (h : DataW.Trod enc Try.prog w 0 spare held 87 v d p) :
    ∃ (key : List Int) (n : Nat), v = .agg (rcs key n) ∧ key.length = 16 ∧ Octets key ∧ n < 18446744073709551616 := by
  have hu := Try.underlying87
  obtain ⟨cs, rfl, hsz⟩ := okWide_struct hu hv
  obtain ⟨c0, c1, c2, c3, c4, c5, c6, c7, c8, c9, c10, c11, c12, c13, c14, c15, c16, rfl⟩ := array17 (hsz.trans (by kernel_rfl))
  obtain ⟨fuel, hf⟩ := h
  obtain ⟨xs, n, _, _, hl, hlen, hf⟩ := DataW.trod_struct hu hf
  match xs, hlen with
  | [y0, y1], _ =>
    have g0 : DataW.trod enc Try.prog w 0 spare held n 74 [c0, c1, c2, c3, c4, c5, c6, c7, c8, c9, c10, c11, c12, c13, c14, c15] = some y0 := hf 0 _ rfl
    have g1 : DataW.trod enc Try.prog w 0 spare held n 23 [c16] = some y1 := hf 1 _ rfl
    obtain ⟨x, e1, _, w1⟩ := DataW.trod_int Try.underlying23 g1
    cases e1
    obtain ⟨key, ek, hk, ho⟩ := open_key2 (xs := #[c0, c1, c2, c3, c4, c5, c6, c7, c8, c9, c10, c11, c12, c13, c14, c15]) Try.underlying74 Try.underlying5 (by kernel_rfl) (by kernel_rfl) rfl ⟨n, g0⟩
    have hb64 := bounds_u64 w1
    obtain ⟨m, rfl⟩ : ∃ m : Nat, x = (m : Int) := ⟨x.toNat, by omega⟩
    refine ⟨key, m, ?_, hk, ho, by omega⟩
    injection ek with ek
    have el := congrArg Array.toList ek
    unfold rcs
    rw [show u8s key = [c0, c1, c2, c3, c4, c5, c6, c7, c8, c9, c10, c11, c12, c13, c14, c15] from el.symm]
    rfl
end

/-! ### The step from the walk to the row -/
set_option maxRecDepth 100000 in
theorem lifted (os : Os) (started : os.Started) (H : Type) (enc : TypeId × Value → H) :
    ReturnsInHanded {} Try.checked os 13 .any (Rows.ringBytesSpec.pre6 enc Try.prog Try.f13 Rows.ringBytesRow.domain false) (Rows.ringBytesSpec.post enc Try.prog Try.f13 false true false false) := by
  refine returnsInHanded_of_change (C := Try.checked) own started (by kernel_rfl) Try.func13
    (ChangeSpec.witness6 (enc := enc) (C := Try.checked) false ⟨#[], #[.agg #[.int .u8 0, .int .u8 0, .int .u8 0, .int .u8 0, .int .u8 0, .int .u8 0, .int .u8 0, .int .u8 0, .int .u8 0, .int .u8 0, .int .u8 0, .int .u8 0, .int .u8 0, .int .u8 0, .int .u8 0, .int .u8 0, .int .u64 0], .slice none 0 0], []⟩ 8 (by kernel_rfl) (by kernel_rfl) (by kernel_rfl) (by kernel_rfl)) ?_
  intro W base args ds gs before hval0 hW hcnd _
  have hval : ∀ (j : Nat) t v, Try.f13.params[j]? = some t → args[j]? = some v → Value.okWide Try.prog W .any base t v := hval0
  have hW' := hW
  obtain ⟨p, q, hA0, hV, rfl, hfz, hnd⟩ := hW
  have hA : DataW.TrodAll enc Try.prog W 0 (fun _ => true) true Try.f13.params.toList args.toList ds p := hA0
  rw [Try.params13] at hA hval
  obtain ⟨v0, vs0, d0, ds0, p0, q0, hargs, rfl, rfl, h0, r0⟩ := trodAll_cons hA
  obtain ⟨v1, vs1, d1, ds1, p1, q1, rfl, rfl, rfl, h1, r1⟩ := trodAll_cons r0
  obtain ⟨rfl, rfl, rfl⟩ := trodAll_nil r1
  obtain rfl : args = #[v0, v1] := by cases args; simp_all
  obtain ⟨rfl, rfl⟩ := trodVars_none hV
  have k0 := h0
  have lt0 : ∀ x ∈ p0, x.block < W.heap.size := by obtain ⟨m, hm⟩ := k0; exact DataW.trod_lt m _ _ _ hm
  have ok0 := hval 0 87 v0 rfl rfl
  have k1 := h1
  have lt1 : ∀ x ∈ p1, x.block < W.heap.size := by obtain ⟨m, hm⟩ := k1; exact DataW.trod_lt m _ _ _ hm
  have ok1 := hval 1 22 v1 rfl rfl
  clear hA0 hval0
  obtain ⟨key, n, rfl, hk, ho, hn⟩ := open_ring ok0 h0
  obtain ⟨A, k, c, rfl⟩ := okWide_slice Try.underlying22 ok1
  obtain ⟨l, rfl, ob, ha, hba⟩ := open_isb (e := 5) Try.underlying22 Try.underlying5 (by kernel_rfl) h1
  refine (rbytes_all key hk ho n hn A l.length c l ob W ha).mono fun e W' ⟨he, bel⟩ => ?_
  subst he
  exact ⟨_, rfl, _, _, _, [], _, [], hW', trodAll_mk1 (shut_bool Try.underlying4 _), (trodAll_cons_mk (Below.trod laidOut (by kernel_rfl) (of_decide_eq_true (by kernel_rfl)) k0 bel lt0) (trodAll_cons_mk (Below.trod laidOut (by kernel_rfl) (of_decide_eq_true (by kernel_rfl)) k1 bel lt1) trodAll_mk0)), rfl, bel.frame _, fun h => by cases h⟩

theorem over : Rows.ringBytesRow.holds Try.pinned (OpenSpec.ofChange Rows.ringBytesSpec) :=
  OpenClaim.holds_of_wide 13 Try.f13 rfl rfl rfl rfl rfl rfl rfl ⟨rfl, rfl, rfl, rfl, rfl⟩ rfl rfl rfl rfl rfl (by kernel_rfl) Try.func13 (by kernel_rfl)
    (of_decide_eq_true (by kernel_rfl)) (by unfold Func.isWrapper; first | (rw [if_pos (by decide +kernel)]; kernel_rfl) | (rw [if_neg (by decide +kernel)]; exact ⟨rfl, rfl⟩))
    (fun os started H enc _ => lifted os started H enc)

theorem proved : Rows.RingBytesSaid := over
#print axioms proved
end Go.Proofs.Ytkdcaipadejchaa.ringBytes
