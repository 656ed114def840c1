/-
  Arrays of bytes by value: as parameters, and loaded whole. Helper of the claims on layers 10 and 11.
-/
import Derived.Test.YthjkjohmaemmiaaRf3
import Derived.WideKeyArr
import Derived.ChangeArms
namespace Go.Proofs.Ythjkjohmaemmiaa
open Go.ChangeShapes Go.WideShapes Go.ChangeAt Go.RowKit
set_option linter.unusedSimpArgs false
set_option linter.unusedVariables false
section
variable {H : Type} {enc : TypeId × Value → H} {P : Program} {W : World} {held : Bool} {sp : Nat → Bool} {k e : TypeId} {n base m : Nat}
theorem each_u8 (he : P.underlying e = some (.int .u8)) {cs : List Value} {c : Nat} : ∀ (L : List Nat) (xs : List (DataW H × List MemPlace)),
    L.mapM (fun i => DataW.trod enc P W base sp held m e ((cs.drop (i * c)).take c)) = some xs → ∀ i ∈ L, ∃ a : Int, (cs.drop (i * c)).take c = [.int .u8 a] ∧ 0 ≤ a ∧ a ≤ 255
  | [], xs, h => fun i hi => by cases hi
  | j :: L, xs, h => by
    rw [List.mapM_cons] at h
    simp only [bind, Option.bind_eq_some_iff, pure, Option.some.injEq] at h
    obtain ⟨y, hy, ys, hys, rfl⟩ := h
    have ih := each_u8 he L ys hys
    intro i hi
    rcases List.mem_cons.1 hi with rfl | hi
    · obtain ⟨a, ea, _, wa⟩ := DataW.trod_int he hy
      have := bounds_u8 wa
      exact ⟨a, ea, this.1, by omega⟩
    · exact ih i hi
theorem open_key (hu : P.underlying k = some (.array n e)) (he : P.underlying e = some (.int .u8)) (h1 : P.cellsOf e = 1) (hk : P.cellsOf k = n) {r : Reach} {b0 : Nat} {v : Value} {d : DataW H} {ps : List MemPlace}
    (hv : Value.okWide P W r b0 k v) (hd : DataW.Trod enc P W base sp held k v d ps) : ∃ key : List Int, v = .agg (u8s key).toArray ∧ key.length = n ∧ Octets key := by
  simp only [Value.okWide, hu] at hv
  obtain ⟨xs, rfl, hn, _⟩ := hv
  rw [hk] at hn
  obtain ⟨fuel, hf⟩ := hd
  cases fuel with
  | zero => simp [DataW.trod] at hf
  | succ m =>
    rw [DataW.trod_step] at hf
    unfold DataW.trodStep at hf
    simp only [hu, Value.cells] at hf
    rw [if_pos (by rw [hk]; simpa using hn)] at hf
    simp only [Option.map_eq_some_iff] at hf
    obtain ⟨ys, hy, _⟩ := hf
    have hall := each_u8 he _ ys hy
    rw [h1] at hall
    have hget : ∀ i (hi : i < n), ∃ a : Int, xs.toList[i]? = some (.int .u8 a) ∧ 0 ≤ a ∧ a ≤ 255 := fun i hi => by
      obtain ⟨a, ea, ha⟩ := hall i (List.mem_range.2 hi)
      refine ⟨a, ?_, ha⟩
      have := congrArg (fun l => l[0]?) ea
      simpa using this
    refine ⟨xs.toList.map fun v => intOf v, ?_, by simpa using hn, ?_⟩
    · congr 1
      apply Array.ext'
      rw [List.toList_toArray]
      apply List.ext_getElem?
      intro i
      by_cases hi : i < n
      · obtain ⟨a, ea, _⟩ := hget i hi
        simp only [u8s, List.map_map, List.getElem?_map, ea, Option.map_some]
        rfl
      · rw [List.getElem?_eq_none (by simp; omega), List.getElem?_eq_none (by simp [u8s]; omega)]
    · intro i
      by_cases hi : i < n
      · obtain ⟨a, ea, h0, h2⟩ := hget i hi
        have : at0 (xs.toList.map fun v => intOf v) i = a := by
          unfold at0; rw [List.getD_eq_getElem?_getD, List.getElem?_map, ea]; rfl
        rw [this]; exact ⟨h0, h2⟩
      · rw [at0_out (by simp; omega)]; omega
end
theorem Lin.Runs.load_row {R : World → World → Prop} (rel : Lin.Rel R) {P : Program} {o : Oper} {s : Lin.Spec R} {ρ : Operand → Value} {w : World} (ty : TypeId) (x : Operand) (ho : o.op = .load ty x) (g : Nat) (hx : ρ x = .pointer (some ⟨g, 0, none⟩)) (t : TypeId) (cs : Array Value) (hg : Is w g t cs) (d : TypeDesc)
    (hu : P.underlying ty = some d) (hd : (match d with | .struct _ | .array _ _ => true | _ => false) = true) (hi : (P.info? ty).map (·.size) = some cs.size) (hs : s.p (.agg cs) w) : Lin.Runs P o s ρ w := by
  refine Lin.Runs.value rel (v := .agg cs) ?_ hs
  unfold execOp
  simp only [ho, hx, Instr.loadAt, Instr.sureAddr, Sem.run_bind, Sem.run_pure, Result.andThen_ok, run_loadVar_row w g t ty cs (0, 0) d hg hu hd hi]
end Go.Proofs.Ythjkjohmaemmiaa
