/-
  A segment that came in, by its parts; what the calls of TcpStamps on it return. Helper of the claim TcpStamps. No condition.
-/
import Derived.Test.YtkgmgmlicgjfdaaStp
import Derived.Lib.SmallJoins
namespace Go.Proofs.Ytkgmgmlicgjfdaa
open Go.ChangeShapes Go.WideShapes Go.ChangeAt Go.RowKit
set_option linter.unusedVariables false
set_option maxRecDepth 100000
theorem array10 {cs : Array Value} (h : cs.size = 10) : ∃ c0 c1 c2 c3 c4 c5 c6 c7 c8 c9, cs = #[c0, c1, c2, c3, c4, c5, c6, c7, c8, c9] := by
  obtain ⟨l⟩ := cs
  match l, h with
  | [c0, c1, c2, c3, c4, c5, c6, c7, c8, c9], _ => exact ⟨c0, c1, c2, c3, c4, c5, c6, c7, c8, c9, rfl⟩
section
open Go.Deep Go.Joins
variable {H : Type} {enc : TypeId × Value → H} {w : World} {held : Bool} {spare : Nat → Bool}
theorem open_seg {r : Reach} {b0 : Nat} {v : Value} {d : DataW H} {p : List MemPlace} (hv : Value.okWide Try.prog w r b0 35 v) (h : DataW.Trod enc Try.prog w 0 spare held 35 v d p) :
    ∃ (xa xb xs xk xf xn xm xg : Int) (A8 : Option Addr) (n8 c8 : Nat) (A9 : Option Addr) (n9 c9 : Nat), v = sg6 xa xb xs xk xf xn xm xg (.slice A8 n8 c8) (.slice A9 n9 c9) ∧ (0 ≤ xf ∧ xf < 256) ∧
      (∃ d8 p8, DataW.Trod enc Try.prog w 0 spare held 22 (.slice A8 n8 c8) d8 p8) ∧ ∃ d9 p9, DataW.Trod enc Try.prog w 0 spare held 22 (.slice A9 n9 c9) d9 p9 := by
  have hu := Try.underlying35
  obtain ⟨cs, rfl, hsz⟩ := okWide_struct hu hv
  obtain ⟨c0, c1, c2, c3, c4, c5, c6, c7, c8, c9, rfl⟩ := array10 (hsz.trans (by kernel_rfl))
  obtain ⟨fuel, hf⟩ := h
  obtain ⟨xs, n, _, _, hl, hlen, hf⟩ := DataW.trod_struct hu hf
  match xs, hlen with
  | [y0, y1, y2, y3, y4, y5, y6, y7, y8, y9], _ =>
    have g0 : DataW.trod enc Try.prog w 0 spare held n 23 [c0] = some y0 := hf 0 _ rfl
    have g1 : DataW.trod enc Try.prog w 0 spare held n 23 [c1] = some y1 := hf 1 _ rfl
    have g2 : DataW.trod enc Try.prog w 0 spare held n 33 [c2] = some y2 := hf 2 _ rfl
    have g3 : DataW.trod enc Try.prog w 0 spare held n 33 [c3] = some y3 := hf 3 _ rfl
    have g4 : DataW.trod enc Try.prog w 0 spare held n 5 [c4] = some y4 := hf 4 _ rfl
    have g5 : DataW.trod enc Try.prog w 0 spare held n 23 [c5] = some y5 := hf 5 _ rfl
    have g6 : DataW.trod enc Try.prog w 0 spare held n 23 [c6] = some y6 := hf 6 _ rfl
    have g7 : DataW.trod enc Try.prog w 0 spare held n 23 [c7] = some y7 := hf 7 _ rfl
    have g8 : DataW.trod enc Try.prog w 0 spare held n 22 [c8] = some y8 := hf 8 _ rfl
    have g9 : DataW.trod enc Try.prog w 0 spare held n 22 [c9] = some y9 := hf 9 _ rfl
    obtain ⟨xa, e0, _, _⟩ := DataW.trod_int Try.underlying23 g0
    obtain ⟨xb, e1, _, _⟩ := DataW.trod_int Try.underlying23 g1
    obtain ⟨xc, e2, _, _⟩ := DataW.trod_int Try.underlying33 g2
    obtain ⟨xk, e3, _, _⟩ := DataW.trod_int Try.underlying33 g3
    obtain ⟨xf, e4, _, hw⟩ := DataW.trod_int Try.underlying5 g4
    obtain ⟨xn, e5, _, _⟩ := DataW.trod_int Try.underlying23 g5
    obtain ⟨xm, e6, _, _⟩ := DataW.trod_int Try.underlying23 g6
    obtain ⟨xg, e7, _, _⟩ := DataW.trod_int Try.underlying23 g7
    obtain ⟨A8, n8, k8, e8⟩ := slice_form Try.underlying22 g8
    obtain ⟨A9, n9, k9, e9⟩ := slice_form Try.underlying22 g9
    cases e0; cases e1; cases e2; cases e3; cases e4; cases e5; cases e6; cases e7; cases e8; cases e9
    refine ⟨xa, xb, xc, xk, xf, xn, xm, xg, A8, n8, k8, A9, n9, k9, rfl, ?_, ⟨y8.1, y8.2, n, g8⟩, ⟨y9.1, y9.2, n, g9⟩⟩
    have hw2 := bounds_u8 hw
    omega
end
/-- How the calls read a segment's mark. -/
def first6 (xf : Int) : Bool := (bits .and .u8 xf 23 == 2)
set_option maxHeartbeats 1000000 in
theorem to6 (xa xb xs xk xf xn xm xg : Int) (o l : List Int) (i j : Nat) (v u : Value) (w : World) (hv : IsB o i v w) (hu : IsB l j u w) :
    Calls Try.prog 23 #[sg6 xa xb xs xk xf xn xm xg v u] w fun e w' => e = .returned (sg6 xa xb xs xk xf xn xm xg v u) ∧ Below w.heap.size w w' := by
  have HV := hide hv; have HU := hide hu
  obtain ⟨A1, c1, rfl⟩ := hv.shape
  obtain ⟨A2, c2, rfl⟩ := hu.shape
  clear hv hu
  unfold sg6
  go_enter Try.func23, Try.ntmps23
  go_wp2_with fail
  exact bodyPost_ret (v := sg6 xa xb xs xk xf xn xm xg (.slice A1 i c1) (.slice A2 j c2)) (by simp [results, Try.results23, go_sem, sg6]) rfl ⟨rfl, ((Below.refl _ _).alloc (Nat.le_refl _) _).alloc (by simp) _⟩
set_option maxHeartbeats 1000000 in
theorem light_yes (xa xb xs xk xf xn xm xg : Int) (A1 : Option Addr) (i c1 : Nat) (A2 : Option Addr) (j c2 : Nat) (w : World) (hi : i ≤ 200) (hj : j ≤ 2000) :
    Calls Try.prog 19 #[sg6 xa xb xs xk xf xn xm xg (.slice A1 i c1) (.slice A2 j c2)] w fun e w' => e = .returned (.bool true) ∧ Below w.heap.size w w' := by
  have hi2 : (i : Int) ≤ 200 := by omega
  have hj2 : (j : Int) ≤ 2000 := by omega
  unfold sg6
  go_enter Try.func19, Try.ntmps19
  go_wp2_with fail
  go_ret
  exact ⟨rfl, (Below.refl _ _).alloc (Nat.le_refl _) _⟩
set_option maxHeartbeats 1000000 in
theorem light_no (xa xb xs xk xf xn xm xg : Int) (A1 : Option Addr) (i c1 : Nat) (A2 : Option Addr) (j c2 : Nat) (w : World) (h : ¬ (i ≤ 200 ∧ j ≤ 2000)) :
    Calls Try.prog 19 #[sg6 xa xb xs xk xf xn xm xg (.slice A1 i c1) (.slice A2 j c2)] w fun e w' => e = .returned (.bool false) ∧ Below w.heap.size w w' := by
  unfold sg6
  by_cases hi : i ≤ 200
  · have hi2 : (i : Int) ≤ 200 := by omega
    have hj2 : ¬ ((j : Int) ≤ 2000) := by omega
    go_enter Try.func19, Try.ntmps19
    go_wp2_with fail
    go_ret
    exact ⟨rfl, (Below.refl _ _).alloc (Nat.le_refl _) _⟩
  · have hi2 : ¬ ((i : Int) ≤ 200) := by omega
    go_enter Try.func19, Try.ntmps19
    go_wp2_with fail
    go_ret
    exact ⟨rfl, (Below.refl _ _).alloc (Nat.le_refl _) _⟩
set_option maxHeartbeats 1000000 in
theorem first_any (xa xb xs xk xf xn xm xg : Int) (o l : List Int) (i j : Nat) (v u : Value) (w : World) (hv : IsB o i v w) (hu : IsB l j u w) :
    Calls Try.prog 25 #[sg6 xa xb xs xk xf xn xm xg v u] w fun e w' => e = .returned (.bool (first6 xf)) ∧ Below w.heap.size w w' := by
  obtain ⟨A1, c1, rfl⟩ := hv.shape
  obtain ⟨A2, c2, rfl⟩ := hu.shape
  clear hv hu
  unfold sg6
  go_enter Try.func25, Try.ntmps25
  go_wp2_with fail
  go_ret
  exact ⟨by simp [first6], (Below.refl _ _).alloc (Nat.le_refl _) _⟩
/-- What the stamps of a segment are. -/
def Stamped (o : List Int) (w : World) (e : Ending) (w' : World) : Prop := ∃ r, Res o 0 r ∧ e = .returned (.tuple #[.int .u32 (match r with | some k => nw o k 4 | none => 0), .int .u32 (match r with | some k => nw o (k + 4) 4 | none => 0), .bool r.isSome]) ∧ Below w.heap.size w w'
theorem Stamped.none {o : List Int} {w w' : World} (h : Res o 0 none) (hb : Below w.heap.size w w') : Stamped o w (.returned (.tuple #[.int .u32 0, .int .u32 0, .bool false])) w' := ⟨_, h, rfl, hb⟩
theorem Stamped.some {o : List Int} {w w' : World} {k : Nat} {x y : Int} (h : Res o 0 (some k)) (hx : nw o k 4 = x) (hy : nw o (k + 4) 4 = y) (hb : Below w.heap.size w w') : Stamped o w (.returned (.tuple #[.int .u32 x, .int .u32 y, .bool true])) w' := by subst hx; subst hy; exact ⟨_, h, rfl, hb⟩
theorem stamps_q {l : List Int} {n : Nat} {v : Value} {w : World} (h : IsB l n v w) (ho : Octets l) (hm : n ≤ 3000) : Calls Try.prog 21 #[v] w (Found l w) := by
  obtain ⟨A, c, rfl⟩ := h.shape
  have e : l.length = n := by obtain ⟨_, _, _, e, _⟩ := h; exact e
  subst e
  exact stamps_any A c l w h ho hm
theorem rstamps_q {l : List Int} {n : Nat} {v : Value} {w : World} (h : IsB l n v w) (ho : Octets l) (hm : n ≤ 3000) : Calls Try.prog 22 #[v] w (FoundR l w) := by
  obtain ⟨A, c, rfl⟩ := h.shape
  have e : l.length = n := by obtain ⟨_, _, _, e, _⟩ := h; exact e
  subst e
  exact rstamps_any A c l w h ho hm
set_option maxHeartbeats 2000000 in
theorem stamp_any (xa xb xs xk xf xn xm xg : Int) (o l : List Int) (i j : Nat) (v u : Value) (w : World) (hv : IsB o i v w) (hu : IsB l j u w) (ho : Octets o) (hm : i ≤ 3000) :
    Calls Try.prog 24 #[sg6 xa xb xs xk xf xn xm xg v u] w (Stamped o w) := by
  have e : o.length = i := by obtain ⟨_, _, _, e, _⟩ := hv; exact e
  have HV := hide hv; have HO := hide ho
  obtain ⟨A1, c1, rfl⟩ := hv.shape
  obtain ⟨A2, c2, rfl⟩ := hu.shape
  clear hv hu ho
  unfold sg6
  go_enter Try.func24, Try.ntmps24
  go_wp2_with fail
  refine (stamps_q (HV.out.alloc _) HO.out hm).mono ?_
  rintro e w1 ⟨r, hr, rfl, rfl, hk⟩
  have HR := Lib.hid hr
  clear hr
  cases r with
  | none =>
    simp only [Option.isSome_none]
    go_wp2_with fail
    go_ret3
    exact Stamped.none HR.out ((Below.refl _ _).alloc (Nat.le_refl _) _)
  | some k =>
    simp only [Option.isSome_some]
    have hk8 := hk k rfl
    obtain ⟨x, hx⟩ : ∃ x, nw o k 4 = x := ⟨_, rfl⟩
    obtain ⟨y, hy⟩ : ∃ y, nw o (k + 4) 4 = y := ⟨_, rfl⟩
    have HX := Lib.hid hx; have HY := Lib.hid hy
    clear hk hx hy
    go_wp2_with (first
      | ((with_reducible show wpList _ _ _ (⟨some 18, _, _, _, _, _⟩ :: _) _ _)
         refine sl_q1 _ _ rfl rfl (i := k) (k := i - k) rfl rfl (HV.out.alloc _) (by omega) ?_
         intro X9 d9 hX9
         have HX9 := hide hX9
         clear hX9))
    have el : (o.drop k).length = i - k := by rw [List.length_drop]; omega
    refine (read_q HX9.out (by omega)).mono ?_
    rintro e w1 ⟨g, rfl, h1⟩
    have R1 := hide h1; clear h1
    go_wp2_with fail
    refine (long_q 4 x R1.out (HO.out.drop k) rfl (by omega) (by rw [← HX.out]; simp [nw])).mono ?_
    rintro e w3 ⟨rfl, h1, _⟩
    have R3 := hide h1; clear h1 R1
    go_wp2_with fail
    refine (long_q 8 y R3.out (HO.out.drop k) rfl (by omega) (by rw [← HY.out]; simp [nw])).mono ?_
    rintro e w4 ⟨rfl, h1, _⟩
    have R4 := hide h1; clear h1 R3
    go_wp2_with fail
    go_ret3
    exact Stamped.some HR.out HX.out HY.out (Below.trans ((Below.refl _ _).alloc (Nat.le_refl _) _) (R4.out.bel.mono (by simp)))
end Go.Proofs.Ytkgmgmlicgjfdaa
