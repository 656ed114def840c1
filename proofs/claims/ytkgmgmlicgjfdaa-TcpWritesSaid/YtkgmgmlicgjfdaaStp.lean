/-
  Where the time stamps stand in options: what the calls of package tcp and of the document's answer return. Helper of the claim TcpStamps. No condition.
-/
import Derived.Test.YtkgmgmlicgjfdaaTcpA
import Derived.Test.YtkgmgmlicgjfdaaSl
namespace Go.Proofs.Ytkgmgmlicgjfdaa
open Go.ChangeShapes Go.WideShapes Go.ChangeAt Go.RowKit
set_option linter.unusedVariables false
set_option maxRecDepth 100000
/-- The search, by steps: nothing where the steps don't suffice. -/
def sf (l : List Int) : Nat → Nat → Option (Option Nat)
  | 0, _ => none
  | f + 1, k => if l.length ≤ k then some none else if at0 l k = 0 then some none else if at0 l k = 1 then sf l f (k + 1) else if k + 1 = l.length then some none else
      if at0 l (k + 1) < 2 ∨ (l.length : Int) < k + at0 l (k + 1) then some none else if at0 l k = 8 then (if at0 l (k + 1) = 10 then some (some (k + 2)) else some none) else sf l f (k + (at0 l (k + 1)).toNat)
theorem sf_mono (l : List Int) : ∀ (f k : Nat) (r : Option Nat), sf l f k = some r → sf l (f + 1) k = some r
  | 0, k, r, h => by simp [sf] at h
  | f + 1, k, r, h => by
    rw [sf] at h ⊢
    split at h <;> rename_i h1
    · rw [if_pos h1]; exact h
    rw [if_neg h1]
    split at h <;> rename_i h2
    · rw [if_pos h2]; exact h
    rw [if_neg h2]
    split at h <;> rename_i h3
    · rw [if_pos h3]; exact sf_mono l f _ r h
    rw [if_neg h3]
    split at h <;> rename_i h4
    · rw [if_pos h4]; exact h
    rw [if_neg h4]
    split at h <;> rename_i h5
    · rw [if_pos h5]; exact h
    rw [if_neg h5]
    split at h <;> rename_i h6
    · rw [if_pos h6]; exact h
    rw [if_neg h6]
    exact sf_mono l f _ r h
/-- From place k on the search comes to r. -/
def Res (l : List Int) (k : Nat) (r : Option Nat) : Prop := ∃ f, sf l f k = some r
theorem Res.same {l : List Int} {k : Nat} {r s : Option Nat} (h : Res l k r) (g : Res l k s) : r = s := by
  obtain ⟨f, hf⟩ := h
  obtain ⟨e, he⟩ := g
  have up : ∀ (d a : Nat) (t : Option Nat), sf l a k = some t → sf l (a + d) k = some t := by
    intro d; induction d with
    | zero => intro a t h; exact h
    | succ d ih => intro a t h; exact sf_mono l (a + d) k t (ih a t h)
  have h1 := up e f r hf
  have h2 := up f e s he
  rw [show e + f = f + e by omega, h1] at h2
  injection h2
theorem Res.last {l : List Int} {k : Nat} (h : l.length ≤ k ∨ (k < l.length ∧ at0 l k = 0) ∨ (k < l.length ∧ at0 l k ≠ 0 ∧ at0 l k ≠ 1 ∧ k + 1 = l.length)) : Res l k none := by
  refine ⟨1, ?_⟩
  rw [sf]
  rcases h with h | ⟨h, h2⟩ | ⟨h, h2, h3, h4⟩
  · rw [if_pos h]
  · rw [if_neg (by omega), if_pos h2]
  · rw [if_neg (by omega), if_neg h2, if_neg h3, if_pos h4]
theorem Res.one {l : List Int} {k : Nat} {r : Option Nat} (h : k < l.length) (h1 : at0 l k = 1) (g : Res l (k + 1) r) : Res l k r := by
  obtain ⟨f, hf⟩ := g
  exact ⟨f + 1, by rw [sf, if_neg (by omega), if_neg (by omega), if_pos h1]; exact hf⟩
theorem Res.bad {l : List Int} {k : Nat} (h : k + 1 < l.length) (h0 : at0 l k ≠ 0) (h1 : at0 l k ≠ 1) (h2 : at0 l (k + 1) < 2 ∨ (l.length : Int) < k + at0 l (k + 1) ∨ (at0 l k = 8 ∧ at0 l (k + 1) ≠ 10)) : Res l k none := by
  refine ⟨1, ?_⟩
  rw [sf, if_neg (by omega), if_neg h0, if_neg h1, if_neg (by omega)]
  by_cases q : at0 l (k + 1) < 2 ∨ (l.length : Int) < k + at0 l (k + 1)
  · rw [if_pos q]
  · rw [if_neg q]
    have q2 : at0 l k = 8 ∧ at0 l (k + 1) ≠ 10 := by omega
    rw [if_pos q2.1, if_neg q2.2]
theorem Res.hit {l : List Int} {k : Nat} (h : k + 10 ≤ l.length) (h0 : at0 l k = 8) (h1 : at0 l (k + 1) = 10) : Res l k (some (k + 2)) := by
  refine ⟨1, ?_⟩
  rw [sf, if_neg (by omega), if_neg (by omega), if_neg (by omega), if_neg (by omega), if_neg (by omega), if_pos h0, if_pos h1]
theorem Res.skip {l : List Int} {k z : Nat} {r : Option Nat} (h : k + z ≤ l.length) (hz : 2 ≤ z) (h0 : at0 l k ≠ 0) (h1 : at0 l k ≠ 1) (h8 : at0 l k ≠ 8) (h2 : at0 l (k + 1) = (z : Int)) (g : Res l (k + z) r) : Res l k r := by
  obtain ⟨f, hf⟩ := g
  by_cases q : k + 1 = l.length
  · omega
  exact ⟨f + 1, by rw [sf, if_neg (by omega), if_neg h0, if_neg h1, if_neg q, if_neg (by omega), if_neg h8, h2, Int.toNat_natCast]; exact hf⟩
def AtRel (l : List Int) (i : Value) : Prop := ∃ k : Nat, k ≤ l.length ∧ i = .int .i64 (k : Int) ∧ ∀ r, Res l k r → Res l 0 r
def Found (l : List Int) (w : World) (e : Ending) (w' : World) : Prop := ∃ r, Res l 0 r ∧ e = .returned (.tuple #[.int .i64 (match r with | some k => (k : Int) | none => 0), .bool r.isSome]) ∧ w = w' ∧ ∀ k, r = some k → k + 8 ≤ l.length
def FoundR (l : List Int) (w : World) (e : Ending) (w' : World) : Prop := ∃ r, Res l 0 r ∧ e = .returned (.int .i64 (match r with | some k => (k : Int) | none => -1)) ∧ w = w'
theorem Found.none {l : List Int} {w : World} (h : Res l 0 none) : Found l w (.returned (.tuple #[.int .i64 0, .bool false])) w := ⟨_, h, rfl, rfl, fun k h => by cases h⟩
theorem Found.some {l : List Int} {w : World} {k : Nat} (h : Res l 0 (some k)) (hk : k + 8 ≤ l.length) : Found l w (.returned (.tuple #[.int .i64 (k : Int), .bool true])) w := ⟨_, h, rfl, rfl, fun j h => by injection h with h; omega⟩
theorem FoundR.none {l : List Int} {w : World} (h : Res l 0 none) : FoundR l w (.returned (.int .i64 (-1))) w := ⟨_, h, rfl, rfl⟩
theorem FoundR.some {l : List Int} {w : World} {k : Nat} (h : Res l 0 (some k)) : FoundR l w (.returned (.int .i64 (k : Int))) w := ⟨_, h, rfl, rfl⟩
set_option maxHeartbeats 4000000 in
theorem stamps_any (A : Option Addr) (c : Nat) (l : List Int) (w : World) (hi : IsB l l.length (.slice A l.length c) w) (ho : Octets l) (hm : l.length ≤ 3000) :
    Calls Try.prog 21 #[.slice A l.length c] w (Found l w) := by
  have hby : Bytes w w.heap.size A l := by obtain ⟨A', c', e, _, h, _⟩ := hi; injection e with e; subst e; exact h
  have HY := hide hby; have HO := hide ho
  clear hi hby ho
  go_enter Try.func21, Try.ntmps21
  go_wp2_with fail
  go_loop [4] (fun i => AtRel l i) (fun i => (l.length - intOf i).toNat)
  case atStart => exact ⟨0, Nat.zero_le _, rfl, fun r h => h⟩
  case round =>
    obtain ⟨k, hk, rfl, hres⟩ := hrel
    have HR := Lib.hid hres
    clear hres
    by_cases hlt : k < l.length
    · obtain ⟨bl, ol, rfl, hbl, hcl⟩ := HY.out.cells (by omega)
      have d0 := hcl k hlt
      have x0 := HO.out k
      have HX := Lib.hid (show at0 l k = at0 l k from rfl)
      have hk0 : (0 : Int) ≤ (k : Int) := by omega
      have hkl : (k : Int) < (l.length : Int) := by omega
      obtain ⟨x, hx⟩ : ∃ x, at0 l k = x := ⟨_, rfl⟩
      rw [hx] at d0 x0
      have EX := Lib.hid hx
      clear hx HX
      by_cases q0 : x = 0
      · have b0 : (x != 0) = false := by simp [q0]
        have HN := Lib.hid (HR.out _ (Res.last (.inr (.inl ⟨hlt, by rw [EX.out]; exact q0⟩))))
        clear q0 hcl
        go_wp2_with fail
        go_ret2
        exact Found.none HN.out
      · have b0 : (x != 0) = true := by simp [q0]
        by_cases q1 : x = 1
        · have b1 : (x == 1) = true := by simp [q1]
          have E1 := Lib.hid q1
          clear q0 q1 hcl
          go_wp2_with fail
          go_round
          case rel => exact ⟨k + 1, by omega, by go_num, fun r h => HR.out r (Res.one hlt (by rw [EX.out, E1.out]) h)⟩
          case measure => simp [intOf]; omega
        · have b1 : (x == 1) = false := by simp [q1]
          by_cases q2 : k + 1 = l.length
          · have b2 : ((k : Int) + 1 == (l.length : Int)) = true := by rw [beq_iff_eq]; omega
            have HN := Lib.hid (HR.out _ (Res.last (.inr (.inr ⟨hlt, by rw [EX.out]; exact q0, by rw [EX.out]; exact q1, q2⟩))))
            clear q0 q1 q2 hcl
            go_wp2_with fail
            go_ret2
            exact Found.none HN.out
          · have b2 : ((k : Int) + 1 == (l.length : Int)) = false := by rw [beq_eq_false_iff_ne]; omega
            have d1 := hcl (k + 1) (by omega)
            have y0 := HO.out (k + 1)
            obtain ⟨z, hz⟩ := Int.eq_ofNat_of_zero_le y0.1
            rw [hz] at d1 y0
            have EZ := Lib.hid hz
            have hkl2 : (k : Int) + 1 < (l.length : Int) := by omega
            have hk12 : (0 : Int) ≤ (k : Int) + 1 := by omega
            have htn : ((k : Int) + 1).toNat = k + 1 := by omega
            have hd1 : w.cell? ⟨bl, ol + (k + 1), none⟩ = some (.int .u8 (z : Int)) := d1
            clear hz hcl d1
            by_cases q3 : z < 2
            · have HN := Lib.hid (HR.out _ (Res.bad (by omega) (by rw [EX.out]; exact q0) (by rw [EX.out]; exact q1) (.inl (by rw [EZ.out]; omega))))
              have b3 : (z : Int) < 2 := by omega
              clear q0 q1 q2
              go_wp2_with fail
              go_ret2
              exact Found.none HN.out
            · have b3 : ¬ ((z : Int) < 2) := by omega
              by_cases q4 : l.length < k + z
              · have HN := Lib.hid (HR.out _ (Res.bad (by omega) (by rw [EX.out]; exact q0) (by rw [EX.out]; exact q1) (.inr (.inl (by rw [EZ.out]; omega)))))
                have b4 : (l.length : Int) - (k : Int) < (z : Int) := by omega
                have b5 : (l.length : Int) < (k : Int) + (z : Int) := by omega
                clear q0 q1 q2
                go_wp2_with fail
                go_ret2
                exact Found.none HN.out
              · have b4 : ¬ ((l.length : Int) - (k : Int) < (z : Int)) := by omega
                have b5 : ¬ ((l.length : Int) < (k : Int) + (z : Int)) := by omega
                by_cases q8 : x = 8
                · have b8 : (x == 8) = true := by simp [q8]
                  by_cases q10 : z = 10
                  · have b10 : ((z : Int) != 10) = false := by simp [q10]
                    have HN := Lib.hid (HR.out _ (Res.hit (k := k) (by omega) (by rw [EX.out]; exact q8) (by rw [EZ.out]; omega)))
                    have hk10 : k + 10 ≤ l.length := by omega
                    clear q0 q1 q2 q8 q10
                    go_wp2_with fail
                    go_ret2
                    exact Found.some HN.out (by omega)
                  · have b10 : ((z : Int) != 10) = true := by simp; omega
                    have HN := Lib.hid (HR.out _ (Res.bad (by omega) (by rw [EX.out]; exact q0) (by rw [EX.out]; exact q1) (.inr (.inr ⟨by rw [EX.out]; exact q8, by rw [EZ.out]; omega⟩))))
                    clear q0 q1 q2 q8 q10
                    go_wp2_with fail
                    go_ret2
                    exact Found.none HN.out
                · have b8 : (x == 8) = false := by simp [q8]
                  have HN := Lib.hid (fun r (h : Res l (k + z) r) => HR.out r (Res.skip (by omega) (by omega) (by rw [EX.out]; exact q0) (by rw [EX.out]; exact q1) (by rw [EX.out]; exact q8) EZ.out h))
                  clear q0 q1 q2 q8
                  go_wp2_with fail
                  go_round
                  case rel => exact ⟨k + z, by omega, by go_num, fun r h => HN.out r h⟩
                  case measure => simp [intOf]; omega
    · obtain rfl : k = l.length := by omega
      have HN := Lib.hid (HR.out _ (Res.last (.inl (Nat.le_refl _))))
      go_wp2_with fail
      go_ret2
      exact Found.none HN.out
set_option maxHeartbeats 4000000 in
theorem rstamps_any (A : Option Addr) (c : Nat) (l : List Int) (w : World) (hi : IsB l l.length (.slice A l.length c) w) (ho : Octets l) (hm : l.length ≤ 3000) :
    Calls Try.prog 22 #[.slice A l.length c] w (FoundR l w) := by
  have hby : Bytes w w.heap.size A l := by obtain ⟨A', c', e, _, h, _⟩ := hi; injection e with e; subst e; exact h
  have HY := hide hby; have HO := hide ho
  clear hi hby ho
  go_enter Try.func22, Try.ntmps22
  go_wp2_with fail
  go_loop [3] (fun i => AtRel l i) (fun i => (l.length - intOf i).toNat)
  case atStart => exact ⟨0, Nat.zero_le _, rfl, fun r h => h⟩
  case round =>
    obtain ⟨k, hk, rfl, hres⟩ := hrel
    have HR := Lib.hid hres
    clear hres
    by_cases hlt : k < l.length
    · obtain ⟨bl, ol, rfl, hbl, hcl⟩ := HY.out.cells (by omega)
      have d0 := hcl k hlt
      have x0 := HO.out k
      have HX := Lib.hid (show at0 l k = at0 l k from rfl)
      have hk0 : (0 : Int) ≤ (k : Int) := by omega
      have hkl : (k : Int) < (l.length : Int) := by omega
      obtain ⟨x, hx⟩ : ∃ x, at0 l k = x := ⟨_, rfl⟩
      rw [hx] at d0 x0
      have EX := Lib.hid hx
      clear hx HX
      by_cases q0 : x = 0
      · have b0 : (x != 0) = false := by simp [q0]
        have HN := Lib.hid (HR.out _ (Res.last (.inr (.inl ⟨hlt, by rw [EX.out]; exact q0⟩))))
        clear q0 hcl
        go_wp2_with fail
        go_ret
        exact FoundR.none HN.out
      · have b0 : (x != 0) = true := by simp [q0]
        by_cases q1 : x = 1
        · have b1 : (x == 1) = true := by simp [q1]
          have E1 := Lib.hid q1
          clear q0 q1 hcl
          go_wp2_with fail
          go_round
          case rel => exact ⟨k + 1, by omega, by go_num, fun r h => HR.out r (Res.one hlt (by rw [EX.out, E1.out]) h)⟩
          case measure => simp [intOf]; omega
        · have b1 : (x == 1) = false := by simp [q1]
          by_cases q2 : k + 1 = l.length
          · have b2 : ((k : Int) + 1 == (l.length : Int)) = true := by rw [beq_iff_eq]; omega
            have HN := Lib.hid (HR.out _ (Res.last (.inr (.inr ⟨hlt, by rw [EX.out]; exact q0, by rw [EX.out]; exact q1, q2⟩))))
            clear q0 q1 q2 hcl
            go_wp2_with fail
            go_ret
            exact FoundR.none HN.out
          · have b2 : ((k : Int) + 1 == (l.length : Int)) = false := by rw [beq_eq_false_iff_ne]; omega
            have d1 := hcl (k + 1) (by omega)
            have y0 := HO.out (k + 1)
            obtain ⟨z, hz⟩ := Int.eq_ofNat_of_zero_le y0.1
            rw [hz] at d1 y0
            have EZ := Lib.hid hz
            have hkl2 : (k : Int) + 1 < (l.length : Int) := by omega
            have hk12 : (0 : Int) ≤ (k : Int) + 1 := by omega
            have htn : ((k : Int) + 1).toNat = k + 1 := by omega
            have hd1 : w.cell? ⟨bl, ol + (k + 1), none⟩ = some (.int .u8 (z : Int)) := d1
            clear hz hcl d1
            by_cases q3 : z < 2
            · have HN := Lib.hid (HR.out _ (Res.bad (by omega) (by rw [EX.out]; exact q0) (by rw [EX.out]; exact q1) (.inl (by rw [EZ.out]; omega))))
              have b3 : (z : Int) < 2 := by omega
              clear q0 q1 q2
              go_wp2_with fail
              go_ret
              exact FoundR.none HN.out
            · have b3 : ¬ ((z : Int) < 2) := by omega
              by_cases q4 : l.length < k + z
              · have HN := Lib.hid (HR.out _ (Res.bad (by omega) (by rw [EX.out]; exact q0) (by rw [EX.out]; exact q1) (.inr (.inl (by rw [EZ.out]; omega)))))
                have b4 : (l.length : Int) - (k : Int) < (z : Int) := by omega
                have b5 : (l.length : Int) < (k : Int) + (z : Int) := by omega
                clear q0 q1 q2
                go_wp2_with fail
                go_ret
                exact FoundR.none HN.out
              · have b4 : ¬ ((l.length : Int) - (k : Int) < (z : Int)) := by omega
                have b5 : ¬ ((l.length : Int) < (k : Int) + (z : Int)) := by omega
                by_cases q8 : x = 8
                · have b8 : (x == 8) = true := by simp [q8]
                  by_cases q10 : z = 10
                  · have b10 : ((z : Int) != 10) = false := by simp [q10]
                    have HN := Lib.hid (HR.out _ (Res.hit (k := k) (by omega) (by rw [EX.out]; exact q8) (by rw [EZ.out]; omega)))
                    have hk10 : k + 10 ≤ l.length := by omega
                    clear q0 q1 q2 q8 q10
                    go_wp2_with fail
                    go_ret
                    exact FoundR.some HN.out
                  · have b10 : ((z : Int) != 10) = true := by simp; omega
                    have HN := Lib.hid (HR.out _ (Res.bad (by omega) (by rw [EX.out]; exact q0) (by rw [EX.out]; exact q1) (.inr (.inr ⟨by rw [EX.out]; exact q8, by rw [EZ.out]; omega⟩))))
                    clear q0 q1 q2 q8 q10
                    go_wp2_with fail
                    go_ret
                    exact FoundR.none HN.out
                · have b8 : (x == 8) = false := by simp [q8]
                  have HN := Lib.hid (fun r (h : Res l (k + z) r) => HR.out r (Res.skip (by omega) (by omega) (by rw [EX.out]; exact q0) (by rw [EX.out]; exact q1) (by rw [EX.out]; exact q8) EZ.out h))
                  clear q0 q1 q2 q8
                  go_wp2_with fail
                  go_round
                  case rel => exact ⟨k + z, by omega, by go_num, fun r h => HN.out r h⟩
                  case measure => simp [intOf]; omega
    · obtain rfl : k = l.length := by omega
      have HN := Lib.hid (HR.out _ (Res.last (.inl (Nat.le_refl _))))
      go_wp2_with fail
      go_ret
      exact FoundR.none HN.out
end Go.Proofs.Ytkgmgmlicgjfdaa
