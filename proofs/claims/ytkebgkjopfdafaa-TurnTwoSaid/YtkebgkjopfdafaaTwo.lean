/-
  Two of package turn and the document's answer. Helper of the claim TurnTwo. No condition.
-/
import Derived.Test.YtkebgkjopfdafaaTurn
import Derived.Test.YtkebgkjopfdafaaLin
import Derived.IntWalk
import Derived.BigRegion
namespace Go.Proofs.Ytkebgkjopfdafaa
open Go.ChangeShapes Go.WideShapes Go.ChangeAt Go.RowKit
set_option linter.unusedVariables false
theorem tmod_nat (a n : Nat) : Int.tmod (a : Int) (n : Int) = ((a % n : Nat) : Int) := by
  rw [Int.tmod_eq_emod_of_nonneg (by omega)]; simp
theorem set1b {B : Nat} {u w : World} (h : Below B u w) {g i : Nat} (hg : B ≤ g) (v : Value) : Below B u (w.setCell ⟨g, i, none⟩ v) := h.setCell hg v
set_option maxRecDepth 100000 in
set_option maxHeartbeats 4000000 in
theorem two_y (A : Option Addr) (c : Nat) (l : List Cand) (a b i k : Nat) (w : World) (h : Cands w w.heap.size A l) (hm : l.length ≤ 1000) (h0 : 0 < l.length) (ha : a ≤ 4294967295) (hb : b ≤ 4294967295) (hi : a % l.length = i) (hk : b % l.length = k)
    (hc : (nth l k).load < (nth l i).load ∨ ((nth l k).load = (nth l i).load ∧ (nth l k).slot < (nth l i).slot)) :
    Calls Try.prog 18 #[.slice A l.length c, .int .u32 (a : Int), .int .u32 (b : Int)] w fun e w' => e = .returned (.tuple #[(nth l k).val, .bool true]) ∧ Below w.heap.size w w' := by
  have hil : i < l.length := by subst hi; exact Nat.mod_lt _ h0
  have hkl : k < l.length := by subst hk; exact Nat.mod_lt _ h0
  obtain ⟨bl, ol, rfl, hbl, hcl⟩ := h h0
  obtain ⟨x0, x1, x2, x3⟩ := cell4 hil hcl
  obtain ⟨y0, y1, y2, y3⟩ := cell4 hkl hcl
  have ht1 : Int.tmod (a : Int) (l.length : Int) = (i : Int) := by rw [tmod_nat, hi]
  have ht2 : Int.tmod (b : Int) (l.length : Int) = (k : Int) := by rw [tmod_nat, hk]
  have nz : ((l.length : Int) == 0) = false := by rw [beq_eq_false_iff_ne]; omega
  have hne : ¬ l = [] := by rintro rfl; simp at h0
  have i0 : (0 : Int) ≤ (i : Int) := by omega
  have il : (i : Int) < (l.length : Int) := by omega
  have k0 : (0 : Int) ≤ (k : Int) := by omega
  have kl : (k : Int) < (l.length : Int) := by omega
  clear hi hk hcl h
  unfold Cand.val
  generalize nth l i = x at *
  generalize nth l k = y at *
  go_enter Try.func18, Try.ntmps18
  go_wp2_with fail
  have hbel : Below w.heap.size w (w.alloc (.cells #[.int .i64 0, .int .i64 0, .int .i64 0, .int .u32 0] 29)) := (Below.refl _ _).alloc (Nat.le_refl _) _
  have x0' := (hbel.cell (p := ⟨bl, ol + i * 4, none⟩) hbl).trans x0
  have x1' := (hbel.cell (p := ⟨bl, ol + i * 4 + 1, none⟩) hbl).trans x1
  have x2' := (hbel.cell (p := ⟨bl, ol + i * 4 + 2, none⟩) hbl).trans x2
  have x3' := (hbel.cell (p := ⟨bl, ol + i * 4 + 3, none⟩) hbl).trans x3
  have y0' := (hbel.cell (p := ⟨bl, ol + k * 4, none⟩) hbl).trans y0
  have y1' := (hbel.cell (p := ⟨bl, ol + k * 4 + 1, none⟩) hbl).trans y1
  have y2' := (hbel.cell (p := ⟨bl, ol + k * 4 + 2, none⟩) hbl).trans y2
  have y3' := (hbel.cell (p := ⟨bl, ol + k * 4 + 3, none⟩) hbl).trans y3
  have hr := Is.new w 29 #[.int .i64 0, .int .i64 0, .int .i64 0, .int .u32 0]
  have hbl' : bl < (w.alloc (.cells #[.int .i64 0, .int .i64 0, .int .i64 0, .int .u32 0] 29)).heap.size := Nat.lt_of_lt_of_le hbl hbel.size
  generalize w.alloc (.cells #[.int .i64 0, .int .i64 0, .int .i64 0, .int .u32 0] 29) = wr at *
  have r0 := hr.cell 0
  have r1 := hr.cell 1
  have r2 := hr.cell 2
  have r3 := hr.cell 3
  have fr := hr.free
  have lr := hr.lt
  simp at r0 r1 r2 r3 fr lr
  have HB := Lib.hid hbel
  clear x0 x1 x2 x3 y0 y1 y2 y3 hr hbel
  generalize hgr : w.heap.size = gr at *
  have HGR := Lib.hid hgr
  clear hgr
  go_region
  all_goals
    clear x0' x1' x2' x3' y0' y1' y2' y3' ht1 ht2
    go_wp2_with fail
  all_goals first
    | (exfalso; omega)
    | (refine bodyPost_ret (v := .tuple #[.agg #[.int .i64 y.slot, .int .i64 y.backend, .int .i64 y.weight, .int .u32 y.load], .bool true]) (by simp [results, Try.results18, go_sem, r0, r1, r2, r3, lr]; try omega) rfl ⟨rfl, ?_⟩
       have ob := HB.out
       have obs := HB.out.size
       have HG := HGR.out
       clear HGR HB
       subst HG
       repeat' first | with_reducible exact ob | with_reducible apply set1b | with_reducible apply Below.drew | with_reducible refine Below.alloc ?_ ?_ _
       all_goals (first | (simp; done) | (simp; omega) | omega))
set_option maxRecDepth 100000 in
set_option maxHeartbeats 4000000 in
theorem two_x (A : Option Addr) (c : Nat) (l : List Cand) (a b i k : Nat) (w : World) (h : Cands w w.heap.size A l) (hm : l.length ≤ 1000) (h0 : 0 < l.length) (ha : a ≤ 4294967295) (hb : b ≤ 4294967295) (hi : a % l.length = i) (hk : b % l.length = k)
    (hc : ¬ ((nth l k).load < (nth l i).load ∨ ((nth l k).load = (nth l i).load ∧ (nth l k).slot < (nth l i).slot))) :
    Calls Try.prog 18 #[.slice A l.length c, .int .u32 (a : Int), .int .u32 (b : Int)] w fun e w' => e = .returned (.tuple #[(nth l i).val, .bool true]) ∧ Below w.heap.size w w' := by
  have hil : i < l.length := by subst hi; exact Nat.mod_lt _ h0
  have hkl : k < l.length := by subst hk; exact Nat.mod_lt _ h0
  obtain ⟨bl, ol, rfl, hbl, hcl⟩ := h h0
  obtain ⟨x0, x1, x2, x3⟩ := cell4 hil hcl
  obtain ⟨y0, y1, y2, y3⟩ := cell4 hkl hcl
  have ht1 : Int.tmod (a : Int) (l.length : Int) = (i : Int) := by rw [tmod_nat, hi]
  have ht2 : Int.tmod (b : Int) (l.length : Int) = (k : Int) := by rw [tmod_nat, hk]
  have nz : ((l.length : Int) == 0) = false := by rw [beq_eq_false_iff_ne]; omega
  have hne : ¬ l = [] := by rintro rfl; simp at h0
  have i0 : (0 : Int) ≤ (i : Int) := by omega
  have il : (i : Int) < (l.length : Int) := by omega
  have k0 : (0 : Int) ≤ (k : Int) := by omega
  have kl : (k : Int) < (l.length : Int) := by omega
  clear hi hk hcl h
  unfold Cand.val
  generalize nth l i = x at *
  generalize nth l k = y at *
  go_enter Try.func18, Try.ntmps18
  go_wp2_with fail
  have hbel : Below w.heap.size w (w.alloc (.cells #[.int .i64 0, .int .i64 0, .int .i64 0, .int .u32 0] 29)) := (Below.refl _ _).alloc (Nat.le_refl _) _
  have x0' := (hbel.cell (p := ⟨bl, ol + i * 4, none⟩) hbl).trans x0
  have x1' := (hbel.cell (p := ⟨bl, ol + i * 4 + 1, none⟩) hbl).trans x1
  have x2' := (hbel.cell (p := ⟨bl, ol + i * 4 + 2, none⟩) hbl).trans x2
  have x3' := (hbel.cell (p := ⟨bl, ol + i * 4 + 3, none⟩) hbl).trans x3
  have y0' := (hbel.cell (p := ⟨bl, ol + k * 4, none⟩) hbl).trans y0
  have y1' := (hbel.cell (p := ⟨bl, ol + k * 4 + 1, none⟩) hbl).trans y1
  have y2' := (hbel.cell (p := ⟨bl, ol + k * 4 + 2, none⟩) hbl).trans y2
  have y3' := (hbel.cell (p := ⟨bl, ol + k * 4 + 3, none⟩) hbl).trans y3
  have hr := Is.new w 29 #[.int .i64 0, .int .i64 0, .int .i64 0, .int .u32 0]
  have hbl' : bl < (w.alloc (.cells #[.int .i64 0, .int .i64 0, .int .i64 0, .int .u32 0] 29)).heap.size := Nat.lt_of_lt_of_le hbl hbel.size
  generalize w.alloc (.cells #[.int .i64 0, .int .i64 0, .int .i64 0, .int .u32 0] 29) = wr at *
  have r0 := hr.cell 0
  have r1 := hr.cell 1
  have r2 := hr.cell 2
  have r3 := hr.cell 3
  have fr := hr.free
  have lr := hr.lt
  simp at r0 r1 r2 r3 fr lr
  have HB := Lib.hid hbel
  clear x0 x1 x2 x3 y0 y1 y2 y3 hr hbel
  generalize hgr : w.heap.size = gr at *
  have HGR := Lib.hid hgr
  clear hgr
  go_region
  all_goals
    clear x0' x1' x2' x3' y0' y1' y2' y3' ht1 ht2
    go_wp2_with fail
  all_goals first
    | (exfalso; omega)
    | (refine bodyPost_ret (v := .tuple #[.agg #[.int .i64 x.slot, .int .i64 x.backend, .int .i64 x.weight, .int .u32 x.load], .bool true]) (by simp [results, Try.results18, go_sem, r0, r1, r2, r3, lr]; try omega) rfl ⟨rfl, ?_⟩
       have ob := HB.out
       have obs := HB.out.size
       have HG := HGR.out
       clear HGR HB
       subst HG
       repeat' first | with_reducible exact ob | with_reducible apply set1b | with_reducible apply Below.drew | with_reducible refine Below.alloc ?_ ?_ _
       all_goals (first | (simp; done) | (simp; omega) | omega))

/-- Which of two drawn candidates the document names. -/
def twoIx (l : List Cand) (i k : Nat) : Nat := if (nth l i).load < (nth l k).load then i else if (nth l k).load < (nth l i).load then k else min i k
set_option maxHeartbeats 1000000 in
theorem rtwo_a (A : Option Addr) (c : Nat) (l : List Cand) (a b i k : Nat) (w : World) (h : Cands w w.heap.size A l) (hm : l.length ≤ 1000) (h0 : 0 < l.length) (ha : a ≤ 4294967295) (hb : b ≤ 4294967295) (hi : a % l.length = i) (hk : b % l.length = k) (hc : (nth l i).load < (nth l k).load) :
    Calls Try.prog 19 #[.slice A l.length c, .int .u32 (a : Int), .int .u32 (b : Int)] w fun e w' => e = .returned (.int .i64 (i : Int)) ∧ Below w.heap.size w w' := by
  have hil : i < l.length := by subst hi; exact Nat.mod_lt _ h0
  have hkl : k < l.length := by subst hk; exact Nat.mod_lt _ h0
  obtain ⟨bl, ol, rfl, hbl, hcl⟩ := h h0
  obtain ⟨_, _, _, x3⟩ := cell4 hil hcl
  obtain ⟨_, _, _, y3⟩ := cell4 hkl hcl
  have ht1 : Int.tmod (a : Int) (l.length : Int) = (i : Int) := by rw [tmod_nat, hi]
  have ht2 : Int.tmod (b : Int) (l.length : Int) = (k : Int) := by rw [tmod_nat, hk]
  have nz : ((l.length : Int) == 0) = false := by rw [beq_eq_false_iff_ne]; omega
  have hne : ¬ l = [] := by rintro rfl; simp at h0
  have i0 : (0 : Int) ≤ (i : Int) := by omega
  have il : (i : Int) < (l.length : Int) := by omega
  have k0 : (0 : Int) ≤ (k : Int) := by omega
  have kl : (k : Int) < (l.length : Int) := by omega
  clear hi hk hcl h
  have hik2 : True := by first | trivial | omega
  generalize (nth l i).load = x at *
  generalize (nth l k).load = y at *
  skip
  go_enter Try.func19, Try.ntmps19
  go_wp2_with fail
  go_region
  go_wp2_with fail
  go_region
  go_wp2_with fail
  skip
  go_ret
  exact ⟨rfl, by repeat' first | exact Below.refl _ _ | apply Below.drew⟩
set_option maxHeartbeats 1000000 in
theorem rtwo_b (A : Option Addr) (c : Nat) (l : List Cand) (a b i k : Nat) (w : World) (h : Cands w w.heap.size A l) (hm : l.length ≤ 1000) (h0 : 0 < l.length) (ha : a ≤ 4294967295) (hb : b ≤ 4294967295) (hi : a % l.length = i) (hk : b % l.length = k) (hc : (nth l k).load < (nth l i).load) :
    Calls Try.prog 19 #[.slice A l.length c, .int .u32 (a : Int), .int .u32 (b : Int)] w fun e w' => e = .returned (.int .i64 (k : Int)) ∧ Below w.heap.size w w' := by
  have hil : i < l.length := by subst hi; exact Nat.mod_lt _ h0
  have hkl : k < l.length := by subst hk; exact Nat.mod_lt _ h0
  obtain ⟨bl, ol, rfl, hbl, hcl⟩ := h h0
  obtain ⟨_, _, _, x3⟩ := cell4 hil hcl
  obtain ⟨_, _, _, y3⟩ := cell4 hkl hcl
  have ht1 : Int.tmod (a : Int) (l.length : Int) = (i : Int) := by rw [tmod_nat, hi]
  have ht2 : Int.tmod (b : Int) (l.length : Int) = (k : Int) := by rw [tmod_nat, hk]
  have nz : ((l.length : Int) == 0) = false := by rw [beq_eq_false_iff_ne]; omega
  have hne : ¬ l = [] := by rintro rfl; simp at h0
  have i0 : (0 : Int) ≤ (i : Int) := by omega
  have il : (i : Int) < (l.length : Int) := by omega
  have k0 : (0 : Int) ≤ (k : Int) := by omega
  have kl : (k : Int) < (l.length : Int) := by omega
  clear hi hk hcl h
  have hik2 : True := by first | trivial | omega
  generalize (nth l i).load = x at *
  generalize (nth l k).load = y at *
  have hc2 : ¬ x < y := by omega
  go_enter Try.func19, Try.ntmps19
  go_wp2_with fail
  go_region
  go_wp2_with fail
  go_region
  go_wp2_with fail
  go_region
  go_wp2_with fail
  go_ret
  exact ⟨rfl, by repeat' first | exact Below.refl _ _ | apply Below.drew⟩
set_option maxHeartbeats 1000000 in
theorem rtwo_c (A : Option Addr) (c : Nat) (l : List Cand) (a b i k : Nat) (w : World) (h : Cands w w.heap.size A l) (hm : l.length ≤ 1000) (h0 : 0 < l.length) (ha : a ≤ 4294967295) (hb : b ≤ 4294967295) (hi : a % l.length = i) (hk : b % l.length = k) (hc : (nth l i).load = (nth l k).load) (hik : i ≤ k) :
    Calls Try.prog 19 #[.slice A l.length c, .int .u32 (a : Int), .int .u32 (b : Int)] w fun e w' => e = .returned (.int .i64 (i : Int)) ∧ Below w.heap.size w w' := by
  have hil : i < l.length := by subst hi; exact Nat.mod_lt _ h0
  have hkl : k < l.length := by subst hk; exact Nat.mod_lt _ h0
  obtain ⟨bl, ol, rfl, hbl, hcl⟩ := h h0
  obtain ⟨_, _, _, x3⟩ := cell4 hil hcl
  obtain ⟨_, _, _, y3⟩ := cell4 hkl hcl
  have ht1 : Int.tmod (a : Int) (l.length : Int) = (i : Int) := by rw [tmod_nat, hi]
  have ht2 : Int.tmod (b : Int) (l.length : Int) = (k : Int) := by rw [tmod_nat, hk]
  have nz : ((l.length : Int) == 0) = false := by rw [beq_eq_false_iff_ne]; omega
  have hne : ¬ l = [] := by rintro rfl; simp at h0
  have i0 : (0 : Int) ≤ (i : Int) := by omega
  have il : (i : Int) < (l.length : Int) := by omega
  have k0 : (0 : Int) ≤ (k : Int) := by omega
  have kl : (k : Int) < (l.length : Int) := by omega
  clear hi hk hcl h
  have hik2 : ¬ ((k : Int) < (i : Int)) := by first | trivial | omega
  generalize (nth l i).load = x at *
  generalize (nth l k).load = y at *
  subst hc
  go_enter Try.func19, Try.ntmps19
  go_wp2_with fail
  go_region
  go_wp2_with fail
  go_region
  go_wp2_with fail
  go_region
  go_wp2_with fail
  go_ret
  exact ⟨rfl, by repeat' first | exact Below.refl _ _ | apply Below.drew⟩
set_option maxHeartbeats 1000000 in
theorem rtwo_d (A : Option Addr) (c : Nat) (l : List Cand) (a b i k : Nat) (w : World) (h : Cands w w.heap.size A l) (hm : l.length ≤ 1000) (h0 : 0 < l.length) (ha : a ≤ 4294967295) (hb : b ≤ 4294967295) (hi : a % l.length = i) (hk : b % l.length = k) (hc : (nth l i).load = (nth l k).load) (hik : k < i) :
    Calls Try.prog 19 #[.slice A l.length c, .int .u32 (a : Int), .int .u32 (b : Int)] w fun e w' => e = .returned (.int .i64 (k : Int)) ∧ Below w.heap.size w w' := by
  have hil : i < l.length := by subst hi; exact Nat.mod_lt _ h0
  have hkl : k < l.length := by subst hk; exact Nat.mod_lt _ h0
  obtain ⟨bl, ol, rfl, hbl, hcl⟩ := h h0
  obtain ⟨_, _, _, x3⟩ := cell4 hil hcl
  obtain ⟨_, _, _, y3⟩ := cell4 hkl hcl
  have ht1 : Int.tmod (a : Int) (l.length : Int) = (i : Int) := by rw [tmod_nat, hi]
  have ht2 : Int.tmod (b : Int) (l.length : Int) = (k : Int) := by rw [tmod_nat, hk]
  have nz : ((l.length : Int) == 0) = false := by rw [beq_eq_false_iff_ne]; omega
  have hne : ¬ l = [] := by rintro rfl; simp at h0
  have i0 : (0 : Int) ≤ (i : Int) := by omega
  have il : (i : Int) < (l.length : Int) := by omega
  have k0 : (0 : Int) ≤ (k : Int) := by omega
  have kl : (k : Int) < (l.length : Int) := by omega
  clear hi hk hcl h
  have hik2 : (k : Int) < (i : Int) := by first | trivial | omega
  generalize (nth l i).load = x at *
  generalize (nth l k).load = y at *
  subst hc
  go_enter Try.func19, Try.ntmps19
  go_wp2_with fail
  go_region
  go_wp2_with fail
  go_region
  go_wp2_with fail
  go_region
  go_wp2_with fail
  go_ret
  exact ⟨rfl, by repeat' first | exact Below.refl _ _ | apply Below.drew⟩
theorem rtwo_any (A : Option Addr) (c : Nat) (l : List Cand) (a b i k : Nat) (w : World) (h : Cands w w.heap.size A l) (hm : l.length ≤ 1000) (h0 : 0 < l.length) (ha : a ≤ 4294967295) (hb : b ≤ 4294967295) (hi : a % l.length = i) (hk : b % l.length = k) :
    Calls Try.prog 19 #[.slice A l.length c, .int .u32 (a : Int), .int .u32 (b : Int)] w fun e w' => e = .returned (.int .i64 (twoIx l i k : Int)) ∧ Below w.heap.size w w' := by
  unfold twoIx
  by_cases h1 : (nth l i).load < (nth l k).load
  · rw [if_pos h1]; exact rtwo_a A c l a b i k w h hm h0 ha hb hi hk h1
  · rw [if_neg h1]
    by_cases h2 : (nth l k).load < (nth l i).load
    · rw [if_pos h2]; exact rtwo_b A c l a b i k w h hm h0 ha hb hi hk h2
    · rw [if_neg h2]
      by_cases h3 : i ≤ k
      · rw [Nat.min_eq_left h3]; exact rtwo_c A c l a b i k w h hm h0 ha hb hi hk (by omega) h3
      · rw [Nat.min_eq_right (by omega)]; exact rtwo_d A c l a b i k w h hm h0 ha hb hi hk (by omega) (by omega)
end Go.Proofs.Ytkebgkjopfdafaa
