/-
  The law SpreadPlaces, walked. Helper of the claim SpreadPlaces. No condition.
-/
import Derived.Test.YtkebgkjopfdafaaSp5
namespace Go.Proofs.Ytkebgkjopfdafaa
open Go.ChangeShapes Go.WideShapes Go.ChangeAt Go.RowKit
set_option linter.unusedVariables false
set_option maxRecDepth 100000
theorem count_n (A : Option Addr) (c n : Nat) (l : List Int) (x : Int) (w : World) (hn : l.length = n) (h : Ints w w.heap.size A l) (hm : n ≤ 100000) : Calls Try.prog 67 #[.agg #[.slice A n c], .int .i64 x] w fun e w' => e = .returned (.int .i64 (cnt l x n : Int)) ∧ Below w.heap.size w w' := by
  subst hn; exact count_any A c l x w h hm
theorem count_zero (x : Int) (w : World) : Calls Try.prog 67 #[.agg #[.slice none 0 0], .int .i64 x] w fun e w' => e = .returned (.int .i64 0) ∧ Below w.heap.size w w' :=
  count_any none 0 [] x w (fun h => absurd h (by simp)) (by simp)
theorem pick_n (g n cap : Nat) (l : List Int) (s : Int) (w : World) (base : Nat) (h : OwnI w base (.slice (some ⟨g, 0, none⟩) n cap) l) (hl : l.length = n) (n0 : 1 ≤ n) (n1 : n ≤ 4096) (s0 : 0 ≤ s) (s1 : s ≤ 4294967295) :
    Calls Try.prog 66 #[.agg #[.slice (some ⟨g, 0, none⟩) n cap], .int .u32 s] w fun e w' => e = .returned (.int .i64 (at0 l (s.toNat % n))) ∧ Below w.heap.size w w' :=
  pick_tab g n l s w base cap (h.row hl) hl n0 n1 s0 s1
def LgRel (W : World) (l : List Int) (g : Int) (v15 v16 : Value) (wr : World) : Prop := ∃ k, k ≤ l.length ∧ v15 = .int .i64 (cnt l g k : Int) ∧ v16 = .int .i64 (k : Nat) ∧ Below W.heap.size W wr
def LhRel (W : World) (n : Nat) (v21 : Value) (wr : World) : Prop := ∃ k, k ≤ n ∧ v21 = .int .i64 (k : Nat) ∧ Below W.heap.size W wr
set_option maxHeartbeats 400000 in
theorem law_big (n : Int) (A : Option Addr) (c : Nat) (to : List Int) (s : Int) (g : Int) (B : Option Addr) (d : Nat) (left : List Int) (w : World) (h : 100 < to.length ∨ 100 < left.length ∨ (512 < n ∧ n ≤ 4096)) :
    Calls Try.prog 13 #[.int .i64 n, .slice A to.length c, .int .u32 s, .int .i64 g, .slice B left.length d] w fun e w' => e = .returned (.bool true) ∧ Below w.heap.size w w' := by
  have HB := Lib.hid (Below.refl w.heap.size w)
  by_cases h1 : 100 < to.length
  · have h1z : (100 : Int) < (to.length : Int) := by omega
    clear h
    go_enter Try.func13, Try.ntmps13
    go_wp2_with fail
    refine (awake41 _).mono ?_
    rintro e w9 ⟨rfl, hb9⟩
    have HB9 := Lib.hid (HB.out.trans (hb9.mono HB.out.size))
    clear hb9
    go_wp2_with fail
    go_ret
    exact ⟨rfl, HB9.out⟩
  have h1z : ¬ (100 : Int) < (to.length : Int) := by omega
  by_cases h2 : 100 < left.length
  · have h2z : (100 : Int) < (left.length : Int) := by omega
    clear h
    go_enter Try.func13, Try.ntmps13
    go_wp2_with fail
    refine (awake41 _).mono ?_
    rintro e w9 ⟨rfl, hb9⟩
    have HB9 := Lib.hid (HB.out.trans (hb9.mono HB.out.size))
    clear hb9
    go_wp2_with fail
    go_ret
    exact ⟨rfl, HB9.out⟩
  have h2z : ¬ (100 : Int) < (left.length : Int) := by omega
  have h3 : 512 < n := by omega
  have h4 : n ≤ 4096 := by omega
  clear h
  go_enter Try.func13, Try.ntmps13
  go_wp2_with fail
  refine (awake41 _).mono ?_
  rintro e w9 ⟨rfl, hb9⟩
  have HB9 := Lib.hid (HB.out.trans (hb9.mono HB.out.size))
  clear hb9
  go_wp2_with fail
  go_ret
  exact ⟨rfl, HB9.out⟩
set_option maxHeartbeats 400000 in
theorem law_empty (n : Int) (A : Option Addr) (c : Nat) (to : List Int) (s : Int) (g : Int) (B : Option Addr) (d : Nat) (left : List Int) (w : World) (h1 : to.length = 0) (h2 : left.length ≤ 100) (hs : n ≤ 512 ∨ 4096 < n) :
    Calls Try.prog 13 #[.int .i64 n, .slice A to.length c, .int .u32 s, .int .i64 g, .slice B left.length d] w fun e w' => e = .returned (.bool true) ∧ Below w.heap.size w w' := by
  have HBAD := Lib.hid (show to.length = 0 ∨ ¬ P2 n from .inl h1)
  have hz0 : ((to.length : Int) == 0) = true := by rw [h1]; rfl
  have HS := Lib.hid hs
  by_cases hn : 512 < n
  · have hn4 : ¬ n ≤ 4096 := by omega
    clear hs
    have h1z : ¬ (100 : Int) < (to.length : Int) := by omega
    have h2z : ¬ (100 : Int) < (left.length : Int) := by omega
    clear h1 h2
    go_enter Try.func13, Try.ntmps13
    go_wp2_with fail
    refine (new_bad n A c to.length w HBAD.out HS.out).mono ?_
    rintro e w1 ⟨rfl, hb1⟩
    have h11 := (Is.new w1 111 #[.slice none 0 0]).alloc (.cells #[.slice none 0 0] 111)
    have h13 := Is.new (w1.alloc (.cells #[.slice none 0 0] 111)) 111 #[.slice none 0 0]
    rw [show (w1.alloc (.cells #[.slice none 0 0] 111)).heap.size = w1.heap.size + 1 from by simp] at h13
    have HB1 := Lib.hid ((hb1.alloc hb1.size (.cells #[.slice none 0 0] 111)).alloc (by have := hb1.size; simp; omega) (.cells #[.slice none 0 0] 111))
    have H11 := Lib.hid h11; have H13 := Lib.hid h13
    clear hb1 h11 h13
    go_wp2_with fail
    generalize (w1.alloc (.cells #[.slice none 0 0] 111)).alloc (.cells #[.slice none 0 0] 111) = W at *
    have c11 := H11.out.cell 0
    have c13 := H13.out.cell 0
    simp at c11 c13
    refine (pick_zero s _).mono ?_
    rintro e w3 ⟨rfl, hb3⟩
    have K13 := H13.out.below hb3 H13.out.lt
    have K11 := H11.out.below hb3 H11.out.lt
    have HB3 := Lib.hid (HB1.out.trans (hb3.mono HB1.out.size))
    clear c11 c13 hb3
    have c13 := K13.cell 0
    simp at c13
    have K11 := Lib.hid K11
    clear K13
    go_wp2_with fail
    refine (pick_zero s _).mono ?_
    rintro e w4 ⟨rfl, hb4⟩
    have K11b := K11.out.below hb4 K11.out.lt
    have HB4 := Lib.hid (HB3.out.trans (hb4.mono HB3.out.size))
    have c11 := K11b.cell 0
    simp at c11
    clear hb4 c13 K11b
    go_wp2_with fail
    refine (count_zero g _).mono ?_
    rintro e w5 ⟨rfl, hb5⟩
    have HB5 := Lib.hid (HB4.out.trans (hb5.mono HB4.out.size))
    clear hb5 c11
    go_wp2_with fail
    refine (awake41 _).mono ?_
    rintro e w9 ⟨rfl, hb9⟩
    have HB9 := Lib.hid (HB5.out.trans (hb9.mono HB5.out.size))
    clear hb9
    go_wp2_with fail
    go_ret
    exact ⟨rfl, HB9.out⟩
  · clear hs
    have h1z : ¬ (100 : Int) < (to.length : Int) := by omega
    have h2z : ¬ (100 : Int) < (left.length : Int) := by omega
    clear h1 h2
    go_enter Try.func13, Try.ntmps13
    go_wp2_with fail
    refine (new_bad n A c to.length w HBAD.out HS.out).mono ?_
    rintro e w1 ⟨rfl, hb1⟩
    have h11 := (Is.new w1 111 #[.slice none 0 0]).alloc (.cells #[.slice none 0 0] 111)
    have h13 := Is.new (w1.alloc (.cells #[.slice none 0 0] 111)) 111 #[.slice none 0 0]
    rw [show (w1.alloc (.cells #[.slice none 0 0] 111)).heap.size = w1.heap.size + 1 from by simp] at h13
    have HB1 := Lib.hid ((hb1.alloc hb1.size (.cells #[.slice none 0 0] 111)).alloc (by have := hb1.size; simp; omega) (.cells #[.slice none 0 0] 111))
    have H11 := Lib.hid h11; have H13 := Lib.hid h13
    clear hb1 h11 h13
    go_wp2_with fail
    generalize (w1.alloc (.cells #[.slice none 0 0] 111)).alloc (.cells #[.slice none 0 0] 111) = W at *
    have c11 := H11.out.cell 0
    have c13 := H13.out.cell 0
    simp at c11 c13
    refine (pick_zero s _).mono ?_
    rintro e w3 ⟨rfl, hb3⟩
    have K13 := H13.out.below hb3 H13.out.lt
    have K11 := H11.out.below hb3 H11.out.lt
    have HB3 := Lib.hid (HB1.out.trans (hb3.mono HB1.out.size))
    clear c11 c13 hb3
    have c13 := K13.cell 0
    simp at c13
    have K11 := Lib.hid K11
    clear K13
    go_wp2_with fail
    refine (pick_zero s _).mono ?_
    rintro e w4 ⟨rfl, hb4⟩
    have K11b := K11.out.below hb4 K11.out.lt
    have HB4 := Lib.hid (HB3.out.trans (hb4.mono HB3.out.size))
    have c11 := K11b.cell 0
    simp at c11
    clear hb4 c13 K11b
    go_wp2_with fail
    refine (count_zero g _).mono ?_
    rintro e w5 ⟨rfl, hb5⟩
    have HB5 := Lib.hid (HB4.out.trans (hb5.mono HB4.out.size))
    clear hb5 c11
    go_wp2_with fail
    refine (awake41 _).mono ?_
    rintro e w9 ⟨rfl, hb9⟩
    have HB9 := Lib.hid (HB5.out.trans (hb9.mono HB5.out.size))
    clear hb9
    go_wp2_with fail
    go_ret
    exact ⟨rfl, HB9.out⟩
set_option maxHeartbeats 400000 in
theorem law_bad (n : Int) (A : Option Addr) (c : Nat) (to : List Int) (s : Int) (g : Int) (B : Option Addr) (d : Nat) (left : List Int) (w : World) (h0 : 0 < to.length) (h1 : to.length ≤ 100) (h2 : left.length ≤ 100) (hs : n ≤ 512 ∨ 4096 < n) (hnp : ¬ P2 n) :
    Calls Try.prog 13 #[.int .i64 n, .slice A to.length c, .int .u32 s, .int .i64 g, .slice B left.length d] w fun e w' => e = .returned (.bool true) ∧ Below w.heap.size w w' := by
  have HBAD := Lib.hid (show to.length = 0 ∨ ¬ P2 n from .inr hnp)
  have HNP := Lib.hid hnp
  have hz0 : ((to.length : Int) == 0) = false := by rw [beq_eq_false_iff_ne]; omega
  clear hnp
  have HS := Lib.hid hs
  by_cases hn : 512 < n
  · have hn4 : ¬ n ≤ 4096 := by omega
    clear hs
    have h1z : ¬ (100 : Int) < (to.length : Int) := by omega
    have h2z : ¬ (100 : Int) < (left.length : Int) := by omega
    clear h1 h2
    go_enter Try.func13, Try.ntmps13
    go_wp2_with fail
    refine (new_bad n A c to.length w HBAD.out HS.out).mono ?_
    rintro e w1 ⟨rfl, hb1⟩
    have h11 := (Is.new w1 111 #[.slice none 0 0]).alloc (.cells #[.slice none 0 0] 111)
    have h13 := Is.new (w1.alloc (.cells #[.slice none 0 0] 111)) 111 #[.slice none 0 0]
    rw [show (w1.alloc (.cells #[.slice none 0 0] 111)).heap.size = w1.heap.size + 1 from by simp] at h13
    have HB1 := Lib.hid ((hb1.alloc hb1.size (.cells #[.slice none 0 0] 111)).alloc (by have := hb1.size; simp; omega) (.cells #[.slice none 0 0] 111))
    have H11 := Lib.hid h11; have H13 := Lib.hid h13
    clear hb1 h11 h13
    go_wp2_with fail
    generalize (w1.alloc (.cells #[.slice none 0 0] 111)).alloc (.cells #[.slice none 0 0] 111) = W at *
    have c11 := H11.out.cell 0
    have c13 := H13.out.cell 0
    simp at c11 c13
    refine (rright41 n _).mono ?_
    rintro e w2 ⟨he, rfl⟩
    rcases he with ⟨_, hp⟩ | ⟨rfl, _⟩
    · exact absurd hp HNP.out
    go_wp2_with fail
    refine (pick_zero s _).mono ?_
    rintro e w3 ⟨rfl, hb3⟩
    have K13 := H13.out.below hb3 H13.out.lt
    have K11 := H11.out.below hb3 H11.out.lt
    have HB3 := Lib.hid (HB1.out.trans (hb3.mono HB1.out.size))
    clear c11 c13 hb3
    have c13 := K13.cell 0
    simp at c13
    have K11 := Lib.hid K11
    clear K13
    go_wp2_with fail
    refine (pick_zero s _).mono ?_
    rintro e w4 ⟨rfl, hb4⟩
    have K11b := K11.out.below hb4 K11.out.lt
    have HB4 := Lib.hid (HB3.out.trans (hb4.mono HB3.out.size))
    have c11 := K11b.cell 0
    simp at c11
    clear hb4 c13 K11b
    go_wp2_with fail
    refine (count_zero g _).mono ?_
    rintro e w5 ⟨rfl, hb5⟩
    have HB5 := Lib.hid (HB4.out.trans (hb5.mono HB4.out.size))
    clear hb5 c11
    go_wp2_with fail
    refine (awake41 _).mono ?_
    rintro e w9 ⟨rfl, hb9⟩
    have HB9 := Lib.hid (HB5.out.trans (hb9.mono HB5.out.size))
    clear hb9
    go_wp2_with fail
    go_ret
    exact ⟨rfl, HB9.out⟩
  · clear hs
    have h1z : ¬ (100 : Int) < (to.length : Int) := by omega
    have h2z : ¬ (100 : Int) < (left.length : Int) := by omega
    clear h1 h2
    go_enter Try.func13, Try.ntmps13
    go_wp2_with fail
    refine (new_bad n A c to.length w HBAD.out HS.out).mono ?_
    rintro e w1 ⟨rfl, hb1⟩
    have h11 := (Is.new w1 111 #[.slice none 0 0]).alloc (.cells #[.slice none 0 0] 111)
    have h13 := Is.new (w1.alloc (.cells #[.slice none 0 0] 111)) 111 #[.slice none 0 0]
    rw [show (w1.alloc (.cells #[.slice none 0 0] 111)).heap.size = w1.heap.size + 1 from by simp] at h13
    have HB1 := Lib.hid ((hb1.alloc hb1.size (.cells #[.slice none 0 0] 111)).alloc (by have := hb1.size; simp; omega) (.cells #[.slice none 0 0] 111))
    have H11 := Lib.hid h11; have H13 := Lib.hid h13
    clear hb1 h11 h13
    go_wp2_with fail
    generalize (w1.alloc (.cells #[.slice none 0 0] 111)).alloc (.cells #[.slice none 0 0] 111) = W at *
    have c11 := H11.out.cell 0
    have c13 := H13.out.cell 0
    simp at c11 c13
    refine (rright41 n _).mono ?_
    rintro e w2 ⟨he, rfl⟩
    rcases he with ⟨_, hp⟩ | ⟨rfl, _⟩
    · exact absurd hp HNP.out
    go_wp2_with fail
    refine (pick_zero s _).mono ?_
    rintro e w3 ⟨rfl, hb3⟩
    have K13 := H13.out.below hb3 H13.out.lt
    have K11 := H11.out.below hb3 H11.out.lt
    have HB3 := Lib.hid (HB1.out.trans (hb3.mono HB1.out.size))
    clear c11 c13 hb3
    have c13 := K13.cell 0
    simp at c13
    have K11 := Lib.hid K11
    clear K13
    go_wp2_with fail
    refine (pick_zero s _).mono ?_
    rintro e w4 ⟨rfl, hb4⟩
    have K11b := K11.out.below hb4 K11.out.lt
    have HB4 := Lib.hid (HB3.out.trans (hb4.mono HB3.out.size))
    have c11 := K11b.cell 0
    simp at c11
    clear hb4 c13 K11b
    go_wp2_with fail
    refine (count_zero g _).mono ?_
    rintro e w5 ⟨rfl, hb5⟩
    have HB5 := Lib.hid (HB4.out.trans (hb5.mono HB4.out.size))
    clear hb5 c11
    go_wp2_with fail
    refine (awake41 _).mono ?_
    rintro e w9 ⟨rfl, hb9⟩
    have HB9 := Lib.hid (HB5.out.trans (hb9.mono HB5.out.size))
    clear hb9
    go_wp2_with fail
    go_ret
    exact ⟨rfl, HB9.out⟩
end Go.Proofs.Ytkebgkjopfdafaa
