/-
  Owed of package smooth; a balancer that is not there. Helper of the claim SmoothPicks. No condition.
-/
import Derived.Test.YtkebgkjopfdafaaSm4
namespace Go.Proofs.Ytkebgkjopfdafaa
open Go.ChangeShapes Go.WideShapes Go.ChangeAt Go.RowKit
set_option linter.unusedSimpArgs false
set_option linter.unusedVariables false
set_option maxRecDepth 100000
/-- What a backend is owed: the first share of it among those from i on, d of them. -/
def owedF (pl : List Cand) (cr : Nat → Int) (x : Int) : Nat → Nat → Int
  | 0, _ => 0
  | d + 1, i => if (nth pl i).backend = x then cr i else owedF pl cr x d (i + 1)
def OwR (w : World) (m : Nat) (pl : List Cand) (cr : Nat → Int) (x : Int) (v : Value) (wr : World) : Prop := ∃ k : Nat, k ≤ m ∧ v = .int .i64 (k : Int) ∧ owedF pl cr x m 0 = owedF pl cr x (m - k) k ∧ Below w.heap.size w wr
theorem owed_nil (x : Int) (w : World) : Calls Try.prog 35 #[.pointer none, .int .i64 x] w fun e w' => e = .returned (.int .i64 0) ∧ w = w' := by
  go_enter Try.func35, Try.ntmps35
  go_wp2_with fail
  go_ret
  exact ⟨rfl, rfl⟩
theorem owed_none (gs : Nat) (x : Int) (w : World) (hs : Is w gs 62 #[.slice none 0 0]) : Calls Try.prog 35 #[.pointer (some ⟨gs, 0, none⟩), .int .i64 x] w fun e w' => e = .returned (.int .i64 0) ∧ w = w' := by
  have s0 := hs.cell 0
  simp at s0
  clear hs
  go_enter Try.func35, Try.ntmps35
  go_wp2_with fail
  go_loopw [14] (fun v wr => v = .int .i64 0 ∧ wr = w) (fun _ _ => 0)
  case atStart => exact ⟨rfl, rfl⟩
  case round =>
    obtain ⟨rfl, rfl⟩ := hrel
    go_wp2_with fail
    go_ret
    exact ⟨rfl, rfl⟩
set_option maxHeartbeats 2000000 in
theorem owed_any (gs m g cap base : Nat) (pl : List Cand) (cr : Nat → Int) (x : Int) (w : World) (h0 : 0 < m) (hmm : m ≤ 1000) (hs : Is w gs 62 #[.slice (some ⟨g, 0, none⟩) m cap]) (ho : w.ownsRow base 136 3 (.slice (some ⟨g, 0, none⟩) m cap) m (shc pl cr m)) :
    Calls Try.prog 35 #[.pointer (some ⟨gs, 0, none⟩), .int .i64 x] w fun e w' => e = .returned (.int .i64 (owedF pl cr x m 0)) ∧ Below w.heap.size w w' := by
  obtain ⟨lg, hcells⟩ := own_shg ho h0
  have s0 := hs.cell 0
  simp at s0
  have HCE := hide hcells; have LG := Lib.hid lg
  clear ho hs hcells lg
  go_enter Try.func35, Try.ntmps35
  go_wp2_with fail
  clear s0
  go_loopw [14] (fun v wr => OwR w m pl cr x v wr) (fun v _ => m - (intOf v).toNat)
  case atStart => exact ⟨0, Nat.zero_le _, rfl, rfl, Below.refl _ _⟩
  case round =>
    obtain ⟨k, hk, rfl, hf, hbel⟩ := hrel
    have HB := Lib.hid hbel; have HF := Lib.hid hf
    clear hbel hf
    by_cases hlt : k < m
    · obtain ⟨q0, q1, q2⟩ := (unhide HCE) k hlt
      have d0 := (HB.out.cell (p := ⟨g, k * 3, none⟩) LG.out).trans q0
      have d1 := (HB.out.cell (p := ⟨g, k * 3 + 1, none⟩) LG.out).trans q1
      have d2 := (HB.out.cell (p := ⟨g, k * 3 + 2, none⟩) LG.out).trans q2
      have HD := Lib.hid (show owedF pl cr x (m - k) k = if (nth pl k).backend = x then cr k else owedF pl cr x (m - (k + 1)) (k + 1) from by rw [show m - k = (m - (k + 1)) + 1 from by omega]; rfl)
      have k0 : (0 : Int) ≤ (k : Int) := Int.natCast_nonneg _
      have klz : (k : Int) < (m : Int) := by omega
      have k1000 : k ≤ 1000 := by omega
      have hbs := HB.out.size
      have HLT := Lib.hid hlt
      clear q0 q1 q2 hlt hk
      generalize (nth pl k).backend = xb at *
      generalize (nth pl k).weight = xw at *
      generalize cr k = xc at *
      by_cases he : xb = x
      · have HE := Lib.hid he
        have heb : (xb == x) = true := by simp [he]
        clear he
        go_wp2_with fail
        go_ret
        exact ⟨by rw [HF.out, HD.out, if_pos HE.out]; rfl, HB.out.alloc hbs _⟩
      · have heb : (xb == x) = false := by simp [he]
        have HE := Lib.hid he
        clear he
        go_wp2_with fail
        go_roundw
        case rel => exact ⟨k + 1, HLT.out, by go_num, by rw [HF.out, HD.out, if_neg HE.out], HB.out.alloc hbs _⟩
        case measure => have := HLT.out; simp [intOf]; omega
    · obtain rfl : k = m := by omega
      have hge : ¬ (k : Int) < (k : Int) := by omega
      clear hk hlt
      go_wp2_with fail
      go_ret
      exact ⟨by rw [HF.out, Nat.sub_self]; rfl, HB.out⟩
set_option maxHeartbeats 2000000 in
/-- A balancer that is not there tells nobody. -/
theorem pick_nil19 (A : Option Addr) (c : Nat) (l : List Cand) (w : World) (h : Cands w w.heap.size A l) (hm : l.length ≤ 1000) :
    Calls Try.prog 33 #[.pointer none, .slice A l.length c] w fun e w' => e = .returned (.tuple #[.agg #[.int .i64 0, .int .i64 0, .int .i64 0, .int .u32 0], .bool false]) ∧ Below w.heap.size w w' := by
  have HB0 := Lib.hid ((Below.refl w.heap.size w).alloc (Nat.le_refl _) (.cells #[.int .i64 0, .int .i64 0, .int .i64 0, .int .u32 0] 29))
  have WT := Lib.hid (weighty_any A c l (w.alloc (.cells #[.int .i64 0, .int .i64 0, .int .i64 0, .int .u32 0] 29)) (cands_below h HB0.out) hm)
  have T0 := Lib.hid (Is.new w 29 #[.int .i64 0, .int .i64 0, .int .i64 0, .int .u32 0])
  clear h
  go_enter Try.func33, Try.ntmps33
  go_wp2_with fail
  refine WT.out.mono ?_
  rintro e w1 ⟨v, rfl, hown, hb⟩
  obtain ⟨A6, c6, rfl⟩ := own_shape hown
  have HB1 := Lib.hid (HB0.out.trans (hb.mono HB0.out.size))
  have T1 := Lib.hid (T0.out.below hb T0.out.lt)
  clear WT hb hown HB0 T0
  have t0 := T1.out.cell 0; have t1 := T1.out.cell 1; have t2 := T1.out.cell 2; have t3 := T1.out.cell 3
  have f0 := T1.out.free 0; have f1 := T1.out.free 1; have f2 := T1.out.free 2; have f3 := T1.out.free 3
  simp at t0 t1 t2 t3
  go_wp2_with fail
  refine bodyPost_ret (v := .tuple #[.agg #[.int .i64 0, .int .i64 0, .int .i64 0, .int .u32 0], .bool false]) (by simp [results, Try.results33, go_sem, t0, t1, t2, t3]) rfl ⟨rfl, ?_⟩
  repeat' first | with_reducible exact HB1.out | with_reducible apply below_st1
  all_goals exact Nat.le_refl _
end Go.Proofs.Ytkebgkjopfdafaa
