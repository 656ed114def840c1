/-
  Pick of package smooth. Helper of the claims SmoothShares and SmoothPicks. No condition.
-/
import Derived.Test.YtkebgkjopfdafaaSm2
namespace Go.Proofs.Ytkebgkjopfdafaa
open Go.ChangeShapes Go.WideShapes Go.ChangeAt Go.RowKit
set_option linter.unusedSimpArgs false
set_option linter.unusedVariables false
set_option maxRecDepth 100000
theorem cands_below {w w' : World} {A : Option Addr} {l : List Cand} (h : Cands w w.heap.size A l) (hb : Below w.heap.size w w') : Cands w' w'.heap.size A l := fun h0 => by
  obtain ⟨b, off, e, hlt, hc⟩ := h h0
  exact ⟨b, off, e, Nat.lt_of_lt_of_le hlt hb.size, fun i j hi hj => (hb.cell (p := ⟨b, off + i * 4 + j, none⟩) hlt).trans (hc i j hi hj)⟩
theorem below_st1 {B g i : Nat} {a w : World} (h : Below B a w) (hg : B ≤ g) (u : Value) : Below B a (w.setCell ⟨g, i, none⟩ u) := Below.setCell (p := ⟨g, i, none⟩) h hg u
theorem rm_st {n g i j : Nat} {a w : World} (h : RmR n g a w) (hi : n ≤ i ∨ i = g) (u : Value) : RmR n g a (w.setCell ⟨i, j, none⟩ u) := ⟨h.os, h.tape, h.output, by simpa [World.setCell] using h.size, fun q hq hne => (Below.heap_setCell w ⟨i, j, none⟩ u q (by show q ≠ i; omega)).trans (h.block q hq hne)⟩
theorem shc_len (kl : List Cand) (c : Nat → Int) (n : Nat) : (shc kl c n).length = n * 3 := by
  induction n with
  | zero => rfl
  | succ n ih => rw [← shc_snoc, List.length_append, ih]; simp; omega
theorem shc_congr {kl : List Cand} {c d : Nat → Int} : ∀ n, (∀ i, i < n → c i = d i) → shc kl c n = shc kl d n
  | 0, _ => rfl
  | n + 1, h => by rw [← shc_snoc, ← shc_snoc, shc_congr n (fun i hi => h i (by omega)), h n (by omega)]
theorem shc_set (kl : List Cand) (c : Nat → Int) (x : Int) (k : Nat) : ∀ n, k < n → (shc kl c n).set (k * 3 + 2) (.int .i64 x) = shc kl (fun i => if i = k then x else c i) n
  | 0, h => by omega
  | n + 1, h => by
    rw [← shc_snoc, ← shc_snoc]
    by_cases hk : k < n
    · rw [List.set_append_left _ _ (by rw [shc_len]; omega), shc_set kl c x k n hk, if_neg (by omega)]
    · obtain rfl : k = n := by omega
      rw [List.set_append_right _ _ (by rw [shc_len]; omega), shc_len, show k * 3 + 2 - k * 3 = 2 from by omega, if_pos rfl]
      rw [shc_congr (kl := kl) (c := c) (d := fun i => if i = k then x else c i) k (fun i hi => by rw [if_neg (by omega)])]
      rfl
def bumpk (c w : Nat → Int) (k i : Nat) : Int := if i < k then Sm.bump c w i else c i
theorem bumpk_set {kl : List Cand} {c w : Nat → Int} {k n : Nat} (h : k < n) : (shc kl (bumpk c w k) n).set (k * 3 + 2) (.int .i64 (Sm.bump c w k)) = shc kl (bumpk c w (k + 1)) n := by
  rw [shc_set kl _ _ k n h]
  refine shc_congr n fun i _ => ?_
  unfold bumpk
  by_cases h1 : i = k
  · subst h1; rw [if_pos rfl, if_pos (by omega)]
  · rw [if_neg h1]
    by_cases h2 : i < k
    · rw [if_pos h2, if_pos (by omega)]
    · rw [if_neg h2, if_neg (by omega)]
theorem step_set {kl : List Cand} {c w : Nat → Int} {n : Nat} (W : Int) (h : 0 < n) : (shc kl (bumpk c w n) n).set (Sm.am (Sm.bump c w) n * 3 + 2) (.int .i64 (Sm.bump c w (Sm.am (Sm.bump c w) n) - W)) = shc kl (Sm.step w n W c) n := by
  rw [shc_set kl _ _ _ n (Sm.am_lt n h)]
  refine shc_congr n fun i hi => ?_
  unfold bumpk Sm.step
  by_cases h1 : i = Sm.am (Sm.bump c w) n
  · rw [if_pos h1, if_pos h1, ← h1]
  · rw [if_neg h1, if_neg h1, if_pos hi]
theorem own_shg {w : World} {base m c g : Nat} {kl : List Cand} {cr : Nat → Int} (h : w.ownsRow base 136 3 (.slice (some ⟨g, 0, none⟩) m c) m (shc kl cr m)) (h0 : 0 < m) : g < w.heap.size ∧
    ∀ k, k < m → w.cell? ⟨g, k * 3, none⟩ = some (.int .i64 (nth kl k).backend) ∧ w.cell? ⟨g, k * 3 + 1, none⟩ = some (.int .i64 (nth kl k).weight) ∧ w.cell? ⟨g, k * 3 + 2, none⟩ = some (.int .i64 (cr k)) := by
  obtain ⟨g', e, _, _, h1, h2⟩ := own_sh h h0
  injection e with e; injection e with e _ _; subst e
  exact ⟨h1, h2⟩
theorem am_lt1 (f : Nat → Int) (k : Nat) : Sm.am f k < k + 1 := by
  cases k with
  | zero => simp [Sm.am]
  | succ k => have := Sm.am_lt (f := f) (k + 1) (by omega); omega
theorem S_range {w : Nat → Int} : ∀ m, (∀ i, i < m → 0 < w i ∧ w i ≤ 100) → 0 ≤ Sm.S w m ∧ Sm.S w m ≤ m * 100
  | 0, _ => by simp [Sm.S]
  | m + 1, h => by
    have := S_range m (fun i hi => h i (by omega))
    have := h m (by omega)
    simp only [Sm.S]; omega
theorem w64 (x : Int) (h : -9000000000000000000 < x ∧ x < 9000000000000000000) : IntKind.i64.wrap x = x := by
  rw [IntKind.wrap_i64]; omega
set_option maxHeartbeats 4000000 in
theorem pick_zero (gs c : Nat) (A : Option Addr) (l : List Cand) (w : World) (h : Cands w w.heap.size A l) (hm : l.length ≤ 1000) (hz : (kp l l.length).length = 0) :
    Calls Try.prog 33 #[.pointer (some ⟨gs, 0, none⟩), .slice A l.length c] w fun e w' => e = .returned (.tuple #[.agg #[.int .i64 0, .int .i64 0, .int .i64 0, .int .u32 0], .bool false]) ∧ Below w.heap.size w w' := by
  have HB0 := Lib.hid ((Below.refl w.heap.size w).alloc (Nat.le_refl _) (.cells #[.int .i64 0, .int .i64 0, .int .i64 0, .int .u32 0] 29))
  have WT := Lib.hid (weighty_any A c l (w.alloc (.cells #[.int .i64 0, .int .i64 0, .int .i64 0, .int .u32 0] 29)) (cands_below h HB0.out) hm)
  rw [hz] at WT
  have T0 := Lib.hid (Is.new w 29 #[.int .i64 0, .int .i64 0, .int .i64 0, .int .u32 0])
  clear h
  go_enter Try.func33, Try.ntmps33
  go_wp2_with fail
  refine WT.out.mono ?_
  rintro e w1 ⟨v, rfl, hown, hb⟩
  obtain ⟨A6, c6, rfl⟩ := own_shape hown
  have HB1 := Lib.hid (HB0.out.trans (hb.mono HB0.out.size))
  have T1 := Lib.hid (T0.out.below hb T0.out.lt)
  clear WT hb hown HB0 T0
  have t0 := T1.out.cell 0; have t1 := T1.out.cell 1; have t2 := T1.out.cell 2; have t3 := T1.out.cell 3
  have f0 := T1.out.free 0; have f1 := T1.out.free 1; have f2 := T1.out.free 2; have f3 := T1.out.free 3
  simp at t0 t1 t2 t3
  go_wp2_with fail
  refine bodyPost_ret (v := .tuple #[.agg #[.int .i64 0, .int .i64 0, .int .i64 0, .int .u32 0], .bool false]) (by simp [results, Try.results33, go_sem, t0, t1, t2, t3]) rfl ⟨rfl, ?_⟩
  repeat' first | with_reducible exact HB1.out | with_reducible apply below_st1
  all_goals exact Nat.le_refl _
theorem own_own {w : World} {b1 b2 e1 e2 s1 s2 n1 n2 g c2 : Nat} {v : Value} {xs ys : List Value} (h : w.ownsRow b1 e1 s1 v n1 xs) (h2 : w.ownsRow b2 e2 s2 (.slice (some ⟨g, 0, none⟩) n2 c2) n2 ys) (hne : e1 ≠ e2) : v.ownBlock ≠ some g := by
  rcases h2.2 with ⟨h', _⟩ | ⟨g', cap', cur, h', hb, hg, _⟩
  · cases h'
  · injection h' with h1 _ _; injection h1 with h1; injection h1 with h1; subst h1
    exact own_differ h (cs := cur) hg hne
def OwnS (v : Value) (B n : Nat) (xs : List Value) : Lin.Spec Lin.Keeps := ⟨fun _ w => w.ownsRow B 136 3 v n xs, fun h hb => own_below h hb⟩
def PkL (w : World) (G gs g base cap m : Nat) (kl : List Cand) (cr wt : Nat → Int) (t4 B6 : Nat) (v6 v7 v8 v32 : Value) (wr : World) : Prop :=
  ∃ k : Nat, k ≤ m ∧ v32 = .int .i64 (k : Int) ∧ v7 = .int .i64 ((Sm.am (Sm.bump cr wt) k : Nat) : Int) ∧ v8 = .int .i64 (Sm.S wt k) ∧ Is wr gs 62 #[.slice (some ⟨g, 0, none⟩) m cap] ∧ wr.ownsRow base 136 3 (.slice (some ⟨g, 0, none⟩) m cap) m (shc kl (bumpk cr wt k) m) ∧ wr.ownsRow B6 29 4 v6 m (cellsOf kl) ∧ Is wr t4 29 #[.int .i64 0, .int .i64 0, .int .i64 0, .int .u32 0] ∧ RmR w.heap.size G w wr
set_option maxHeartbeats 8000000 in
theorem pick_known (gs c g base cap m : Nat) (A : Option Addr) (l kl : List Cand) (cr wt : Nat → Int) (w : World) (h : Cands w w.heap.size A l) (hl : l.length ≤ 30) (hkl : kp l l.length = kl) (hm : kl.length = m) (h0 : 0 < m) (h30 : m ≤ 30)
    (hw : ∀ i, i < m → (nth kl i).weight = wt i ∧ 0 < wt i ∧ wt i ≤ 100) (hcr : ∀ i, i < m → -1000000 < cr i ∧ cr i < 1000000) (hs : Is w gs 62 #[.slice (some ⟨g, 0, none⟩) m cap]) (ho : w.ownsRow base 136 3 (.slice (some ⟨g, 0, none⟩) m cap) m (shc kl cr m)) :
    Calls Try.prog 33 #[.pointer (some ⟨gs, 0, none⟩), .slice A l.length c] w fun e w' => e = .returned (.tuple #[(nth kl (Sm.am (Sm.bump cr wt) m)).val, .bool true]) ∧ Is w' gs 62 #[.slice (some ⟨g, 0, none⟩) m cap] ∧ w'.ownsRow base 136 3 (.slice (some ⟨g, 0, none⟩) m cap) m (shc kl (Sm.step wt m (Sm.S wt m) cr) m) ∧ RmR w.heap.size g w w' := by
  have HB0 := Lib.hid ((Below.refl w.heap.size w).alloc (Nat.le_refl _) (.cells #[.int .i64 0, .int .i64 0, .int .i64 0, .int .u32 0] 29))
  have WT := Lib.hid (weighty_any A c l (w.alloc (.cells #[.int .i64 0, .int .i64 0, .int .i64 0, .int .u32 0] 29)) (cands_below h HB0.out) (by omega))
  rw [hkl, hm] at WT
  have T0 := Lib.hid (Is.new w 29 #[.int .i64 0, .int .i64 0, .int .i64 0, .int .u32 0])
  have S0 := Lib.hid (hs.alloc (.cells #[.int .i64 0, .int .i64 0, .int .i64 0, .int .u32 0] 29))
  have O0 := Lib.hid (World.ownsRow.alloc ho (.cells #[.int .i64 0, .int .i64 0, .int .i64 0, .int .u32 0] 29))
  obtain ⟨G, hG⟩ : ∃ G, g = G := ⟨_, rfl⟩
  have HGG := Lib.hid hG
  have NG := Lib.hid (show w.heap.size ≤ g ∨ g = G from .inr hG)
  clear hG
  have HW := hide hw; have HCR := hide hcr; have H0 := Lib.hid h0; have H30 := Lib.hid h30; have HM := Lib.hid hm
  have mz : ((m : Int) == 0) = false := by rw [beq_eq_false_iff_ne]; omega
  obtain ⟨B6, hB6⟩ : ∃ B, B = (w.alloc (.cells #[.int .i64 0, .int .i64 0, .int .i64 0, .int .u32 0] 29)).heap.size := ⟨_, rfl⟩
  have HB6 := Lib.hid hB6
  rw [← hB6] at WT
  clear h hs ho hw hcr hkl hm h0 h30 hl hB6
  go_enter Try.func33, Try.ntmps33
  go_wp2_with fail
  generalize hV : w.alloc (.cells #[.int .i64 0, .int .i64 0, .int .i64 0, .int .u32 0] 29) = V at *
  refine WT.out.mono ?_
  rintro e w1 ⟨v6, rfl, hown, hb⟩
  obtain ⟨A6, c6, rfl⟩ := own_shape hown
  rw [HB6.out] at hb
  have HB1 := Lib.hid (HB0.out.trans (hb.mono HB0.out.size))
  have T1 := Lib.hid (T0.out.below hb T0.out.lt); have S1 := Lib.hid (S0.out.below hb S0.out.lt); have O1 := Lib.hid (own_below O0.out hb); have K1 := Lib.hid hown
  clear WT hb hown HB0 T0 S0 O0
  go_wp2_with fail
  refine (knows_yes gs c6 cap A6 _ kl m base cr w1 HM.out H0.out (by have := H30.out; omega) (by have := cands_of_own (l := kl) (by rw [HM.out]; exact K1.out); exact this) S1.out O1.out).mono ?_
  rintro e w2 ⟨rfl, hb⟩
  have HB2 := Lib.hid (HB1.out.trans (hb.mono HB1.out.size))
  have T5 := Lib.hid (T1.out.below hb T1.out.lt); have S5 := Lib.hid (S1.out.below hb S1.out.lt); have O5' := Lib.hid (own_below O1.out hb); have K5 := Lib.hid (own_below K1.out hb)
  have HR5 := Lib.hid (rm_keeps (n := w.heap.size) (g := G) HB2.out (Nat.le_refl _))
  have O5 : Hid (w2.ownsRow base 136 3 (.slice (some ⟨g, 0, none⟩) m cap) m (shc kl (bumpk cr wt 0) m)) := hide (by rw [shc_congr (kl := kl) (c := bumpk cr wt 0) (d := cr) m (fun i _ => if_neg (by omega))]; exact O5'.out)
  clear hb T1 S1 O1 K1 HB1 HB2 O5'
  have s0 := S5.out.cell 0
  simp at s0
  go_wp2_with fail
  clear s0
  go_loopw [7, 8, 32] (fun v7 v8 v32 wr => PkL w G gs g base cap m kl cr wt w.heap.size B6 (.slice A6 m c6) v7 v8 v32 wr) (fun _ _ v _ => m - (intOf v).toNat)
  case atStart => exact ⟨0, Nat.zero_le _, rfl, rfl, rfl, S5.out, O5.out, K5.out, T5.out, HR5.out⟩
  case round =>
    clear S5 O5 K5 T5 HR5
    obtain ⟨k, hk, rfl, rfl, rfl, hS, hO, hK, hT, hR⟩ := hrel
    have S0 := Lib.hid hS; have O := Lib.hid hO; have K0 := Lib.hid hK; have T0 := Lib.hid hT; have HR := Lib.hid hR
    clear hS hO hK hT hR
    by_cases hlt : k < m
    · have SET := Lib.hid (bumpk_set (kl := kl) (c := cr) (w := wt) hlt)
      have BLT := Lib.hid (show Sm.am (Sm.bump cr wt) k < m from Nat.lt_of_lt_of_le (am_lt1 _ k) hlt)
      have bb1 : bumpk cr wt (k + 1) (Sm.am (Sm.bump cr wt) k) = Sm.bump cr wt (Sm.am (Sm.bump cr wt) k) := if_pos (am_lt1 _ k)
      have bk1 : bumpk cr wt (k + 1) k = Sm.bump cr wt k := if_pos (by omega)
      have bk0 : bumpk cr wt k k = cr k := if_neg (by omega)
      have AMY := hide (fun (h : Sm.bump cr wt (Sm.am (Sm.bump cr wt) k) < Sm.bump cr wt k) => show Sm.am (Sm.bump cr wt) (k + 1) = k from if_pos h)
      have AMN := hide (fun (h : ¬ Sm.bump cr wt (Sm.am (Sm.bump cr wt) k) < Sm.bump cr wt k) => show Sm.am (Sm.bump cr wt) (k + 1) = Sm.am (Sm.bump cr wt) k from if_neg h)
      have SS : Sm.S wt (k + 1) = Sm.S wt k + wt k := rfl
      obtain ⟨lg, hc0⟩ := own_shg O.out H0.out
      obtain ⟨_, e1, e2⟩ := hc0 k hlt
      rw [bk0] at e2
      have hwk : (nth kl k).weight = wt k := ((unhide HW) k hlt).1
      rw [hwk] at e1
      have e1b : IntKind.i64.wrap (cr k + wt k) = Sm.bump cr wt k := by
        have h1 := (unhide HW) k hlt; have h2 := (unhide HCR) k hlt
        rw [w64 _ (by omega)]; rfl
      have e2b : IntKind.i64.wrap (Sm.S wt k + wt k) = Sm.S wt (k + 1) := by
        have h1 := S_range (w := wt) k (fun i hi => ((unhide HW) i (by omega)).2)
        have h2 := (unhide HW) k hlt; have h3 := H30.out
        rw [w64 _ (by omega)]; rfl
      have NGS := Lib.hid (show gs ≠ g from fun e => own_differ O.out S0.out (by decide) (by rw [e]; rfl))
      have NT4 := Lib.hid (show w.heap.size ≠ g from fun e => own_differ O.out T0.out (by decide) (by rw [e]; rfl))
      have NKG := Lib.hid (show (Value.slice A6 m c6).ownBlock ≠ some g from own_own K0.out O.out (by decide))
      have s0 := S0.out.cell 0
      simp at s0
      have LG := Lib.hid lg; have LGS := Lib.hid S0.out.lt
      have HWK := Lib.hid hwk; have BK := Lib.hid bk1; have BB := Lib.hid bb1; have E1 := Lib.hid e1b; have SS := Lib.hid e2b
      have hsum := e2b
      have HSS := Lib.hid (show Sm.S wt (k + 1) = Sm.S wt k + wt k from rfl)
      have k30 : k ≤ 30 := by have := H30.out; omega
      have k0 : (0 : Int) ≤ (k : Int) := Int.natCast_nonneg _
      have klz : (k : Int) < (m : Int) := by omega
      have b0 : (0 : Int) ≤ ((Sm.am (Sm.bump cr wt) k : Nat) : Int) := Int.natCast_nonneg _
      have bl : ((Sm.am (Sm.bump cr wt) k : Nat) : Int) < (m : Int) := by have := BLT.out; omega
      have HLT := Lib.hid hlt
      clear lg hc0 bb1 bk1 bk0 hwk e1b e2b hlt hk
      have PKB := Lib.hid (rfl : Sm.am (Sm.bump cr wt) (k + 1) = Sm.am (Sm.bump cr wt) (k + 1))
      generalize hbe : Sm.am (Sm.bump cr wt) k = b at *
      generalize hs1 : Sm.S wt (k + 1) = s1 at *
      generalize hsk : Sm.S wt k = sk at *
      generalize hx1 : Sm.bump cr wt k = x1 at *
      generalize hy : Sm.bump cr wt b = y at *
      generalize hck : cr k = ck at *
      generalize hwkk : wt k = wk at *
      have SS := Lib.hid hs1
      clear hbe hs1 hsk hx1 hy hck hwkk
      go_wp2_with fail
      refine Lin5.wp_region_lin4 (n := 99) (fun slotq => match slotq with | 35 => Lin.Spec.val (.pointer (some ⟨gs, 0, none⟩)) | 36 => Lin.Spec.val (.pointer (some ⟨gs, 0, none⟩)) | 37 => Lin.Spec.val (.pointer (some ⟨gs, 0, none⟩)) | 38 => Lin.Spec.val (.slice (some ⟨g, 0, none⟩) m cap) | 39 => Lin.Spec.val (.int .i64 (k : Int)) | 40 => Lin.Spec.val (.pointer (some ⟨g, k * 3, none⟩)) | 41 => Lin.Spec.val (.pointer (some ⟨g, k * 3 + 2, none⟩)) | 42 => Lin.Spec.val (.int .i64 ck) | 43 => Lin.Spec.val (.pointer (some ⟨gs, 0, none⟩)) | 44 => Lin.Spec.val (.pointer (some ⟨gs, 0, none⟩)) | 45 => Lin.Spec.val (.pointer (some ⟨gs, 0, none⟩)) | 46 => Lin.Spec.val (.slice (some ⟨g, 0, none⟩) m cap) | 47 => Lin.Spec.val (.int .i64 (k : Int)) | 48 => Lin.Spec.val (.pointer (some ⟨g, k * 3, none⟩)) | 49 => Lin.Spec.val (.pointer (some ⟨g, k * 3 + 1, none⟩)) | 50 => Lin.Spec.val (.int .i64 wk) | 51 => Lin.Spec.val (.int .i64 x1) | 52 => Lin.Spec.val (.pointer (some ⟨g, k * 3, none⟩)) | 53 => Lin.Spec.val (.pointer (some ⟨g, k * 3 + 2, none⟩)) | 1019 => (OwnS (.slice (some ⟨g, 0, none⟩) m cap) base m (shc kl (bumpk cr wt (k + 1)) m)) | _ => Lin.Spec.any) (Lin.But g) [(19, [])] (by kernel_rfl) rfl (by kernel_rfl) (by kernel_rfl) (Lin.but _) (fun {a b} _ k => only_below k _) ⟨.inr (Lin5.firm_val _ _), .inr (Lin5.firm_val _ _), .inr (Lin5.firm_val _ _), .inr (Lin5.firm_val _ _), .inr (Lin5.firm_val _ _), .inr (Lin5.firm_val _ _), .inr (Lin5.firm_val _ _), .inr (Lin5.firm_val _ _), .inr (Lin5.firm_val _ _), .inr (Lin5.firm_val _ _), .inr (Lin5.firm_val _ _), .inr (Lin5.firm_val _ _), .inr (Lin5.firm_val _ _), .inr (Lin5.firm_val _ _), .inr (Lin5.firm_val _ _), .inr (Lin5.firm_val _ _), .inr (Lin5.firm_val _ _), .inr (Lin5.firm_val _ _), .inr (Lin5.firm_val _ _), .inl (by kernel_rfl), trivial⟩ ⟨?_, ?_, ?_, ?_, ?_, ?_, ?_, ?_, ?_, ?_, ?_, ?_, ?_, ?_, ?_, ?_, ?_, ?_, ?_, ?_, trivial⟩ ?_
      · refine Lin5.stepR (by kernel_rfl) ?_
        intro ρ wq hb hk ho hc hd hs
        have hC : ∀ v, ρ (.const v) = v := fun v => hc _ (by intro t e; cases e)
        have hF : ∀ f, ρ (.func f) = .func (.func f) #[] #[] := fun f => hc _ (by intro t e; cases e)
        have h0 : ρ (.tmp 0) = .pointer (some ⟨gs, 0, none⟩) := ho 0 (by kernel_rfl)
        exact Lin.Runs.value Lin.keeps (Lin.exec_move rfl) h0
      · refine Lin5.stepR (by kernel_rfl) ?_
        intro ρ wq hb hk ho hc hd hs
        have hC : ∀ v, ρ (.const v) = v := fun v => hc _ (by intro t e; cases e)
        have hF : ∀ f, ρ (.func f) = .func (.func f) #[] #[] := fun f => hc _ (by intro t e; cases e)
        have h35 : ρ (.tmp 35) = .pointer (some ⟨gs, 0, none⟩) := hd 35 (by kernel_rfl)
        exact Lin.Runs.value Lin.keeps (v := .pointer (some ⟨gs, 0, none⟩)) (by simp [execOp, go_sem, h35]) rfl
      · refine Lin5.stepR (by kernel_rfl) ?_
        intro ρ wq hb hk ho hc hd hs
        have hC : ∀ v, ρ (.const v) = v := fun v => hc _ (by intro t e; cases e)
        have hF : ∀ f, ρ (.func f) = .func (.func f) #[] #[] := fun f => hc _ (by intro t e; cases e)
        have h36 : ρ (.tmp 36) = .pointer (some ⟨gs, 0, none⟩) := hd 36 (by kernel_rfl)
        exact Lin.Runs.value Lin.keeps (v := .pointer (some ⟨gs, 0, none⟩)) (by simp [execOp, go_sem, h36]) rfl
      · refine Lin5.stepR (by kernel_rfl) ?_
        intro ρ wq hb hk ho hc hd hs
        have hC : ∀ v, ρ (.const v) = v := fun v => hc _ (by intro t e; cases e)
        have hF : ∀ f, ρ (.func f) = .func (.func f) #[] #[] := fun f => hc _ (by intro t e; cases e)
        have h37 : ρ (.tmp 37) = .pointer (some ⟨gs, 0, none⟩) := hd 37 (by kernel_rfl)
        have dd := ((hk (by kernel_rfl)).cell (p := ⟨gs, 0, none⟩) LGS.out).trans s0
        exact Lin.Runs.value Lin.keeps (v := .slice (some ⟨g, 0, none⟩) m cap) (by simp [execOp, go_sem, h37, dd]) rfl
      · refine Lin5.stepR (by kernel_rfl) ?_
        intro ρ wq hb hk ho hc hd hs
        have hC : ∀ v, ρ (.const v) = v := fun v => hc _ (by intro t e; cases e)
        have hF : ∀ f, ρ (.func f) = .func (.func f) #[] #[] := fun f => hc _ (by intro t e; cases e)
        have h9 : ρ (.tmp 9) = .int .i64 (k : Int) := ho 9 (by kernel_rfl)
        exact Lin.Runs.value Lin.keeps (Lin.exec_move rfl) h9
      · refine Lin5.stepR (by kernel_rfl) ?_
        intro ρ wq hb hk ho hc hd hs
        have hC : ∀ v, ρ (.const v) = v := fun v => hc _ (by intro t e; cases e)
        have hF : ∀ f, ρ (.func f) = .func (.func f) #[] #[] := fun f => hc _ (by intro t e; cases e)
        have h38 : ρ (.tmp 38) = .slice (some ⟨g, 0, none⟩) m cap := hd 38 (by kernel_rfl)
        have h39 : ρ (.tmp 39) = .int .i64 (k : Int) := hd 39 (by kernel_rfl)
        exact Lin.Runs.value Lin.keeps (v := .pointer (some ⟨g, k * 3, none⟩)) (by simp [execOp, go_sem, h38, h39, k0, klz]) rfl
      · refine Lin5.stepR (by kernel_rfl) ?_
        intro ρ wq hb hk ho hc hd hs
        have hC : ∀ v, ρ (.const v) = v := fun v => hc _ (by intro t e; cases e)
        have hF : ∀ f, ρ (.func f) = .func (.func f) #[] #[] := fun f => hc _ (by intro t e; cases e)
        have h40 : ρ (.tmp 40) = .pointer (some ⟨g, k * 3, none⟩) := hd 40 (by kernel_rfl)
        exact Lin.Runs.value Lin.keeps (v := .pointer (some ⟨g, k * 3 + 2, none⟩)) (by simp [execOp, go_sem, h40]) rfl
      · refine Lin5.stepR (by kernel_rfl) ?_
        intro ρ wq hb hk ho hc hd hs
        have hC : ∀ v, ρ (.const v) = v := fun v => hc _ (by intro t e; cases e)
        have hF : ∀ f, ρ (.func f) = .func (.func f) #[] #[] := fun f => hc _ (by intro t e; cases e)
        have h41 : ρ (.tmp 41) = .pointer (some ⟨g, k * 3 + 2, none⟩) := hd 41 (by kernel_rfl)
        have dd := ((hk (by kernel_rfl)).cell (p := ⟨g, k * 3 + 2, none⟩) LG.out).trans e2
        exact Lin.Runs.value Lin.keeps (v := .int .i64 ck) (by simp [execOp, go_sem, h41, dd]) rfl
      · refine Lin5.stepR (by kernel_rfl) ?_
        intro ρ wq hb hk ho hc hd hs
        have hC : ∀ v, ρ (.const v) = v := fun v => hc _ (by intro t e; cases e)
        have hF : ∀ f, ρ (.func f) = .func (.func f) #[] #[] := fun f => hc _ (by intro t e; cases e)
        have h0 : ρ (.tmp 0) = .pointer (some ⟨gs, 0, none⟩) := ho 0 (by kernel_rfl)
        exact Lin.Runs.value Lin.keeps (Lin.exec_move rfl) h0
      · refine Lin5.stepR (by kernel_rfl) ?_
        intro ρ wq hb hk ho hc hd hs
        have hC : ∀ v, ρ (.const v) = v := fun v => hc _ (by intro t e; cases e)
        have hF : ∀ f, ρ (.func f) = .func (.func f) #[] #[] := fun f => hc _ (by intro t e; cases e)
        have h43 : ρ (.tmp 43) = .pointer (some ⟨gs, 0, none⟩) := hd 43 (by kernel_rfl)
        exact Lin.Runs.value Lin.keeps (v := .pointer (some ⟨gs, 0, none⟩)) (by simp [execOp, go_sem, h43]) rfl
      · refine Lin5.stepR (by kernel_rfl) ?_
        intro ρ wq hb hk ho hc hd hs
        have hC : ∀ v, ρ (.const v) = v := fun v => hc _ (by intro t e; cases e)
        have hF : ∀ f, ρ (.func f) = .func (.func f) #[] #[] := fun f => hc _ (by intro t e; cases e)
        have h44 : ρ (.tmp 44) = .pointer (some ⟨gs, 0, none⟩) := hd 44 (by kernel_rfl)
        exact Lin.Runs.value Lin.keeps (v := .pointer (some ⟨gs, 0, none⟩)) (by simp [execOp, go_sem, h44]) rfl
      · refine Lin5.stepR (by kernel_rfl) ?_
        intro ρ wq hb hk ho hc hd hs
        have hC : ∀ v, ρ (.const v) = v := fun v => hc _ (by intro t e; cases e)
        have hF : ∀ f, ρ (.func f) = .func (.func f) #[] #[] := fun f => hc _ (by intro t e; cases e)
        have h45 : ρ (.tmp 45) = .pointer (some ⟨gs, 0, none⟩) := hd 45 (by kernel_rfl)
        have dd := ((hk (by kernel_rfl)).cell (p := ⟨gs, 0, none⟩) LGS.out).trans s0
        exact Lin.Runs.value Lin.keeps (v := .slice (some ⟨g, 0, none⟩) m cap) (by simp [execOp, go_sem, h45, dd]) rfl
      · refine Lin5.stepR (by kernel_rfl) ?_
        intro ρ wq hb hk ho hc hd hs
        have hC : ∀ v, ρ (.const v) = v := fun v => hc _ (by intro t e; cases e)
        have hF : ∀ f, ρ (.func f) = .func (.func f) #[] #[] := fun f => hc _ (by intro t e; cases e)
        have h9 : ρ (.tmp 9) = .int .i64 (k : Int) := ho 9 (by kernel_rfl)
        exact Lin.Runs.value Lin.keeps (Lin.exec_move rfl) h9
      · refine Lin5.stepR (by kernel_rfl) ?_
        intro ρ wq hb hk ho hc hd hs
        have hC : ∀ v, ρ (.const v) = v := fun v => hc _ (by intro t e; cases e)
        have hF : ∀ f, ρ (.func f) = .func (.func f) #[] #[] := fun f => hc _ (by intro t e; cases e)
        have h46 : ρ (.tmp 46) = .slice (some ⟨g, 0, none⟩) m cap := hd 46 (by kernel_rfl)
        have h47 : ρ (.tmp 47) = .int .i64 (k : Int) := hd 47 (by kernel_rfl)
        exact Lin.Runs.value Lin.keeps (v := .pointer (some ⟨g, k * 3, none⟩)) (by simp [execOp, go_sem, h46, h47, k0, klz]) rfl
      · refine Lin5.stepR (by kernel_rfl) ?_
        intro ρ wq hb hk ho hc hd hs
        have hC : ∀ v, ρ (.const v) = v := fun v => hc _ (by intro t e; cases e)
        have hF : ∀ f, ρ (.func f) = .func (.func f) #[] #[] := fun f => hc _ (by intro t e; cases e)
        have h48 : ρ (.tmp 48) = .pointer (some ⟨g, k * 3, none⟩) := hd 48 (by kernel_rfl)
        exact Lin.Runs.value Lin.keeps (v := .pointer (some ⟨g, k * 3 + 1, none⟩)) (by simp [execOp, go_sem, h48]) rfl
      · refine Lin5.stepR (by kernel_rfl) ?_
        intro ρ wq hb hk ho hc hd hs
        have hC : ∀ v, ρ (.const v) = v := fun v => hc _ (by intro t e; cases e)
        have hF : ∀ f, ρ (.func f) = .func (.func f) #[] #[] := fun f => hc _ (by intro t e; cases e)
        have h49 : ρ (.tmp 49) = .pointer (some ⟨g, k * 3 + 1, none⟩) := hd 49 (by kernel_rfl)
        have dd := ((hk (by kernel_rfl)).cell (p := ⟨g, k * 3 + 1, none⟩) LG.out).trans e1
        exact Lin.Runs.value Lin.keeps (v := .int .i64 wk) (by simp [execOp, go_sem, h49, dd]) rfl
      · refine Lin5.stepR (by kernel_rfl) ?_
        intro ρ wq hb hk ho hc hd hs
        have hC : ∀ v, ρ (.const v) = v := fun v => hc _ (by intro t e; cases e)
        have hF : ∀ f, ρ (.func f) = .func (.func f) #[] #[] := fun f => hc _ (by intro t e; cases e)
        have h42 : ρ (.tmp 42) = .int .i64 ck := hd 42 (by kernel_rfl)
        have h50 : ρ (.tmp 50) = .int .i64 wk := hd 50 (by kernel_rfl)
        exact Lin.Runs.value Lin.keeps (v := .int .i64 x1) (by simp [execOp, go_sem, h42, h50, E1.out]) rfl
      · refine Lin5.stepR (by kernel_rfl) ?_
        intro ρ wq hb hk ho hc hd hs
        have hC : ∀ v, ρ (.const v) = v := fun v => hc _ (by intro t e; cases e)
        have hF : ∀ f, ρ (.func f) = .func (.func f) #[] #[] := fun f => hc _ (by intro t e; cases e)
        have h38 : ρ (.tmp 38) = .slice (some ⟨g, 0, none⟩) m cap := hd 38 (by kernel_rfl)
        have h39 : ρ (.tmp 39) = .int .i64 (k : Int) := hd 39 (by kernel_rfl)
        exact Lin.Runs.value Lin.keeps (v := .pointer (some ⟨g, k * 3, none⟩)) (by simp [execOp, go_sem, h38, h39, k0, klz]) rfl
      · refine Lin5.stepR (by kernel_rfl) ?_
        intro ρ wq hb hk ho hc hd hs
        have hC : ∀ v, ρ (.const v) = v := fun v => hc _ (by intro t e; cases e)
        have hF : ∀ f, ρ (.func f) = .func (.func f) #[] #[] := fun f => hc _ (by intro t e; cases e)
        have h52 : ρ (.tmp 52) = .pointer (some ⟨g, k * 3, none⟩) := hd 52 (by kernel_rfl)
        exact Lin.Runs.value Lin.keeps (v := .pointer (some ⟨g, k * 3 + 2, none⟩)) (by simp [execOp, go_sem, h52]) rfl
      · refine Lin5.stepW (by kernel_rfl) ?_
        intro ρ wq hb hk ho hc hd hs
        have hC : ∀ v, ρ (.const v) = v := fun v => hc _ (by intro t e; cases e)
        have hF : ∀ f, ρ (.func f) = .func (.func f) #[] #[] := fun f => hc _ (by intro t e; cases e)
        have h51 : ρ (.tmp 51) = .int .i64 x1 := hd 51 (by kernel_rfl)
        have h53 : ρ (.tmp 53) = .pointer (some ⟨g, k * 3 + 2, none⟩) := hd 53 (by kernel_rfl)
        have ho1 := own_below O.out (hk (by kernel_rfl))
        have f0 := World.ownsRow.frozenAt ho1 (k * 3 + 2)
        have c0 := ((hk (by kernel_rfl)).cell (p := ⟨g, k * 3 + 2, none⟩) LG.out).trans e2
        have st := World.ownsRow.stored ho1 (k * 3 + 2) (.int .i64 x1)
        rw [SET.out] at st
        exact Lin5.RunsB.store (w' := wq.setCell ⟨g, k * 3 + 2, none⟩ (.int .i64 x1)) (by simp [execOp, go_sem, h51, h53, c0, f0]) st.2 st.1
      · intro vals w6 hb2 hv hs
        have hp : w6.ownsRow base 136 3 (.slice (some ⟨g, 0, none⟩) m cap) m (shc kl (bumpk cr wt (k + 1)) m) := hs 19 _ rfl rfl (by kernel_rfl)
        have O6 := Lib.hid hp
        have S6 := Lib.hid (S0.out.only hb2 (fun e => NGS.out (by injection e)))
        have T6 := Lib.hid (T0.out.only hb2 (fun e => NT4.out (by injection e)))
        have K6 := Lib.hid (K0.out.kept hb2 (.inr NKG.out))
        have HR6 := Lib.hid ((rm_rel _ _).trans HR.out (rm_grown hb2 HR.out.size (fun q hq => by injection hq with hq; subst hq; exact NG.out)))
        clear hp hv hb2 hs
        obtain ⟨lg, hc6⟩ := own_shg O6.out H0.out
        obtain ⟨_, e1, e2⟩ := hc6 k HLT.out
        obtain ⟨_, _, eb⟩ := hc6 b BLT.out
        rw [BK.out] at e2
        rw [BB.out] at eb
        rw [HWK.out] at e1
        have s0 := S6.out.cell 0
        simp at s0
        have LG := Lib.hid lg; have LGS := Lib.hid S6.out.lt
        clear lg hc6
        simp only [Lin.putAll, Option.getD_some]
        go_simp
        generalize vals = vu
        go_wp2_with fail
        by_cases hc : y < x1
        · have NC := Lib.hid hc
          have hcb : decide (y < x1) = true := by simp [hc]
          clear hc
          refine Lin.wp_region_lin Lin.keeps (n := 99)  (fun slotq => match slotq with | 64 => Lin.Spec.val (.pointer (some ⟨gs, 0, none⟩)) | 65 => Lin.Spec.val (.pointer (some ⟨gs, 0, none⟩)) | 66 => Lin.Spec.val (.pointer (some ⟨gs, 0, none⟩)) | 67 => Lin.Spec.val (.slice (some ⟨g, 0, none⟩) m cap) | 68 => Lin.Spec.val (.int .i64 (k : Int)) | 69 => Lin.Spec.val (.pointer (some ⟨g, k * 3, none⟩)) | 70 => Lin.Spec.val (.pointer (some ⟨g, k * 3 + 2, none⟩)) | 71 => Lin.Spec.val (.int .i64 x1) | 72 => Lin.Spec.val (.pointer (some ⟨gs, 0, none⟩)) | 73 => Lin.Spec.val (.pointer (some ⟨gs, 0, none⟩)) | 74 => Lin.Spec.val (.pointer (some ⟨gs, 0, none⟩)) | 75 => Lin.Spec.val (.slice (some ⟨g, 0, none⟩) m cap) | 76 => Lin.Spec.val (.int .i64 (b : Int)) | 77 => Lin.Spec.val (.pointer (some ⟨g, b * 3, none⟩)) | 78 => Lin.Spec.val (.pointer (some ⟨g, b * 3 + 2, none⟩)) | 79 => Lin.Spec.val (.int .i64 y) | 80 => Lin.Spec.val (.bool true) | _ => Lin.Spec.any) (by kernel_rfl) rfl (by kernel_rfl) ⟨?_, ?_, ?_, ?_, ?_, ?_, ?_, ?_, ?_, ?_, ?_, ?_, ?_, ?_, ?_, ?_, ?_, trivial⟩ ?_
          · intro ρ wq hb ho hc hd
            have hC : ∀ v, ρ (.const v) = v := fun v => hc _ (by intro t e; cases e)
            have hF : ∀ f, ρ (.func f) = .func (.func f) #[] #[] := fun f => hc _ (by intro t e; cases e)
            have h0 : ρ (.tmp 0) = .pointer (some ⟨gs, 0, none⟩) := ho 0 (by kernel_rfl)
            exact Lin.Runs.value Lin.keeps (Lin.exec_move rfl) h0
          · intro ρ wq hb ho hc hd
            have hC : ∀ v, ρ (.const v) = v := fun v => hc _ (by intro t e; cases e)
            have hF : ∀ f, ρ (.func f) = .func (.func f) #[] #[] := fun f => hc _ (by intro t e; cases e)
            have h64 : ρ (.tmp 64) = .pointer (some ⟨gs, 0, none⟩) := hd 64 (by kernel_rfl)
            exact Lin.Runs.value Lin.keeps (v := .pointer (some ⟨gs, 0, none⟩)) (by simp [execOp, go_sem, h64]) rfl
          · intro ρ wq hb ho hc hd
            have hC : ∀ v, ρ (.const v) = v := fun v => hc _ (by intro t e; cases e)
            have hF : ∀ f, ρ (.func f) = .func (.func f) #[] #[] := fun f => hc _ (by intro t e; cases e)
            have h65 : ρ (.tmp 65) = .pointer (some ⟨gs, 0, none⟩) := hd 65 (by kernel_rfl)
            exact Lin.Runs.value Lin.keeps (v := .pointer (some ⟨gs, 0, none⟩)) (by simp [execOp, go_sem, h65]) rfl
          · intro ρ wq hb ho hc hd
            have hC : ∀ v, ρ (.const v) = v := fun v => hc _ (by intro t e; cases e)
            have hF : ∀ f, ρ (.func f) = .func (.func f) #[] #[] := fun f => hc _ (by intro t e; cases e)
            have h66 : ρ (.tmp 66) = .pointer (some ⟨gs, 0, none⟩) := hd 66 (by kernel_rfl)
            have dd := (hb.cell (p := ⟨gs, 0, none⟩) LGS.out).trans s0
            exact Lin.Runs.value Lin.keeps (v := .slice (some ⟨g, 0, none⟩) m cap) (by simp [execOp, go_sem, h66, dd]) rfl
          · intro ρ wq hb ho hc hd
            have hC : ∀ v, ρ (.const v) = v := fun v => hc _ (by intro t e; cases e)
            have hF : ∀ f, ρ (.func f) = .func (.func f) #[] #[] := fun f => hc _ (by intro t e; cases e)
            have h9 : ρ (.tmp 9) = .int .i64 (k : Int) := ho 9 (by kernel_rfl)
            exact Lin.Runs.value Lin.keeps (Lin.exec_move rfl) h9
          · intro ρ wq hb ho hc hd
            have hC : ∀ v, ρ (.const v) = v := fun v => hc _ (by intro t e; cases e)
            have hF : ∀ f, ρ (.func f) = .func (.func f) #[] #[] := fun f => hc _ (by intro t e; cases e)
            have h67 : ρ (.tmp 67) = .slice (some ⟨g, 0, none⟩) m cap := hd 67 (by kernel_rfl)
            have h68 : ρ (.tmp 68) = .int .i64 (k : Int) := hd 68 (by kernel_rfl)
            exact Lin.Runs.value Lin.keeps (v := .pointer (some ⟨g, k * 3, none⟩)) (by simp [execOp, go_sem, h67, h68, k0, klz]) rfl
          · intro ρ wq hb ho hc hd
            have hC : ∀ v, ρ (.const v) = v := fun v => hc _ (by intro t e; cases e)
            have hF : ∀ f, ρ (.func f) = .func (.func f) #[] #[] := fun f => hc _ (by intro t e; cases e)
            have h69 : ρ (.tmp 69) = .pointer (some ⟨g, k * 3, none⟩) := hd 69 (by kernel_rfl)
            exact Lin.Runs.value Lin.keeps (v := .pointer (some ⟨g, k * 3 + 2, none⟩)) (by simp [execOp, go_sem, h69]) rfl
          · intro ρ wq hb ho hc hd
            have hC : ∀ v, ρ (.const v) = v := fun v => hc _ (by intro t e; cases e)
            have hF : ∀ f, ρ (.func f) = .func (.func f) #[] #[] := fun f => hc _ (by intro t e; cases e)
            have h70 : ρ (.tmp 70) = .pointer (some ⟨g, k * 3 + 2, none⟩) := hd 70 (by kernel_rfl)
            have dd := (hb.cell (p := ⟨g, k * 3 + 2, none⟩) LG.out).trans e2
            exact Lin.Runs.value Lin.keeps (v := .int .i64 x1) (by simp [execOp, go_sem, h70, dd]) rfl
          · intro ρ wq hb ho hc hd
            have hC : ∀ v, ρ (.const v) = v := fun v => hc _ (by intro t e; cases e)
            have hF : ∀ f, ρ (.func f) = .func (.func f) #[] #[] := fun f => hc _ (by intro t e; cases e)
            have h0 : ρ (.tmp 0) = .pointer (some ⟨gs, 0, none⟩) := ho 0 (by kernel_rfl)
            exact Lin.Runs.value Lin.keeps (Lin.exec_move rfl) h0
          · intro ρ wq hb ho hc hd
            have hC : ∀ v, ρ (.const v) = v := fun v => hc _ (by intro t e; cases e)
            have hF : ∀ f, ρ (.func f) = .func (.func f) #[] #[] := fun f => hc _ (by intro t e; cases e)
            have h72 : ρ (.tmp 72) = .pointer (some ⟨gs, 0, none⟩) := hd 72 (by kernel_rfl)
            exact Lin.Runs.value Lin.keeps (v := .pointer (some ⟨gs, 0, none⟩)) (by simp [execOp, go_sem, h72]) rfl
          · intro ρ wq hb ho hc hd
            have hC : ∀ v, ρ (.const v) = v := fun v => hc _ (by intro t e; cases e)
            have hF : ∀ f, ρ (.func f) = .func (.func f) #[] #[] := fun f => hc _ (by intro t e; cases e)
            have h73 : ρ (.tmp 73) = .pointer (some ⟨gs, 0, none⟩) := hd 73 (by kernel_rfl)
            exact Lin.Runs.value Lin.keeps (v := .pointer (some ⟨gs, 0, none⟩)) (by simp [execOp, go_sem, h73]) rfl
          · intro ρ wq hb ho hc hd
            have hC : ∀ v, ρ (.const v) = v := fun v => hc _ (by intro t e; cases e)
            have hF : ∀ f, ρ (.func f) = .func (.func f) #[] #[] := fun f => hc _ (by intro t e; cases e)
            have h74 : ρ (.tmp 74) = .pointer (some ⟨gs, 0, none⟩) := hd 74 (by kernel_rfl)
            have dd := (hb.cell (p := ⟨gs, 0, none⟩) LGS.out).trans s0
            exact Lin.Runs.value Lin.keeps (v := .slice (some ⟨g, 0, none⟩) m cap) (by simp [execOp, go_sem, h74, dd]) rfl
          · intro ρ wq hb ho hc hd
            have hC : ∀ v, ρ (.const v) = v := fun v => hc _ (by intro t e; cases e)
            have hF : ∀ f, ρ (.func f) = .func (.func f) #[] #[] := fun f => hc _ (by intro t e; cases e)
            have h7 : ρ (.tmp 7) = .int .i64 (b : Int) := ho 7 (by kernel_rfl)
            exact Lin.Runs.value Lin.keeps (Lin.exec_move rfl) h7
          · intro ρ wq hb ho hc hd
            have hC : ∀ v, ρ (.const v) = v := fun v => hc _ (by intro t e; cases e)
            have hF : ∀ f, ρ (.func f) = .func (.func f) #[] #[] := fun f => hc _ (by intro t e; cases e)
            have h75 : ρ (.tmp 75) = .slice (some ⟨g, 0, none⟩) m cap := hd 75 (by kernel_rfl)
            have h76 : ρ (.tmp 76) = .int .i64 (b : Int) := hd 76 (by kernel_rfl)
            exact Lin.Runs.value Lin.keeps (v := .pointer (some ⟨g, b * 3, none⟩)) (by simp [execOp, go_sem, h75, h76, b0, bl]) rfl
          · intro ρ wq hb ho hc hd
            have hC : ∀ v, ρ (.const v) = v := fun v => hc _ (by intro t e; cases e)
            have hF : ∀ f, ρ (.func f) = .func (.func f) #[] #[] := fun f => hc _ (by intro t e; cases e)
            have h77 : ρ (.tmp 77) = .pointer (some ⟨g, b * 3, none⟩) := hd 77 (by kernel_rfl)
            exact Lin.Runs.value Lin.keeps (v := .pointer (some ⟨g, b * 3 + 2, none⟩)) (by simp [execOp, go_sem, h77]) rfl
          · intro ρ wq hb ho hc hd
            have hC : ∀ v, ρ (.const v) = v := fun v => hc _ (by intro t e; cases e)
            have hF : ∀ f, ρ (.func f) = .func (.func f) #[] #[] := fun f => hc _ (by intro t e; cases e)
            have h78 : ρ (.tmp 78) = .pointer (some ⟨g, b * 3 + 2, none⟩) := hd 78 (by kernel_rfl)
            have dd := (hb.cell (p := ⟨g, b * 3 + 2, none⟩) LG.out).trans eb
            exact Lin.Runs.value Lin.keeps (v := .int .i64 y) (by simp [execOp, go_sem, h78, dd]) rfl
          · intro ρ wq hb ho hc hd
            have hC : ∀ v, ρ (.const v) = v := fun v => hc _ (by intro t e; cases e)
            have hF : ∀ f, ρ (.func f) = .func (.func f) #[] #[] := fun f => hc _ (by intro t e; cases e)
            have h71 : ρ (.tmp 71) = .int .i64 x1 := hd 71 (by kernel_rfl)
            have h79 : ρ (.tmp 79) = .int .i64 y := hd 79 (by kernel_rfl)
            exact Lin.Runs.value Lin.keeps (v := .bool true) (by simp [execOp, go_sem, h71, h79, hcb]) rfl
          · intro vals w7 hb2 hv
            have ee := hv 80 (by kernel_rfl)
            have O7 := Lib.hid (own_below O6.out hb2); have K7 := Lib.hid (own_below K6.out hb2); have S7 := Lib.hid (S6.out.below hb2 S6.out.lt); have T7 := Lib.hid (T6.out.below hb2 T6.out.lt); have HR7 := Lib.hid ((rm_rel _ _).trans HR6.out (rm_keeps hb2 HR6.out.size))
            clear hb2 O6 K6 S6 T6 HR6
            simp only [Lin.putAll, Option.getD_some]
            rw [show vals 80 = .bool true from ee]
            clear ee hv
            go_simp
            generalize vals = vv
            go_wp2_with fail
            go_roundw
            case rel => exact ⟨k + 1, HLT.out, by go_num, by rw [(unhide AMY NC.out)], by rw [SS.out, HSS.out], S7.out, O7.out, K7.out, T7.out, HR7.out⟩
            case measure => have := HLT.out; simp [intOf]; omega
        · have NC := Lib.hid hc
          have hcb : decide (y < x1) = false := by simp; omega
          clear hc
          refine Lin.wp_region_lin Lin.keeps (n := 99)  (fun slotq => match slotq with | 64 => Lin.Spec.val (.pointer (some ⟨gs, 0, none⟩)) | 65 => Lin.Spec.val (.pointer (some ⟨gs, 0, none⟩)) | 66 => Lin.Spec.val (.pointer (some ⟨gs, 0, none⟩)) | 67 => Lin.Spec.val (.slice (some ⟨g, 0, none⟩) m cap) | 68 => Lin.Spec.val (.int .i64 (k : Int)) | 69 => Lin.Spec.val (.pointer (some ⟨g, k * 3, none⟩)) | 70 => Lin.Spec.val (.pointer (some ⟨g, k * 3 + 2, none⟩)) | 71 => Lin.Spec.val (.int .i64 x1) | 72 => Lin.Spec.val (.pointer (some ⟨gs, 0, none⟩)) | 73 => Lin.Spec.val (.pointer (some ⟨gs, 0, none⟩)) | 74 => Lin.Spec.val (.pointer (some ⟨gs, 0, none⟩)) | 75 => Lin.Spec.val (.slice (some ⟨g, 0, none⟩) m cap) | 76 => Lin.Spec.val (.int .i64 (b : Int)) | 77 => Lin.Spec.val (.pointer (some ⟨g, b * 3, none⟩)) | 78 => Lin.Spec.val (.pointer (some ⟨g, b * 3 + 2, none⟩)) | 79 => Lin.Spec.val (.int .i64 y) | 80 => Lin.Spec.val (.bool false) | _ => Lin.Spec.any) (by kernel_rfl) rfl (by kernel_rfl) ⟨?_, ?_, ?_, ?_, ?_, ?_, ?_, ?_, ?_, ?_, ?_, ?_, ?_, ?_, ?_, ?_, ?_, trivial⟩ ?_
          · intro ρ wq hb ho hc hd
            have hC : ∀ v, ρ (.const v) = v := fun v => hc _ (by intro t e; cases e)
            have hF : ∀ f, ρ (.func f) = .func (.func f) #[] #[] := fun f => hc _ (by intro t e; cases e)
            have h0 : ρ (.tmp 0) = .pointer (some ⟨gs, 0, none⟩) := ho 0 (by kernel_rfl)
            exact Lin.Runs.value Lin.keeps (Lin.exec_move rfl) h0
          · intro ρ wq hb ho hc hd
            have hC : ∀ v, ρ (.const v) = v := fun v => hc _ (by intro t e; cases e)
            have hF : ∀ f, ρ (.func f) = .func (.func f) #[] #[] := fun f => hc _ (by intro t e; cases e)
            have h64 : ρ (.tmp 64) = .pointer (some ⟨gs, 0, none⟩) := hd 64 (by kernel_rfl)
            exact Lin.Runs.value Lin.keeps (v := .pointer (some ⟨gs, 0, none⟩)) (by simp [execOp, go_sem, h64]) rfl
          · intro ρ wq hb ho hc hd
            have hC : ∀ v, ρ (.const v) = v := fun v => hc _ (by intro t e; cases e)
            have hF : ∀ f, ρ (.func f) = .func (.func f) #[] #[] := fun f => hc _ (by intro t e; cases e)
            have h65 : ρ (.tmp 65) = .pointer (some ⟨gs, 0, none⟩) := hd 65 (by kernel_rfl)
            exact Lin.Runs.value Lin.keeps (v := .pointer (some ⟨gs, 0, none⟩)) (by simp [execOp, go_sem, h65]) rfl
          · intro ρ wq hb ho hc hd
            have hC : ∀ v, ρ (.const v) = v := fun v => hc _ (by intro t e; cases e)
            have hF : ∀ f, ρ (.func f) = .func (.func f) #[] #[] := fun f => hc _ (by intro t e; cases e)
            have h66 : ρ (.tmp 66) = .pointer (some ⟨gs, 0, none⟩) := hd 66 (by kernel_rfl)
            have dd := (hb.cell (p := ⟨gs, 0, none⟩) LGS.out).trans s0
            exact Lin.Runs.value Lin.keeps (v := .slice (some ⟨g, 0, none⟩) m cap) (by simp [execOp, go_sem, h66, dd]) rfl
          · intro ρ wq hb ho hc hd
            have hC : ∀ v, ρ (.const v) = v := fun v => hc _ (by intro t e; cases e)
            have hF : ∀ f, ρ (.func f) = .func (.func f) #[] #[] := fun f => hc _ (by intro t e; cases e)
            have h9 : ρ (.tmp 9) = .int .i64 (k : Int) := ho 9 (by kernel_rfl)
            exact Lin.Runs.value Lin.keeps (Lin.exec_move rfl) h9
          · intro ρ wq hb ho hc hd
            have hC : ∀ v, ρ (.const v) = v := fun v => hc _ (by intro t e; cases e)
            have hF : ∀ f, ρ (.func f) = .func (.func f) #[] #[] := fun f => hc _ (by intro t e; cases e)
            have h67 : ρ (.tmp 67) = .slice (some ⟨g, 0, none⟩) m cap := hd 67 (by kernel_rfl)
            have h68 : ρ (.tmp 68) = .int .i64 (k : Int) := hd 68 (by kernel_rfl)
            exact Lin.Runs.value Lin.keeps (v := .pointer (some ⟨g, k * 3, none⟩)) (by simp [execOp, go_sem, h67, h68, k0, klz]) rfl
          · intro ρ wq hb ho hc hd
            have hC : ∀ v, ρ (.const v) = v := fun v => hc _ (by intro t e; cases e)
            have hF : ∀ f, ρ (.func f) = .func (.func f) #[] #[] := fun f => hc _ (by intro t e; cases e)
            have h69 : ρ (.tmp 69) = .pointer (some ⟨g, k * 3, none⟩) := hd 69 (by kernel_rfl)
            exact Lin.Runs.value Lin.keeps (v := .pointer (some ⟨g, k * 3 + 2, none⟩)) (by simp [execOp, go_sem, h69]) rfl
          · intro ρ wq hb ho hc hd
            have hC : ∀ v, ρ (.const v) = v := fun v => hc _ (by intro t e; cases e)
            have hF : ∀ f, ρ (.func f) = .func (.func f) #[] #[] := fun f => hc _ (by intro t e; cases e)
            have h70 : ρ (.tmp 70) = .pointer (some ⟨g, k * 3 + 2, none⟩) := hd 70 (by kernel_rfl)
            have dd := (hb.cell (p := ⟨g, k * 3 + 2, none⟩) LG.out).trans e2
            exact Lin.Runs.value Lin.keeps (v := .int .i64 x1) (by simp [execOp, go_sem, h70, dd]) rfl
          · intro ρ wq hb ho hc hd
            have hC : ∀ v, ρ (.const v) = v := fun v => hc _ (by intro t e; cases e)
            have hF : ∀ f, ρ (.func f) = .func (.func f) #[] #[] := fun f => hc _ (by intro t e; cases e)
            have h0 : ρ (.tmp 0) = .pointer (some ⟨gs, 0, none⟩) := ho 0 (by kernel_rfl)
            exact Lin.Runs.value Lin.keeps (Lin.exec_move rfl) h0
          · intro ρ wq hb ho hc hd
            have hC : ∀ v, ρ (.const v) = v := fun v => hc _ (by intro t e; cases e)
            have hF : ∀ f, ρ (.func f) = .func (.func f) #[] #[] := fun f => hc _ (by intro t e; cases e)
            have h72 : ρ (.tmp 72) = .pointer (some ⟨gs, 0, none⟩) := hd 72 (by kernel_rfl)
            exact Lin.Runs.value Lin.keeps (v := .pointer (some ⟨gs, 0, none⟩)) (by simp [execOp, go_sem, h72]) rfl
          · intro ρ wq hb ho hc hd
            have hC : ∀ v, ρ (.const v) = v := fun v => hc _ (by intro t e; cases e)
            have hF : ∀ f, ρ (.func f) = .func (.func f) #[] #[] := fun f => hc _ (by intro t e; cases e)
            have h73 : ρ (.tmp 73) = .pointer (some ⟨gs, 0, none⟩) := hd 73 (by kernel_rfl)
            exact Lin.Runs.value Lin.keeps (v := .pointer (some ⟨gs, 0, none⟩)) (by simp [execOp, go_sem, h73]) rfl
          · intro ρ wq hb ho hc hd
            have hC : ∀ v, ρ (.const v) = v := fun v => hc _ (by intro t e; cases e)
            have hF : ∀ f, ρ (.func f) = .func (.func f) #[] #[] := fun f => hc _ (by intro t e; cases e)
            have h74 : ρ (.tmp 74) = .pointer (some ⟨gs, 0, none⟩) := hd 74 (by kernel_rfl)
            have dd := (hb.cell (p := ⟨gs, 0, none⟩) LGS.out).trans s0
            exact Lin.Runs.value Lin.keeps (v := .slice (some ⟨g, 0, none⟩) m cap) (by simp [execOp, go_sem, h74, dd]) rfl
          · intro ρ wq hb ho hc hd
            have hC : ∀ v, ρ (.const v) = v := fun v => hc _ (by intro t e; cases e)
            have hF : ∀ f, ρ (.func f) = .func (.func f) #[] #[] := fun f => hc _ (by intro t e; cases e)
            have h7 : ρ (.tmp 7) = .int .i64 (b : Int) := ho 7 (by kernel_rfl)
            exact Lin.Runs.value Lin.keeps (Lin.exec_move rfl) h7
          · intro ρ wq hb ho hc hd
            have hC : ∀ v, ρ (.const v) = v := fun v => hc _ (by intro t e; cases e)
            have hF : ∀ f, ρ (.func f) = .func (.func f) #[] #[] := fun f => hc _ (by intro t e; cases e)
            have h75 : ρ (.tmp 75) = .slice (some ⟨g, 0, none⟩) m cap := hd 75 (by kernel_rfl)
            have h76 : ρ (.tmp 76) = .int .i64 (b : Int) := hd 76 (by kernel_rfl)
            exact Lin.Runs.value Lin.keeps (v := .pointer (some ⟨g, b * 3, none⟩)) (by simp [execOp, go_sem, h75, h76, b0, bl]) rfl
          · intro ρ wq hb ho hc hd
            have hC : ∀ v, ρ (.const v) = v := fun v => hc _ (by intro t e; cases e)
            have hF : ∀ f, ρ (.func f) = .func (.func f) #[] #[] := fun f => hc _ (by intro t e; cases e)
            have h77 : ρ (.tmp 77) = .pointer (some ⟨g, b * 3, none⟩) := hd 77 (by kernel_rfl)
            exact Lin.Runs.value Lin.keeps (v := .pointer (some ⟨g, b * 3 + 2, none⟩)) (by simp [execOp, go_sem, h77]) rfl
          · intro ρ wq hb ho hc hd
            have hC : ∀ v, ρ (.const v) = v := fun v => hc _ (by intro t e; cases e)
            have hF : ∀ f, ρ (.func f) = .func (.func f) #[] #[] := fun f => hc _ (by intro t e; cases e)
            have h78 : ρ (.tmp 78) = .pointer (some ⟨g, b * 3 + 2, none⟩) := hd 78 (by kernel_rfl)
            have dd := (hb.cell (p := ⟨g, b * 3 + 2, none⟩) LG.out).trans eb
            exact Lin.Runs.value Lin.keeps (v := .int .i64 y) (by simp [execOp, go_sem, h78, dd]) rfl
          · intro ρ wq hb ho hc hd
            have hC : ∀ v, ρ (.const v) = v := fun v => hc _ (by intro t e; cases e)
            have hF : ∀ f, ρ (.func f) = .func (.func f) #[] #[] := fun f => hc _ (by intro t e; cases e)
            have h71 : ρ (.tmp 71) = .int .i64 x1 := hd 71 (by kernel_rfl)
            have h79 : ρ (.tmp 79) = .int .i64 y := hd 79 (by kernel_rfl)
            exact Lin.Runs.value Lin.keeps (v := .bool false) (by simp [execOp, go_sem, h71, h79, hcb]) rfl
          · intro vals w7 hb2 hv
            have ee := hv 80 (by kernel_rfl)
            have O7 := Lib.hid (own_below O6.out hb2); have K7 := Lib.hid (own_below K6.out hb2); have S7 := Lib.hid (S6.out.below hb2 S6.out.lt); have T7 := Lib.hid (T6.out.below hb2 T6.out.lt); have HR7 := Lib.hid ((rm_rel _ _).trans HR6.out (rm_keeps hb2 HR6.out.size))
            clear hb2 O6 K6 S6 T6 HR6
            simp only [Lin.putAll, Option.getD_some]
            rw [show vals 80 = .bool false from ee]
            clear ee hv
            go_simp
            generalize vals = vv
            go_wp2_with fail
            go_roundw
            case rel => exact ⟨k + 1, HLT.out, by go_num, by rw [(unhide AMN (by have := NC.out; omega))], by rw [SS.out, HSS.out], S7.out, O7.out, K7.out, T7.out, HR7.out⟩
            case measure => have := HLT.out; simp [intOf]; omega
    · obtain rfl : k = m := by omega
      have kge : ¬ (k : Int) < (k : Int) := by omega
      clear hk hlt
      have BLM := Lib.hid (Sm.am_lt (f := Sm.bump cr wt) k H0.out)
      have bm : bumpk cr wt k (Sm.am (Sm.bump cr wt) k) = Sm.bump cr wt (Sm.am (Sm.bump cr wt) k) := if_pos BLM.out
      obtain ⟨lg, hc0⟩ := own_shg O.out H0.out
      obtain ⟨_, _, eb⟩ := hc0 _ BLM.out
      rw [bm] at eb
      have e1b : IntKind.i64.wrap (Sm.bump cr wt (Sm.am (Sm.bump cr wt) k) - Sm.S wt k) = Sm.bump cr wt (Sm.am (Sm.bump cr wt) k) - Sm.S wt k := by
        have h1 := (unhide HW) _ BLM.out; have h2 := (unhide HCR) _ BLM.out; have h3 := S_range (w := wt) k (fun i hi => ((unhide HW) i hi).2); have h4 := H30.out
        have h5 : Sm.bump cr wt (Sm.am (Sm.bump cr wt) k) = cr (Sm.am (Sm.bump cr wt) k) + wt (Sm.am (Sm.bump cr wt) k) := rfl
        rw [w64 _ (by omega)]
      have STE := Lib.hid (step_set (kl := kl) (c := cr) (w := wt) (Sm.S wt k) H0.out)
      have STR := World.ownsRow.stored O.out (Sm.am (Sm.bump cr wt) k * 3 + 2) (.int .i64 (Sm.bump cr wt (Sm.am (Sm.bump cr wt) k) - Sm.S wt k))
      rw [STE.out] at STR
      have O9 := Lib.hid STR.1
      have NGS := Lib.hid (show gs ≠ g from fun e => own_differ O.out S0.out (by decide) (by rw [e]; rfl))
      have NT4 := Lib.hid (show w.heap.size ≠ g from fun e => own_differ O.out T0.out (by decide) (by rw [e]; rfl))
      have NGT := Lib.hid (show gs ≠ w.heap.size from fun e => S0.out.differ T0.out (by decide) e)
      have NKG : (Value.slice A6 k c6).ownBlock ≠ some g := own_own K0.out O.out (by decide)
      have HRX := Lib.hid (rm_grown STR.2 HR.out.size (fun q hq => by injection hq with hq; subst hq; exact NG.out))
      have HR9 := Lib.hid ((rm_rel _ _).trans HR.out HRX.out)
      have fg := World.ownsRow.frozenAt O.out (Sm.am (Sm.bump cr wt) k * 3 + 2)
      have hcK := cands_of_own (l := kl) (by rw [HM.out]; exact K0.out)
      obtain ⟨b6, off6, rfl, hb6, hk6⟩ := hcK (by rw [HM.out]; exact H0.out)
      obtain ⟨c0, c1, c2, c3⟩ := cell4 (show Sm.am (Sm.bump cr wt) k < kl.length by rw [HM.out]; exact BLM.out) hk6
      have n6g : b6 ≠ g := fun e => NKG (by rw [← e]; rfl)
      have ng6 : g ≠ b6 := fun e => n6g e.symm
      have ngt : g ≠ w.heap.size := fun e => NT4.out e.symm
      have z0 := T0.out.cell 0; have z1 := T0.out.cell 1; have z2 := T0.out.cell 2; have z3 := T0.out.cell 3
      have y0 := T0.out.free 0; have y1 := T0.out.free 1; have y2 := T0.out.free 2; have y3 := T0.out.free 3
      have s0 := S0.out.cell 0
      simp at z0 z1 z2 z3 s0
      have tl := T0.out.lt
      have S9 := S0
      have b0 : (0 : Int) ≤ ((Sm.am (Sm.bump cr wt) k : Nat) : Int) := Int.natCast_nonneg _
      have bl : ((Sm.am (Sm.bump cr wt) k : Nat) : Int) < (k : Int) := by have := BLM.out; omega
      have NT4 := NT4.out
      clear bm lg hc0 hcK hk6 STR NKG HRX O K0 T0 HR S0 STE
      generalize hbe : Sm.am (Sm.bump cr wt) k = b at *
      have HBE := Lib.hid hbe
      clear hbe
      generalize hx : nth kl b = x at *
      obtain ⟨xs, xb, xw, xl⟩ := x
      have HX := Lib.hid hx
      clear hx
      simp only at c0 c1 c2 c3
      generalize Sm.bump cr wt b = y at *
      generalize hsk : Sm.S wt k = sk at *
      have HSK := Lib.hid hsk
      clear hsk
      go_wp2_with fail
      refine bodyPost_ret (v := .tuple #[.agg #[.int .i64 xs, .int .i64 xb, .int .i64 xw, .int .u32 xl], .bool true]) (by simp [results, Try.results33, go_sem, z0, z1, z2, z3, tl]) rfl ⟨by rw [HBE.out, HX.out]; rfl, ?_, ?_, ?_⟩
      · repeat' first | with_reducible exact S9.out | with_reducible apply Is.other
        all_goals first | exact NGS.out | exact NGT.out
      · rw [HSK.out]
        repeat' first | with_reducible exact O9.out | with_reducible apply own_set
        all_goals (simp [Value.ownBlock]; exact ngt)
      · obtain rfl : g = G := HGG.out
        repeat' first | with_reducible exact HR9.out | with_reducible apply rm_st
        all_goals exact .inl (Nat.le_refl _)
end Go.Proofs.Ytkebgkjopfdafaa
