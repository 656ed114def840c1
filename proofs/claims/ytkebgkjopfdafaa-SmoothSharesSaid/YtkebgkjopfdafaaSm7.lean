/-
  The law SmoothShares, walked. Helper of the claim SmoothShares. No condition.
-/
import Derived.Test.YtkebgkjopfdafaaSm6
namespace Go.Proofs.Ytkebgkjopfdafaa
open Go.ChangeShapes Go.WideShapes Go.ChangeAt Go.RowKit
set_option linter.unusedSimpArgs false
set_option linter.unusedVariables false
set_option maxRecDepth 100000
theorem info3 : (Try.prog.info? 3).map (fun i => (i.zero, i.size, i.bytes)) = some (some (.int .i64 0), 1, 8) := by kernel_rfl
theorem make_ints (W : World) (n : Nat) (hn : n ≤ 1000000) : (Instr.makeSlice 64 (.int .i64 (n : Int)) (.int .i64 (n : Int))).run Try.prog W = .ok (.slice (some ⟨W.heap.size, 0, none⟩) n n) (W.alloc (.cells (Array.replicate n (.int .i64 0)) 3)) := by
  obtain ⟨ib, hib, hz0, hz1, hz2⟩ := info_parts info3
  have := run_make (P := Try.prog) W 64 3 ib (.int .i64 0) Try.underlying64 hib hz0 .i64 .i64 n n (by omega) (by omega) (by rw [hz2]; omega) (by omega)
  rw [hz1] at this
  rw [this, Int.toNat_natCast, Nat.mul_one]
  show Result.ok _ (W.alloc (.cells (madeCells #[.int .i64 0] n) _)) = _
  rw [made_one]
theorem S_range0 {w : Nat → Int} : ∀ m, (∀ i, i < m → 0 ≤ w i ∧ w i ≤ 100) → 0 ≤ Sm.S w m ∧ Sm.S w m ≤ m * 100
  | 0, _ => by simp [Sm.S]
  | m + 1, h => by
    have := S_range0 m (fun i hi => h i (by omega))
    have := h m (by omega)
    simp only [Sm.S]; omega
theorem SmS.set {kl : List Cand} {m gs B k gt j : Nat} {wt : Nat → Int} {w : World} {cs : Array Value} (h : SmS kl m wt gs B k w) (hI : Is w gt 3 cs) (hne : gt ≠ gs) (u : Value) : SmS kl m wt gs B k (w.setCell ⟨gt, j, none⟩ u) := by
  rcases h with ⟨h1, h2⟩ | ⟨h1, g, cap, h2, h3⟩
  · exact .inl ⟨h1, h2.other (p := ⟨gt, j, none⟩) (fun e => hne e.symm) u⟩
  · exact .inr ⟨h1, g, cap, h2.other (p := ⟨gt, j, none⟩) (fun e => hne e.symm) u, own_set h3 (own_differ h3 hI (by decide)) u⟩
def L1 (l : List Cand) (v7 v8 : Value) : Prop := ∃ k : Nat, k ≤ l.length ∧ v8 = .int .i64 (k : Int) ∧ v7 = .int .i64 (Sm.S (wof l) k)
def L2 (w : World) (kl : List Cand) (m gs : Nat) (vx : Value) (bx : Nat) (l : List Cand) (ah : Nat) (v : Value) (wr : World) : Prop :=
  ∃ k : Nat, k ≤ ah ∧ v = .int .i64 (k : Int) ∧ SmT kl m (wof kl) gs w.heap.size k wr ∧ wr.ownsRow bx 29 4 vx l.length (cellsOf l) ∧ Below w.heap.size w wr ∧ gs < wr.heap.size
def Told (kl : List Cand) (m ah k : Nat) (cs : Array Value) : Prop := cs.size = 4096 ∧ ∀ s : Nat, s < 4096 → cs[s]? = some (.int .i64 (tl kl (wof kl) m ah k (s : Int)))
def L3 (w : World) (kl : List Cand) (m gs gt : Nat) (vx : Value) (bx : Nat) (l : List Cand) (ah n : Nat) (v : Value) (wr : World) : Prop :=
  ∃ k : Nat, k ≤ n ∧ v = .int .i64 (k : Int) ∧ SmT kl m (wof kl) gs w.heap.size (ah + k) wr ∧ wr.ownsRow bx 29 4 vx l.length (cellsOf l) ∧ Below w.heap.size w wr ∧ ∃ cs, Told kl m ah k cs ∧ Is wr gt 3 cs
def L4 (w : World) (l : List Cand) (gt : Nat) (cs : Array Value) (v : Value) (wr : World) : Prop := ∃ i : Nat, i ≤ l.length ∧ v = .int .i64 (i : Int) ∧ Is wr gt 3 cs ∧ Below w.heap.size w wr
theorem told_zero (kl : List Cand) (m ah : Nat) : Told kl m ah 0 (Array.replicate 4096 (.int .i64 0)) := ⟨by simp, fun s hs => by simp [hs, tl]⟩
theorem told_put {kl : List Cand} {m ah k : Nat} {cs : Array Value} {ns : Nat} (h : Told kl m ah k cs) (hn : ns < 4096) (hs : (nth kl (Sm.bk (wof kl) m (Sm.S (wof kl) m) (ah + k))).slot = (ns : Int)) : Told kl m ah (k + 1) (cs.setIfInBounds ns (.int .i64 (tl kl (wof kl) m ah k (ns : Int) + 1))) := by
  refine ⟨by rw [Array.size_setIfInBounds]; exact h.1, fun s hs' => ?_⟩
  simp only [tl]
  rw [hs, Array.getElem?_setIfInBounds]
  by_cases e : ns = s
  · subst e; rw [if_pos rfl, if_pos (by rw [h.1]; exact hn), if_pos rfl]
  · rw [if_neg e, if_neg (by omega), h.2 s hs']; simp
theorem SmT.below {kl : List Cand} {m gs B k : Nat} {wt : Nat → Int} {w w' : World} (h : SmT kl m wt gs B k w) (hb : Below w.heap.size w w') : SmT kl m wt gs B k w' := by
  rcases h with ⟨h1, h2⟩ | ⟨h1, ⟨h2, h3⟩ | ⟨h2, g, cap, h3, h4⟩⟩
  · exact .inl ⟨h1, h2.below hb h2.lt⟩
  · exact .inr ⟨h1, .inl ⟨h2, h3.below hb h3.lt⟩⟩
  · exact .inr ⟨h1, .inr ⟨h2, g, cap, h3.below hb h3.lt, own_below h4 hb⟩⟩
set_option maxHeartbeats 4000000 in
theorem shares_all (A : Option Addr) (c : Nat) (l : List Cand) (ah : Nat) (hah : ah < 256) (w : World) (h : Cands w w.heap.size A l) (hm : l.length ≤ maxLen) :
    Calls Try.prog 6 #[.slice A l.length c, .int .u8 (ah : Int)] w fun e w' => e = .returned (.bool true) ∧ Below w.heap.size w w' := by
  have RT := Lib.hid (right19 A c l w h hm)
  cases hr : rgt l with
  | false =>
    rw [hr] at RT
    clear hr h hm
    go_enter Try.func6, Try.ntmps6
    go_wp2_with fail
    refine RT.out.mono ?_
    rintro e w1 ⟨rfl, hb⟩
    go_wp2_with fail
    refine (awake19 w1).mono ?_
    rintro e w2 ⟨rfl, hb2⟩
    have HB := Lib.hid (hb.trans (hb2.mono hb.size))
    clear hb hb2
    go_wp2_with fail
    go_ret
    exact ⟨rfl, HB.out⟩
  | true =>
    rw [hr] at RT
    obtain ⟨h30, hrb, _⟩ : l.length ≤ 30 ∧ rightB l = true ∧ Df l := by
      exact Classical.byContradiction fun hn => by rw [rgt_no hn] at hr; cases hr
    obtain ⟨hall, _⟩ := right_pair l (-1) hrb
    obtain ⟨kl, hkl⟩ : ∃ k, kp l l.length = k := ⟨_, rfl⟩
    obtain ⟨m, hmm⟩ : ∃ m, kl.length = m := ⟨_, rfl⟩
    have hf : kl = l.filter fun x => decide (0 < x.weight) := by rw [← hkl, kp_all]
    have hm30 : m ≤ 30 := by rw [← hmm, hf]; exact Nat.le_trans (List.length_filter_le _ _) h30
    have hkm : ∀ i, i < m → nth kl i ∈ l ∧ 0 < (nth kl i).weight := fun i hi => by
      have := nth_mem (l := kl) (k := i) (by omega)
      generalize nth kl i = x at *
      rw [hf] at this
      have h2 := List.mem_filter.1 this
      exact ⟨h2.1, by simpa using h2.2⟩
    have hw : ∀ i, i < m → (nth kl i).weight = wof kl i ∧ 0 < wof kl i ∧ wof kl i ≤ 100 := fun i hi => ⟨rfl, (hkm i hi).2, (hall _ (hkm i hi).1).2.2.2⟩
    have hsum : Sm.S (wof l) l.length = Sm.S (wof kl) m := by rw [sum_kp l (fun c hc => (hall c hc).2.2.1) l.length (Nat.le_refl _), hkl, hmm]
    have hrg := S_range m (fun i hi => (hw i hi).2)
    obtain ⟨n, hn⟩ := Int.eq_ofNat_of_zero_le hrg.1
    have HW := hide hw; have HKM := hide hkm; have HALL := hide hall; have HSUM := Lib.hid (hsum.trans hn); have HN := Lib.hid hn; have HN3 := Lib.hid (show n ≤ 3000 from by omega)
    have HKL := Lib.hid hkl; have HM := Lib.hid hmm; have H30 := Lib.hid h30; have HM30 := Lib.hid hm30; have HRB := Lib.hid hrb; have HC := Lib.hid h
    have HAH := Lib.hid hah
    have hl30 : l.length ≤ 30 := h30
    clear hr h hm hrb hall hkl hmm hf hm30 hkm hw hsum hrg hn h30 hah
    go_enter Try.func6, Try.ntmps6
    go_wp2_with fail
    refine RT.out.mono ?_
    rintro e w1 ⟨rfl, hb⟩
    have HB1 := Lib.hid (hb.alloc hb.size (.cells #[.slice none 0 0] 62))
    have S1 := Lib.hid (Is.new w1 62 #[.slice none 0 0])
    have GSW := Lib.hid hb.size
    clear hb RT
    go_wp2_with fail
    generalize w1.alloc (.cells #[.slice none 0 0] 62) = V at *
    generalize w1.heap.size = gs at *
    refine (to19 A c l V (cands_below HC.out (HB1.out)) (by omega)).mono ?_
    rintro e w2 ⟨vx, rfl, hx, hb⟩
    obtain ⟨Ax, cx, rfl⟩ := own_shape hx
    have GX := Lib.hid (show gs < V.heap.size from S1.out.lt)
    have HB2 := Lib.hid (HB1.out.trans (hb.mono HB1.out.size))
    have S2 := Lib.hid (S1.out.below hb S1.out.lt)
    generalize V.heap.size = bx at *
    have X2 := Lib.hid hx
    clear hx hb S1 HB1
    go_wp2_with fail
    go_loop [7, 8] (fun v7 v8 => L1 l v7 v8) (fun _ v => l.length - (intOf v).toNat)
    case atStart => exact ⟨0, Nat.zero_le _, rfl, rfl⟩
    case round =>
      obtain ⟨k, hk, rfl, rfl⟩ := hrel
      by_cases hlt : k < l.length
      · obtain ⟨b, off, rfl, hbs, hc⟩ := HC.out (by omega)
        have d2 : w2.cell? ⟨b, off + k * 4 + 2, none⟩ = some (Value.int .i64 (wof l k)) := (HB2.out.cell (p := ⟨b, off + k * 4 + 2, none⟩) hbs).trans (hc k 2 hlt (by omega))
        have e1 : IntKind.i64.wrap (Sm.S (wof l) k + wof l k) = Sm.S (wof l) (k + 1) := by
          have h1 := S_range0 (w := wof l) k (fun i hi => ⟨((unhide HALL) _ (nth_mem (l := l) (k := i) (by omega))).2.2.1, ((unhide HALL) _ (nth_mem (l := l) (k := i) (by omega))).2.2.2⟩)
          have h2 := (unhide HALL) _ (nth_mem hlt)
          have h3 : wof l k = (nth l k).weight := rfl
          rw [w64 _ (by omega)]; rfl
        have HSS := Lib.hid (show Sm.S (wof l) (k + 1) = Sm.S (wof l) k + wof l k from rfl)
        have k0 : (0 : Int) ≤ (k : Int) := Int.natCast_nonneg _
        have klz : (k : Int) < (l.length : Int) := by omega
        have k30 : k ≤ 30 := by omega
        have HLT := Lib.hid hlt
        clear hc hbs hlt hk
        generalize hs1 : Sm.S (wof l) (k + 1) = s1 at *
        generalize Sm.S (wof l) k = sk at *
        generalize wof l k = wk at *
        have HS1 := Lib.hid hs1
        clear hs1
        go_wp2_with fail
        go_round
        case rel => exact ⟨k + 1, HLT.out, by go_num, by rw [HS1.out, HSS.out]⟩
        case measure => have := HLT.out; simp [intOf]; omega
      · obtain rfl : k = l.length := by omega
        have kge : ¬ (l.length : Int) < (l.length : Int) := by omega
        clear hk hlt
        rw [HSUM.out]
        go_wp2_with fail
        go_loopw [9] (fun v wr => L2 w kl m gs (.slice Ax l.length cx) bx l ah v wr) (fun v _ => ah - (intOf v).toNat)
        case atStart => exact ⟨0, Nat.zero_le _, rfl, by
          by_cases h0 : m = 0
          · exact .inl ⟨h0, S2.out⟩
          · exact .inr ⟨by omega, .inl ⟨rfl, S2.out⟩⟩, X2.out, HB2.out, S2.out.lt⟩
        case round =>
          clear S2 X2 HB2
          obtain ⟨k, hk, rfl, hT, hX, hB, hG⟩ := hrel
          have TT := hide hT; have XX := Lib.hid hX; have HB := Lib.hid hB; have GG := Lib.hid hG
          clear hT hX hB hG
          have ew : IntKind.i64.wrap (ah : Int) = (ah : Int) := by have := HAH.out; rw [w64 _ (by omega)]
          by_cases hlt : k < ah
          · have kz : (k : Int) < (ah : Int) := by omega
            have k300 : k ≤ 300 := by have := HAH.out; omega
            have HLT := Lib.hid hlt
            have PT := hide (pick_ahead gs cx m k w.heap.size Ax l kl (wof kl) wr (cands_of_own XX.out) hl30 HKL.out HM.out HM30.out (unhide HW) HB.out.size (unhide TT))
            clear hlt hk
            go_wp2_with fail
            refine (unhide PT).mono ?_
            rintro e w3 ⟨v, rfl, hT, hP⟩
            have T3 := hide hT; have X3 := Lib.hid (hP.own XX.out (by decide) (own_far XX.out GX.out)); have HB3 := Lib.hid (HB.out.trans (hP.below (n := w.heap.size) GSW.out (Nat.le_refl _) HB.out.size)); have G3 := Lib.hid (Nat.lt_of_lt_of_le GG.out hP.size)
            clear hT hP PT
            go_wp2_with fail
            go_roundw
            case rel => exact ⟨k + 1, HLT.out, by go_num, unhide T3, X3.out, HB3.out, G3.out⟩
            case measure => have := HLT.out; simp [intOf]; omega
          · obtain rfl : k = ah := by omega
            have kge2 : ¬ (k : Int) < (k : Int) := by omega
            clear hk hlt
            have hbsz := HB.out.size
            have hbn := (Below.refl wr.heap.size wr).alloc (Nat.le_refl _) (.cells (Array.replicate 4096 (.int .i64 0)) 3)
            have T5 := hide ((unhide TT).below hbn); have X5 := Lib.hid (World.ownsRow.alloc XX.out (.cells (Array.replicate 4096 (.int .i64 0)) 3)); have HB5 := Lib.hid (HB.out.alloc hbsz (.cells (Array.replicate 4096 (.int .i64 0)) 3))
            have I5 := Lib.hid (Is.new wr 3 (Array.replicate 4096 (.int .i64 0)))
            have hmk := make_ints wr 4096 (by omega)
            have hmk2 : (Instr.makeSlice 64 (.int .i64 4096) (.int .i64 4096)).run Try.prog wr = _ := hmk
            have GT := Lib.hid (show gs ≠ wr.heap.size ∧ w.heap.size ≤ wr.heap.size from ⟨by have := GG.out; omega, hbsz⟩)
            clear hbn hmk
            go_wp2_with fail
            clear hmk2
            generalize wr.alloc (.cells (Array.replicate 4096 (.int .i64 0)) 3) = V5 at *
            generalize wr.heap.size = gt at *
            go_loopw [11] (fun v wr => L3 w kl m gs gt (.slice Ax l.length cx) bx l k n v wr) (fun v _ => n - (intOf v).toNat)
            case atStart => exact ⟨0, Nat.zero_le _, rfl, unhide T5, X5.out, HB5.out, _, told_zero kl m k, I5.out⟩
            case round =>
              clear T5 X5 HB5 I5 TT XX HB GG hbsz
              obtain ⟨q, hq, rfl, hT, hX, hB, cs, hcs, hI⟩ := hrel
              have TT := hide hT; have XX := Lib.hid hX; have HB := Lib.hid hB; have CS := hide hcs; have II := Lib.hid hI
              clear hT hX hB hcs hI
              by_cases hlt : q < n
              · have qz : (q : Int) < (n : Int) := by omega
                have q3 : q ≤ 3000 := by have := HN3.out; omega
                have HLT := Lib.hid hlt
                have hm0 : 0 < m := by
                  rcases Nat.eq_zero_or_pos m with h | h
                  · exfalso; have := HN.out; rw [h] at this; have h2 : Sm.S (wof kl) 0 = 0 := rfl; omega
                  · exact h
                have hSS : SmS kl m (wof kl) gs w.heap.size (k + q) wr := by
                  rcases unhide TT with ⟨h, _⟩ | ⟨_, h⟩
                  · omega
                  · exact h
                have PT := hide (pick_step gs cx m (k + q) w.heap.size Ax l kl (wof kl) wr (cands_of_own XX.out) hl30 HKL.out HM.out hm0 HM30.out (unhide HW) HB.out.size hSS)
                have hbk := Sm.bk_lt (w := wof kl) (W := Sm.S (wof kl) m) hm0 (k + q)
                have hsl := (unhide HALL) _ ((unhide HKM) _ hbk).1
                have PUT := hide (fun (ns : Nat) (hn : ns < 4096) (hs : (nth kl (Sm.bk (wof kl) m (Sm.S (wof kl) m) (k + q))).slot = (ns : Int)) => told_put (unhide CS) hn hs)
                generalize nth kl (Sm.bk (wof kl) m (Sm.S (wof kl) m) (k + q)) = x at *
                obtain ⟨xs, xb, xw, xl⟩ := x
                simp only at hsl PUT
                obtain ⟨ns, rfl⟩ := Int.eq_ofNat_of_zero_le (show 0 ≤ xs by omega)
                have hns : ns < 4096 := by omega
                have ct := (unhide CS).2 ns hns
                have tr := tl_range kl (wof kl) m k (ns : Int) q
                have PUTN := Lib.hid ((unhide PUT) ns hns rfl)
                generalize tl kl (wof kl) m k q (ns : Int) = t at *
                have HM0 := Lib.hid hm0
                have nsz : (ns : Int) < 4096 := by omega
                have ns0 : (0 : Int) ≤ (ns : Int) := Int.natCast_nonneg _
                have n1 : ¬ (ns : Int) < 0 := by omega
                have n2 : ¬ (4095 : Int) < (ns : Int) := by omega
                have n3 : decide ((ns : Int) < 0) = false := by simp
                have n4 : decide ((4095 : Int) < (ns : Int)) = false := by simp; omega
                have n5 : decide (4095 < ns) = false := by simp; omega
                have t1 : IntKind.i64.wrap (t + 1) = t + 1 := by rw [w64 _ (by omega)]
                have CT := Lib.hid ct
                clear hlt hq hSS hbk hsl PUT hns ct tr hm0
                go_wp2_with fail
                refine (unhide PT).mono ?_
                rintro e w3 ⟨he, hT, hP⟩
                simp only [Cand.val] at he
                subst he
                have I3 := hP.is II.out (fun e => GT.out.1 e.symm) (by decide)
                have X3 := hP.own XX.out (by decide) (own_far XX.out GX.out)
                have B3 := HB.out.trans (hP.below (n := w.heap.size) GSW.out (Nat.le_refl _) HB.out.size)
                have bs := B3.size
                have T4 := hide (hT.alloc (.cells #[.int .i64 (ns : Int), .int .i64 xb, .int .i64 xw, .int .u32 xl] 29)); have I4 := Lib.hid (I3.alloc (.cells #[.int .i64 (ns : Int), .int .i64 xb, .int .i64 xw, .int .u32 xl] 29)); have X4 := Lib.hid (World.ownsRow.alloc X3 (.cells #[.int .i64 (ns : Int), .int .i64 xb, .int .i64 xw, .int .u32 xl] 29)); have HB4 := Lib.hid (B3.alloc bs (.cells #[.int .i64 (ns : Int), .int .i64 xb, .int .i64 xw, .int .u32 xl] 29))
                have J4 := Is.new w3 29 #[.int .i64 (ns : Int), .int .i64 xb, .int .i64 xw, .int .u32 xl]
                have tn := (I4.out.cell ns).trans CT.out
                have tf := I4.out.free ns
                clear hT hP PT I3 X3 B3 bs
                go_wp2_with fail
                go_roundw
                case rel => exact ⟨q + 1, HLT.out, by go_num, .inr ⟨HM0.out, SmS.set (unhide T4) I4.out (fun e => GT.out.1 e.symm) _⟩, own_set X4.out (own_differ X4.out I4.out (by decide)) _, Below.setCell (p := ⟨gt, ns, none⟩) HB4.out GT.out.2 _, _, PUTN.out, I4.out.put ns _⟩
                case measure => have := HLT.out; simp [intOf]; omega
              · obtain rfl : q = n := by omega
                have kge3 : ¬ (q : Int) < (q : Int) := by omega
                clear hq hlt TT XX
                have TOLD := hide (fun (i : Nat) (hi : i < l.length) => told_all HRB.out HKL.out HM.out HN.out k i hi)
                go_wp2_with fail
                go_loopw [14] (fun v wr => L4 w l gt cs v wr) (fun v _ => l.length - (intOf v).toNat)
                case atStart => exact ⟨0, Nat.zero_le _, rfl, II.out, HB.out⟩
                case round =>
                  clear II HB
                  obtain ⟨i, hi, rfl, hI, hB⟩ := hrel
                  have TT := Lib.hid hI; have HB := Lib.hid hB
                  clear hI hB
                  by_cases hlt : i < l.length
                  · obtain ⟨b, off, rfl, hbs, hc⟩ := HC.out (by omega)
                    have hsl := (unhide HALL) _ (nth_mem hlt)
                    have d0 : wr.cell? ⟨b, off + i * 4, none⟩ = some (Value.int .i64 (nth l i).slot) := (HB.out.cell (p := ⟨b, off + i * 4, none⟩) hbs).trans (hc i 0 hlt (by omega))
                    have d2 : wr.cell? ⟨b, off + i * 4 + 2, none⟩ = some (Value.int .i64 (nth l i).weight) := (HB.out.cell (p := ⟨b, off + i * 4 + 2, none⟩) hbs).trans (hc i 2 hlt (by omega))
                    have htd := (unhide TOLD) i hlt
                    generalize nth l i = x at *
                    obtain ⟨xs, xb, xw, xl⟩ := x
                    simp only at hsl d0 d2 htd
                    obtain ⟨ns, rfl⟩ := Int.eq_ofNat_of_zero_le (show 0 ≤ xs by omega)
                    have ct := (unhide CS).2 ns (by omega)
                    rw [htd] at ct
                    have tn := (TT.out.cell ns).trans ct
                    have LB := Lib.hid (Nat.lt_of_lt_of_le hbs HB.out.size); have LGT := Lib.hid TT.out.lt
                    have i0 : (0 : Int) ≤ (i : Int) := Int.natCast_nonneg _
                    have ilz : (i : Int) < (l.length : Int) := by omega
                    have i30 : i ≤ 30 := by omega
                    have ns0 : (0 : Int) ≤ (ns : Int) := Int.natCast_nonneg _
                    have nsz : (ns : Int) < 4096 := by omega
                    have ILT := Lib.hid hlt
                    clear hlt hi hc hbs hsl htd ct
                    go_wp2_with fail
                    refine Lin.wp_region_lin Lin.keeps (n := 97)  (fun slotq => match slotq with | 82 => Lin.Spec.val (.slice (some ⟨gt, 0, none⟩) 4096 4096) | 83 => Lin.Spec.val (.slice (some ⟨b, off, none⟩) l.length c) | 84 => Lin.Spec.val (.int .i64 (i : Int)) | 85 => Lin.Spec.val (.pointer (some ⟨b, off + i * 4, none⟩)) | 86 => Lin.Spec.val (.pointer (some ⟨b, off + i * 4, none⟩)) | 87 => Lin.Spec.val (.int .i64 (ns : Int)) | 88 => Lin.Spec.val (.pointer (some ⟨gt, ns, none⟩)) | 89 => Lin.Spec.val (.int .i64 xw) | 90 => Lin.Spec.val (.slice (some ⟨b, off, none⟩) l.length c) | 91 => Lin.Spec.val (.int .i64 (i : Int)) | 92 => Lin.Spec.val (.pointer (some ⟨b, off + i * 4, none⟩)) | 93 => Lin.Spec.val (.pointer (some ⟨b, off + i * 4 + 2, none⟩)) | 94 => Lin.Spec.val (.int .i64 xw) | 95 => Lin.Spec.val (.bool false) | _ => Lin.Spec.any) (by kernel_rfl) rfl (by kernel_rfl) ⟨?_, ?_, ?_, ?_, ?_, ?_, ?_, ?_, ?_, ?_, ?_, ?_, ?_, ?_, trivial⟩ ?_
                    · intro ρ wq hb ho hc hd
                      have hC : ∀ v, ρ (.const v) = v := fun v => hc _ (by intro t e; cases e)
                      have hF : ∀ f, ρ (.func f) = .func (.func f) #[] #[] := fun f => hc _ (by intro t e; cases e)
                      have h10 : ρ (.tmp 10) = .slice (some ⟨gt, 0, none⟩) 4096 4096 := ho 10 (by kernel_rfl)
                      exact Lin.Runs.value Lin.keeps (Lin.exec_move rfl) h10
                    · intro ρ wq hb ho hc hd
                      have hC : ∀ v, ρ (.const v) = v := fun v => hc _ (by intro t e; cases e)
                      have hF : ∀ f, ρ (.func f) = .func (.func f) #[] #[] := fun f => hc _ (by intro t e; cases e)
                      have h0 : ρ (.tmp 0) = .slice (some ⟨b, off, none⟩) l.length c := ho 0 (by kernel_rfl)
                      exact Lin.Runs.value Lin.keeps (Lin.exec_move rfl) h0
                    · intro ρ wq hb ho hc hd
                      have hC : ∀ v, ρ (.const v) = v := fun v => hc _ (by intro t e; cases e)
                      have hF : ∀ f, ρ (.func f) = .func (.func f) #[] #[] := fun f => hc _ (by intro t e; cases e)
                      have h14 : ρ (.tmp 14) = .int .i64 (i : Int) := ho 14 (by kernel_rfl)
                      exact Lin.Runs.value Lin.keeps (Lin.exec_move rfl) h14
                    · intro ρ wq hb ho hc hd
                      have hC : ∀ v, ρ (.const v) = v := fun v => hc _ (by intro t e; cases e)
                      have hF : ∀ f, ρ (.func f) = .func (.func f) #[] #[] := fun f => hc _ (by intro t e; cases e)
                      have h83 : ρ (.tmp 83) = .slice (some ⟨b, off, none⟩) l.length c := hd 83 (by kernel_rfl)
                      have h84 : ρ (.tmp 84) = .int .i64 (i : Int) := hd 84 (by kernel_rfl)
                      exact Lin.Runs.value Lin.keeps (v := .pointer (some ⟨b, off + i * 4, none⟩)) (by simp [execOp, go_sem, h83, h84, i0, ilz]) rfl
                    · intro ρ wq hb ho hc hd
                      have hC : ∀ v, ρ (.const v) = v := fun v => hc _ (by intro t e; cases e)
                      have hF : ∀ f, ρ (.func f) = .func (.func f) #[] #[] := fun f => hc _ (by intro t e; cases e)
                      have h85 : ρ (.tmp 85) = .pointer (some ⟨b, off + i * 4, none⟩) := hd 85 (by kernel_rfl)
                      exact Lin.Runs.value Lin.keeps (v := .pointer (some ⟨b, off + i * 4, none⟩)) (by simp [execOp, go_sem, h85]) rfl
                    · intro ρ wq hb ho hc hd
                      have hC : ∀ v, ρ (.const v) = v := fun v => hc _ (by intro t e; cases e)
                      have hF : ∀ f, ρ (.func f) = .func (.func f) #[] #[] := fun f => hc _ (by intro t e; cases e)
                      have h86 : ρ (.tmp 86) = .pointer (some ⟨b, off + i * 4, none⟩) := hd 86 (by kernel_rfl)
                      have dd := (hb.cell (p := ⟨b, off + i * 4, none⟩) LB.out).trans d0
                      exact Lin.Runs.value Lin.keeps (v := .int .i64 (ns : Int)) (by simp [execOp, go_sem, h86, dd]) rfl
                    · intro ρ wq hb ho hc hd
                      have hC : ∀ v, ρ (.const v) = v := fun v => hc _ (by intro t e; cases e)
                      have hF : ∀ f, ρ (.func f) = .func (.func f) #[] #[] := fun f => hc _ (by intro t e; cases e)
                      have h82 : ρ (.tmp 82) = .slice (some ⟨gt, 0, none⟩) 4096 4096 := hd 82 (by kernel_rfl)
                      have h87 : ρ (.tmp 87) = .int .i64 (ns : Int) := hd 87 (by kernel_rfl)
                      exact Lin.Runs.value Lin.keeps (v := .pointer (some ⟨gt, ns, none⟩)) (by simp [execOp, go_sem, h82, h87, ns0, nsz]) rfl
                    · intro ρ wq hb ho hc hd
                      have hC : ∀ v, ρ (.const v) = v := fun v => hc _ (by intro t e; cases e)
                      have hF : ∀ f, ρ (.func f) = .func (.func f) #[] #[] := fun f => hc _ (by intro t e; cases e)
                      have h88 : ρ (.tmp 88) = .pointer (some ⟨gt, ns, none⟩) := hd 88 (by kernel_rfl)
                      have dd := (hb.cell (p := ⟨gt, ns, none⟩) LGT.out).trans tn
                      exact Lin.Runs.value Lin.keeps (v := .int .i64 xw) (by simp [execOp, go_sem, h88, dd]) rfl
                    · intro ρ wq hb ho hc hd
                      have hC : ∀ v, ρ (.const v) = v := fun v => hc _ (by intro t e; cases e)
                      have hF : ∀ f, ρ (.func f) = .func (.func f) #[] #[] := fun f => hc _ (by intro t e; cases e)
                      have h0 : ρ (.tmp 0) = .slice (some ⟨b, off, none⟩) l.length c := ho 0 (by kernel_rfl)
                      exact Lin.Runs.value Lin.keeps (Lin.exec_move rfl) h0
                    · intro ρ wq hb ho hc hd
                      have hC : ∀ v, ρ (.const v) = v := fun v => hc _ (by intro t e; cases e)
                      have hF : ∀ f, ρ (.func f) = .func (.func f) #[] #[] := fun f => hc _ (by intro t e; cases e)
                      have h14 : ρ (.tmp 14) = .int .i64 (i : Int) := ho 14 (by kernel_rfl)
                      exact Lin.Runs.value Lin.keeps (Lin.exec_move rfl) h14
                    · intro ρ wq hb ho hc hd
                      have hC : ∀ v, ρ (.const v) = v := fun v => hc _ (by intro t e; cases e)
                      have hF : ∀ f, ρ (.func f) = .func (.func f) #[] #[] := fun f => hc _ (by intro t e; cases e)
                      have h90 : ρ (.tmp 90) = .slice (some ⟨b, off, none⟩) l.length c := hd 90 (by kernel_rfl)
                      have h91 : ρ (.tmp 91) = .int .i64 (i : Int) := hd 91 (by kernel_rfl)
                      exact Lin.Runs.value Lin.keeps (v := .pointer (some ⟨b, off + i * 4, none⟩)) (by simp [execOp, go_sem, h90, h91, i0, ilz]) rfl
                    · intro ρ wq hb ho hc hd
                      have hC : ∀ v, ρ (.const v) = v := fun v => hc _ (by intro t e; cases e)
                      have hF : ∀ f, ρ (.func f) = .func (.func f) #[] #[] := fun f => hc _ (by intro t e; cases e)
                      have h92 : ρ (.tmp 92) = .pointer (some ⟨b, off + i * 4, none⟩) := hd 92 (by kernel_rfl)
                      exact Lin.Runs.value Lin.keeps (v := .pointer (some ⟨b, off + i * 4 + 2, none⟩)) (by simp [execOp, go_sem, h92]) rfl
                    · intro ρ wq hb ho hc hd
                      have hC : ∀ v, ρ (.const v) = v := fun v => hc _ (by intro t e; cases e)
                      have hF : ∀ f, ρ (.func f) = .func (.func f) #[] #[] := fun f => hc _ (by intro t e; cases e)
                      have h93 : ρ (.tmp 93) = .pointer (some ⟨b, off + i * 4 + 2, none⟩) := hd 93 (by kernel_rfl)
                      have dd := (hb.cell (p := ⟨b, off + i * 4 + 2, none⟩) LB.out).trans d2
                      exact Lin.Runs.value Lin.keeps (v := .int .i64 xw) (by simp [execOp, go_sem, h93, dd]) rfl
                    · intro ρ wq hb ho hc hd
                      have hC : ∀ v, ρ (.const v) = v := fun v => hc _ (by intro t e; cases e)
                      have hF : ∀ f, ρ (.func f) = .func (.func f) #[] #[] := fun f => hc _ (by intro t e; cases e)
                      have h89 : ρ (.tmp 89) = .int .i64 xw := hd 89 (by kernel_rfl)
                      have h94 : ρ (.tmp 94) = .int .i64 xw := hd 94 (by kernel_rfl)
                      exact Lin.Runs.value Lin.keeps (v := .bool false) (by simp [execOp, go_sem, h89, h94]) rfl
                    · intro vals w9 hb2 hv
                      have ee := hv 95 (by kernel_rfl)
                      have T9 := Lib.hid (TT.out.below hb2 TT.out.lt); have HB9 := Lib.hid (HB.out.trans (hb2.mono HB.out.size))
                      clear hb2
                      simp only [Lin.putAll, Option.getD_some]
                      rw [show vals 95 = .bool false from ee]
                      clear ee hv
                      go_simp
                      generalize vals = vv
                      go_wp2_with fail
                      go_roundw
                      case rel => exact ⟨i + 1, ILT.out, by go_num, T9.out, HB9.out⟩
                      case measure => have := ILT.out; simp [intOf]; omega
                  · obtain rfl : i = l.length := by omega
                    have kge4 : ¬ (l.length : Int) < (l.length : Int) := by omega
                    clear hi hlt
                    go_wp2_with fail
                    refine (awake19 wr).mono ?_
                    rintro e wz ⟨rfl, hb⟩
                    have HBZ := Lib.hid (HB.out.trans (hb.mono HB.out.size))
                    clear hb
                    go_wp2_with fail
                    go_ret
                    exact ⟨rfl, HBZ.out⟩
end Go.Proofs.Ytkebgkjopfdafaa
