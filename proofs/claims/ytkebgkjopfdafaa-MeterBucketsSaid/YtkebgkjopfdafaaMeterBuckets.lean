/-
  MeterBuckets (P43.1, P43.2) answers true and leaves its arguments as they were, for every rate, size and list of calls: New, Take and Level agree with the reference. No condition.
-/
import Derived.Test.YtkebgkjopfdafaaRows
import Derived.WalkKit
import Derived.ProofKit
import Derived.OpenShut
import Derived.ShutString
import Derived.ChangeOld
import Derived.Below
import Derived.Test.YtkebgkjopfdafaaLin2
import Derived.Test.YtkebgkjopfdafaaMeterB
import Derived.StillTailTactics
import Derived.Deep.RegionHeld3
import Derived.StillTactics
import Derived.OwnWalk
import Derived.Outline
namespace Go.Proofs.Ytkebgkjopfdafaa.meterBuckets
open Go.ChangeShapes Go.WideShapes Go.ChangeAt Go.RowKit
open Go.ChangeMaps (open_string shut_string)
open Go.Proofs.Ytkebgkjopfdafaa
set_option linter.unusedVariables false

theorem own : ownKnob Try.prog.godebug = none := by kernel_rfl
theorem laidOut : laidOutB Try.prog = true := by kernel_rfl

theorem fillT_ge (t now : Int) : now ≤ fillT t now := by unfold fillT; split <;> omega
theorem fillT_bd {t now : Int} (t0 : 0 ≤ t) (n0 : 0 ≤ now) : 0 ≤ fillT t now := by unfold fillT; split <;> omega
theorem fill_again (r s lv t now : Int) : fillL r s lv (fillT t now) now = lv ∧ fillT (fillT t now) now = fillT t now := fill_no (fillT_ge t now)
abbrev TR (B : Nat) (Z N : Array Value) : World → World → Prop := Lin.Turns B (fun a b => a = some (.cells Z 52 (0, 0)) ∧ b = some (.cells N 52 (0, 0)))
theorem turnsZ (B : Nat) (t : TypeId) (Z N : Array Value) : Lin.Rel (Lin.Turns B (fun a b => a = some (.cells Z t (0, 0)) ∧ b = some (.cells N t (0, 0)))) := Lin.turns fun h k => ⟨h.1, k.2⟩
theorem turn_is {B p : Nat} {Z N : Array Value} {w w' : World} (h : TR B Z N w w') (hp : Is w p 52 Z ∨ Is w p 52 N) : Is w' p 52 Z ∨ Is w' p 52 N := by
  have hl : p < w.heap.size := by rcases hp with hp | hp <;> exact hp.lt
  rcases h.2.2.2.2 p hl with e | ⟨_, e⟩
  · rcases hp with hp | hp
    · exact .inl (e.trans hp)
    · exact .inr (e.trans hp)
  · exact .inr e.2
theorem turn_new {B p : Nat} {Z N : Array Value} {w w' : World} (h : TR B Z N w w') (hp : Is w p 52 N) : Is w' p 52 N := by
  rcases h.2.2.2.2 p hp.lt with e | ⟨_, e⟩
  · exact e.trans hp
  · exact e.2
theorem turns_store {B p : Nat} {Z N : Array Value} {w w' : World} (hB : B ≤ p) (hp : Is w p 52 Z ∨ Is w p 52 N) (hn : Is w' p 52 N) (ho : ∀ i, i ≠ p → w'.heap[i]? = w.heap[i]?) (h1 : w'.os = w.os) (h2 : w'.tape = w.tape) (h3 : w'.output = w.output) (h4 : w.heap.size ≤ w'.heap.size) : TR B Z N w w' :=
  ⟨h1, h2, h3, h4, fun i _ => by
    by_cases e : i = p
    · subst e
      rcases hp with hp | hp
      · exact .inr ⟨hB, hp, hn⟩
      · exact .inl (Eq.trans hn hp.symm)
    · exact .inl (ho i e)⟩
theorem put4 {w : World} {p : Nat} {a0 a1 a2 a3 : Value} (h : Is w p 52 #[a0, a1, a2, a3]) (x0 x1 x2 x3 : Value) : Is ((((w.setCell ⟨p, 0, none⟩ x0).setCell ⟨p, 1, none⟩ x1).setCell ⟨p, 2, none⟩ x2).setCell ⟨p, 3, none⟩ x3) p 52 #[x0, x1, x2, x3] := by
  have h9 := (((h.put 0 x0).put 1 x1).put 2 x2).put 3 x3
  simp only [List.setIfInBounds_toArray, List.set_cons_zero, List.set_cons_succ] at h9
  exact h9
theorem set4_other {w : World} {p i : Nat} (h : i ≠ p) (x0 x1 x2 x3 : Value) : ((((w.setCell ⟨p, 0, none⟩ x0).setCell ⟨p, 1, none⟩ x1).setCell ⟨p, 2, none⟩ x2).setCell ⟨p, 3, none⟩ x3).heap[i]? = w.heap[i]? :=
  (Below.heap_setCell _ ⟨p, 3, none⟩ _ i h).trans ((Below.heap_setCell _ ⟨p, 2, none⟩ _ i h).trans ((Below.heap_setCell _ ⟨p, 1, none⟩ _ i h).trans (Below.heap_setCell _ ⟨p, 0, none⟩ _ i h)))
def specZ (B : Nat) (Z N : Array Value) : Lin.Spec (TR B Z N) := ⟨fun v w => ∃ p, v = .pointer (some ⟨p, 0, none⟩) ∧ B ≤ p ∧ (Is w p 52 Z ∨ Is w p 52 N), fun ⟨p, e, hB, hp⟩ h => ⟨p, e, hB, turn_is h hp⟩⟩
def specN (B : Nat) (Z N : Array Value) : Lin.Spec (TR B Z N) := ⟨fun v w => ∃ p, v = .pointer (some ⟨p, 0, none⟩) ∧ B ≤ p ∧ Is w p 52 N, fun ⟨p, e, hB, hp⟩ h => ⟨p, e, hB, turn_new h hp⟩⟩
def St (w : World) (b g : Nat) (r S : Int) (top : Nat) (i : Value) (wr : World) : Prop :=
  ∃ (k : Nat) (L T : Int), k ≤ top ∧ i = .int .i64 k ∧ 0 ≤ L ∧ L ≤ S ∧ 0 ≤ T ∧ Is wr b 132 (buck r S L T) ∧ Is wr g 52 #[.int .u64 r, .int .u64 S, .int .u64 L, .int .u64 T] ∧ Below w.heap.size w wr

set_option maxRecDepth 100000 in
set_option maxHeartbeats 2000000 in
theorem walk_bad (A : Option Addr) (c n : Nat) (r s : Int) (w : World) (r0 : 0 ≤ r) (r1 : r ≤ 18446744073709551615) (s0 : 0 ≤ s) (s1 : s ≤ 18446744073709551615) (h : 2147483648 < r ∨ s < 1 ∨ 2147483648 < s) :
    Calls Try.prog 5 #[.int .u64 r, .int .u64 s, .slice A n c] w fun e w' => e = .returned (.bool true) ∧ Below w.heap.size w w' := by
  have hn := fun W => new_no r s W r0 r1 s0 s1 h
  have HN := hide hn
  have hcases : 2147483648 < r ∨ (¬ 2147483648 < r ∧ s < 1) ∨ (¬ 2147483648 < r ∧ ¬ s < 1 ∧ 2147483648 < s) := by omega
  clear hn h
  rcases hcases with h1 | ⟨h1, h2⟩ | ⟨h1, h2, h3⟩
  all_goals
    go_enter Try.func5, Try.ntmps5
    go_wp2_with fail
    refine (awake43 _).mono ?_
    rintro e w0 ⟨rfl, hb0⟩
    have HB := Lib.hid hb0
    have hz := hb0.size
    clear hb0
    go_wp2_with fail
    refine (unhide HN _).mono ?_
    rintro e w' ⟨rfl, rfl⟩
    go_wp2_with fail
    refine (take_nil _ _ _).mono ?_
    rintro e w' ⟨rfl, rfl⟩
    go_wp2_with fail
    refine (level_nil _ _).mono ?_
    rintro e w' ⟨rfl, rfl⟩
    go_wp2_with fail
    refine (awake43 _).mono ?_
    rintro e w1 ⟨rfl, hb1⟩
    go_wp2_with fail
    go_ret
    exact ⟨rfl, HB.out.trans (hb1.mono hz)⟩

set_option maxRecDepth 100000 in
set_option maxHeartbeats 8000000 in
theorem walk_good (A : Option Addr) (c : Nat) (l : List MAct) (r s : Int) (w : World) (h : MActs w A l) (hm : l.length ≤ maxLen) (hw : ∀ k, 0 ≤ (mat l k).n ∧ (mat l k).n ≤ 18446744073709551615 ∧ 0 ≤ (mat l k).now ∧ (mat l k).now ≤ 18446744073709551615)
    (r0 : 0 ≤ r) (r1 : r ≤ 2147483648) (s0 : 1 ≤ s) (s1 : s ≤ 2147483648) :
    Calls Try.prog 5 #[.int .u64 r, .int .u64 s, .slice A l.length c] w fun e w' => e = .returned (.bool true) ∧ Below w.heap.size w w' := by
  unfold maxLen at hm
  have HA := Lib.hid h
  have HW := Lib.hid hw
  clear h hw
  go_enter Try.func5, Try.ntmps5
  go_wp2_with fail
  refine (awake43 _).mono ?_
  rintro e w0 ⟨rfl, hb0⟩
  have HB0 := Lib.hid hb0
  have hz := hb0.size
  clear hb0
  go_wp2_with fail
  refine (new_ok r s _ r0 r1 s0 s1).mono ?_
  rintro e w' ⟨rfl, rfl⟩
  go_wp2_with fail
  refine (take_nil _ _ _).mono ?_
  rintro e w' ⟨rfl, rfl⟩
  go_wp2_with fail
  refine (level_nil _ _).mono ?_
  rintro e w' ⟨rfl, rfl⟩
  go_wp2_with fail
  go_loopw [11] (fun i wr => St w w0.heap.size (w0.heap.size + 1) r s l.length i wr) (fun i _ => l.length - (intOf i).toNat)
  case atStart =>
    have hg := Is.new (w0.alloc (.cells (buck r s s 0) 132)) 52 #[.int .u64 r, .int .u64 s, .int .u64 s, .int .u64 0]
    rw [show (w0.alloc (.cells (buck r s s 0) 132)).heap.size = w0.heap.size + 1 from by simp] at hg
    exact ⟨0, s, 0, Nat.zero_le _, rfl, by omega, by omega, by omega, (Is.new _ _ _).alloc _, hg, (HB0.out.alloc hz _).alloc (by simp; omega) _⟩
  case round =>
    obtain ⟨k, L, T, hk, rfl, L0, L1, T0, hi, hg, hb⟩ := hrel
    have HI := Lib.hid hi
    have HG := Lib.hid hg
    have HB := Lib.hid hb
    clear hi hg hb
    by_cases hlt : k < l.length
    · by_cases h60 : k < 60
      · obtain ⟨b, off, rfl, hbl, hc⟩ := HA.out (by omega)
        have a0 : wr.cell? ⟨b, off + k * 3, none⟩ = some (.int .i64 (mat l k).kind) := (HB.out.cell (p := ⟨b, _, none⟩) hbl).trans (hc k 0 hlt (by omega))
        have a1 : wr.cell? ⟨b, off + k * 3 + 1, none⟩ = some (.int .u64 (mat l k).n) := (HB.out.cell (p := ⟨b, _, none⟩) hbl).trans (hc k 1 hlt (by omega))
        have a2 : wr.cell? ⟨b, off + k * 3 + 2, none⟩ = some (.int .u64 (mat l k).now) := (HB.out.cell (p := ⟨b, _, none⟩) hbl).trans (hc k 2 hlt (by omega))
        obtain ⟨g1, g2, g3, g4⟩ := HW.out k
        have x0 := HG.out.cell 0; have x1 := HG.out.cell 1; have x2 := HG.out.cell 2; have x3 := HG.out.cell 3
        have y0 := HG.out.free 0; have y1 := HG.out.free 1; have y2 := HG.out.free 2; have y3 := HG.out.free 3
        simp at x0 x1 x2 x3
        clear hc
        generalize (mat l k).n = na at *
        generalize (mat l k).now = nw at *
        generalize (mat l k).kind = kd at *
        have i0 : (0 : Int) ≤ (k : Int) := by omega
        have i1 : (k : Int) < (l.length : Int) := by omega
        by_cases hkd : kd = 1
        · have hkb : (kd == 1) = true := by rw [beq_iff_eq]; exact hkd
          clear hkd
          go_wp2_with fail
          go_still_tail 6, (by kernel_rfl)
          change wpList _ _ _ _ _ wr.drew
          have hf := rfill_any r s L T nw wr.drew r0 r1 (by omega) s1 L0 L1 T0 g3 g4
          obtain ⟨f0, f1⟩ := fill_bd (t := T) (now := nw) r0 L0 L1
          have f2 := fillT_bd T0 g3
          have hlev := fun (W : World) (hW : Is W w0.heap.size 132 (buck r s L T)) => level_any w0.heap.size r s L T nw W hW r0 r1 s1 L0 L1 T0 g3 g4
          unfold bval at hf
          generalize fillL r s L T nw = L' at *
          generalize fillT T nw = T' at *
          have HF := hide hf
          have HLEV := hide hlev
          clear hf hlev
          go_wp2_with fail
          refine (unhide HF).mono ?_
          rintro e w1 ⟨rfl, hb1⟩
          have hsz : wr.drew.heap.size = wr.heap.size := rfl
          rw [hsz] at hb1
          have hg1 := HG.out.drew.below hb1 HG.out.lt
          have hi1 := HI.out.drew.below hb1 HI.out.lt
          have hbb := HB.out.drew.trans (hb1.mono HB.out.size)
          have z0 := hg1.cell 0; have z1 := hg1.cell 1; have z2 := hg1.cell 2; have z3 := hg1.cell 3
          have v0 := hg1.free 0; have v1 := hg1.free 1; have v2 := hg1.free 2; have v3 := hg1.free 3
          simp at z0 z1 z2 z3
          have d2 : w1.cell? ⟨b, off + k * 3 + 2, none⟩ = some (.int .u64 nw) := (hbb.cell (p := ⟨b, _, none⟩) hbl).trans ((HB.out.cell (p := ⟨b, _, none⟩) hbl).symm.trans a2)
          have HG1 := Lib.hid hg1; have HI1 := Lib.hid hi1; have HBB := Lib.hid hbb
          clear hg1 hi1 hbb hb1 hsz a0 a1 a2 x0 x1 x2 x3 y0 y1 y2 y3
          have hg2 := (((HG1.out.put 0 (.int .u64 r)).put 1 (.int .u64 s)).put 2 (.int .u64 L')).put 3 (.int .u64 T')
          have hi2 := (((HI1.out.other (p := ⟨w0.heap.size + 1, 0, none⟩) (by simp) (.int .u64 r)).other (p := ⟨w0.heap.size + 1, 1, none⟩) (by simp) (.int .u64 s)).other (p := ⟨w0.heap.size + 1, 2, none⟩) (by simp) (.int .u64 L')).other (p := ⟨w0.heap.size + 1, 3, none⟩) (by simp) (.int .u64 T')
          have hw1 : w.heap.size ≤ w0.heap.size + 1 := by omega
          have hb2 := (((HBB.out.setCell (p := ⟨w0.heap.size + 1, 0, none⟩) hw1 (.int .u64 r)).setCell (p := ⟨w0.heap.size + 1, 1, none⟩) hw1 (.int .u64 s)).setCell (p := ⟨w0.heap.size + 1, 2, none⟩) hw1 (.int .u64 L')).setCell (p := ⟨w0.heap.size + 1, 3, none⟩) hw1 (.int .u64 T')
          generalize hX : ((((w1.setCell ⟨w0.heap.size + 1, 0, none⟩ (.int .u64 r)).setCell ⟨w0.heap.size + 1, 1, none⟩ (.int .u64 s)).setCell ⟨w0.heap.size + 1, 2, none⟩ (.int .u64 L')).setCell ⟨w0.heap.size + 1, 3, none⟩ (.int .u64 T')) = X at *
          have HX := Lib.hid hX
          clear hX
          replace hg2 : Is X (w0.heap.size + 1) 52 #[.int .u64 r, .int .u64 s, .int .u64 L', .int .u64 T'] := hg2
          have e2 : X.cell? ⟨b, off + k * 3 + 2, none⟩ = some (.int .u64 nw) := (hb2.cell (p := ⟨b, _, none⟩) hbl).trans ((HBB.out.cell (p := ⟨b, _, none⟩) hbl).symm.trans d2)
          have q2 := hg2.cell 2
          simp at q2
          have hgl := hg2.lt
          have HG2 := Lib.hid hg2; have HI2 := Lib.hid hi2; have HB2 := Lib.hid hb2
          clear hg2 hi2 hb2
          go_wp2_with fail
          rw [HX.out]
          clear HX z0 z1 z2 z3 v0 v1 v2 v3 d2
          have nb1 : b ≠ w0.heap.size := by omega
          go_region_held3 (fun w' => w'.cell? ⟨b, off + k * 3 + 2, none⟩ = some (.int .u64 nw) ∧ w'.cell? ⟨w0.heap.size + 1, 2, none⟩ = some (.int .u64 L'))
            (first
              | go_keep
              | (go_split_ands
                 refine ⟨?_, ?_⟩
                 · exact (World.cell?_of_block (hgr.block b (by show b < X.heap.size; omega) (by simp; omega))).trans (by assumption)
                 · exact (World.cell?_of_block (hgr.block (w0.heap.size + 1) (by show w0.heap.size + 1 < X.heap.size; omega) (by simp))).trans (by assumption)))
            (first | (go_at_call 27; refine (unhide HLEV _ ?_).mono ?_; exact HI2.out; rintro e w3 ⟨rfl, hgr, hil⟩))
          have hgr2 := (HG2.out.drew).only hgr (by simp)
          have hbe := below_only (HB2.out.drew) hgr hz
          have HG3 := Lib.hid hgr2; have HI3 := Lib.hid hil; have HB3 := Lib.hid hbe
          clear hgr2 hbe hgr hil HG2 HI2 HB2 HLEV
          go_wp2_with fail
          go_roundw
          case rel => exact ⟨k + 1, L', T', by omega, by go_num, f0, f1, f2, HI3.out, HG3.out, HB3.out⟩
          case measure => simp [intOf]; omega
        · have hkb : (kd == 1) = false := by rw [beq_eq_false_iff_ne]; exact hkd
          clear hkd
          by_cases htk : na ≤ fillL r s L T nw
          · have hct := fun (W : World) => rtake_yes r s L T na nw W r0 r1 (by omega) s1 L0 L1 T0 g3 g4 g1 htk
            have htake := fun (W : World) (hW : Is W w0.heap.size 132 (buck r s L T)) => take_yes w0.heap.size r s L T na nw W hW r0 r1 s1 L0 L1 T0 g3 g4 g1 htk
            obtain ⟨f0, f1⟩ := fill_bd (t := T) (now := nw) r0 L0 L1
            have f2 := fillT_bd T0 g3
            have hag := fill_again r s (fillL r s L T nw - na) T nw
            unfold bval at hct
            generalize fillL r s L T nw = L' at *
            generalize fillT T nw = T' at *
            have l0 : 0 ≤ (L' - na) := by omega
            have l1 : (L' - na) ≤ s := by omega
            generalize hLL : (L' - na) = LV at *
            have hlev := fun (W : World) (hW : Is W w0.heap.size 132 (buck r s LV T')) => level_any w0.heap.size r s LV T' nw W hW r0 r1 s1 l0 l1 f2 g3 g4
            rw [hag.1, hag.2] at hlev
            have HCT := hide hct; have HTK := hide htake; have HLEV := hide hlev
            clear hct htake hlev hag hLL f0 f1 htk
            have nb1 : b ≠ w0.heap.size := by omega
            have ng1 : b ≠ w0.heap.size + 1 := by omega
            have hgl := HG.out.lt
            have hbw : b < wr.heap.size := by omega
            have A1 := Lib.hid a1; have A2 := Lib.hid a2; have X0 := Lib.hid x0; have X1 := Lib.hid x1; have X2 := Lib.hid x2; have X3 := Lib.hid x3
            go_wp2_with fail
            refine Lin.wp_region_lin2 (turnsZ wr.heap.size 52 #[.int .u64 0, .int .u64 0, .int .u64 0, .int .u64 0] #[.int .u64 r, .int .u64 s, .int .u64 LV, .int .u64 T']) (n := 122) (fun slotq => match slotq with | 82 => Lin.Spec.val (.agg #[.int .u64 r, .int .u64 s, .int .u64 L, .int .u64 T]) | 83 => Lin.Spec.val (.slice (some ⟨b, off, none⟩) l.length c) | 84 => Lin.Spec.val (.int .i64 (k : Int)) | 85 => Lin.Spec.val (.pointer (some ⟨b, off + k * 3, none⟩)) | 86 => Lin.Spec.val (.pointer (some ⟨b, off + k * 3 + 1, none⟩)) | 87 => Lin.Spec.val (.int .u64 na) | 88 => Lin.Spec.val (.slice (some ⟨b, off, none⟩) l.length c) | 89 => Lin.Spec.val (.int .i64 (k : Int)) | 90 => Lin.Spec.val (.pointer (some ⟨b, off + k * 3, none⟩)) | 91 => Lin.Spec.val (.pointer (some ⟨b, off + k * 3 + 2, none⟩)) | 92 => Lin.Spec.val (.int .u64 nw) | 93 => Lin.Spec.val (.tuple #[.agg #[.int .u64 r, .int .u64 s, .int .u64 LV, .int .u64 T'], .bool true]) | 81 => Lin.Spec.val (.tuple #[.agg #[.int .u64 r, .int .u64 s, .int .u64 LV, .int .u64 T'], .bool true]) | 94 => Lin.Spec.val (.agg #[.int .u64 r, .int .u64 s, .int .u64 LV, .int .u64 T']) | 95 => Lin.Spec.val (.bool true) | 12 => specZ wr.heap.size #[.int .u64 0, .int .u64 0, .int .u64 0, .int .u64 0] #[.int .u64 r, .int .u64 s, .int .u64 LV, .int .u64 T'] | 13 => Lin.Spec.val (.bool true) | _ => Lin.Spec.any) (fun iq => match iq with | 16 => 12 | _ => 0) (fun iq => match iq with | 16 => specN wr.heap.size #[.int .u64 0, .int .u64 0, .int .u64 0, .int .u64 0] #[.int .u64 r, .int .u64 s, .int .u64 LV, .int .u64 T'] | _ => Lin.Spec.any) (by kernel_rfl) rfl (by kernel_rfl) ⟨?_, ?_, ?_, ?_, ?_, ?_, ?_, ?_, ?_, ?_, ?_, ?_, ?_, ?_, ?_, ?_, ?_, ?_, trivial⟩ ?_
            · intro ρ wq hb ho hc hd
              have hC : ∀ v, ρ (.const v) = v := fun v => hc _ (by intro t e; cases e)
              have hF : ∀ f, ρ (.func f) = .func (.func f) #[] #[] := fun f => hc _ (by intro t e; cases e)
              have h10 : ρ (.tmp 10) = .pointer (some ⟨w0.heap.size + 1, 0, none⟩) := ho 10 (by kernel_rfl)
              have hbq := Lin.Turns.below hb (Nat.le_refl _)
              have q0 := (hbq.cell (p := ⟨w0.heap.size + 1, 0, none⟩) hgl).trans X0.out
              have q1 := (hbq.cell (p := ⟨w0.heap.size + 1, 1, none⟩) hgl).trans X1.out
              have q2 := (hbq.cell (p := ⟨w0.heap.size + 1, 2, none⟩) hgl).trans X2.out
              have q3 := (hbq.cell (p := ⟨w0.heap.size + 1, 3, none⟩) hgl).trans X3.out
              exact Lin.Runs.value (turnsZ wr.heap.size 52 #[.int .u64 0, .int .u64 0, .int .u64 0, .int .u64 0] #[.int .u64 r, .int .u64 s, .int .u64 LV, .int .u64 T']) (v := .agg #[.int .u64 r, .int .u64 s, .int .u64 L, .int .u64 T]) (by simp [execOp, go_sem, hC, hF, h10, q0, q1, q2, q3]) rfl
            · intro ρ wq hb ho hc hd
              have hC : ∀ v, ρ (.const v) = v := fun v => hc _ (by intro t e; cases e)
              have hF : ∀ f, ρ (.func f) = .func (.func f) #[] #[] := fun f => hc _ (by intro t e; cases e)
              have h2 : ρ (.tmp 2) = .slice (some ⟨b, off, none⟩) l.length c := ho 2 (by kernel_rfl)
              exact Lin.Runs.value (turnsZ wr.heap.size 52 #[.int .u64 0, .int .u64 0, .int .u64 0, .int .u64 0] #[.int .u64 r, .int .u64 s, .int .u64 LV, .int .u64 T']) (Lin.exec_move rfl) h2
            · intro ρ wq hb ho hc hd
              have hC : ∀ v, ρ (.const v) = v := fun v => hc _ (by intro t e; cases e)
              have hF : ∀ f, ρ (.func f) = .func (.func f) #[] #[] := fun f => hc _ (by intro t e; cases e)
              have h11 : ρ (.tmp 11) = .int .i64 (k : Int) := ho 11 (by kernel_rfl)
              exact Lin.Runs.value (turnsZ wr.heap.size 52 #[.int .u64 0, .int .u64 0, .int .u64 0, .int .u64 0] #[.int .u64 r, .int .u64 s, .int .u64 LV, .int .u64 T']) (Lin.exec_move rfl) h11
            · intro ρ wq hb ho hc hd
              have hC : ∀ v, ρ (.const v) = v := fun v => hc _ (by intro t e; cases e)
              have hF : ∀ f, ρ (.func f) = .func (.func f) #[] #[] := fun f => hc _ (by intro t e; cases e)
              have h83 : ρ (.tmp 83) = .slice (some ⟨b, off, none⟩) l.length c := hd 83 (by kernel_rfl)
              have h84 : ρ (.tmp 84) = .int .i64 (k : Int) := hd 84 (by kernel_rfl)
              exact Lin.Runs.value (turnsZ wr.heap.size 52 #[.int .u64 0, .int .u64 0, .int .u64 0, .int .u64 0] #[.int .u64 r, .int .u64 s, .int .u64 LV, .int .u64 T']) (v := .pointer (some ⟨b, off + k * 3, none⟩)) (by simp [execOp, go_sem, hC, hF, h83, h84, i0, i1]) rfl
            · intro ρ wq hb ho hc hd
              have hC : ∀ v, ρ (.const v) = v := fun v => hc _ (by intro t e; cases e)
              have hF : ∀ f, ρ (.func f) = .func (.func f) #[] #[] := fun f => hc _ (by intro t e; cases e)
              have h85 : ρ (.tmp 85) = .pointer (some ⟨b, off + k * 3, none⟩) := hd 85 (by kernel_rfl)
              exact Lin.Runs.value (turnsZ wr.heap.size 52 #[.int .u64 0, .int .u64 0, .int .u64 0, .int .u64 0] #[.int .u64 r, .int .u64 s, .int .u64 LV, .int .u64 T']) (v := .pointer (some ⟨b, off + k * 3 + 1, none⟩)) (by simp [execOp, go_sem, hC, hF, h85]) rfl
            · intro ρ wq hb ho hc hd
              have hC : ∀ v, ρ (.const v) = v := fun v => hc _ (by intro t e; cases e)
              have hF : ∀ f, ρ (.func f) = .func (.func f) #[] #[] := fun f => hc _ (by intro t e; cases e)
              have h86 : ρ (.tmp 86) = .pointer (some ⟨b, off + k * 3 + 1, none⟩) := hd 86 (by kernel_rfl)
              have hbq := Lin.Turns.below hb (Nat.le_refl _)
              have q := (hbq.cell (p := ⟨b, off + k * 3 + 1, none⟩) hbw).trans A1.out
              exact Lin.Runs.value (turnsZ wr.heap.size 52 #[.int .u64 0, .int .u64 0, .int .u64 0, .int .u64 0] #[.int .u64 r, .int .u64 s, .int .u64 LV, .int .u64 T']) (v := .int .u64 na) (by simp [execOp, go_sem, hC, hF, h86, q]) rfl
            · intro ρ wq hb ho hc hd
              have hC : ∀ v, ρ (.const v) = v := fun v => hc _ (by intro t e; cases e)
              have hF : ∀ f, ρ (.func f) = .func (.func f) #[] #[] := fun f => hc _ (by intro t e; cases e)
              have h2 : ρ (.tmp 2) = .slice (some ⟨b, off, none⟩) l.length c := ho 2 (by kernel_rfl)
              exact Lin.Runs.value (turnsZ wr.heap.size 52 #[.int .u64 0, .int .u64 0, .int .u64 0, .int .u64 0] #[.int .u64 r, .int .u64 s, .int .u64 LV, .int .u64 T']) (Lin.exec_move rfl) h2
            · intro ρ wq hb ho hc hd
              have hC : ∀ v, ρ (.const v) = v := fun v => hc _ (by intro t e; cases e)
              have hF : ∀ f, ρ (.func f) = .func (.func f) #[] #[] := fun f => hc _ (by intro t e; cases e)
              have h11 : ρ (.tmp 11) = .int .i64 (k : Int) := ho 11 (by kernel_rfl)
              exact Lin.Runs.value (turnsZ wr.heap.size 52 #[.int .u64 0, .int .u64 0, .int .u64 0, .int .u64 0] #[.int .u64 r, .int .u64 s, .int .u64 LV, .int .u64 T']) (Lin.exec_move rfl) h11
            · intro ρ wq hb ho hc hd
              have hC : ∀ v, ρ (.const v) = v := fun v => hc _ (by intro t e; cases e)
              have hF : ∀ f, ρ (.func f) = .func (.func f) #[] #[] := fun f => hc _ (by intro t e; cases e)
              have h88 : ρ (.tmp 88) = .slice (some ⟨b, off, none⟩) l.length c := hd 88 (by kernel_rfl)
              have h89 : ρ (.tmp 89) = .int .i64 (k : Int) := hd 89 (by kernel_rfl)
              exact Lin.Runs.value (turnsZ wr.heap.size 52 #[.int .u64 0, .int .u64 0, .int .u64 0, .int .u64 0] #[.int .u64 r, .int .u64 s, .int .u64 LV, .int .u64 T']) (v := .pointer (some ⟨b, off + k * 3, none⟩)) (by simp [execOp, go_sem, hC, hF, h88, h89, i0, i1]) rfl
            · intro ρ wq hb ho hc hd
              have hC : ∀ v, ρ (.const v) = v := fun v => hc _ (by intro t e; cases e)
              have hF : ∀ f, ρ (.func f) = .func (.func f) #[] #[] := fun f => hc _ (by intro t e; cases e)
              have h90 : ρ (.tmp 90) = .pointer (some ⟨b, off + k * 3, none⟩) := hd 90 (by kernel_rfl)
              exact Lin.Runs.value (turnsZ wr.heap.size 52 #[.int .u64 0, .int .u64 0, .int .u64 0, .int .u64 0] #[.int .u64 r, .int .u64 s, .int .u64 LV, .int .u64 T']) (v := .pointer (some ⟨b, off + k * 3 + 2, none⟩)) (by simp [execOp, go_sem, hC, hF, h90]) rfl
            · intro ρ wq hb ho hc hd
              have hC : ∀ v, ρ (.const v) = v := fun v => hc _ (by intro t e; cases e)
              have hF : ∀ f, ρ (.func f) = .func (.func f) #[] #[] := fun f => hc _ (by intro t e; cases e)
              have h91 : ρ (.tmp 91) = .pointer (some ⟨b, off + k * 3 + 2, none⟩) := hd 91 (by kernel_rfl)
              have hbq := Lin.Turns.below hb (Nat.le_refl _)
              have q := (hbq.cell (p := ⟨b, off + k * 3 + 2, none⟩) hbw).trans A2.out
              exact Lin.Runs.value (turnsZ wr.heap.size 52 #[.int .u64 0, .int .u64 0, .int .u64 0, .int .u64 0] #[.int .u64 r, .int .u64 s, .int .u64 LV, .int .u64 T']) (v := .int .u64 nw) (by simp [execOp, go_sem, hC, hF, h91, q]) rfl
            · intro ρ wq hb ho hc hd
              have hC : ∀ v, ρ (.const v) = v := fun v => hc _ (by intro t e; cases e)
              have hF : ∀ f, ρ (.func f) = .func (.func f) #[] #[] := fun f => hc _ (by intro t e; cases e)
              have h82 : ρ (.tmp 82) = .agg #[.int .u64 r, .int .u64 s, .int .u64 L, .int .u64 T] := hd 82 (by kernel_rfl)
              have h87 : ρ (.tmp 87) = .int .u64 na := hd 87 (by kernel_rfl)
              have h92 : ρ (.tmp 92) = .int .u64 nw := hd 92 (by kernel_rfl)
              refine Lin.Runs.call (turnsZ wr.heap.size 52 #[.int .u64 0, .int .u64 0, .int .u64 0, .int .u64 0] #[.int .u64 r, .int .u64 s, .int .u64 LV, .int .u64 T']) (f := 29) (args := #[.agg #[.int .u64 r, .int .u64 s, .int .u64 L, .int .u64 T], .int .u64 na, .int .u64 nw]) (by simp [execOp, go_sem, hC, hF, h82, h87, h92]) ?_
              exact (unhide HCT wq).mono fun e w9 ⟨he, hb9⟩ => ⟨_, he, Lin.Turns.keeps hb9, rfl⟩
            · intro ρ wq hb ho hc hd
              have hC : ∀ v, ρ (.const v) = v := fun v => hc _ (by intro t e; cases e)
              have hF : ∀ f, ρ (.func f) = .func (.func f) #[] #[] := fun f => hc _ (by intro t e; cases e)
              have h93 : ρ (.tmp 93) = .tuple #[.agg #[.int .u64 r, .int .u64 s, .int .u64 LV, .int .u64 T'], .bool true] := hd 93 (by kernel_rfl)
              exact Lin.Runs.value (turnsZ wr.heap.size 52 #[.int .u64 0, .int .u64 0, .int .u64 0, .int .u64 0] #[.int .u64 r, .int .u64 s, .int .u64 LV, .int .u64 T']) (Lin.exec_move rfl) h93
            · intro ρ wq hb ho hc hd
              have hC : ∀ v, ρ (.const v) = v := fun v => hc _ (by intro t e; cases e)
              have hF : ∀ f, ρ (.func f) = .func (.func f) #[] #[] := fun f => hc _ (by intro t e; cases e)
              have h81 : ρ (.tmp 81) = .tuple #[.agg #[.int .u64 r, .int .u64 s, .int .u64 LV, .int .u64 T'], .bool true] := hd 81 (by kernel_rfl)
              exact Lin.Runs.value (turnsZ wr.heap.size 52 #[.int .u64 0, .int .u64 0, .int .u64 0, .int .u64 0] #[.int .u64 r, .int .u64 s, .int .u64 LV, .int .u64 T']) (v := .agg #[.int .u64 r, .int .u64 s, .int .u64 LV, .int .u64 T']) (by simp [execOp, go_sem, hC, hF, h81]) rfl
            · intro ρ wq hb ho hc hd
              have hC : ∀ v, ρ (.const v) = v := fun v => hc _ (by intro t e; cases e)
              have hF : ∀ f, ρ (.func f) = .func (.func f) #[] #[] := fun f => hc _ (by intro t e; cases e)
              have h81 : ρ (.tmp 81) = .tuple #[.agg #[.int .u64 r, .int .u64 s, .int .u64 LV, .int .u64 T'], .bool true] := hd 81 (by kernel_rfl)
              exact Lin.Runs.value (turnsZ wr.heap.size 52 #[.int .u64 0, .int .u64 0, .int .u64 0, .int .u64 0] #[.int .u64 r, .int .u64 s, .int .u64 LV, .int .u64 T']) (v := .bool true) (by simp [execOp, go_sem, hC, hF, h81]) rfl
            · intro ρ wq hb ho hc hd
              have hC : ∀ v, ρ (.const v) = v := fun v => hc _ (by intro t e; cases e)
              have hF : ∀ f, ρ (.func f) = .func (.func f) #[] #[] := fun f => hc _ (by intro t e; cases e)
              exact Lin.Runs.made (v := .pointer (some ⟨wq.heap.size, 0, none⟩)) (w' := wq.alloc (.cells #[.int .u64 0, .int .u64 0, .int .u64 0, .int .u64 0] 52)) (by simp [execOp, go_sem, hC, hF]) (Lin.Turns.keeps ((Below.refl _ _).alloc (Nat.le_refl _) _)) ⟨_, rfl, hb.2.2.2.1, .inl (Is.new _ _ _)⟩
            · intro ρ wq hb ho hc hd
              have hC : ∀ v, ρ (.const v) = v := fun v => hc _ (by intro t e; cases e)
              obtain ⟨p, e12, hpB, hp⟩ := hd 12 (by kernel_rfl)
              have h94 : ρ (.tmp 94) = .agg #[.int .u64 r, .int .u64 s, .int .u64 LV, .int .u64 T'] := hd 94 (by kernel_rfl)
              show Lin.RunsW Try.prog _ (specN wr.heap.size #[.int .u64 0, .int .u64 0, .int .u64 0, .int .u64 0] #[.int .u64 r, .int .u64 s, .int .u64 LV, .int .u64 T']) (ρ (.tmp 12)) ρ wq
              have hcs : ∃ a0 a1 a2 a3, Is wq p 52 #[a0, a1, a2, a3] := by rcases hp with hp | hp <;> exact ⟨_, _, _, _, hp⟩
              obtain ⟨a0, a1, a2, a3, hcs⟩ := hcs
              have z0 := hcs.cell 0
              have z1 := hcs.cell 1
              have z2 := hcs.cell 2
              have z3 := hcs.cell 3
              have fz := hcs.free
              simp at z0 z1 z2 z3 fz
              refine Lin.RunsW.mk (w' := (World.setCell (World.setCell (World.setCell (World.setCell wq ⟨p, 0, none⟩ (.int .u64 r)) ⟨p, 1, none⟩ (.int .u64 s)) ⟨p, 2, none⟩ (.int .u64 LV)) ⟨p, 3, none⟩ (.int .u64 T'))) (by simp [execOp, go_sem, e12, h94, z0, z1, z2, z3, fz]) (turns_store hpB hp (put4 hcs _ _ _ _) (fun i hi => set4_other hi _ _ _ _) rfl rfl rfl (by simp [World.setCell])) ⟨p, e12, hpB, put4 hcs _ _ _ _⟩
            · intro ρ wq hb ho hc hd
              have hC : ∀ v, ρ (.const v) = v := fun v => hc _ (by intro t e; cases e)
              have hF : ∀ f, ρ (.func f) = .func (.func f) #[] #[] := fun f => hc _ (by intro t e; cases e)
              have h95 : ρ (.tmp 95) = .bool true := hd 95 (by kernel_rfl)
              exact Lin.Runs.value (turnsZ wr.heap.size 52 #[.int .u64 0, .int .u64 0, .int .u64 0, .int .u64 0] #[.int .u64 r, .int .u64 s, .int .u64 LV, .int .u64 T']) (Lin.exec_assign rfl) h95
            · intro vals w2 hr2 hv hw2
              have hb2 := Lin.Turns.below hr2 (Nat.le_refl _)
              obtain ⟨p, e12, hpw, hp⟩ := hw2 16 _ rfl rfl
              have e94 : vals 94 = .agg #[.int .u64 r, .int .u64 s, .int .u64 LV, .int .u64 T'] := hv 94 (by kernel_rfl)
              have e95 : vals 95 = .bool true := hv 95 (by kernel_rfl)
              have e13 : vals 13 = .bool true := hv 13 (by kernel_rfl)
              have e12' : vals 12 = .pointer (some ⟨p, 0, none⟩) := e12
              simp only [Lin.putAll, Option.getD_some]
              rw [e12', e13]
              have HG1 := Lib.hid (HG.out.below hb2 hgl)
              have HI1 := Lib.hid (HI.out.below hb2 HI.out.lt)
              have HBB := Lib.hid (HB.out.trans (hb2.mono HB.out.size))
              have d1 := (hb2.cell (p := ⟨b, off + k * 3 + 1, none⟩) hbw).trans A1.out
              have d2 := (hb2.cell (p := ⟨b, off + k * 3 + 2, none⟩) hbw).trans A2.out
              have p0 := hp.cell 0
              have p1 := hp.cell 1
              have p2 := hp.cell 2
              have p3 := hp.cell 3
              have fp := hp.free
              have lp := hp.lt
              have z0 := HG1.out.cell 0
              have z1 := HG1.out.cell 1
              have z2 := HG1.out.cell 2
              have z3 := HG1.out.cell 3
              have fz := HG1.out.free
              have lz := HG1.out.lt
              simp at p0 p1 p2 p3 fp z0 z1 z2 z3 fz
              have hpw2 : w.heap.size ≤ p := by have := HB.out.size; omega
              have hw1 : w.heap.size ≤ w0.heap.size + 1 := by omega
              have hpz : p ≠ w0.heap.size + 1 := by omega
              have hbp : b ≠ p := by omega
              have hx2 := (Below.setCell (p := ⟨(w0.heap.size + 1), 3, none⟩) (Below.setCell (p := ⟨(w0.heap.size + 1), 2, none⟩) (Below.setCell (p := ⟨(w0.heap.size + 1), 1, none⟩) (Below.setCell (p := ⟨(w0.heap.size + 1), 0, none⟩) HBB.out hw1 (.int .u64 r)) hw1 (.int .u64 s)) hw1 (.int .u64 LV)) hw1 (.int .u64 T'))
              have hi2 := (Is.other (p := ⟨(w0.heap.size + 1), 3, none⟩) (Is.other (p := ⟨(w0.heap.size + 1), 2, none⟩) (Is.other (p := ⟨(w0.heap.size + 1), 1, none⟩) (Is.other (p := ⟨(w0.heap.size + 1), 0, none⟩) HI1.out (by show w0.heap.size ≠ (w0.heap.size + 1); omega) (.int .u64 r)) (by show w0.heap.size ≠ (w0.heap.size + 1); omega) (.int .u64 s)) (by show w0.heap.size ≠ (w0.heap.size + 1); omega) (.int .u64 LV)) (by show w0.heap.size ≠ (w0.heap.size + 1); omega) (.int .u64 T'))
              have hg2 := (Is.put (Is.put (Is.put (Is.put HG1.out 0 (.int .u64 r)) 1 (.int .u64 s)) 2 (.int .u64 LV)) 3 (.int .u64 T'))
              simp only [List.setIfInBounds_toArray, List.set_cons_zero, List.set_cons_succ] at hg2
              have HX2 := Lib.hid hx2; have HI2 := Lib.hid hi2; have HG2 := Lib.hid hg2
              clear hv hb2 hr2 hw2 hp e12 e12' e13 e94 e95 hx2 hi2 hg2 HG1 HI1 a0 a1 a2 x0 x1 x2 x3 y0 y1 y2 y3
              go_simp
              generalize vals = vv
              go_wp2_with fail
              generalize hX : (World.setCell (World.setCell (World.setCell (World.setCell w2 ⟨(w0.heap.size + 1), 0, none⟩ (.int .u64 r)) ⟨(w0.heap.size + 1), 1, none⟩ (.int .u64 s)) ⟨(w0.heap.size + 1), 2, none⟩ (.int .u64 LV)) ⟨(w0.heap.size + 1), 3, none⟩ (.int .u64 T')) = X at *
              have hXX := Lib.hid hX
              clear hX
              have e1 : X.cell? ⟨b, off + k * 3 + 1, none⟩ = some (.int .u64 na) := (HX2.out.cell (p := ⟨b, _, none⟩) hbl).trans ((HBB.out.cell (p := ⟨b, _, none⟩) hbl).symm.trans d1)
              have e2 : X.cell? ⟨b, off + k * 3 + 2, none⟩ = some (.int .u64 nw) := (HX2.out.cell (p := ⟨b, _, none⟩) hbl).trans ((HBB.out.cell (p := ⟨b, _, none⟩) hbl).symm.trans d2)
              clear d1 d2 p0 p1 p2 p3 fp lp z0 z1 z2 z3 fz lz
              have hbX : b < X.heap.size := by have := HI2.out.lt; omega
              go_region_held3 (fun w' => w'.cell? ⟨b, off + k * 3 + 1, none⟩ = some (.int .u64 na) ∧ w'.cell? ⟨b, off + k * 3 + 2, none⟩ = some (.int .u64 nw))
                (first
                  | go_keep
                  | (go_split_ands
                     refine ⟨?_, ?_⟩
                     · exact (World.cell?_of_block (hgr.block b (by show b < X.heap.size; omega) (by simp; omega))).trans (by assumption)
                     · exact (World.cell?_of_block (hgr.block b (by show b < X.heap.size; omega) (by simp; omega))).trans (by assumption)))
                (first | (go_at_call 26; refine (unhide HTK _ ?_).mono ?_; exact HI2.out; rintro e w3 ⟨rfl, hgr, hil⟩))
              have hgr2 := (HG2.out.drew).only hgr (by simp)
              have hbe := below_only (HX2.out.drew) hgr hz
              have HG3 := Lib.hid hgr2; have HI3 := Lib.hid hil; have HB3 := Lib.hid hbe
              have e3 : w3.cell? ⟨b, off + k * 3 + 2, none⟩ = some (.int .u64 nw) := (World.cell?_of_block (hgr.block b (by show b < X.heap.size; omega) (by simp; omega))).trans e2
              have q2 := hgr2.cell 2
              simp at q2
              have hgl3 := hgr2.lt
              have hbX3 : b < w3.heap.size := by have := hgr.size; have h9 : X.drew.heap.size = X.heap.size := rfl; omega
              clear hgr2 hbe hgr hil HG2 HI2 HX2 HTK e1 e2 hXX
              go_wp2_with fail
              go_region_held3 (fun w' => w'.cell? ⟨b, off + k * 3 + 2, none⟩ = some (.int .u64 nw) ∧ w'.cell? ⟨w0.heap.size + 1, 2, none⟩ = some (.int .u64 LV))
                (first
                  | go_keep
                  | (go_split_ands
                     refine ⟨?_, ?_⟩
                     · exact (World.cell?_of_block (hgr.block b (by show b < w3.heap.size; omega) (by simp; omega))).trans (by assumption)
                     · exact (World.cell?_of_block (hgr.block (w0.heap.size + 1) (by show w0.heap.size + 1 < w3.heap.size; omega) (by simp))).trans (by assumption)))
                (first | (go_at_call 27; refine (unhide HLEV _ ?_).mono ?_; exact HI3.out; rintro e w4 ⟨rfl, hgr, hil⟩))
              have hgr4 := (HG3.out.drew).only hgr (by simp)
              have hbe4 := below_only (HB3.out.drew) hgr hz
              have HG4 := Lib.hid hgr4; have HI4 := Lib.hid hil; have HB4 := Lib.hid hbe4
              clear hgr4 hbe4 hgr hil HG3 HI3 HB3 HLEV
              go_wp2_with fail
              go_roundw
              case rel => exact ⟨k + 1, LV, T', by omega, by go_num, l0, l1, f2, HI4.out, HG4.out, HB4.out⟩
              case measure => simp [intOf]; omega
          · have hct := fun (W : World) => rtake_no r s L T na nw W r0 r1 (by omega) s1 L0 L1 T0 g3 g4 g2 (by omega)
            have htake := fun (W : World) (hW : Is W w0.heap.size 132 (buck r s L T)) => take_no w0.heap.size r s L T na nw W hW r0 r1 s1 L0 L1 T0 g3 g4 g2 (by omega)
            obtain ⟨f0, f1⟩ := fill_bd (t := T) (now := nw) r0 L0 L1
            have f2 := fillT_bd T0 g3
            have hag := fill_again r s (fillL r s L T nw) T nw
            unfold bval at hct
            generalize fillL r s L T nw = L' at *
            generalize fillT T nw = T' at *
            have l0 : 0 ≤ L' := by omega
            have l1 : L' ≤ s := by omega
            generalize hLL : L' = LV at *
            have hlev := fun (W : World) (hW : Is W w0.heap.size 132 (buck r s LV T')) => level_any w0.heap.size r s LV T' nw W hW r0 r1 s1 l0 l1 f2 g3 g4
            rw [hag.1, hag.2] at hlev
            have HCT := hide hct; have HTK := hide htake; have HLEV := hide hlev
            clear hct htake hlev hag hLL f0 f1 htk
            have nb1 : b ≠ w0.heap.size := by omega
            have ng1 : b ≠ w0.heap.size + 1 := by omega
            have hgl := HG.out.lt
            have hbw : b < wr.heap.size := by omega
            have A1 := Lib.hid a1; have A2 := Lib.hid a2; have X0 := Lib.hid x0; have X1 := Lib.hid x1; have X2 := Lib.hid x2; have X3 := Lib.hid x3
            go_wp2_with fail
            refine Lin.wp_region_lin2 (turnsZ wr.heap.size 52 #[.int .u64 0, .int .u64 0, .int .u64 0, .int .u64 0] #[.int .u64 r, .int .u64 s, .int .u64 LV, .int .u64 T']) (n := 122) (fun slotq => match slotq with | 82 => Lin.Spec.val (.agg #[.int .u64 r, .int .u64 s, .int .u64 L, .int .u64 T]) | 83 => Lin.Spec.val (.slice (some ⟨b, off, none⟩) l.length c) | 84 => Lin.Spec.val (.int .i64 (k : Int)) | 85 => Lin.Spec.val (.pointer (some ⟨b, off + k * 3, none⟩)) | 86 => Lin.Spec.val (.pointer (some ⟨b, off + k * 3 + 1, none⟩)) | 87 => Lin.Spec.val (.int .u64 na) | 88 => Lin.Spec.val (.slice (some ⟨b, off, none⟩) l.length c) | 89 => Lin.Spec.val (.int .i64 (k : Int)) | 90 => Lin.Spec.val (.pointer (some ⟨b, off + k * 3, none⟩)) | 91 => Lin.Spec.val (.pointer (some ⟨b, off + k * 3 + 2, none⟩)) | 92 => Lin.Spec.val (.int .u64 nw) | 93 => Lin.Spec.val (.tuple #[.agg #[.int .u64 r, .int .u64 s, .int .u64 LV, .int .u64 T'], .bool false]) | 81 => Lin.Spec.val (.tuple #[.agg #[.int .u64 r, .int .u64 s, .int .u64 LV, .int .u64 T'], .bool false]) | 94 => Lin.Spec.val (.agg #[.int .u64 r, .int .u64 s, .int .u64 LV, .int .u64 T']) | 95 => Lin.Spec.val (.bool false) | 12 => specZ wr.heap.size #[.int .u64 0, .int .u64 0, .int .u64 0, .int .u64 0] #[.int .u64 r, .int .u64 s, .int .u64 LV, .int .u64 T'] | 13 => Lin.Spec.val (.bool false) | _ => Lin.Spec.any) (fun iq => match iq with | 16 => 12 | _ => 0) (fun iq => match iq with | 16 => specN wr.heap.size #[.int .u64 0, .int .u64 0, .int .u64 0, .int .u64 0] #[.int .u64 r, .int .u64 s, .int .u64 LV, .int .u64 T'] | _ => Lin.Spec.any) (by kernel_rfl) rfl (by kernel_rfl) ⟨?_, ?_, ?_, ?_, ?_, ?_, ?_, ?_, ?_, ?_, ?_, ?_, ?_, ?_, ?_, ?_, ?_, ?_, trivial⟩ ?_
            · intro ρ wq hb ho hc hd
              have hC : ∀ v, ρ (.const v) = v := fun v => hc _ (by intro t e; cases e)
              have hF : ∀ f, ρ (.func f) = .func (.func f) #[] #[] := fun f => hc _ (by intro t e; cases e)
              have h10 : ρ (.tmp 10) = .pointer (some ⟨w0.heap.size + 1, 0, none⟩) := ho 10 (by kernel_rfl)
              have hbq := Lin.Turns.below hb (Nat.le_refl _)
              have q0 := (hbq.cell (p := ⟨w0.heap.size + 1, 0, none⟩) hgl).trans X0.out
              have q1 := (hbq.cell (p := ⟨w0.heap.size + 1, 1, none⟩) hgl).trans X1.out
              have q2 := (hbq.cell (p := ⟨w0.heap.size + 1, 2, none⟩) hgl).trans X2.out
              have q3 := (hbq.cell (p := ⟨w0.heap.size + 1, 3, none⟩) hgl).trans X3.out
              exact Lin.Runs.value (turnsZ wr.heap.size 52 #[.int .u64 0, .int .u64 0, .int .u64 0, .int .u64 0] #[.int .u64 r, .int .u64 s, .int .u64 LV, .int .u64 T']) (v := .agg #[.int .u64 r, .int .u64 s, .int .u64 L, .int .u64 T]) (by simp [execOp, go_sem, hC, hF, h10, q0, q1, q2, q3]) rfl
            · intro ρ wq hb ho hc hd
              have hC : ∀ v, ρ (.const v) = v := fun v => hc _ (by intro t e; cases e)
              have hF : ∀ f, ρ (.func f) = .func (.func f) #[] #[] := fun f => hc _ (by intro t e; cases e)
              have h2 : ρ (.tmp 2) = .slice (some ⟨b, off, none⟩) l.length c := ho 2 (by kernel_rfl)
              exact Lin.Runs.value (turnsZ wr.heap.size 52 #[.int .u64 0, .int .u64 0, .int .u64 0, .int .u64 0] #[.int .u64 r, .int .u64 s, .int .u64 LV, .int .u64 T']) (Lin.exec_move rfl) h2
            · intro ρ wq hb ho hc hd
              have hC : ∀ v, ρ (.const v) = v := fun v => hc _ (by intro t e; cases e)
              have hF : ∀ f, ρ (.func f) = .func (.func f) #[] #[] := fun f => hc _ (by intro t e; cases e)
              have h11 : ρ (.tmp 11) = .int .i64 (k : Int) := ho 11 (by kernel_rfl)
              exact Lin.Runs.value (turnsZ wr.heap.size 52 #[.int .u64 0, .int .u64 0, .int .u64 0, .int .u64 0] #[.int .u64 r, .int .u64 s, .int .u64 LV, .int .u64 T']) (Lin.exec_move rfl) h11
            · intro ρ wq hb ho hc hd
              have hC : ∀ v, ρ (.const v) = v := fun v => hc _ (by intro t e; cases e)
              have hF : ∀ f, ρ (.func f) = .func (.func f) #[] #[] := fun f => hc _ (by intro t e; cases e)
              have h83 : ρ (.tmp 83) = .slice (some ⟨b, off, none⟩) l.length c := hd 83 (by kernel_rfl)
              have h84 : ρ (.tmp 84) = .int .i64 (k : Int) := hd 84 (by kernel_rfl)
              exact Lin.Runs.value (turnsZ wr.heap.size 52 #[.int .u64 0, .int .u64 0, .int .u64 0, .int .u64 0] #[.int .u64 r, .int .u64 s, .int .u64 LV, .int .u64 T']) (v := .pointer (some ⟨b, off + k * 3, none⟩)) (by simp [execOp, go_sem, hC, hF, h83, h84, i0, i1]) rfl
            · intro ρ wq hb ho hc hd
              have hC : ∀ v, ρ (.const v) = v := fun v => hc _ (by intro t e; cases e)
              have hF : ∀ f, ρ (.func f) = .func (.func f) #[] #[] := fun f => hc _ (by intro t e; cases e)
              have h85 : ρ (.tmp 85) = .pointer (some ⟨b, off + k * 3, none⟩) := hd 85 (by kernel_rfl)
              exact Lin.Runs.value (turnsZ wr.heap.size 52 #[.int .u64 0, .int .u64 0, .int .u64 0, .int .u64 0] #[.int .u64 r, .int .u64 s, .int .u64 LV, .int .u64 T']) (v := .pointer (some ⟨b, off + k * 3 + 1, none⟩)) (by simp [execOp, go_sem, hC, hF, h85]) rfl
            · intro ρ wq hb ho hc hd
              have hC : ∀ v, ρ (.const v) = v := fun v => hc _ (by intro t e; cases e)
              have hF : ∀ f, ρ (.func f) = .func (.func f) #[] #[] := fun f => hc _ (by intro t e; cases e)
              have h86 : ρ (.tmp 86) = .pointer (some ⟨b, off + k * 3 + 1, none⟩) := hd 86 (by kernel_rfl)
              have hbq := Lin.Turns.below hb (Nat.le_refl _)
              have q := (hbq.cell (p := ⟨b, off + k * 3 + 1, none⟩) hbw).trans A1.out
              exact Lin.Runs.value (turnsZ wr.heap.size 52 #[.int .u64 0, .int .u64 0, .int .u64 0, .int .u64 0] #[.int .u64 r, .int .u64 s, .int .u64 LV, .int .u64 T']) (v := .int .u64 na) (by simp [execOp, go_sem, hC, hF, h86, q]) rfl
            · intro ρ wq hb ho hc hd
              have hC : ∀ v, ρ (.const v) = v := fun v => hc _ (by intro t e; cases e)
              have hF : ∀ f, ρ (.func f) = .func (.func f) #[] #[] := fun f => hc _ (by intro t e; cases e)
              have h2 : ρ (.tmp 2) = .slice (some ⟨b, off, none⟩) l.length c := ho 2 (by kernel_rfl)
              exact Lin.Runs.value (turnsZ wr.heap.size 52 #[.int .u64 0, .int .u64 0, .int .u64 0, .int .u64 0] #[.int .u64 r, .int .u64 s, .int .u64 LV, .int .u64 T']) (Lin.exec_move rfl) h2
            · intro ρ wq hb ho hc hd
              have hC : ∀ v, ρ (.const v) = v := fun v => hc _ (by intro t e; cases e)
              have hF : ∀ f, ρ (.func f) = .func (.func f) #[] #[] := fun f => hc _ (by intro t e; cases e)
              have h11 : ρ (.tmp 11) = .int .i64 (k : Int) := ho 11 (by kernel_rfl)
              exact Lin.Runs.value (turnsZ wr.heap.size 52 #[.int .u64 0, .int .u64 0, .int .u64 0, .int .u64 0] #[.int .u64 r, .int .u64 s, .int .u64 LV, .int .u64 T']) (Lin.exec_move rfl) h11
            · intro ρ wq hb ho hc hd
              have hC : ∀ v, ρ (.const v) = v := fun v => hc _ (by intro t e; cases e)
              have hF : ∀ f, ρ (.func f) = .func (.func f) #[] #[] := fun f => hc _ (by intro t e; cases e)
              have h88 : ρ (.tmp 88) = .slice (some ⟨b, off, none⟩) l.length c := hd 88 (by kernel_rfl)
              have h89 : ρ (.tmp 89) = .int .i64 (k : Int) := hd 89 (by kernel_rfl)
              exact Lin.Runs.value (turnsZ wr.heap.size 52 #[.int .u64 0, .int .u64 0, .int .u64 0, .int .u64 0] #[.int .u64 r, .int .u64 s, .int .u64 LV, .int .u64 T']) (v := .pointer (some ⟨b, off + k * 3, none⟩)) (by simp [execOp, go_sem, hC, hF, h88, h89, i0, i1]) rfl
            · intro ρ wq hb ho hc hd
              have hC : ∀ v, ρ (.const v) = v := fun v => hc _ (by intro t e; cases e)
              have hF : ∀ f, ρ (.func f) = .func (.func f) #[] #[] := fun f => hc _ (by intro t e; cases e)
              have h90 : ρ (.tmp 90) = .pointer (some ⟨b, off + k * 3, none⟩) := hd 90 (by kernel_rfl)
              exact Lin.Runs.value (turnsZ wr.heap.size 52 #[.int .u64 0, .int .u64 0, .int .u64 0, .int .u64 0] #[.int .u64 r, .int .u64 s, .int .u64 LV, .int .u64 T']) (v := .pointer (some ⟨b, off + k * 3 + 2, none⟩)) (by simp [execOp, go_sem, hC, hF, h90]) rfl
            · intro ρ wq hb ho hc hd
              have hC : ∀ v, ρ (.const v) = v := fun v => hc _ (by intro t e; cases e)
              have hF : ∀ f, ρ (.func f) = .func (.func f) #[] #[] := fun f => hc _ (by intro t e; cases e)
              have h91 : ρ (.tmp 91) = .pointer (some ⟨b, off + k * 3 + 2, none⟩) := hd 91 (by kernel_rfl)
              have hbq := Lin.Turns.below hb (Nat.le_refl _)
              have q := (hbq.cell (p := ⟨b, off + k * 3 + 2, none⟩) hbw).trans A2.out
              exact Lin.Runs.value (turnsZ wr.heap.size 52 #[.int .u64 0, .int .u64 0, .int .u64 0, .int .u64 0] #[.int .u64 r, .int .u64 s, .int .u64 LV, .int .u64 T']) (v := .int .u64 nw) (by simp [execOp, go_sem, hC, hF, h91, q]) rfl
            · intro ρ wq hb ho hc hd
              have hC : ∀ v, ρ (.const v) = v := fun v => hc _ (by intro t e; cases e)
              have hF : ∀ f, ρ (.func f) = .func (.func f) #[] #[] := fun f => hc _ (by intro t e; cases e)
              have h82 : ρ (.tmp 82) = .agg #[.int .u64 r, .int .u64 s, .int .u64 L, .int .u64 T] := hd 82 (by kernel_rfl)
              have h87 : ρ (.tmp 87) = .int .u64 na := hd 87 (by kernel_rfl)
              have h92 : ρ (.tmp 92) = .int .u64 nw := hd 92 (by kernel_rfl)
              refine Lin.Runs.call (turnsZ wr.heap.size 52 #[.int .u64 0, .int .u64 0, .int .u64 0, .int .u64 0] #[.int .u64 r, .int .u64 s, .int .u64 LV, .int .u64 T']) (f := 29) (args := #[.agg #[.int .u64 r, .int .u64 s, .int .u64 L, .int .u64 T], .int .u64 na, .int .u64 nw]) (by simp [execOp, go_sem, hC, hF, h82, h87, h92]) ?_
              exact (unhide HCT wq).mono fun e w9 ⟨he, hb9⟩ => ⟨_, he, Lin.Turns.keeps hb9, rfl⟩
            · intro ρ wq hb ho hc hd
              have hC : ∀ v, ρ (.const v) = v := fun v => hc _ (by intro t e; cases e)
              have hF : ∀ f, ρ (.func f) = .func (.func f) #[] #[] := fun f => hc _ (by intro t e; cases e)
              have h93 : ρ (.tmp 93) = .tuple #[.agg #[.int .u64 r, .int .u64 s, .int .u64 LV, .int .u64 T'], .bool false] := hd 93 (by kernel_rfl)
              exact Lin.Runs.value (turnsZ wr.heap.size 52 #[.int .u64 0, .int .u64 0, .int .u64 0, .int .u64 0] #[.int .u64 r, .int .u64 s, .int .u64 LV, .int .u64 T']) (Lin.exec_move rfl) h93
            · intro ρ wq hb ho hc hd
              have hC : ∀ v, ρ (.const v) = v := fun v => hc _ (by intro t e; cases e)
              have hF : ∀ f, ρ (.func f) = .func (.func f) #[] #[] := fun f => hc _ (by intro t e; cases e)
              have h81 : ρ (.tmp 81) = .tuple #[.agg #[.int .u64 r, .int .u64 s, .int .u64 LV, .int .u64 T'], .bool false] := hd 81 (by kernel_rfl)
              exact Lin.Runs.value (turnsZ wr.heap.size 52 #[.int .u64 0, .int .u64 0, .int .u64 0, .int .u64 0] #[.int .u64 r, .int .u64 s, .int .u64 LV, .int .u64 T']) (v := .agg #[.int .u64 r, .int .u64 s, .int .u64 LV, .int .u64 T']) (by simp [execOp, go_sem, hC, hF, h81]) rfl
            · intro ρ wq hb ho hc hd
              have hC : ∀ v, ρ (.const v) = v := fun v => hc _ (by intro t e; cases e)
              have hF : ∀ f, ρ (.func f) = .func (.func f) #[] #[] := fun f => hc _ (by intro t e; cases e)
              have h81 : ρ (.tmp 81) = .tuple #[.agg #[.int .u64 r, .int .u64 s, .int .u64 LV, .int .u64 T'], .bool false] := hd 81 (by kernel_rfl)
              exact Lin.Runs.value (turnsZ wr.heap.size 52 #[.int .u64 0, .int .u64 0, .int .u64 0, .int .u64 0] #[.int .u64 r, .int .u64 s, .int .u64 LV, .int .u64 T']) (v := .bool false) (by simp [execOp, go_sem, hC, hF, h81]) rfl
            · intro ρ wq hb ho hc hd
              have hC : ∀ v, ρ (.const v) = v := fun v => hc _ (by intro t e; cases e)
              have hF : ∀ f, ρ (.func f) = .func (.func f) #[] #[] := fun f => hc _ (by intro t e; cases e)
              exact Lin.Runs.made (v := .pointer (some ⟨wq.heap.size, 0, none⟩)) (w' := wq.alloc (.cells #[.int .u64 0, .int .u64 0, .int .u64 0, .int .u64 0] 52)) (by simp [execOp, go_sem, hC, hF]) (Lin.Turns.keeps ((Below.refl _ _).alloc (Nat.le_refl _) _)) ⟨_, rfl, hb.2.2.2.1, .inl (Is.new _ _ _)⟩
            · intro ρ wq hb ho hc hd
              have hC : ∀ v, ρ (.const v) = v := fun v => hc _ (by intro t e; cases e)
              obtain ⟨p, e12, hpB, hp⟩ := hd 12 (by kernel_rfl)
              have h94 : ρ (.tmp 94) = .agg #[.int .u64 r, .int .u64 s, .int .u64 LV, .int .u64 T'] := hd 94 (by kernel_rfl)
              show Lin.RunsW Try.prog _ (specN wr.heap.size #[.int .u64 0, .int .u64 0, .int .u64 0, .int .u64 0] #[.int .u64 r, .int .u64 s, .int .u64 LV, .int .u64 T']) (ρ (.tmp 12)) ρ wq
              have hcs : ∃ a0 a1 a2 a3, Is wq p 52 #[a0, a1, a2, a3] := by rcases hp with hp | hp <;> exact ⟨_, _, _, _, hp⟩
              obtain ⟨a0, a1, a2, a3, hcs⟩ := hcs
              have z0 := hcs.cell 0
              have z1 := hcs.cell 1
              have z2 := hcs.cell 2
              have z3 := hcs.cell 3
              have fz := hcs.free
              simp at z0 z1 z2 z3 fz
              refine Lin.RunsW.mk (w' := (World.setCell (World.setCell (World.setCell (World.setCell wq ⟨p, 0, none⟩ (.int .u64 r)) ⟨p, 1, none⟩ (.int .u64 s)) ⟨p, 2, none⟩ (.int .u64 LV)) ⟨p, 3, none⟩ (.int .u64 T'))) (by simp [execOp, go_sem, e12, h94, z0, z1, z2, z3, fz]) (turns_store hpB hp (put4 hcs _ _ _ _) (fun i hi => set4_other hi _ _ _ _) rfl rfl rfl (by simp [World.setCell])) ⟨p, e12, hpB, put4 hcs _ _ _ _⟩
            · intro ρ wq hb ho hc hd
              have hC : ∀ v, ρ (.const v) = v := fun v => hc _ (by intro t e; cases e)
              have hF : ∀ f, ρ (.func f) = .func (.func f) #[] #[] := fun f => hc _ (by intro t e; cases e)
              have h95 : ρ (.tmp 95) = .bool false := hd 95 (by kernel_rfl)
              exact Lin.Runs.value (turnsZ wr.heap.size 52 #[.int .u64 0, .int .u64 0, .int .u64 0, .int .u64 0] #[.int .u64 r, .int .u64 s, .int .u64 LV, .int .u64 T']) (Lin.exec_assign rfl) h95
            · intro vals w2 hr2 hv hw2
              have hb2 := Lin.Turns.below hr2 (Nat.le_refl _)
              obtain ⟨p, e12, hpw, hp⟩ := hw2 16 _ rfl rfl
              have e94 : vals 94 = .agg #[.int .u64 r, .int .u64 s, .int .u64 LV, .int .u64 T'] := hv 94 (by kernel_rfl)
              have e95 : vals 95 = .bool false := hv 95 (by kernel_rfl)
              have e13 : vals 13 = .bool false := hv 13 (by kernel_rfl)
              have e12' : vals 12 = .pointer (some ⟨p, 0, none⟩) := e12
              simp only [Lin.putAll, Option.getD_some]
              rw [e12', e13]
              have HG1 := Lib.hid (HG.out.below hb2 hgl)
              have HI1 := Lib.hid (HI.out.below hb2 HI.out.lt)
              have HBB := Lib.hid (HB.out.trans (hb2.mono HB.out.size))
              have d1 := (hb2.cell (p := ⟨b, off + k * 3 + 1, none⟩) hbw).trans A1.out
              have d2 := (hb2.cell (p := ⟨b, off + k * 3 + 2, none⟩) hbw).trans A2.out
              have p0 := hp.cell 0
              have p1 := hp.cell 1
              have p2 := hp.cell 2
              have p3 := hp.cell 3
              have fp := hp.free
              have lp := hp.lt
              have z0 := HG1.out.cell 0
              have z1 := HG1.out.cell 1
              have z2 := HG1.out.cell 2
              have z3 := HG1.out.cell 3
              have fz := HG1.out.free
              have lz := HG1.out.lt
              simp at p0 p1 p2 p3 fp z0 z1 z2 z3 fz
              have hpw2 : w.heap.size ≤ p := by have := HB.out.size; omega
              have hw1 : w.heap.size ≤ w0.heap.size + 1 := by omega
              have hpz : p ≠ w0.heap.size + 1 := by omega
              have hbp : b ≠ p := by omega
              have hx2 := (Below.setCell (p := ⟨(w0.heap.size + 1), 3, none⟩) (Below.setCell (p := ⟨(w0.heap.size + 1), 2, none⟩) (Below.setCell (p := ⟨(w0.heap.size + 1), 1, none⟩) (Below.setCell (p := ⟨(w0.heap.size + 1), 0, none⟩) HBB.out hw1 (.int .u64 r)) hw1 (.int .u64 s)) hw1 (.int .u64 LV)) hw1 (.int .u64 T'))
              have hi2 := (Is.other (p := ⟨(w0.heap.size + 1), 3, none⟩) (Is.other (p := ⟨(w0.heap.size + 1), 2, none⟩) (Is.other (p := ⟨(w0.heap.size + 1), 1, none⟩) (Is.other (p := ⟨(w0.heap.size + 1), 0, none⟩) HI1.out (by show w0.heap.size ≠ (w0.heap.size + 1); omega) (.int .u64 r)) (by show w0.heap.size ≠ (w0.heap.size + 1); omega) (.int .u64 s)) (by show w0.heap.size ≠ (w0.heap.size + 1); omega) (.int .u64 LV)) (by show w0.heap.size ≠ (w0.heap.size + 1); omega) (.int .u64 T'))
              have hg2 := (Is.put (Is.put (Is.put (Is.put HG1.out 0 (.int .u64 r)) 1 (.int .u64 s)) 2 (.int .u64 LV)) 3 (.int .u64 T'))
              simp only [List.setIfInBounds_toArray, List.set_cons_zero, List.set_cons_succ] at hg2
              have HX2 := Lib.hid hx2; have HI2 := Lib.hid hi2; have HG2 := Lib.hid hg2
              clear hv hb2 hr2 hw2 hp e12 e12' e13 e94 e95 hx2 hi2 hg2 HG1 HI1 a0 a1 a2 x0 x1 x2 x3 y0 y1 y2 y3
              go_simp
              generalize vals = vv
              go_wp2_with fail
              generalize hX : (World.setCell (World.setCell (World.setCell (World.setCell w2 ⟨(w0.heap.size + 1), 0, none⟩ (.int .u64 r)) ⟨(w0.heap.size + 1), 1, none⟩ (.int .u64 s)) ⟨(w0.heap.size + 1), 2, none⟩ (.int .u64 LV)) ⟨(w0.heap.size + 1), 3, none⟩ (.int .u64 T')) = X at *
              have hXX := Lib.hid hX
              clear hX
              have e1 : X.cell? ⟨b, off + k * 3 + 1, none⟩ = some (.int .u64 na) := (HX2.out.cell (p := ⟨b, _, none⟩) hbl).trans ((HBB.out.cell (p := ⟨b, _, none⟩) hbl).symm.trans d1)
              have e2 : X.cell? ⟨b, off + k * 3 + 2, none⟩ = some (.int .u64 nw) := (HX2.out.cell (p := ⟨b, _, none⟩) hbl).trans ((HBB.out.cell (p := ⟨b, _, none⟩) hbl).symm.trans d2)
              clear d1 d2 p0 p1 p2 p3 fp lp z0 z1 z2 z3 fz lz
              have hbX : b < X.heap.size := by have := HI2.out.lt; omega
              go_region_held3 (fun w' => w'.cell? ⟨b, off + k * 3 + 1, none⟩ = some (.int .u64 na) ∧ w'.cell? ⟨b, off + k * 3 + 2, none⟩ = some (.int .u64 nw))
                (first
                  | go_keep
                  | (go_split_ands
                     refine ⟨?_, ?_⟩
                     · exact (World.cell?_of_block (hgr.block b (by show b < X.heap.size; omega) (by simp; omega))).trans (by assumption)
                     · exact (World.cell?_of_block (hgr.block b (by show b < X.heap.size; omega) (by simp; omega))).trans (by assumption)))
                (first | (go_at_call 26; refine (unhide HTK _ ?_).mono ?_; exact HI2.out; rintro e w3 ⟨rfl, hgr, hil⟩))
              have hgr2 := (HG2.out.drew).only hgr (by simp)
              have hbe := below_only (HX2.out.drew) hgr hz
              have HG3 := Lib.hid hgr2; have HI3 := Lib.hid hil; have HB3 := Lib.hid hbe
              have e3 : w3.cell? ⟨b, off + k * 3 + 2, none⟩ = some (.int .u64 nw) := (World.cell?_of_block (hgr.block b (by show b < X.heap.size; omega) (by simp; omega))).trans e2
              have q2 := hgr2.cell 2
              simp at q2
              have hgl3 := hgr2.lt
              have hbX3 : b < w3.heap.size := by have := hgr.size; have h9 : X.drew.heap.size = X.heap.size := rfl; omega
              clear hgr2 hbe hgr hil HG2 HI2 HX2 HTK e1 e2 hXX
              go_wp2_with fail
              go_region_held3 (fun w' => w'.cell? ⟨b, off + k * 3 + 2, none⟩ = some (.int .u64 nw) ∧ w'.cell? ⟨w0.heap.size + 1, 2, none⟩ = some (.int .u64 LV))
                (first
                  | go_keep
                  | (go_split_ands
                     refine ⟨?_, ?_⟩
                     · exact (World.cell?_of_block (hgr.block b (by show b < w3.heap.size; omega) (by simp; omega))).trans (by assumption)
                     · exact (World.cell?_of_block (hgr.block (w0.heap.size + 1) (by show w0.heap.size + 1 < w3.heap.size; omega) (by simp))).trans (by assumption)))
                (first | (go_at_call 27; refine (unhide HLEV _ ?_).mono ?_; exact HI3.out; rintro e w4 ⟨rfl, hgr, hil⟩))
              have hgr4 := (HG3.out.drew).only hgr (by simp)
              have hbe4 := below_only (HB3.out.drew) hgr hz
              have HG4 := Lib.hid hgr4; have HI4 := Lib.hid hil; have HB4 := Lib.hid hbe4
              clear hgr4 hbe4 hgr hil HG3 HI3 HB3 HLEV
              go_wp2_with fail
              go_roundw
              case rel => exact ⟨k + 1, LV, T', by omega, by go_num, l0, l1, f2, HI4.out, HG4.out, HB4.out⟩
              case measure => simp [intOf]; omega
      · go_wp2_with fail
        refine (awake43 _).mono ?_
        rintro e w3 ⟨rfl, hb3⟩
        go_wp2_with fail
        go_ret
        exact ⟨rfl, HB.out.trans (hb3.mono HB.out.size)⟩
    · go_wp2_with fail
      refine (awake43 _).mono ?_
      rintro e w3 ⟨rfl, hb3⟩
      go_wp2_with fail
      go_ret
      exact ⟨rfl, HB.out.trans (hb3.mono HB.out.size)⟩

theorem walk (A : Option Addr) (c : Nat) (l : List MAct) (r s : Int) (w : World) (h : MActs w A l) (hm : l.length ≤ maxLen) (hw : ∀ k, 0 ≤ (mat l k).n ∧ (mat l k).n ≤ 18446744073709551615 ∧ 0 ≤ (mat l k).now ∧ (mat l k).now ≤ 18446744073709551615)
    (w0 : (Lit.int .u64 r).wf = true) (w1 : (Lit.int .u64 s).wf = true) :
    Calls Try.prog 5 #[.int .u64 r, .int .u64 s, .slice A l.length c] w fun e w' => e = .returned (.bool true) ∧ Below w.heap.size w w' := by
  obtain ⟨r0, r1⟩ := bounds_u64 w0
  obtain ⟨s0, s1⟩ := bounds_u64 w1
  by_cases hbad : 2147483648 < r ∨ s < 1 ∨ 2147483648 < s
  · exact walk_bad A c l.length r s w r0 r1 s0 s1 hbad
  · exact walk_good A c l r s w h hm hw r0 (by omega) (by omega) (by omega)

/-! ### The step from the walk to the row -/
set_option maxRecDepth 100000 in
theorem lifted (os : Os) (started : os.Started) (H : Type) (enc : TypeId × Value → H) :
    ReturnsInHanded {} Try.checked os 5 .any (Rows.meterBucketsSpec.pre6 enc Try.prog Try.f5 Rows.meterBucketsRow.domain false) (Rows.meterBucketsSpec.post enc Try.prog Try.f5 false true false false) := by
  refine returnsInHanded_of_change (C := Try.checked) own started (by kernel_rfl) Try.func5
    (ChangeSpec.witness6 (enc := enc) (C := Try.checked) false ⟨#[], #[.int .u64 0, .int .u64 0, .slice none 0 0], []⟩ 8 (by kernel_rfl) (by kernel_rfl) (by kernel_rfl) (by kernel_rfl)) ?_
  intro W base args ds gs before hval0 hW hcnd _
  have hval : ∀ (j : Nat) t v, Try.f5.params[j]? = some t → args[j]? = some v → Value.okWide Try.prog W .any base t v := hval0
  have hW' := hW
  obtain ⟨p, q, hA0, hV, rfl, hfz, hnd⟩ := hW
  have hA : DataW.TrodAll enc Try.prog W 0 (fun _ => true) true Try.f5.params.toList args.toList ds p := hA0
  rw [Try.params5] at hA hval
  obtain ⟨v0, vs0, d0, ds0, p0, q0, hargs, rfl, rfl, h0, r0⟩ := trodAll_cons hA
  obtain ⟨v1, vs1, d1, ds1, p1, q1, rfl, rfl, rfl, h1, r1⟩ := trodAll_cons r0
  obtain ⟨v2, vs2, d2, ds2, p2, q2, rfl, rfl, rfl, h2, r2⟩ := trodAll_cons r1
  obtain ⟨rfl, rfl, rfl⟩ := trodAll_nil r2
  obtain rfl : args = #[v0, v1, v2] := by cases args; simp_all
  obtain ⟨rfl, rfl⟩ := trodVars_none hV
  have k0 := h0
  have lt0 : ∀ x ∈ p0, x.block < W.heap.size := by obtain ⟨m, hm⟩ := k0; exact DataW.trod_lt m _ _ _ hm
  have ok0 := hval 0 43 v0 rfl rfl
  have k1 := h1
  have lt1 : ∀ x ∈ p1, x.block < W.heap.size := by obtain ⟨m, hm⟩ := k1; exact DataW.trod_lt m _ _ _ hm
  have ok1 := hval 1 43 v1 rfl rfl
  have k2 := h2
  have lt2 : ∀ x ∈ p2, x.block < W.heap.size := by obtain ⟨m, hm⟩ := k2; exact DataW.trod_lt m _ _ _ hm
  have ok2 := hval 2 44 v2 rfl rfl
  clear hA0 hval0
  obtain ⟨r, rfl, rfl, rfl, w0⟩ := open_int Try.underlying43 ok0 h0
  obtain ⟨s, rfl, rfl, rfl, w1⟩ := open_int Try.underlying43 ok1 h1
  obtain ⟨A, n, c, rfl⟩ := okWide_slice Try.underlying44 ok2
  obtain ⟨l, rfl, hm, hc, hw⟩ := open_acts h2
  refine (walk A c l r s W hc hm hw w0 w1).mono fun e W' ⟨he, bel⟩ => ?_
  subst he
  exact ⟨_, rfl, _, _, _, [], _, [], hW', trodAll_mk1 (shut_bool Try.underlying4 _), (trodAll_cons_mk (Below.trod laidOut (by kernel_rfl) (of_decide_eq_true (by kernel_rfl)) k0 bel lt0) (trodAll_cons_mk (Below.trod laidOut (by kernel_rfl) (of_decide_eq_true (by kernel_rfl)) k1 bel lt1) (trodAll_cons_mk (Below.trod laidOut (by kernel_rfl) (of_decide_eq_true (by kernel_rfl)) k2 bel lt2) trodAll_mk0))), rfl, bel.frame _, fun h => by cases h⟩

theorem over : Rows.meterBucketsRow.holds Try.pinned (OpenSpec.ofChange Rows.meterBucketsSpec) :=
  OpenClaim.holds_of_wide 5 Try.f5 rfl rfl rfl rfl rfl rfl rfl ⟨rfl, rfl, rfl, rfl, rfl⟩ rfl rfl rfl rfl rfl (by kernel_rfl) Try.func5 (by kernel_rfl)
    (of_decide_eq_true (by kernel_rfl)) (by unfold Func.isWrapper; first | (rw [if_pos (by decide +kernel)]; kernel_rfl) | (rw [if_neg (by decide +kernel)]; exact ⟨rfl, rfl⟩))
    (fun os started H enc _ => lifted os started H enc)

theorem proved : Rows.MeterBucketsSaid := over
#print axioms proved
end Go.Proofs.Ytkebgkjopfdafaa.meterBuckets
