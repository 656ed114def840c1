/-
  Pick of the reference of layer 19, walked. Helper of the claim SmoothPicks. No condition.
-/
import Derived.Test.YtkebgkjopfdafaaSmr
import Derived.StillTailTactics
import Derived.Lib.SmallJoins
namespace Go.Proofs.Ytkebgkjopfdafaa
open Go.ChangeShapes Go.WideShapes Go.ChangeAt Go.RowKit
set_option linter.unusedSimpArgs false
set_option linter.unusedVariables false
set_option maxRecDepth 100000
/-- What the reference begins with: the credits of those that it knows, or nothing. -/
noncomputable def baseC (m n : Nat) (kl pl : List Cand) (cr : Nat → Int) : Nat → Int := by
  classical exact if SameSh m n kl pl then cr else fun _ => 0
theorem base_no {m n : Nat} {kl pl : List Cand} {cr : Nat → Int} (h : ¬ SameSh m n kl pl) : baseC m n kl pl cr = fun _ => 0 := if_neg h
theorem base_yes {m n : Nat} {kl pl : List Cand} {cr : Nat → Int} (h : SameSh m n kl pl) : baseC m n kl pl cr = cr := if_pos h
def RpOut (w : World) (Aw : Option Addr) (n cw m : Nat) (kl : List Cand) (bc : Nat → Int) (e : Ending) (w' : World) : Prop :=
  (m = 0 ∧ e = .returned (.tuple #[.slice Aw n cw, .int .i64 (-1)])) ∨ (0 < m ∧ ∃ g cap, e = .returned (.tuple #[.slice (some ⟨g, 0, none⟩) m cap, .int .i64 ((Sm.am (Sm.bump bc (wof kl)) m : Nat) : Int)]) ∧ w'.ownsRow w.heap.size 70 5 (.slice (some ⟨g, 0, none⟩) m cap) m (rsc kl (Sm.step (wof kl) m (Sm.S (wof kl) m) bc) m))
set_option maxHeartbeats 8000000 in
theorem rpick_any (cw n c m : Nat) (Aw A : Option Addr) (l pl kl : List Cand) (cr : Nat → Int) (w : World) (hw : RsIn w Aw n pl cr) (h : Cands w w.heap.size A l) (hl : l.length ≤ 30) (hn : n ≤ 30) (hkl : kp l l.length = kl) (hm : kl.length = m)
    (hwt : ∀ i, i < l.length → 0 ≤ (nth l i).weight ∧ (nth l i).weight ≤ 100) (hcr : ∀ i, i < n → -1000000 < cr i ∧ cr i < 1000000) :
    Calls Try.prog 34 #[.slice Aw n cw, .slice A l.length c] w fun e w' => RpOut w Aw n cw m kl (baseC m n kl pl cr) e w' ∧ Below w.heap.size w w' := by
  obtain ⟨i0, hi0, hz0, hz1, hz2⟩ := info_parts info_rs
  have HI0 := Lib.hid hi0; have HZ0 := Lib.hid hz0; have HZ1 := Lib.hid hz1; have HZ2 := Lib.hid hz2
  clear hi0 hz0 hz1 hz2
  have HC := Lib.hid h; have HWS := Lib.hid hw; have HWT := hide hwt; have HKL := Lib.hid hkl; have HM := Lib.hid hm; have HCR := hide hcr; have HNN := Lib.hid hn; have HL := Lib.hid hl
  clear h hw hwt hkl hm hcr hn
  go_enter Try.func34, Try.ntmps34
  go_wp2_with fail
  go_loopw [6, 7, 8, 9] (fun v6 v7 v8 i wr => RpA w l n pl v6 v7 v8 i wr) (fun _ _ _ i _ => l.length - (intOf i).toNat)
  case atStart => exact ⟨0, 0, true, Nat.zero_le _, rfl, rfl, Nat.le_refl _, World.ownsRow_nil _ _ _ _, rfl, ⟨fun _ j hj => absurd hj (by omega), fun _ => rfl⟩, rfl, fun j hj => absurd hj (by omega), Below.refl _ _⟩
  case round =>
    obtain ⟨k, n0, bs, hk, rfl, hn0, hnk, hown, rfl, hbs, rfl, hwf, hbel⟩ := hrel
    obtain ⟨A6, c6, rfl⟩ := own_shape hown
    have HN := Lib.hid hn0; have HO := Lib.hid hown; have HB := Lib.hid hbel; have HNK := Lib.hid hnk; have HBS := Lib.hid hbs; have HWF := hide hwf
    clear hn0 hown hbel hnk hbs hwf
    by_cases hlt : k < l.length
    · obtain ⟨b, off, rfl, hb, hc⟩ := HC.out (by omega)
      obtain ⟨c0, c1, c2, c3⟩ := cell4 hlt hc
      have d0 := (HB.out.cell (p := ⟨b, off + k * 4, none⟩) hb).trans c0
      have d1 := (HB.out.cell (p := ⟨b, off + k * 4 + 1, none⟩) hb).trans c1
      have d2 := (HB.out.cell (p := ⟨b, off + k * 4 + 2, none⟩) hb).trans c2
      have d3 := (HB.out.cell (p := ⟨b, off + k * 4 + 3, none⟩) hb).trans c3
      have KY := hide (fun h => kp_yes (l := l) (k := k) hlt h)
      have KN := hide (fun h => kp_no (l := l) (k := k) hlt h)
      have hk0 : (0 : Int) ≤ (k : Int) := Int.natCast_nonneg _
      have hk1 : (k : Int) < (l.length : Int) := by omega
      have hn00 : (0 : Int) ≤ (n0 : Int) := Int.natCast_nonneg _
      have XW := Lib.hid ((unhide HWT) k hlt)
      have HLT := Lib.hid hlt; have KM := Lib.hid (show k ≤ 30 from by omega); have hbsz := HB.out.size
      have QD2 := Lib.hid (show w.cell? ⟨b, off + k * 4 + 2, none⟩ = some (Value.int .i64 (nth l k).weight) from hc k 2 hlt (by omega))
      clear c0 c1 c2 c3 hc hlt hk
      generalize hx : nth l k = x at *
      clear hx
      obtain ⟨xs, xb, xw, xl⟩ := x
      simp only at d0 d1 d2 d3 KY KN XW
      have LB0 := Lib.hid hb; have LB := Lib.hid (Nat.lt_of_lt_of_le hb hbsz)
      by_cases hp : 0 < xw
      · have KE := Lib.hid (unhide KY hp)
        have hp1 : ¬ xw < 1 := by omega
        clear KY KN
        obtain ⟨bs2, hbs2⟩ : ∃ bs2 : Bool, bs2 = true ↔ SmQ (n0 + 1) n (kp l (k + 1)) pl := by
          by_cases h : SmQ (n0 + 1) n (kp l (k + 1)) pl
          · exact ⟨true, ⟨fun _ => h, fun _ => rfl⟩⟩
          · exact ⟨false, ⟨fun hh => (by cases hh), fun hh => absurd hh h⟩⟩
        have HBS2 := Lib.hid hbs2
        have KEY : Hid (bs2 = true ↔ bs = true ∧ n0 < n ∧ (nth pl n0).backend = xb ∧ (nth pl n0).weight = xw) := hide (by
          rw [HBS2.out, KE.out, HBS.out, ← HN.out]; exact SmQ.snoc)
        clear hbs2
        have hsum : IntKind.i64.wrap (Sm.S (wof (kp l k)) n0 + xw) = Sm.S (wof (kp l (k + 1))) (n0 + 1) := by
          have h1 := S_range (w := wof (kp l k)) n0 (unhide HWF)
          have h2 := HNK.out; have h3 := KM.out; have h4 := XW.out
          rw [w64 _ (by omega), KE.out, ← HN.out, wof_snoc]
        have WF2 := hide (show ∀ j, j < n0 + 1 → 0 < wof (kp l (k + 1)) j ∧ wof (kp l (k + 1)) j ≤ 100 from fun j hj => by
          rw [KE.out]
          rcases Nat.lt_or_ge j n0 with hh | hh
          · have := (unhide HWF) j hh
            unfold wof; rw [nth_left (by rw [HN.out]; exact hh)]; exact this
          · obtain rfl : j = n0 := by omega
            unfold wof; rw [← HN.out, nth_last]; exact ⟨hp, XW.out.2⟩)
        have RAPP := Lib.hid (show rsc (kp l k) (fun _ => 0) n0 ++ [.int .i64 xs, .int .i64 xb, .int .i64 xw, .int .u32 xl, .int .i64 0] = rsc (kp l (k + 1)) (fun _ => 0) (n0 + 1) from by rw [KE.out, ← HN.out]; exact rsc_app (kp l k) ⟨xs, xb, xw, xl⟩)
        have LEN2 := Lib.hid (show (kp l (k + 1)).length = n0 + 1 from by rw [KE.out, List.length_append, HN.out]; rfl)
        generalize hs2 : Sm.S (wof (kp l (k + 1))) (n0 + 1) = s2 at *
        have HS2 := Lib.hid hs2
        clear hs2
        have CS : (bs = false ∧ bs2 = false) ∨ (bs = true ∧ ¬ (n0 : Int) < (n : Int) ∧ bs2 = false) ∨ (∃ g, Aw = some ⟨g, 0, none⟩ ∧ (n0 : Int) < (n : Int) ∧ ∃ yb yw, wr.cell? ⟨g, n0 * 5 + 1, none⟩ = some (.int .i64 yb) ∧ wr.cell? ⟨g, n0 * 5 + 2, none⟩ = some (.int .i64 yw) ∧ bs = true ∧ ((¬ yb = xb ∧ bs2 = false) ∨ (yb = xb ∧ ¬ yw = xw ∧ bs2 = false) ∨ (yb = xb ∧ yw = xw ∧ bs2 = true))) := by
          have hk := KEY.out
          have no : ¬ (bs = true ∧ n0 < n ∧ (nth pl n0).backend = xb ∧ (nth pl n0).weight = xw) → bs2 = false := fun h => by cases hb2 : bs2 with | false => rfl | true => exact absurd (hk.1 hb2) h
          cases hbv : bs with
          | false => exact .inl ⟨rfl, no fun h => by rw [hbv] at h; cases h.1⟩
          | true =>
            by_cases hnn : n0 < n
            · obtain ⟨g, hA, hg, hcw⟩ := HWS.out (by omega)
              obtain ⟨_, q1, q2, _, _⟩ := hcw n0 hnn
              refine .inr (.inr ⟨g, hA, by omega, _, _, (HB.out.cell (p := ⟨g, n0 * 5 + 1, none⟩) hg).trans q1, (HB.out.cell (p := ⟨g, n0 * 5 + 2, none⟩) hg).trans q2, rfl, ?_⟩)
              by_cases h1 : (nth pl n0).backend = xb
              · by_cases h2 : (nth pl n0).weight = xw
                · exact .inr (.inr ⟨h1, h2, hk.2 ⟨hbv, hnn, h1, h2⟩⟩)
                · exact .inr (.inl ⟨h1, h2, no fun h => h2 h.2.2.2⟩)
              · exact .inl ⟨h1, no fun h => h1 h.2.2.1⟩
            · exact .inr (.inl ⟨rfl, by omega, no fun h => hnn h.2.1⟩)
        clear KEY
        rcases CS with ⟨rfl, rfl⟩ | ⟨rfl, nlt, rfl⟩ | ⟨g, rfl, nlt, yb, yw, q1, q2, rfl, (⟨ne, rfl⟩ | ⟨he, ne, rfl⟩ | ⟨he, he2, rfl⟩)⟩
        · go_wp2_with fail
          refine Lin.wp_region_lin_tail Lin.keeps (n := 146) 35 (fun slotq => match slotq with | 27 => Lin.Spec.val (.bool false) | 28 => Lin.Spec.val (.bool false) | 29 => Lin.Spec.val (undef) | 30 => Lin.Spec.val (undef) | 31 => Lin.Spec.val (undef) | 32 => Lin.Spec.val (undef) | 33 => Lin.Spec.val (.bool false) | 34 => Lin.Spec.val (.bool false) | 35 => Lin.Spec.val (undef) | 36 => Lin.Spec.val (undef) | 37 => Lin.Spec.val (undef) | 38 => Lin.Spec.val (undef) | 39 => Lin.Spec.val (undef) | 40 => Lin.Spec.val (undef) | 41 => Lin.Spec.val (undef) | 42 => Lin.Spec.val (undef) | 43 => Lin.Spec.val (undef) | 44 => Lin.Spec.val (undef) | 45 => Lin.Spec.val (undef) | 46 => Lin.Spec.val (undef) | 47 => Lin.Spec.val (.bool false) | 48 => Lin.Spec.val (.bool false) | 49 => Lin.Spec.val (undef) | 50 => Lin.Spec.val (undef) | 51 => Lin.Spec.val (undef) | 52 => Lin.Spec.val (undef) | 53 => Lin.Spec.val (undef) | 54 => Lin.Spec.val (undef) | 55 => Lin.Spec.val (undef) | 56 => Lin.Spec.val (undef) | 57 => Lin.Spec.val (undef) | 58 => Lin.Spec.val (undef) | 59 => Lin.Spec.val (undef) | 60 => Lin.Spec.val (undef) | 61 => Lin.Spec.val (.bool false) | _ => Lin.Spec.any) (by kernel_rfl) rfl (by kernel_rfl) ⟨?_, ?_, ?_, ?_, ?_, ?_, ?_, ?_, ?_, ?_, ?_, ?_, ?_, ?_, ?_, ?_, ?_, ?_, ?_, ?_, ?_, ?_, ?_, ?_, ?_, ?_, ?_, ?_, ?_, ?_, ?_, ?_, ?_, ?_, ?_, trivial⟩ ?_
          · intro ρ wq hb ho hc hd
            have hC : ∀ v, ρ (.const v) = v := fun v => hc _ (by intro t e; cases e)
            have hF : ∀ f, ρ (.func f) = .func (.func f) #[] #[] := fun f => hc _ (by intro t e; cases e)
            have h7 : ρ (.tmp 7) = .bool false := ho 7 (by kernel_rfl)
            exact Lin.Runs.value Lin.keeps (Lin.exec_move rfl) h7
          · intro ρ wq hb ho hc hd
            have hC : ∀ v, ρ (.const v) = v := fun v => hc _ (by intro t e; cases e)
            have hF : ∀ f, ρ (.func f) = .func (.func f) #[] #[] := fun f => hc _ (by intro t e; cases e)
            have h27 : ρ (.tmp 27) = .bool false := hd 27 (by kernel_rfl)
            exact Lin.Runs.value Lin.keeps (Lin.exec_move rfl) h27
          · intro ρ wq hb ho hc hd
            have hC : ∀ v, ρ (.const v) = v := fun v => hc _ (by intro t e; cases e)
            have hF : ∀ f, ρ (.func f) = .func (.func f) #[] #[] := fun f => hc _ (by intro t e; cases e)
            intro t ht; cases (show some 28 = some t from ht)
            exact ⟨fun he => absurd (he.symm.trans (hd 28 (by kernel_rfl))) (by first | simp | (intro h; cases h)), fun _ => rfl⟩
          · intro ρ wq hb ho hc hd
            have hC : ∀ v, ρ (.const v) = v := fun v => hc _ (by intro t e; cases e)
            have hF : ∀ f, ρ (.func f) = .func (.func f) #[] #[] := fun f => hc _ (by intro t e; cases e)
            intro t ht; cases (show some 28 = some t from ht)
            exact ⟨fun he => absurd (he.symm.trans (hd 28 (by kernel_rfl))) (by first | simp | (intro h; cases h)), fun _ => rfl⟩
          · intro ρ wq hb ho hc hd
            have hC : ∀ v, ρ (.const v) = v := fun v => hc _ (by intro t e; cases e)
            have hF : ∀ f, ρ (.func f) = .func (.func f) #[] #[] := fun f => hc _ (by intro t e; cases e)
            intro t ht; cases (show some 28 = some t from ht)
            exact ⟨fun he => absurd (he.symm.trans (hd 28 (by kernel_rfl))) (by first | simp | (intro h; cases h)), fun _ => rfl⟩
          · intro ρ wq hb ho hc hd
            have hC : ∀ v, ρ (.const v) = v := fun v => hc _ (by intro t e; cases e)
            have hF : ∀ f, ρ (.func f) = .func (.func f) #[] #[] := fun f => hc _ (by intro t e; cases e)
            intro t ht; cases (show some 28 = some t from ht)
            exact ⟨fun he => absurd (he.symm.trans (hd 28 (by kernel_rfl))) (by first | simp | (intro h; cases h)), fun _ => rfl⟩
          · intro ρ wq hb ho hc hd
            have hC : ∀ v, ρ (.const v) = v := fun v => hc _ (by intro t e; cases e)
            have hF : ∀ f, ρ (.func f) = .func (.func f) #[] #[] := fun f => hc _ (by intro t e; cases e)
            have h28 : ρ (.tmp 28) = .bool false := hd 28 (by kernel_rfl)
            have h32 : ρ (.tmp 32) = undef := hd 32 (by kernel_rfl)
            exact Lin.Runs.value Lin.keeps (v := .bool false) (by simp [execOp, go_sem, hC, h28, h32]) rfl
          · intro ρ wq hb ho hc hd
            have hC : ∀ v, ρ (.const v) = v := fun v => hc _ (by intro t e; cases e)
            have hF : ∀ f, ρ (.func f) = .func (.func f) #[] #[] := fun f => hc _ (by intro t e; cases e)
            have h33 : ρ (.tmp 33) = .bool false := hd 33 (by kernel_rfl)
            exact Lin.Runs.value Lin.keeps (Lin.exec_move rfl) h33
          · intro ρ wq hb ho hc hd
            have hC : ∀ v, ρ (.const v) = v := fun v => hc _ (by intro t e; cases e)
            have hF : ∀ f, ρ (.func f) = .func (.func f) #[] #[] := fun f => hc _ (by intro t e; cases e)
            intro t ht; cases (show some 34 = some t from ht)
            exact ⟨fun he => absurd (he.symm.trans (hd 34 (by kernel_rfl))) (by first | simp | (intro h; cases h)), fun _ => rfl⟩
          · intro ρ wq hb ho hc hd
            have hC : ∀ v, ρ (.const v) = v := fun v => hc _ (by intro t e; cases e)
            have hF : ∀ f, ρ (.func f) = .func (.func f) #[] #[] := fun f => hc _ (by intro t e; cases e)
            intro t ht; cases (show some 34 = some t from ht)
            exact ⟨fun he => absurd (he.symm.trans (hd 34 (by kernel_rfl))) (by first | simp | (intro h; cases h)), fun _ => rfl⟩
          · intro ρ wq hb ho hc hd
            have hC : ∀ v, ρ (.const v) = v := fun v => hc _ (by intro t e; cases e)
            have hF : ∀ f, ρ (.func f) = .func (.func f) #[] #[] := fun f => hc _ (by intro t e; cases e)
            intro t ht; cases (show some 34 = some t from ht)
            exact ⟨fun he => absurd (he.symm.trans (hd 34 (by kernel_rfl))) (by first | simp | (intro h; cases h)), fun _ => rfl⟩
          · intro ρ wq hb ho hc hd
            have hC : ∀ v, ρ (.const v) = v := fun v => hc _ (by intro t e; cases e)
            have hF : ∀ f, ρ (.func f) = .func (.func f) #[] #[] := fun f => hc _ (by intro t e; cases e)
            intro t ht; cases (show some 34 = some t from ht)
            exact ⟨fun he => absurd (he.symm.trans (hd 34 (by kernel_rfl))) (by first | simp | (intro h; cases h)), fun _ => rfl⟩
          · intro ρ wq hb ho hc hd
            have hC : ∀ v, ρ (.const v) = v := fun v => hc _ (by intro t e; cases e)
            have hF : ∀ f, ρ (.func f) = .func (.func f) #[] #[] := fun f => hc _ (by intro t e; cases e)
            intro t ht; cases (show some 34 = some t from ht)
            exact ⟨fun he => absurd (he.symm.trans (hd 34 (by kernel_rfl))) (by first | simp | (intro h; cases h)), fun _ => rfl⟩
          · intro ρ wq hb ho hc hd
            have hC : ∀ v, ρ (.const v) = v := fun v => hc _ (by intro t e; cases e)
            have hF : ∀ f, ρ (.func f) = .func (.func f) #[] #[] := fun f => hc _ (by intro t e; cases e)
            intro t ht; cases (show some 34 = some t from ht)
            exact ⟨fun he => absurd (he.symm.trans (hd 34 (by kernel_rfl))) (by first | simp | (intro h; cases h)), fun _ => rfl⟩
          · intro ρ wq hb ho hc hd
            have hC : ∀ v, ρ (.const v) = v := fun v => hc _ (by intro t e; cases e)
            have hF : ∀ f, ρ (.func f) = .func (.func f) #[] #[] := fun f => hc _ (by intro t e; cases e)
            intro t ht; cases (show some 34 = some t from ht)
            exact ⟨fun he => absurd (he.symm.trans (hd 34 (by kernel_rfl))) (by first | simp | (intro h; cases h)), fun _ => rfl⟩
          · intro ρ wq hb ho hc hd
            have hC : ∀ v, ρ (.const v) = v := fun v => hc _ (by intro t e; cases e)
            have hF : ∀ f, ρ (.func f) = .func (.func f) #[] #[] := fun f => hc _ (by intro t e; cases e)
            intro t ht; cases (show some 34 = some t from ht)
            exact ⟨fun he => absurd (he.symm.trans (hd 34 (by kernel_rfl))) (by first | simp | (intro h; cases h)), fun _ => rfl⟩
          · intro ρ wq hb ho hc hd
            have hC : ∀ v, ρ (.const v) = v := fun v => hc _ (by intro t e; cases e)
            have hF : ∀ f, ρ (.func f) = .func (.func f) #[] #[] := fun f => hc _ (by intro t e; cases e)
            intro t ht; cases (show some 34 = some t from ht)
            exact ⟨fun he => absurd (he.symm.trans (hd 34 (by kernel_rfl))) (by first | simp | (intro h; cases h)), fun _ => rfl⟩
          · intro ρ wq hb ho hc hd
            have hC : ∀ v, ρ (.const v) = v := fun v => hc _ (by intro t e; cases e)
            have hF : ∀ f, ρ (.func f) = .func (.func f) #[] #[] := fun f => hc _ (by intro t e; cases e)
            intro t ht; cases (show some 34 = some t from ht)
            exact ⟨fun he => absurd (he.symm.trans (hd 34 (by kernel_rfl))) (by first | simp | (intro h; cases h)), fun _ => rfl⟩
          · intro ρ wq hb ho hc hd
            have hC : ∀ v, ρ (.const v) = v := fun v => hc _ (by intro t e; cases e)
            have hF : ∀ f, ρ (.func f) = .func (.func f) #[] #[] := fun f => hc _ (by intro t e; cases e)
            intro t ht; cases (show some 34 = some t from ht)
            exact ⟨fun he => absurd (he.symm.trans (hd 34 (by kernel_rfl))) (by first | simp | (intro h; cases h)), fun _ => rfl⟩
          · intro ρ wq hb ho hc hd
            have hC : ∀ v, ρ (.const v) = v := fun v => hc _ (by intro t e; cases e)
            have hF : ∀ f, ρ (.func f) = .func (.func f) #[] #[] := fun f => hc _ (by intro t e; cases e)
            intro t ht; cases (show some 34 = some t from ht)
            exact ⟨fun he => absurd (he.symm.trans (hd 34 (by kernel_rfl))) (by first | simp | (intro h; cases h)), fun _ => rfl⟩
          · intro ρ wq hb ho hc hd
            have hC : ∀ v, ρ (.const v) = v := fun v => hc _ (by intro t e; cases e)
            have hF : ∀ f, ρ (.func f) = .func (.func f) #[] #[] := fun f => hc _ (by intro t e; cases e)
            have h34 : ρ (.tmp 34) = .bool false := hd 34 (by kernel_rfl)
            have h46 : ρ (.tmp 46) = undef := hd 46 (by kernel_rfl)
            exact Lin.Runs.value Lin.keeps (v := .bool false) (by simp [execOp, go_sem, hC, h34, h46]) rfl
          · intro ρ wq hb ho hc hd
            have hC : ∀ v, ρ (.const v) = v := fun v => hc _ (by intro t e; cases e)
            have hF : ∀ f, ρ (.func f) = .func (.func f) #[] #[] := fun f => hc _ (by intro t e; cases e)
            have h47 : ρ (.tmp 47) = .bool false := hd 47 (by kernel_rfl)
            exact Lin.Runs.value Lin.keeps (Lin.exec_move rfl) h47
          · intro ρ wq hb ho hc hd
            have hC : ∀ v, ρ (.const v) = v := fun v => hc _ (by intro t e; cases e)
            have hF : ∀ f, ρ (.func f) = .func (.func f) #[] #[] := fun f => hc _ (by intro t e; cases e)
            intro t ht; cases (show some 48 = some t from ht)
            exact ⟨fun he => absurd (he.symm.trans (hd 48 (by kernel_rfl))) (by first | simp | (intro h; cases h)), fun _ => rfl⟩
          · intro ρ wq hb ho hc hd
            have hC : ∀ v, ρ (.const v) = v := fun v => hc _ (by intro t e; cases e)
            have hF : ∀ f, ρ (.func f) = .func (.func f) #[] #[] := fun f => hc _ (by intro t e; cases e)
            intro t ht; cases (show some 48 = some t from ht)
            exact ⟨fun he => absurd (he.symm.trans (hd 48 (by kernel_rfl))) (by first | simp | (intro h; cases h)), fun _ => rfl⟩
          · intro ρ wq hb ho hc hd
            have hC : ∀ v, ρ (.const v) = v := fun v => hc _ (by intro t e; cases e)
            have hF : ∀ f, ρ (.func f) = .func (.func f) #[] #[] := fun f => hc _ (by intro t e; cases e)
            intro t ht; cases (show some 48 = some t from ht)
            exact ⟨fun he => absurd (he.symm.trans (hd 48 (by kernel_rfl))) (by first | simp | (intro h; cases h)), fun _ => rfl⟩
          · intro ρ wq hb ho hc hd
            have hC : ∀ v, ρ (.const v) = v := fun v => hc _ (by intro t e; cases e)
            have hF : ∀ f, ρ (.func f) = .func (.func f) #[] #[] := fun f => hc _ (by intro t e; cases e)
            intro t ht; cases (show some 48 = some t from ht)
            exact ⟨fun he => absurd (he.symm.trans (hd 48 (by kernel_rfl))) (by first | simp | (intro h; cases h)), fun _ => rfl⟩
          · intro ρ wq hb ho hc hd
            have hC : ∀ v, ρ (.const v) = v := fun v => hc _ (by intro t e; cases e)
            have hF : ∀ f, ρ (.func f) = .func (.func f) #[] #[] := fun f => hc _ (by intro t e; cases e)
            intro t ht; cases (show some 48 = some t from ht)
            exact ⟨fun he => absurd (he.symm.trans (hd 48 (by kernel_rfl))) (by first | simp | (intro h; cases h)), fun _ => rfl⟩
          · intro ρ wq hb ho hc hd
            have hC : ∀ v, ρ (.const v) = v := fun v => hc _ (by intro t e; cases e)
            have hF : ∀ f, ρ (.func f) = .func (.func f) #[] #[] := fun f => hc _ (by intro t e; cases e)
            intro t ht; cases (show some 48 = some t from ht)
            exact ⟨fun he => absurd (he.symm.trans (hd 48 (by kernel_rfl))) (by first | simp | (intro h; cases h)), fun _ => rfl⟩
          · intro ρ wq hb ho hc hd
            have hC : ∀ v, ρ (.const v) = v := fun v => hc _ (by intro t e; cases e)
            have hF : ∀ f, ρ (.func f) = .func (.func f) #[] #[] := fun f => hc _ (by intro t e; cases e)
            intro t ht; cases (show some 48 = some t from ht)
            exact ⟨fun he => absurd (he.symm.trans (hd 48 (by kernel_rfl))) (by first | simp | (intro h; cases h)), fun _ => rfl⟩
          · intro ρ wq hb ho hc hd
            have hC : ∀ v, ρ (.const v) = v := fun v => hc _ (by intro t e; cases e)
            have hF : ∀ f, ρ (.func f) = .func (.func f) #[] #[] := fun f => hc _ (by intro t e; cases e)
            intro t ht; cases (show some 48 = some t from ht)
            exact ⟨fun he => absurd (he.symm.trans (hd 48 (by kernel_rfl))) (by first | simp | (intro h; cases h)), fun _ => rfl⟩
          · intro ρ wq hb ho hc hd
            have hC : ∀ v, ρ (.const v) = v := fun v => hc _ (by intro t e; cases e)
            have hF : ∀ f, ρ (.func f) = .func (.func f) #[] #[] := fun f => hc _ (by intro t e; cases e)
            intro t ht; cases (show some 48 = some t from ht)
            exact ⟨fun he => absurd (he.symm.trans (hd 48 (by kernel_rfl))) (by first | simp | (intro h; cases h)), fun _ => rfl⟩
          · intro ρ wq hb ho hc hd
            have hC : ∀ v, ρ (.const v) = v := fun v => hc _ (by intro t e; cases e)
            have hF : ∀ f, ρ (.func f) = .func (.func f) #[] #[] := fun f => hc _ (by intro t e; cases e)
            intro t ht; cases (show some 48 = some t from ht)
            exact ⟨fun he => absurd (he.symm.trans (hd 48 (by kernel_rfl))) (by first | simp | (intro h; cases h)), fun _ => rfl⟩
          · intro ρ wq hb ho hc hd
            have hC : ∀ v, ρ (.const v) = v := fun v => hc _ (by intro t e; cases e)
            have hF : ∀ f, ρ (.func f) = .func (.func f) #[] #[] := fun f => hc _ (by intro t e; cases e)
            intro t ht; cases (show some 48 = some t from ht)
            exact ⟨fun he => absurd (he.symm.trans (hd 48 (by kernel_rfl))) (by first | simp | (intro h; cases h)), fun _ => rfl⟩
          · intro ρ wq hb ho hc hd
            have hC : ∀ v, ρ (.const v) = v := fun v => hc _ (by intro t e; cases e)
            have hF : ∀ f, ρ (.func f) = .func (.func f) #[] #[] := fun f => hc _ (by intro t e; cases e)
            intro t ht; cases (show some 48 = some t from ht)
            exact ⟨fun he => absurd (he.symm.trans (hd 48 (by kernel_rfl))) (by first | simp | (intro h; cases h)), fun _ => rfl⟩
          · intro ρ wq hb ho hc hd
            have hC : ∀ v, ρ (.const v) = v := fun v => hc _ (by intro t e; cases e)
            have hF : ∀ f, ρ (.func f) = .func (.func f) #[] #[] := fun f => hc _ (by intro t e; cases e)
            have h48 : ρ (.tmp 48) = .bool false := hd 48 (by kernel_rfl)
            have h60 : ρ (.tmp 60) = undef := hd 60 (by kernel_rfl)
            exact Lin.Runs.value Lin.keeps (v := .bool false) (by simp [execOp, go_sem, hC, h48, h60]) rfl
          · intro vals w5 hb2 hv
            have ee := hv 61 (by kernel_rfl)
            have HB5 := Lib.hid (HB.out.trans (hb2.mono hbsz)); have HO5 := Lib.hid (own_below HO.out hb2)
            have d0 := (hb2.cell (p := ⟨b, off + k * 4, none⟩) LB.out).trans d0; have d1 := (hb2.cell (p := ⟨b, off + k * 4 + 1, none⟩) LB.out).trans d1; have d2 := (hb2.cell (p := ⟨b, off + k * 4 + 2, none⟩) LB.out).trans d2; have d3 := (hb2.cell (p := ⟨b, off + k * 4 + 3, none⟩) LB.out).trans d3
            have hbsz := HB5.out.size
            clear hb2
            change wpList _ _ _ [_] _ _
            simp only [Lin.putAll, Option.getD_some, List.take_succ_cons, List.take_zero, List.drop_succ_cons, List.drop_zero]
            rw [show vals 61 = .bool false from ee]
            clear ee hv
            go_simp
            generalize vals = vv
            go_wp2_with (
              (with_reducible show wpList _ _ _ (⟨some 69, _, _, _, _, _⟩ :: _) _ _)
              go_loud (refine wpList_append_lies _ rfl (.tmp 62) (.tmp 68) _ rfl w.heap.size 70 i0 _ 5 40 Try.underlying66 HI0.out HZ0.out HZ1.out HZ2.out rfl (by omega) _ n0 (rsc (kp l k) (fun _ => 0) n0) rfl (World.ownsRow.alloc HO5.out (.cells #[.int .i64 xs, .int .i64 xb, .int .i64 xw, .int .u32 xl, .int .i64 0] 70)) ⟨w5.heap.size, 0, none⟩ 1 1 (#[.int .i64 xs, .int .i64 xb, .int .i64 xw, .int .u32 xl, .int .i64 0] : Array Value).toList rfl rfl (World.news_of_block (t := 70) (fr := (0, 0)) (heap_alloc_new w5 (.cells #[.int .i64 xs, .int .i64 xb, .int .i64 xw, .int .u32 xl, .int .i64 0] 70))) (by simp [Value.oneCell']) (by omega) (by have := HNK.out; have := KM.out; unfold maxLen; omega) (by have := HNK.out; have := KM.out; omega) (by simp; omega) (w5.heap.size + 1) (by simp) ?_)
              intro ga capa w6 ho6 hg6 hat6 hl6
              rw [show rsc (kp l k) (fun _ => 0) n0 ++ (#[.int .i64 xs, .int .i64 xb, .int .i64 xw, .int .u32 xl, .int .i64 0] : Array Value).toList = rsc (kp l (k + 1)) (fun _ => 0) (n0 + 1) from RAPP.out] at ho6
              have O6 := Lib.hid ho6
              have HB6 := Lib.hid ((HB5.out.alloc hbsz (.cells #[.int .i64 xs, .int .i64 xb, .int .i64 xw, .int .u32 xl, .int .i64 0] 70)).grown hg6 (by simp; omega) (fun q hq => HO5.out.lt q hq |>.1))
              have d2 := (HB6.out.cell (p := ⟨b, off + k * 4 + 2, none⟩) LB0.out).trans (QD2.out)
              clear ho6 hg6 hat6 hl6)
            go_roundw
            case rel => exact ⟨k + 1, n0 + 1, _, HLT.out, by go_num, LEN2.out, by have := HNK.out; omega, O6.out, rfl, by have := HBS2.out; simpa using this, by rw [HS2.out], unhide WF2, HB6.out⟩
            case measure => have := HLT.out; simp [intOf]; omega
        · go_wp2_with fail
          refine Lin.wp_region_lin_tail Lin.keeps (n := 146) 35 (fun slotq => match slotq with | 27 => Lin.Spec.val (.bool true) | 28 => Lin.Spec.val (.bool true) | 29 => Lin.Spec.val (.int .i64 (n0 : Int)) | 30 => Lin.Spec.val (.slice Aw n cw) | 31 => Lin.Spec.val (.int .i64 (n : Int)) | 32 => Lin.Spec.val (.bool false) | 33 => Lin.Spec.val (.bool false) | 34 => Lin.Spec.val (.bool false) | 35 => Lin.Spec.val (undef) | 36 => Lin.Spec.val (undef) | 37 => Lin.Spec.val (undef) | 38 => Lin.Spec.val (undef) | 39 => Lin.Spec.val (undef) | 40 => Lin.Spec.val (undef) | 41 => Lin.Spec.val (undef) | 42 => Lin.Spec.val (undef) | 43 => Lin.Spec.val (undef) | 44 => Lin.Spec.val (undef) | 45 => Lin.Spec.val (undef) | 46 => Lin.Spec.val (undef) | 47 => Lin.Spec.val (.bool false) | 48 => Lin.Spec.val (.bool false) | 49 => Lin.Spec.val (undef) | 50 => Lin.Spec.val (undef) | 51 => Lin.Spec.val (undef) | 52 => Lin.Spec.val (undef) | 53 => Lin.Spec.val (undef) | 54 => Lin.Spec.val (undef) | 55 => Lin.Spec.val (undef) | 56 => Lin.Spec.val (undef) | 57 => Lin.Spec.val (undef) | 58 => Lin.Spec.val (undef) | 59 => Lin.Spec.val (undef) | 60 => Lin.Spec.val (undef) | 61 => Lin.Spec.val (.bool false) | _ => Lin.Spec.any) (by kernel_rfl) rfl (by kernel_rfl) ⟨?_, ?_, ?_, ?_, ?_, ?_, ?_, ?_, ?_, ?_, ?_, ?_, ?_, ?_, ?_, ?_, ?_, ?_, ?_, ?_, ?_, ?_, ?_, ?_, ?_, ?_, ?_, ?_, ?_, ?_, ?_, ?_, ?_, ?_, ?_, trivial⟩ ?_
          · intro ρ wq hb ho hc hd
            have hC : ∀ v, ρ (.const v) = v := fun v => hc _ (by intro t e; cases e)
            have hF : ∀ f, ρ (.func f) = .func (.func f) #[] #[] := fun f => hc _ (by intro t e; cases e)
            have h7 : ρ (.tmp 7) = .bool true := ho 7 (by kernel_rfl)
            exact Lin.Runs.value Lin.keeps (Lin.exec_move rfl) h7
          · intro ρ wq hb ho hc hd
            have hC : ∀ v, ρ (.const v) = v := fun v => hc _ (by intro t e; cases e)
            have hF : ∀ f, ρ (.func f) = .func (.func f) #[] #[] := fun f => hc _ (by intro t e; cases e)
            have h27 : ρ (.tmp 27) = .bool true := hd 27 (by kernel_rfl)
            exact Lin.Runs.value Lin.keeps (Lin.exec_move rfl) h27
          · intro ρ wq hb ho hc hd
            have hC : ∀ v, ρ (.const v) = v := fun v => hc _ (by intro t e; cases e)
            have hF : ∀ f, ρ (.func f) = .func (.func f) #[] #[] := fun f => hc _ (by intro t e; cases e)
            intro t ht; cases (show some 28 = some t from ht)
            refine ⟨fun _ => ?_, fun hn => absurd (hd 28 (by kernel_rfl)) hn⟩
            have h10 : ρ (.tmp 10) = .int .i64 (n0 : Int) := ho 10 (by kernel_rfl)
            exact Lin.Runs.value Lin.keeps (Lin.exec_move rfl) h10
          · intro ρ wq hb ho hc hd
            have hC : ∀ v, ρ (.const v) = v := fun v => hc _ (by intro t e; cases e)
            have hF : ∀ f, ρ (.func f) = .func (.func f) #[] #[] := fun f => hc _ (by intro t e; cases e)
            intro t ht; cases (show some 28 = some t from ht)
            refine ⟨fun _ => ?_, fun hn => absurd (hd 28 (by kernel_rfl)) hn⟩
            have h0 : ρ (.tmp 0) = .slice Aw n cw := ho 0 (by kernel_rfl)
            exact Lin.Runs.value Lin.keeps (Lin.exec_move rfl) h0
          · intro ρ wq hb ho hc hd
            have hC : ∀ v, ρ (.const v) = v := fun v => hc _ (by intro t e; cases e)
            have hF : ∀ f, ρ (.func f) = .func (.func f) #[] #[] := fun f => hc _ (by intro t e; cases e)
            intro t ht; cases (show some 28 = some t from ht)
            refine ⟨fun _ => ?_, fun hn => absurd (hd 28 (by kernel_rfl)) hn⟩
            have h30 : ρ (.tmp 30) = .slice Aw n cw := hd 30 (by kernel_rfl)
            exact Lin.Runs.value Lin.keeps (v := .int .i64 (n : Int)) (by simp [execOp, go_sem, h30]) rfl
          · intro ρ wq hb ho hc hd
            have hC : ∀ v, ρ (.const v) = v := fun v => hc _ (by intro t e; cases e)
            have hF : ∀ f, ρ (.func f) = .func (.func f) #[] #[] := fun f => hc _ (by intro t e; cases e)
            intro t ht; cases (show some 28 = some t from ht)
            refine ⟨fun _ => ?_, fun hn => absurd (hd 28 (by kernel_rfl)) hn⟩
            have h29 : ρ (.tmp 29) = .int .i64 (n0 : Int) := hd 29 (by kernel_rfl)
            have h31 : ρ (.tmp 31) = .int .i64 (n : Int) := hd 31 (by kernel_rfl)
            have nle : n ≤ n0 := by omega
            exact Lin.Runs.value Lin.keeps (v := .bool false) (by simp [execOp, go_sem, h29, h31, nle]) rfl
          · intro ρ wq hb ho hc hd
            have hC : ∀ v, ρ (.const v) = v := fun v => hc _ (by intro t e; cases e)
            have hF : ∀ f, ρ (.func f) = .func (.func f) #[] #[] := fun f => hc _ (by intro t e; cases e)
            have h28 : ρ (.tmp 28) = .bool true := hd 28 (by kernel_rfl)
            have h32 : ρ (.tmp 32) = .bool false := hd 32 (by kernel_rfl)
            exact Lin.Runs.value Lin.keeps (v := .bool false) (by simp [execOp, go_sem, hC, h28, h32]) rfl
          · intro ρ wq hb ho hc hd
            have hC : ∀ v, ρ (.const v) = v := fun v => hc _ (by intro t e; cases e)
            have hF : ∀ f, ρ (.func f) = .func (.func f) #[] #[] := fun f => hc _ (by intro t e; cases e)
            have h33 : ρ (.tmp 33) = .bool false := hd 33 (by kernel_rfl)
            exact Lin.Runs.value Lin.keeps (Lin.exec_move rfl) h33
          · intro ρ wq hb ho hc hd
            have hC : ∀ v, ρ (.const v) = v := fun v => hc _ (by intro t e; cases e)
            have hF : ∀ f, ρ (.func f) = .func (.func f) #[] #[] := fun f => hc _ (by intro t e; cases e)
            intro t ht; cases (show some 34 = some t from ht)
            exact ⟨fun he => absurd (he.symm.trans (hd 34 (by kernel_rfl))) (by first | simp | (intro h; cases h)), fun _ => rfl⟩
          · intro ρ wq hb ho hc hd
            have hC : ∀ v, ρ (.const v) = v := fun v => hc _ (by intro t e; cases e)
            have hF : ∀ f, ρ (.func f) = .func (.func f) #[] #[] := fun f => hc _ (by intro t e; cases e)
            intro t ht; cases (show some 34 = some t from ht)
            exact ⟨fun he => absurd (he.symm.trans (hd 34 (by kernel_rfl))) (by first | simp | (intro h; cases h)), fun _ => rfl⟩
          · intro ρ wq hb ho hc hd
            have hC : ∀ v, ρ (.const v) = v := fun v => hc _ (by intro t e; cases e)
            have hF : ∀ f, ρ (.func f) = .func (.func f) #[] #[] := fun f => hc _ (by intro t e; cases e)
            intro t ht; cases (show some 34 = some t from ht)
            exact ⟨fun he => absurd (he.symm.trans (hd 34 (by kernel_rfl))) (by first | simp | (intro h; cases h)), fun _ => rfl⟩
          · intro ρ wq hb ho hc hd
            have hC : ∀ v, ρ (.const v) = v := fun v => hc _ (by intro t e; cases e)
            have hF : ∀ f, ρ (.func f) = .func (.func f) #[] #[] := fun f => hc _ (by intro t e; cases e)
            intro t ht; cases (show some 34 = some t from ht)
            exact ⟨fun he => absurd (he.symm.trans (hd 34 (by kernel_rfl))) (by first | simp | (intro h; cases h)), fun _ => rfl⟩
          · intro ρ wq hb ho hc hd
            have hC : ∀ v, ρ (.const v) = v := fun v => hc _ (by intro t e; cases e)
            have hF : ∀ f, ρ (.func f) = .func (.func f) #[] #[] := fun f => hc _ (by intro t e; cases e)
            intro t ht; cases (show some 34 = some t from ht)
            exact ⟨fun he => absurd (he.symm.trans (hd 34 (by kernel_rfl))) (by first | simp | (intro h; cases h)), fun _ => rfl⟩
          · intro ρ wq hb ho hc hd
            have hC : ∀ v, ρ (.const v) = v := fun v => hc _ (by intro t e; cases e)
            have hF : ∀ f, ρ (.func f) = .func (.func f) #[] #[] := fun f => hc _ (by intro t e; cases e)
            intro t ht; cases (show some 34 = some t from ht)
            exact ⟨fun he => absurd (he.symm.trans (hd 34 (by kernel_rfl))) (by first | simp | (intro h; cases h)), fun _ => rfl⟩
          · intro ρ wq hb ho hc hd
            have hC : ∀ v, ρ (.const v) = v := fun v => hc _ (by intro t e; cases e)
            have hF : ∀ f, ρ (.func f) = .func (.func f) #[] #[] := fun f => hc _ (by intro t e; cases e)
            intro t ht; cases (show some 34 = some t from ht)
            exact ⟨fun he => absurd (he.symm.trans (hd 34 (by kernel_rfl))) (by first | simp | (intro h; cases h)), fun _ => rfl⟩
          · intro ρ wq hb ho hc hd
            have hC : ∀ v, ρ (.const v) = v := fun v => hc _ (by intro t e; cases e)
            have hF : ∀ f, ρ (.func f) = .func (.func f) #[] #[] := fun f => hc _ (by intro t e; cases e)
            intro t ht; cases (show some 34 = some t from ht)
            exact ⟨fun he => absurd (he.symm.trans (hd 34 (by kernel_rfl))) (by first | simp | (intro h; cases h)), fun _ => rfl⟩
          · intro ρ wq hb ho hc hd
            have hC : ∀ v, ρ (.const v) = v := fun v => hc _ (by intro t e; cases e)
            have hF : ∀ f, ρ (.func f) = .func (.func f) #[] #[] := fun f => hc _ (by intro t e; cases e)
            intro t ht; cases (show some 34 = some t from ht)
            exact ⟨fun he => absurd (he.symm.trans (hd 34 (by kernel_rfl))) (by first | simp | (intro h; cases h)), fun _ => rfl⟩
          · intro ρ wq hb ho hc hd
            have hC : ∀ v, ρ (.const v) = v := fun v => hc _ (by intro t e; cases e)
            have hF : ∀ f, ρ (.func f) = .func (.func f) #[] #[] := fun f => hc _ (by intro t e; cases e)
            intro t ht; cases (show some 34 = some t from ht)
            exact ⟨fun he => absurd (he.symm.trans (hd 34 (by kernel_rfl))) (by first | simp | (intro h; cases h)), fun _ => rfl⟩
          · intro ρ wq hb ho hc hd
            have hC : ∀ v, ρ (.const v) = v := fun v => hc _ (by intro t e; cases e)
            have hF : ∀ f, ρ (.func f) = .func (.func f) #[] #[] := fun f => hc _ (by intro t e; cases e)
            intro t ht; cases (show some 34 = some t from ht)
            exact ⟨fun he => absurd (he.symm.trans (hd 34 (by kernel_rfl))) (by first | simp | (intro h; cases h)), fun _ => rfl⟩
          · intro ρ wq hb ho hc hd
            have hC : ∀ v, ρ (.const v) = v := fun v => hc _ (by intro t e; cases e)
            have hF : ∀ f, ρ (.func f) = .func (.func f) #[] #[] := fun f => hc _ (by intro t e; cases e)
            intro t ht; cases (show some 34 = some t from ht)
            exact ⟨fun he => absurd (he.symm.trans (hd 34 (by kernel_rfl))) (by first | simp | (intro h; cases h)), fun _ => rfl⟩
          · intro ρ wq hb ho hc hd
            have hC : ∀ v, ρ (.const v) = v := fun v => hc _ (by intro t e; cases e)
            have hF : ∀ f, ρ (.func f) = .func (.func f) #[] #[] := fun f => hc _ (by intro t e; cases e)
            have h34 : ρ (.tmp 34) = .bool false := hd 34 (by kernel_rfl)
            have h46 : ρ (.tmp 46) = undef := hd 46 (by kernel_rfl)
            exact Lin.Runs.value Lin.keeps (v := .bool false) (by simp [execOp, go_sem, hC, h34, h46]) rfl
          · intro ρ wq hb ho hc hd
            have hC : ∀ v, ρ (.const v) = v := fun v => hc _ (by intro t e; cases e)
            have hF : ∀ f, ρ (.func f) = .func (.func f) #[] #[] := fun f => hc _ (by intro t e; cases e)
            have h47 : ρ (.tmp 47) = .bool false := hd 47 (by kernel_rfl)
            exact Lin.Runs.value Lin.keeps (Lin.exec_move rfl) h47
          · intro ρ wq hb ho hc hd
            have hC : ∀ v, ρ (.const v) = v := fun v => hc _ (by intro t e; cases e)
            have hF : ∀ f, ρ (.func f) = .func (.func f) #[] #[] := fun f => hc _ (by intro t e; cases e)
            intro t ht; cases (show some 48 = some t from ht)
            exact ⟨fun he => absurd (he.symm.trans (hd 48 (by kernel_rfl))) (by first | simp | (intro h; cases h)), fun _ => rfl⟩
          · intro ρ wq hb ho hc hd
            have hC : ∀ v, ρ (.const v) = v := fun v => hc _ (by intro t e; cases e)
            have hF : ∀ f, ρ (.func f) = .func (.func f) #[] #[] := fun f => hc _ (by intro t e; cases e)
            intro t ht; cases (show some 48 = some t from ht)
            exact ⟨fun he => absurd (he.symm.trans (hd 48 (by kernel_rfl))) (by first | simp | (intro h; cases h)), fun _ => rfl⟩
          · intro ρ wq hb ho hc hd
            have hC : ∀ v, ρ (.const v) = v := fun v => hc _ (by intro t e; cases e)
            have hF : ∀ f, ρ (.func f) = .func (.func f) #[] #[] := fun f => hc _ (by intro t e; cases e)
            intro t ht; cases (show some 48 = some t from ht)
            exact ⟨fun he => absurd (he.symm.trans (hd 48 (by kernel_rfl))) (by first | simp | (intro h; cases h)), fun _ => rfl⟩
          · intro ρ wq hb ho hc hd
            have hC : ∀ v, ρ (.const v) = v := fun v => hc _ (by intro t e; cases e)
            have hF : ∀ f, ρ (.func f) = .func (.func f) #[] #[] := fun f => hc _ (by intro t e; cases e)
            intro t ht; cases (show some 48 = some t from ht)
            exact ⟨fun he => absurd (he.symm.trans (hd 48 (by kernel_rfl))) (by first | simp | (intro h; cases h)), fun _ => rfl⟩
          · intro ρ wq hb ho hc hd
            have hC : ∀ v, ρ (.const v) = v := fun v => hc _ (by intro t e; cases e)
            have hF : ∀ f, ρ (.func f) = .func (.func f) #[] #[] := fun f => hc _ (by intro t e; cases e)
            intro t ht; cases (show some 48 = some t from ht)
            exact ⟨fun he => absurd (he.symm.trans (hd 48 (by kernel_rfl))) (by first | simp | (intro h; cases h)), fun _ => rfl⟩
          · intro ρ wq hb ho hc hd
            have hC : ∀ v, ρ (.const v) = v := fun v => hc _ (by intro t e; cases e)
            have hF : ∀ f, ρ (.func f) = .func (.func f) #[] #[] := fun f => hc _ (by intro t e; cases e)
            intro t ht; cases (show some 48 = some t from ht)
            exact ⟨fun he => absurd (he.symm.trans (hd 48 (by kernel_rfl))) (by first | simp | (intro h; cases h)), fun _ => rfl⟩
          · intro ρ wq hb ho hc hd
            have hC : ∀ v, ρ (.const v) = v := fun v => hc _ (by intro t e; cases e)
            have hF : ∀ f, ρ (.func f) = .func (.func f) #[] #[] := fun f => hc _ (by intro t e; cases e)
            intro t ht; cases (show some 48 = some t from ht)
            exact ⟨fun he => absurd (he.symm.trans (hd 48 (by kernel_rfl))) (by first | simp | (intro h; cases h)), fun _ => rfl⟩
          · intro ρ wq hb ho hc hd
            have hC : ∀ v, ρ (.const v) = v := fun v => hc _ (by intro t e; cases e)
            have hF : ∀ f, ρ (.func f) = .func (.func f) #[] #[] := fun f => hc _ (by intro t e; cases e)
            intro t ht; cases (show some 48 = some t from ht)
            exact ⟨fun he => absurd (he.symm.trans (hd 48 (by kernel_rfl))) (by first | simp | (intro h; cases h)), fun _ => rfl⟩
          · intro ρ wq hb ho hc hd
            have hC : ∀ v, ρ (.const v) = v := fun v => hc _ (by intro t e; cases e)
            have hF : ∀ f, ρ (.func f) = .func (.func f) #[] #[] := fun f => hc _ (by intro t e; cases e)
            intro t ht; cases (show some 48 = some t from ht)
            exact ⟨fun he => absurd (he.symm.trans (hd 48 (by kernel_rfl))) (by first | simp | (intro h; cases h)), fun _ => rfl⟩
          · intro ρ wq hb ho hc hd
            have hC : ∀ v, ρ (.const v) = v := fun v => hc _ (by intro t e; cases e)
            have hF : ∀ f, ρ (.func f) = .func (.func f) #[] #[] := fun f => hc _ (by intro t e; cases e)
            intro t ht; cases (show some 48 = some t from ht)
            exact ⟨fun he => absurd (he.symm.trans (hd 48 (by kernel_rfl))) (by first | simp | (intro h; cases h)), fun _ => rfl⟩
          · intro ρ wq hb ho hc hd
            have hC : ∀ v, ρ (.const v) = v := fun v => hc _ (by intro t e; cases e)
            have hF : ∀ f, ρ (.func f) = .func (.func f) #[] #[] := fun f => hc _ (by intro t e; cases e)
            intro t ht; cases (show some 48 = some t from ht)
            exact ⟨fun he => absurd (he.symm.trans (hd 48 (by kernel_rfl))) (by first | simp | (intro h; cases h)), fun _ => rfl⟩
          · intro ρ wq hb ho hc hd
            have hC : ∀ v, ρ (.const v) = v := fun v => hc _ (by intro t e; cases e)
            have hF : ∀ f, ρ (.func f) = .func (.func f) #[] #[] := fun f => hc _ (by intro t e; cases e)
            intro t ht; cases (show some 48 = some t from ht)
            exact ⟨fun he => absurd (he.symm.trans (hd 48 (by kernel_rfl))) (by first | simp | (intro h; cases h)), fun _ => rfl⟩
          · intro ρ wq hb ho hc hd
            have hC : ∀ v, ρ (.const v) = v := fun v => hc _ (by intro t e; cases e)
            have hF : ∀ f, ρ (.func f) = .func (.func f) #[] #[] := fun f => hc _ (by intro t e; cases e)
            have h48 : ρ (.tmp 48) = .bool false := hd 48 (by kernel_rfl)
            have h60 : ρ (.tmp 60) = undef := hd 60 (by kernel_rfl)
            exact Lin.Runs.value Lin.keeps (v := .bool false) (by simp [execOp, go_sem, hC, h48, h60]) rfl
          · intro vals w5 hb2 hv
            have ee := hv 61 (by kernel_rfl)
            have HB5 := Lib.hid (HB.out.trans (hb2.mono hbsz)); have HO5 := Lib.hid (own_below HO.out hb2)
            have d0 := (hb2.cell (p := ⟨b, off + k * 4, none⟩) LB.out).trans d0; have d1 := (hb2.cell (p := ⟨b, off + k * 4 + 1, none⟩) LB.out).trans d1; have d2 := (hb2.cell (p := ⟨b, off + k * 4 + 2, none⟩) LB.out).trans d2; have d3 := (hb2.cell (p := ⟨b, off + k * 4 + 3, none⟩) LB.out).trans d3
            have hbsz := HB5.out.size
            clear hb2
            change wpList _ _ _ [_] _ _
            simp only [Lin.putAll, Option.getD_some, List.take_succ_cons, List.take_zero, List.drop_succ_cons, List.drop_zero]
            rw [show vals 61 = .bool false from ee]
            clear ee hv
            go_simp
            generalize vals = vv
            go_wp2_with (
              (with_reducible show wpList _ _ _ (⟨some 69, _, _, _, _, _⟩ :: _) _ _)
              go_loud (refine wpList_append_lies _ rfl (.tmp 62) (.tmp 68) _ rfl w.heap.size 70 i0 _ 5 40 Try.underlying66 HI0.out HZ0.out HZ1.out HZ2.out rfl (by omega) _ n0 (rsc (kp l k) (fun _ => 0) n0) rfl (World.ownsRow.alloc HO5.out (.cells #[.int .i64 xs, .int .i64 xb, .int .i64 xw, .int .u32 xl, .int .i64 0] 70)) ⟨w5.heap.size, 0, none⟩ 1 1 (#[.int .i64 xs, .int .i64 xb, .int .i64 xw, .int .u32 xl, .int .i64 0] : Array Value).toList rfl rfl (World.news_of_block (t := 70) (fr := (0, 0)) (heap_alloc_new w5 (.cells #[.int .i64 xs, .int .i64 xb, .int .i64 xw, .int .u32 xl, .int .i64 0] 70))) (by simp [Value.oneCell']) (by omega) (by have := HNK.out; have := KM.out; unfold maxLen; omega) (by have := HNK.out; have := KM.out; omega) (by simp; omega) (w5.heap.size + 1) (by simp) ?_)
              intro ga capa w6 ho6 hg6 hat6 hl6
              rw [show rsc (kp l k) (fun _ => 0) n0 ++ (#[.int .i64 xs, .int .i64 xb, .int .i64 xw, .int .u32 xl, .int .i64 0] : Array Value).toList = rsc (kp l (k + 1)) (fun _ => 0) (n0 + 1) from RAPP.out] at ho6
              have O6 := Lib.hid ho6
              have HB6 := Lib.hid ((HB5.out.alloc hbsz (.cells #[.int .i64 xs, .int .i64 xb, .int .i64 xw, .int .u32 xl, .int .i64 0] 70)).grown hg6 (by simp; omega) (fun q hq => HO5.out.lt q hq |>.1))
              have d2 := (HB6.out.cell (p := ⟨b, off + k * 4 + 2, none⟩) LB0.out).trans (QD2.out)
              clear ho6 hg6 hat6 hl6)
            go_roundw
            case rel => exact ⟨k + 1, n0 + 1, _, HLT.out, by go_num, LEN2.out, by have := HNK.out; omega, O6.out, rfl, by have := HBS2.out; simpa using this, by rw [HS2.out], unhide WF2, HB6.out⟩
            case measure => have := HLT.out; simp [intOf]; omega
        · have NE1 := Lib.hid ne
          have LG := Lib.hid (show g < wr.heap.size from World.block_lt_of_cell? wr _ q1)
          clear ne
          go_wp2_with fail
          refine Lin.wp_region_lin_tail Lin.keeps (n := 146) 35 (fun slotq => match slotq with | 27 => Lin.Spec.val (.bool true) | 28 => Lin.Spec.val (.bool true) | 29 => Lin.Spec.val (.int .i64 (n0 : Int)) | 30 => Lin.Spec.val (.slice (some ⟨g, 0, none⟩) n cw) | 31 => Lin.Spec.val (.int .i64 (n : Int)) | 32 => Lin.Spec.val (.bool true) | 33 => Lin.Spec.val (.bool true) | 34 => Lin.Spec.val (.bool true) | 35 => Lin.Spec.val (.slice (some ⟨g, 0, none⟩) n cw) | 36 => Lin.Spec.val (.int .i64 (n0 : Int)) | 37 => Lin.Spec.val (.pointer (some ⟨g, n0 * 5, none⟩)) | 38 => Lin.Spec.val (.pointer (some ⟨g, n0 * 5, none⟩)) | 39 => Lin.Spec.val (.pointer (some ⟨g, n0 * 5 + 1, none⟩)) | 40 => Lin.Spec.val (.int .i64 yb) | 41 => Lin.Spec.val (.slice (some ⟨b, off, none⟩) l.length c) | 42 => Lin.Spec.val (.int .i64 (k : Int)) | 43 => Lin.Spec.val (.pointer (some ⟨b, off + k * 4, none⟩)) | 44 => Lin.Spec.val (.pointer (some ⟨b, off + k * 4 + 1, none⟩)) | 45 => Lin.Spec.val (.int .i64 xb) | 46 => Lin.Spec.val (.bool false) | 47 => Lin.Spec.val (.bool false) | 48 => Lin.Spec.val (.bool false) | 49 => Lin.Spec.val (undef) | 50 => Lin.Spec.val (undef) | 51 => Lin.Spec.val (undef) | 52 => Lin.Spec.val (undef) | 53 => Lin.Spec.val (undef) | 54 => Lin.Spec.val (undef) | 55 => Lin.Spec.val (undef) | 56 => Lin.Spec.val (undef) | 57 => Lin.Spec.val (undef) | 58 => Lin.Spec.val (undef) | 59 => Lin.Spec.val (undef) | 60 => Lin.Spec.val (undef) | 61 => Lin.Spec.val (.bool false) | _ => Lin.Spec.any) (by kernel_rfl) rfl (by kernel_rfl) ⟨?_, ?_, ?_, ?_, ?_, ?_, ?_, ?_, ?_, ?_, ?_, ?_, ?_, ?_, ?_, ?_, ?_, ?_, ?_, ?_, ?_, ?_, ?_, ?_, ?_, ?_, ?_, ?_, ?_, ?_, ?_, ?_, ?_, ?_, ?_, trivial⟩ ?_
          · intro ρ wq hb ho hc hd
            have hC : ∀ v, ρ (.const v) = v := fun v => hc _ (by intro t e; cases e)
            have hF : ∀ f, ρ (.func f) = .func (.func f) #[] #[] := fun f => hc _ (by intro t e; cases e)
            have h7 : ρ (.tmp 7) = .bool true := ho 7 (by kernel_rfl)
            exact Lin.Runs.value Lin.keeps (Lin.exec_move rfl) h7
          · intro ρ wq hb ho hc hd
            have hC : ∀ v, ρ (.const v) = v := fun v => hc _ (by intro t e; cases e)
            have hF : ∀ f, ρ (.func f) = .func (.func f) #[] #[] := fun f => hc _ (by intro t e; cases e)
            have h27 : ρ (.tmp 27) = .bool true := hd 27 (by kernel_rfl)
            exact Lin.Runs.value Lin.keeps (Lin.exec_move rfl) h27
          · intro ρ wq hb ho hc hd
            have hC : ∀ v, ρ (.const v) = v := fun v => hc _ (by intro t e; cases e)
            have hF : ∀ f, ρ (.func f) = .func (.func f) #[] #[] := fun f => hc _ (by intro t e; cases e)
            intro t ht; cases (show some 28 = some t from ht)
            refine ⟨fun _ => ?_, fun hn => absurd (hd 28 (by kernel_rfl)) hn⟩
            have h10 : ρ (.tmp 10) = .int .i64 (n0 : Int) := ho 10 (by kernel_rfl)
            exact Lin.Runs.value Lin.keeps (Lin.exec_move rfl) h10
          · intro ρ wq hb ho hc hd
            have hC : ∀ v, ρ (.const v) = v := fun v => hc _ (by intro t e; cases e)
            have hF : ∀ f, ρ (.func f) = .func (.func f) #[] #[] := fun f => hc _ (by intro t e; cases e)
            intro t ht; cases (show some 28 = some t from ht)
            refine ⟨fun _ => ?_, fun hn => absurd (hd 28 (by kernel_rfl)) hn⟩
            have h0 : ρ (.tmp 0) = .slice (some ⟨g, 0, none⟩) n cw := ho 0 (by kernel_rfl)
            exact Lin.Runs.value Lin.keeps (Lin.exec_move rfl) h0
          · intro ρ wq hb ho hc hd
            have hC : ∀ v, ρ (.const v) = v := fun v => hc _ (by intro t e; cases e)
            have hF : ∀ f, ρ (.func f) = .func (.func f) #[] #[] := fun f => hc _ (by intro t e; cases e)
            intro t ht; cases (show some 28 = some t from ht)
            refine ⟨fun _ => ?_, fun hn => absurd (hd 28 (by kernel_rfl)) hn⟩
            have h30 : ρ (.tmp 30) = .slice (some ⟨g, 0, none⟩) n cw := hd 30 (by kernel_rfl)
            exact Lin.Runs.value Lin.keeps (v := .int .i64 (n : Int)) (by simp [execOp, go_sem, h30]) rfl
          · intro ρ wq hb ho hc hd
            have hC : ∀ v, ρ (.const v) = v := fun v => hc _ (by intro t e; cases e)
            have hF : ∀ f, ρ (.func f) = .func (.func f) #[] #[] := fun f => hc _ (by intro t e; cases e)
            intro t ht; cases (show some 28 = some t from ht)
            refine ⟨fun _ => ?_, fun hn => absurd (hd 28 (by kernel_rfl)) hn⟩
            have h29 : ρ (.tmp 29) = .int .i64 (n0 : Int) := hd 29 (by kernel_rfl)
            have h31 : ρ (.tmp 31) = .int .i64 (n : Int) := hd 31 (by kernel_rfl)
            exact Lin.Runs.value Lin.keeps (v := .bool true) (by simp [execOp, go_sem, h29, h31, nlt]) rfl
          · intro ρ wq hb ho hc hd
            have hC : ∀ v, ρ (.const v) = v := fun v => hc _ (by intro t e; cases e)
            have hF : ∀ f, ρ (.func f) = .func (.func f) #[] #[] := fun f => hc _ (by intro t e; cases e)
            have h28 : ρ (.tmp 28) = .bool true := hd 28 (by kernel_rfl)
            have h32 : ρ (.tmp 32) = .bool true := hd 32 (by kernel_rfl)
            exact Lin.Runs.value Lin.keeps (v := .bool true) (by simp [execOp, go_sem, hC, h28, h32]) rfl
          · intro ρ wq hb ho hc hd
            have hC : ∀ v, ρ (.const v) = v := fun v => hc _ (by intro t e; cases e)
            have hF : ∀ f, ρ (.func f) = .func (.func f) #[] #[] := fun f => hc _ (by intro t e; cases e)
            have h33 : ρ (.tmp 33) = .bool true := hd 33 (by kernel_rfl)
            exact Lin.Runs.value Lin.keeps (Lin.exec_move rfl) h33
          · intro ρ wq hb ho hc hd
            have hC : ∀ v, ρ (.const v) = v := fun v => hc _ (by intro t e; cases e)
            have hF : ∀ f, ρ (.func f) = .func (.func f) #[] #[] := fun f => hc _ (by intro t e; cases e)
            intro t ht; cases (show some 34 = some t from ht)
            refine ⟨fun _ => ?_, fun hn => absurd (hd 34 (by kernel_rfl)) hn⟩
            have h0 : ρ (.tmp 0) = .slice (some ⟨g, 0, none⟩) n cw := ho 0 (by kernel_rfl)
            exact Lin.Runs.value Lin.keeps (Lin.exec_move rfl) h0
          · intro ρ wq hb ho hc hd
            have hC : ∀ v, ρ (.const v) = v := fun v => hc _ (by intro t e; cases e)
            have hF : ∀ f, ρ (.func f) = .func (.func f) #[] #[] := fun f => hc _ (by intro t e; cases e)
            intro t ht; cases (show some 34 = some t from ht)
            refine ⟨fun _ => ?_, fun hn => absurd (hd 34 (by kernel_rfl)) hn⟩
            have h10 : ρ (.tmp 10) = .int .i64 (n0 : Int) := ho 10 (by kernel_rfl)
            exact Lin.Runs.value Lin.keeps (Lin.exec_move rfl) h10
          · intro ρ wq hb ho hc hd
            have hC : ∀ v, ρ (.const v) = v := fun v => hc _ (by intro t e; cases e)
            have hF : ∀ f, ρ (.func f) = .func (.func f) #[] #[] := fun f => hc _ (by intro t e; cases e)
            intro t ht; cases (show some 34 = some t from ht)
            refine ⟨fun _ => ?_, fun hn => absurd (hd 34 (by kernel_rfl)) hn⟩
            have h35 : ρ (.tmp 35) = .slice (some ⟨g, 0, none⟩) n cw := hd 35 (by kernel_rfl)
            have h36 : ρ (.tmp 36) = .int .i64 (n0 : Int) := hd 36 (by kernel_rfl)
            exact Lin.Runs.value Lin.keeps (v := .pointer (some ⟨g, n0 * 5, none⟩)) (by simp [execOp, go_sem, h35, h36, hn00, nlt]) rfl
          · intro ρ wq hb ho hc hd
            have hC : ∀ v, ρ (.const v) = v := fun v => hc _ (by intro t e; cases e)
            have hF : ∀ f, ρ (.func f) = .func (.func f) #[] #[] := fun f => hc _ (by intro t e; cases e)
            intro t ht; cases (show some 34 = some t from ht)
            refine ⟨fun _ => ?_, fun hn => absurd (hd 34 (by kernel_rfl)) hn⟩
            have h37 : ρ (.tmp 37) = .pointer (some ⟨g, n0 * 5, none⟩) := hd 37 (by kernel_rfl)
            exact Lin.Runs.value Lin.keeps (v := .pointer (some ⟨g, n0 * 5, none⟩)) (by simp [execOp, go_sem, h37]) rfl
          · intro ρ wq hb ho hc hd
            have hC : ∀ v, ρ (.const v) = v := fun v => hc _ (by intro t e; cases e)
            have hF : ∀ f, ρ (.func f) = .func (.func f) #[] #[] := fun f => hc _ (by intro t e; cases e)
            intro t ht; cases (show some 34 = some t from ht)
            refine ⟨fun _ => ?_, fun hn => absurd (hd 34 (by kernel_rfl)) hn⟩
            have h38 : ρ (.tmp 38) = .pointer (some ⟨g, n0 * 5, none⟩) := hd 38 (by kernel_rfl)
            exact Lin.Runs.value Lin.keeps (v := .pointer (some ⟨g, n0 * 5 + 1, none⟩)) (by simp [execOp, go_sem, h38]) rfl
          · intro ρ wq hb ho hc hd
            have hC : ∀ v, ρ (.const v) = v := fun v => hc _ (by intro t e; cases e)
            have hF : ∀ f, ρ (.func f) = .func (.func f) #[] #[] := fun f => hc _ (by intro t e; cases e)
            intro t ht; cases (show some 34 = some t from ht)
            refine ⟨fun _ => ?_, fun hn => absurd (hd 34 (by kernel_rfl)) hn⟩
            have h39 : ρ (.tmp 39) = .pointer (some ⟨g, n0 * 5 + 1, none⟩) := hd 39 (by kernel_rfl)
            have dd := (hb.cell (p := ⟨g, n0 * 5 + 1, none⟩) LG.out).trans q1
            exact Lin.Runs.value Lin.keeps (v := .int .i64 yb) (by simp [execOp, go_sem, h39, dd]) rfl
          · intro ρ wq hb ho hc hd
            have hC : ∀ v, ρ (.const v) = v := fun v => hc _ (by intro t e; cases e)
            have hF : ∀ f, ρ (.func f) = .func (.func f) #[] #[] := fun f => hc _ (by intro t e; cases e)
            intro t ht; cases (show some 34 = some t from ht)
            refine ⟨fun _ => ?_, fun hn => absurd (hd 34 (by kernel_rfl)) hn⟩
            have h1 : ρ (.tmp 1) = .slice (some ⟨b, off, none⟩) l.length c := ho 1 (by kernel_rfl)
            exact Lin.Runs.value Lin.keeps (Lin.exec_move rfl) h1
          · intro ρ wq hb ho hc hd
            have hC : ∀ v, ρ (.const v) = v := fun v => hc _ (by intro t e; cases e)
            have hF : ∀ f, ρ (.func f) = .func (.func f) #[] #[] := fun f => hc _ (by intro t e; cases e)
            intro t ht; cases (show some 34 = some t from ht)
            refine ⟨fun _ => ?_, fun hn => absurd (hd 34 (by kernel_rfl)) hn⟩
            have h9 : ρ (.tmp 9) = .int .i64 (k : Int) := ho 9 (by kernel_rfl)
            exact Lin.Runs.value Lin.keeps (Lin.exec_move rfl) h9
          · intro ρ wq hb ho hc hd
            have hC : ∀ v, ρ (.const v) = v := fun v => hc _ (by intro t e; cases e)
            have hF : ∀ f, ρ (.func f) = .func (.func f) #[] #[] := fun f => hc _ (by intro t e; cases e)
            intro t ht; cases (show some 34 = some t from ht)
            refine ⟨fun _ => ?_, fun hn => absurd (hd 34 (by kernel_rfl)) hn⟩
            have h41 : ρ (.tmp 41) = .slice (some ⟨b, off, none⟩) l.length c := hd 41 (by kernel_rfl)
            have h42 : ρ (.tmp 42) = .int .i64 (k : Int) := hd 42 (by kernel_rfl)
            exact Lin.Runs.value Lin.keeps (v := .pointer (some ⟨b, off + k * 4, none⟩)) (by simp [execOp, go_sem, h41, h42, hk0, hk1]) rfl
          · intro ρ wq hb ho hc hd
            have hC : ∀ v, ρ (.const v) = v := fun v => hc _ (by intro t e; cases e)
            have hF : ∀ f, ρ (.func f) = .func (.func f) #[] #[] := fun f => hc _ (by intro t e; cases e)
            intro t ht; cases (show some 34 = some t from ht)
            refine ⟨fun _ => ?_, fun hn => absurd (hd 34 (by kernel_rfl)) hn⟩
            have h43 : ρ (.tmp 43) = .pointer (some ⟨b, off + k * 4, none⟩) := hd 43 (by kernel_rfl)
            exact Lin.Runs.value Lin.keeps (v := .pointer (some ⟨b, off + k * 4 + 1, none⟩)) (by simp [execOp, go_sem, h43]) rfl
          · intro ρ wq hb ho hc hd
            have hC : ∀ v, ρ (.const v) = v := fun v => hc _ (by intro t e; cases e)
            have hF : ∀ f, ρ (.func f) = .func (.func f) #[] #[] := fun f => hc _ (by intro t e; cases e)
            intro t ht; cases (show some 34 = some t from ht)
            refine ⟨fun _ => ?_, fun hn => absurd (hd 34 (by kernel_rfl)) hn⟩
            have h44 : ρ (.tmp 44) = .pointer (some ⟨b, off + k * 4 + 1, none⟩) := hd 44 (by kernel_rfl)
            have dd := (hb.cell (p := ⟨b, off + k * 4 + 1, none⟩) LB.out).trans d1
            exact Lin.Runs.value Lin.keeps (v := .int .i64 xb) (by simp [execOp, go_sem, h44, dd]) rfl
          · intro ρ wq hb ho hc hd
            have hC : ∀ v, ρ (.const v) = v := fun v => hc _ (by intro t e; cases e)
            have hF : ∀ f, ρ (.func f) = .func (.func f) #[] #[] := fun f => hc _ (by intro t e; cases e)
            intro t ht; cases (show some 34 = some t from ht)
            refine ⟨fun _ => ?_, fun hn => absurd (hd 34 (by kernel_rfl)) hn⟩
            have h40 : ρ (.tmp 40) = .int .i64 yb := hd 40 (by kernel_rfl)
            have h45 : ρ (.tmp 45) = .int .i64 xb := hd 45 (by kernel_rfl)
            have ne1 := NE1.out
            exact Lin.Runs.value Lin.keeps (v := .bool false) (by simp [execOp, go_sem, h40, h45, ne1]) rfl
          · intro ρ wq hb ho hc hd
            have hC : ∀ v, ρ (.const v) = v := fun v => hc _ (by intro t e; cases e)
            have hF : ∀ f, ρ (.func f) = .func (.func f) #[] #[] := fun f => hc _ (by intro t e; cases e)
            have h34 : ρ (.tmp 34) = .bool true := hd 34 (by kernel_rfl)
            have h46 : ρ (.tmp 46) = .bool false := hd 46 (by kernel_rfl)
            exact Lin.Runs.value Lin.keeps (v := .bool false) (by simp [execOp, go_sem, hC, h34, h46]) rfl
          · intro ρ wq hb ho hc hd
            have hC : ∀ v, ρ (.const v) = v := fun v => hc _ (by intro t e; cases e)
            have hF : ∀ f, ρ (.func f) = .func (.func f) #[] #[] := fun f => hc _ (by intro t e; cases e)
            have h47 : ρ (.tmp 47) = .bool false := hd 47 (by kernel_rfl)
            exact Lin.Runs.value Lin.keeps (Lin.exec_move rfl) h47
          · intro ρ wq hb ho hc hd
            have hC : ∀ v, ρ (.const v) = v := fun v => hc _ (by intro t e; cases e)
            have hF : ∀ f, ρ (.func f) = .func (.func f) #[] #[] := fun f => hc _ (by intro t e; cases e)
            intro t ht; cases (show some 48 = some t from ht)
            exact ⟨fun he => absurd (he.symm.trans (hd 48 (by kernel_rfl))) (by first | simp | (intro h; cases h)), fun _ => rfl⟩
          · intro ρ wq hb ho hc hd
            have hC : ∀ v, ρ (.const v) = v := fun v => hc _ (by intro t e; cases e)
            have hF : ∀ f, ρ (.func f) = .func (.func f) #[] #[] := fun f => hc _ (by intro t e; cases e)
            intro t ht; cases (show some 48 = some t from ht)
            exact ⟨fun he => absurd (he.symm.trans (hd 48 (by kernel_rfl))) (by first | simp | (intro h; cases h)), fun _ => rfl⟩
          · intro ρ wq hb ho hc hd
            have hC : ∀ v, ρ (.const v) = v := fun v => hc _ (by intro t e; cases e)
            have hF : ∀ f, ρ (.func f) = .func (.func f) #[] #[] := fun f => hc _ (by intro t e; cases e)
            intro t ht; cases (show some 48 = some t from ht)
            exact ⟨fun he => absurd (he.symm.trans (hd 48 (by kernel_rfl))) (by first | simp | (intro h; cases h)), fun _ => rfl⟩
          · intro ρ wq hb ho hc hd
            have hC : ∀ v, ρ (.const v) = v := fun v => hc _ (by intro t e; cases e)
            have hF : ∀ f, ρ (.func f) = .func (.func f) #[] #[] := fun f => hc _ (by intro t e; cases e)
            intro t ht; cases (show some 48 = some t from ht)
            exact ⟨fun he => absurd (he.symm.trans (hd 48 (by kernel_rfl))) (by first | simp | (intro h; cases h)), fun _ => rfl⟩
          · intro ρ wq hb ho hc hd
            have hC : ∀ v, ρ (.const v) = v := fun v => hc _ (by intro t e; cases e)
            have hF : ∀ f, ρ (.func f) = .func (.func f) #[] #[] := fun f => hc _ (by intro t e; cases e)
            intro t ht; cases (show some 48 = some t from ht)
            exact ⟨fun he => absurd (he.symm.trans (hd 48 (by kernel_rfl))) (by first | simp | (intro h; cases h)), fun _ => rfl⟩
          · intro ρ wq hb ho hc hd
            have hC : ∀ v, ρ (.const v) = v := fun v => hc _ (by intro t e; cases e)
            have hF : ∀ f, ρ (.func f) = .func (.func f) #[] #[] := fun f => hc _ (by intro t e; cases e)
            intro t ht; cases (show some 48 = some t from ht)
            exact ⟨fun he => absurd (he.symm.trans (hd 48 (by kernel_rfl))) (by first | simp | (intro h; cases h)), fun _ => rfl⟩
          · intro ρ wq hb ho hc hd
            have hC : ∀ v, ρ (.const v) = v := fun v => hc _ (by intro t e; cases e)
            have hF : ∀ f, ρ (.func f) = .func (.func f) #[] #[] := fun f => hc _ (by intro t e; cases e)
            intro t ht; cases (show some 48 = some t from ht)
            exact ⟨fun he => absurd (he.symm.trans (hd 48 (by kernel_rfl))) (by first | simp | (intro h; cases h)), fun _ => rfl⟩
          · intro ρ wq hb ho hc hd
            have hC : ∀ v, ρ (.const v) = v := fun v => hc _ (by intro t e; cases e)
            have hF : ∀ f, ρ (.func f) = .func (.func f) #[] #[] := fun f => hc _ (by intro t e; cases e)
            intro t ht; cases (show some 48 = some t from ht)
            exact ⟨fun he => absurd (he.symm.trans (hd 48 (by kernel_rfl))) (by first | simp | (intro h; cases h)), fun _ => rfl⟩
          · intro ρ wq hb ho hc hd
            have hC : ∀ v, ρ (.const v) = v := fun v => hc _ (by intro t e; cases e)
            have hF : ∀ f, ρ (.func f) = .func (.func f) #[] #[] := fun f => hc _ (by intro t e; cases e)
            intro t ht; cases (show some 48 = some t from ht)
            exact ⟨fun he => absurd (he.symm.trans (hd 48 (by kernel_rfl))) (by first | simp | (intro h; cases h)), fun _ => rfl⟩
          · intro ρ wq hb ho hc hd
            have hC : ∀ v, ρ (.const v) = v := fun v => hc _ (by intro t e; cases e)
            have hF : ∀ f, ρ (.func f) = .func (.func f) #[] #[] := fun f => hc _ (by intro t e; cases e)
            intro t ht; cases (show some 48 = some t from ht)
            exact ⟨fun he => absurd (he.symm.trans (hd 48 (by kernel_rfl))) (by first | simp | (intro h; cases h)), fun _ => rfl⟩
          · intro ρ wq hb ho hc hd
            have hC : ∀ v, ρ (.const v) = v := fun v => hc _ (by intro t e; cases e)
            have hF : ∀ f, ρ (.func f) = .func (.func f) #[] #[] := fun f => hc _ (by intro t e; cases e)
            intro t ht; cases (show some 48 = some t from ht)
            exact ⟨fun he => absurd (he.symm.trans (hd 48 (by kernel_rfl))) (by first | simp | (intro h; cases h)), fun _ => rfl⟩
          · intro ρ wq hb ho hc hd
            have hC : ∀ v, ρ (.const v) = v := fun v => hc _ (by intro t e; cases e)
            have hF : ∀ f, ρ (.func f) = .func (.func f) #[] #[] := fun f => hc _ (by intro t e; cases e)
            intro t ht; cases (show some 48 = some t from ht)
            exact ⟨fun he => absurd (he.symm.trans (hd 48 (by kernel_rfl))) (by first | simp | (intro h; cases h)), fun _ => rfl⟩
          · intro ρ wq hb ho hc hd
            have hC : ∀ v, ρ (.const v) = v := fun v => hc _ (by intro t e; cases e)
            have hF : ∀ f, ρ (.func f) = .func (.func f) #[] #[] := fun f => hc _ (by intro t e; cases e)
            have h48 : ρ (.tmp 48) = .bool false := hd 48 (by kernel_rfl)
            have h60 : ρ (.tmp 60) = undef := hd 60 (by kernel_rfl)
            exact Lin.Runs.value Lin.keeps (v := .bool false) (by simp [execOp, go_sem, hC, h48, h60]) rfl
          · intro vals w5 hb2 hv
            have ee := hv 61 (by kernel_rfl)
            have HB5 := Lib.hid (HB.out.trans (hb2.mono hbsz)); have HO5 := Lib.hid (own_below HO.out hb2)
            have d0 := (hb2.cell (p := ⟨b, off + k * 4, none⟩) LB.out).trans d0; have d1 := (hb2.cell (p := ⟨b, off + k * 4 + 1, none⟩) LB.out).trans d1; have d2 := (hb2.cell (p := ⟨b, off + k * 4 + 2, none⟩) LB.out).trans d2; have d3 := (hb2.cell (p := ⟨b, off + k * 4 + 3, none⟩) LB.out).trans d3
            have hbsz := HB5.out.size
            clear hb2
            change wpList _ _ _ [_] _ _
            simp only [Lin.putAll, Option.getD_some, List.take_succ_cons, List.take_zero, List.drop_succ_cons, List.drop_zero]
            rw [show vals 61 = .bool false from ee]
            clear ee hv
            go_simp
            generalize vals = vv
            go_wp2_with (
              (with_reducible show wpList _ _ _ (⟨some 69, _, _, _, _, _⟩ :: _) _ _)
              go_loud (refine wpList_append_lies _ rfl (.tmp 62) (.tmp 68) _ rfl w.heap.size 70 i0 _ 5 40 Try.underlying66 HI0.out HZ0.out HZ1.out HZ2.out rfl (by omega) _ n0 (rsc (kp l k) (fun _ => 0) n0) rfl (World.ownsRow.alloc HO5.out (.cells #[.int .i64 xs, .int .i64 xb, .int .i64 xw, .int .u32 xl, .int .i64 0] 70)) ⟨w5.heap.size, 0, none⟩ 1 1 (#[.int .i64 xs, .int .i64 xb, .int .i64 xw, .int .u32 xl, .int .i64 0] : Array Value).toList rfl rfl (World.news_of_block (t := 70) (fr := (0, 0)) (heap_alloc_new w5 (.cells #[.int .i64 xs, .int .i64 xb, .int .i64 xw, .int .u32 xl, .int .i64 0] 70))) (by simp [Value.oneCell']) (by omega) (by have := HNK.out; have := KM.out; unfold maxLen; omega) (by have := HNK.out; have := KM.out; omega) (by simp; omega) (w5.heap.size + 1) (by simp) ?_)
              intro ga capa w6 ho6 hg6 hat6 hl6
              rw [show rsc (kp l k) (fun _ => 0) n0 ++ (#[.int .i64 xs, .int .i64 xb, .int .i64 xw, .int .u32 xl, .int .i64 0] : Array Value).toList = rsc (kp l (k + 1)) (fun _ => 0) (n0 + 1) from RAPP.out] at ho6
              have O6 := Lib.hid ho6
              have HB6 := Lib.hid ((HB5.out.alloc hbsz (.cells #[.int .i64 xs, .int .i64 xb, .int .i64 xw, .int .u32 xl, .int .i64 0] 70)).grown hg6 (by simp; omega) (fun q hq => HO5.out.lt q hq |>.1))
              have d2 := (HB6.out.cell (p := ⟨b, off + k * 4 + 2, none⟩) LB0.out).trans (QD2.out)
              clear ho6 hg6 hat6 hl6)
            go_roundw
            case rel => exact ⟨k + 1, n0 + 1, _, HLT.out, by go_num, LEN2.out, by have := HNK.out; omega, O6.out, rfl, by have := HBS2.out; simpa using this, by rw [HS2.out], unhide WF2, HB6.out⟩
            case measure => have := HLT.out; simp [intOf]; omega
        · have NE1 := Lib.hid he; have NE2 := Lib.hid ne
          have LG := Lib.hid (show g < wr.heap.size from World.block_lt_of_cell? wr _ q1)
          clear ne he
          go_wp2_with fail
          refine Lin.wp_region_lin_tail Lin.keeps (n := 146) 35 (fun slotq => match slotq with | 27 => Lin.Spec.val (.bool true) | 28 => Lin.Spec.val (.bool true) | 29 => Lin.Spec.val (.int .i64 (n0 : Int)) | 30 => Lin.Spec.val (.slice (some ⟨g, 0, none⟩) n cw) | 31 => Lin.Spec.val (.int .i64 (n : Int)) | 32 => Lin.Spec.val (.bool true) | 33 => Lin.Spec.val (.bool true) | 34 => Lin.Spec.val (.bool true) | 35 => Lin.Spec.val (.slice (some ⟨g, 0, none⟩) n cw) | 36 => Lin.Spec.val (.int .i64 (n0 : Int)) | 37 => Lin.Spec.val (.pointer (some ⟨g, n0 * 5, none⟩)) | 38 => Lin.Spec.val (.pointer (some ⟨g, n0 * 5, none⟩)) | 39 => Lin.Spec.val (.pointer (some ⟨g, n0 * 5 + 1, none⟩)) | 40 => Lin.Spec.val (.int .i64 yb) | 41 => Lin.Spec.val (.slice (some ⟨b, off, none⟩) l.length c) | 42 => Lin.Spec.val (.int .i64 (k : Int)) | 43 => Lin.Spec.val (.pointer (some ⟨b, off + k * 4, none⟩)) | 44 => Lin.Spec.val (.pointer (some ⟨b, off + k * 4 + 1, none⟩)) | 45 => Lin.Spec.val (.int .i64 xb) | 46 => Lin.Spec.val (.bool true) | 47 => Lin.Spec.val (.bool true) | 48 => Lin.Spec.val (.bool true) | 49 => Lin.Spec.val (.slice (some ⟨g, 0, none⟩) n cw) | 50 => Lin.Spec.val (.int .i64 (n0 : Int)) | 51 => Lin.Spec.val (.pointer (some ⟨g, n0 * 5, none⟩)) | 52 => Lin.Spec.val (.pointer (some ⟨g, n0 * 5, none⟩)) | 53 => Lin.Spec.val (.pointer (some ⟨g, n0 * 5 + 2, none⟩)) | 54 => Lin.Spec.val (.int .i64 yw) | 55 => Lin.Spec.val (.slice (some ⟨b, off, none⟩) l.length c) | 56 => Lin.Spec.val (.int .i64 (k : Int)) | 57 => Lin.Spec.val (.pointer (some ⟨b, off + k * 4, none⟩)) | 58 => Lin.Spec.val (.pointer (some ⟨b, off + k * 4 + 2, none⟩)) | 59 => Lin.Spec.val (.int .i64 xw) | 60 => Lin.Spec.val (.bool false) | 61 => Lin.Spec.val (.bool false) | _ => Lin.Spec.any) (by kernel_rfl) rfl (by kernel_rfl) ⟨?_, ?_, ?_, ?_, ?_, ?_, ?_, ?_, ?_, ?_, ?_, ?_, ?_, ?_, ?_, ?_, ?_, ?_, ?_, ?_, ?_, ?_, ?_, ?_, ?_, ?_, ?_, ?_, ?_, ?_, ?_, ?_, ?_, ?_, ?_, trivial⟩ ?_
          · intro ρ wq hb ho hc hd
            have hC : ∀ v, ρ (.const v) = v := fun v => hc _ (by intro t e; cases e)
            have hF : ∀ f, ρ (.func f) = .func (.func f) #[] #[] := fun f => hc _ (by intro t e; cases e)
            have h7 : ρ (.tmp 7) = .bool true := ho 7 (by kernel_rfl)
            exact Lin.Runs.value Lin.keeps (Lin.exec_move rfl) h7
          · intro ρ wq hb ho hc hd
            have hC : ∀ v, ρ (.const v) = v := fun v => hc _ (by intro t e; cases e)
            have hF : ∀ f, ρ (.func f) = .func (.func f) #[] #[] := fun f => hc _ (by intro t e; cases e)
            have h27 : ρ (.tmp 27) = .bool true := hd 27 (by kernel_rfl)
            exact Lin.Runs.value Lin.keeps (Lin.exec_move rfl) h27
          · intro ρ wq hb ho hc hd
            have hC : ∀ v, ρ (.const v) = v := fun v => hc _ (by intro t e; cases e)
            have hF : ∀ f, ρ (.func f) = .func (.func f) #[] #[] := fun f => hc _ (by intro t e; cases e)
            intro t ht; cases (show some 28 = some t from ht)
            refine ⟨fun _ => ?_, fun hn => absurd (hd 28 (by kernel_rfl)) hn⟩
            have h10 : ρ (.tmp 10) = .int .i64 (n0 : Int) := ho 10 (by kernel_rfl)
            exact Lin.Runs.value Lin.keeps (Lin.exec_move rfl) h10
          · intro ρ wq hb ho hc hd
            have hC : ∀ v, ρ (.const v) = v := fun v => hc _ (by intro t e; cases e)
            have hF : ∀ f, ρ (.func f) = .func (.func f) #[] #[] := fun f => hc _ (by intro t e; cases e)
            intro t ht; cases (show some 28 = some t from ht)
            refine ⟨fun _ => ?_, fun hn => absurd (hd 28 (by kernel_rfl)) hn⟩
            have h0 : ρ (.tmp 0) = .slice (some ⟨g, 0, none⟩) n cw := ho 0 (by kernel_rfl)
            exact Lin.Runs.value Lin.keeps (Lin.exec_move rfl) h0
          · intro ρ wq hb ho hc hd
            have hC : ∀ v, ρ (.const v) = v := fun v => hc _ (by intro t e; cases e)
            have hF : ∀ f, ρ (.func f) = .func (.func f) #[] #[] := fun f => hc _ (by intro t e; cases e)
            intro t ht; cases (show some 28 = some t from ht)
            refine ⟨fun _ => ?_, fun hn => absurd (hd 28 (by kernel_rfl)) hn⟩
            have h30 : ρ (.tmp 30) = .slice (some ⟨g, 0, none⟩) n cw := hd 30 (by kernel_rfl)
            exact Lin.Runs.value Lin.keeps (v := .int .i64 (n : Int)) (by simp [execOp, go_sem, h30]) rfl
          · intro ρ wq hb ho hc hd
            have hC : ∀ v, ρ (.const v) = v := fun v => hc _ (by intro t e; cases e)
            have hF : ∀ f, ρ (.func f) = .func (.func f) #[] #[] := fun f => hc _ (by intro t e; cases e)
            intro t ht; cases (show some 28 = some t from ht)
            refine ⟨fun _ => ?_, fun hn => absurd (hd 28 (by kernel_rfl)) hn⟩
            have h29 : ρ (.tmp 29) = .int .i64 (n0 : Int) := hd 29 (by kernel_rfl)
            have h31 : ρ (.tmp 31) = .int .i64 (n : Int) := hd 31 (by kernel_rfl)
            exact Lin.Runs.value Lin.keeps (v := .bool true) (by simp [execOp, go_sem, h29, h31, nlt]) rfl
          · intro ρ wq hb ho hc hd
            have hC : ∀ v, ρ (.const v) = v := fun v => hc _ (by intro t e; cases e)
            have hF : ∀ f, ρ (.func f) = .func (.func f) #[] #[] := fun f => hc _ (by intro t e; cases e)
            have h28 : ρ (.tmp 28) = .bool true := hd 28 (by kernel_rfl)
            have h32 : ρ (.tmp 32) = .bool true := hd 32 (by kernel_rfl)
            exact Lin.Runs.value Lin.keeps (v := .bool true) (by simp [execOp, go_sem, hC, h28, h32]) rfl
          · intro ρ wq hb ho hc hd
            have hC : ∀ v, ρ (.const v) = v := fun v => hc _ (by intro t e; cases e)
            have hF : ∀ f, ρ (.func f) = .func (.func f) #[] #[] := fun f => hc _ (by intro t e; cases e)
            have h33 : ρ (.tmp 33) = .bool true := hd 33 (by kernel_rfl)
            exact Lin.Runs.value Lin.keeps (Lin.exec_move rfl) h33
          · intro ρ wq hb ho hc hd
            have hC : ∀ v, ρ (.const v) = v := fun v => hc _ (by intro t e; cases e)
            have hF : ∀ f, ρ (.func f) = .func (.func f) #[] #[] := fun f => hc _ (by intro t e; cases e)
            intro t ht; cases (show some 34 = some t from ht)
            refine ⟨fun _ => ?_, fun hn => absurd (hd 34 (by kernel_rfl)) hn⟩
            have h0 : ρ (.tmp 0) = .slice (some ⟨g, 0, none⟩) n cw := ho 0 (by kernel_rfl)
            exact Lin.Runs.value Lin.keeps (Lin.exec_move rfl) h0
          · intro ρ wq hb ho hc hd
            have hC : ∀ v, ρ (.const v) = v := fun v => hc _ (by intro t e; cases e)
            have hF : ∀ f, ρ (.func f) = .func (.func f) #[] #[] := fun f => hc _ (by intro t e; cases e)
            intro t ht; cases (show some 34 = some t from ht)
            refine ⟨fun _ => ?_, fun hn => absurd (hd 34 (by kernel_rfl)) hn⟩
            have h10 : ρ (.tmp 10) = .int .i64 (n0 : Int) := ho 10 (by kernel_rfl)
            exact Lin.Runs.value Lin.keeps (Lin.exec_move rfl) h10
          · intro ρ wq hb ho hc hd
            have hC : ∀ v, ρ (.const v) = v := fun v => hc _ (by intro t e; cases e)
            have hF : ∀ f, ρ (.func f) = .func (.func f) #[] #[] := fun f => hc _ (by intro t e; cases e)
            intro t ht; cases (show some 34 = some t from ht)
            refine ⟨fun _ => ?_, fun hn => absurd (hd 34 (by kernel_rfl)) hn⟩
            have h35 : ρ (.tmp 35) = .slice (some ⟨g, 0, none⟩) n cw := hd 35 (by kernel_rfl)
            have h36 : ρ (.tmp 36) = .int .i64 (n0 : Int) := hd 36 (by kernel_rfl)
            exact Lin.Runs.value Lin.keeps (v := .pointer (some ⟨g, n0 * 5, none⟩)) (by simp [execOp, go_sem, h35, h36, hn00, nlt]) rfl
          · intro ρ wq hb ho hc hd
            have hC : ∀ v, ρ (.const v) = v := fun v => hc _ (by intro t e; cases e)
            have hF : ∀ f, ρ (.func f) = .func (.func f) #[] #[] := fun f => hc _ (by intro t e; cases e)
            intro t ht; cases (show some 34 = some t from ht)
            refine ⟨fun _ => ?_, fun hn => absurd (hd 34 (by kernel_rfl)) hn⟩
            have h37 : ρ (.tmp 37) = .pointer (some ⟨g, n0 * 5, none⟩) := hd 37 (by kernel_rfl)
            exact Lin.Runs.value Lin.keeps (v := .pointer (some ⟨g, n0 * 5, none⟩)) (by simp [execOp, go_sem, h37]) rfl
          · intro ρ wq hb ho hc hd
            have hC : ∀ v, ρ (.const v) = v := fun v => hc _ (by intro t e; cases e)
            have hF : ∀ f, ρ (.func f) = .func (.func f) #[] #[] := fun f => hc _ (by intro t e; cases e)
            intro t ht; cases (show some 34 = some t from ht)
            refine ⟨fun _ => ?_, fun hn => absurd (hd 34 (by kernel_rfl)) hn⟩
            have h38 : ρ (.tmp 38) = .pointer (some ⟨g, n0 * 5, none⟩) := hd 38 (by kernel_rfl)
            exact Lin.Runs.value Lin.keeps (v := .pointer (some ⟨g, n0 * 5 + 1, none⟩)) (by simp [execOp, go_sem, h38]) rfl
          · intro ρ wq hb ho hc hd
            have hC : ∀ v, ρ (.const v) = v := fun v => hc _ (by intro t e; cases e)
            have hF : ∀ f, ρ (.func f) = .func (.func f) #[] #[] := fun f => hc _ (by intro t e; cases e)
            intro t ht; cases (show some 34 = some t from ht)
            refine ⟨fun _ => ?_, fun hn => absurd (hd 34 (by kernel_rfl)) hn⟩
            have h39 : ρ (.tmp 39) = .pointer (some ⟨g, n0 * 5 + 1, none⟩) := hd 39 (by kernel_rfl)
            have dd := (hb.cell (p := ⟨g, n0 * 5 + 1, none⟩) LG.out).trans q1
            exact Lin.Runs.value Lin.keeps (v := .int .i64 yb) (by simp [execOp, go_sem, h39, dd]) rfl
          · intro ρ wq hb ho hc hd
            have hC : ∀ v, ρ (.const v) = v := fun v => hc _ (by intro t e; cases e)
            have hF : ∀ f, ρ (.func f) = .func (.func f) #[] #[] := fun f => hc _ (by intro t e; cases e)
            intro t ht; cases (show some 34 = some t from ht)
            refine ⟨fun _ => ?_, fun hn => absurd (hd 34 (by kernel_rfl)) hn⟩
            have h1 : ρ (.tmp 1) = .slice (some ⟨b, off, none⟩) l.length c := ho 1 (by kernel_rfl)
            exact Lin.Runs.value Lin.keeps (Lin.exec_move rfl) h1
          · intro ρ wq hb ho hc hd
            have hC : ∀ v, ρ (.const v) = v := fun v => hc _ (by intro t e; cases e)
            have hF : ∀ f, ρ (.func f) = .func (.func f) #[] #[] := fun f => hc _ (by intro t e; cases e)
            intro t ht; cases (show some 34 = some t from ht)
            refine ⟨fun _ => ?_, fun hn => absurd (hd 34 (by kernel_rfl)) hn⟩
            have h9 : ρ (.tmp 9) = .int .i64 (k : Int) := ho 9 (by kernel_rfl)
            exact Lin.Runs.value Lin.keeps (Lin.exec_move rfl) h9
          · intro ρ wq hb ho hc hd
            have hC : ∀ v, ρ (.const v) = v := fun v => hc _ (by intro t e; cases e)
            have hF : ∀ f, ρ (.func f) = .func (.func f) #[] #[] := fun f => hc _ (by intro t e; cases e)
            intro t ht; cases (show some 34 = some t from ht)
            refine ⟨fun _ => ?_, fun hn => absurd (hd 34 (by kernel_rfl)) hn⟩
            have h41 : ρ (.tmp 41) = .slice (some ⟨b, off, none⟩) l.length c := hd 41 (by kernel_rfl)
            have h42 : ρ (.tmp 42) = .int .i64 (k : Int) := hd 42 (by kernel_rfl)
            exact Lin.Runs.value Lin.keeps (v := .pointer (some ⟨b, off + k * 4, none⟩)) (by simp [execOp, go_sem, h41, h42, hk0, hk1]) rfl
          · intro ρ wq hb ho hc hd
            have hC : ∀ v, ρ (.const v) = v := fun v => hc _ (by intro t e; cases e)
            have hF : ∀ f, ρ (.func f) = .func (.func f) #[] #[] := fun f => hc _ (by intro t e; cases e)
            intro t ht; cases (show some 34 = some t from ht)
            refine ⟨fun _ => ?_, fun hn => absurd (hd 34 (by kernel_rfl)) hn⟩
            have h43 : ρ (.tmp 43) = .pointer (some ⟨b, off + k * 4, none⟩) := hd 43 (by kernel_rfl)
            exact Lin.Runs.value Lin.keeps (v := .pointer (some ⟨b, off + k * 4 + 1, none⟩)) (by simp [execOp, go_sem, h43]) rfl
          · intro ρ wq hb ho hc hd
            have hC : ∀ v, ρ (.const v) = v := fun v => hc _ (by intro t e; cases e)
            have hF : ∀ f, ρ (.func f) = .func (.func f) #[] #[] := fun f => hc _ (by intro t e; cases e)
            intro t ht; cases (show some 34 = some t from ht)
            refine ⟨fun _ => ?_, fun hn => absurd (hd 34 (by kernel_rfl)) hn⟩
            have h44 : ρ (.tmp 44) = .pointer (some ⟨b, off + k * 4 + 1, none⟩) := hd 44 (by kernel_rfl)
            have dd := (hb.cell (p := ⟨b, off + k * 4 + 1, none⟩) LB.out).trans d1
            exact Lin.Runs.value Lin.keeps (v := .int .i64 xb) (by simp [execOp, go_sem, h44, dd]) rfl
          · intro ρ wq hb ho hc hd
            have hC : ∀ v, ρ (.const v) = v := fun v => hc _ (by intro t e; cases e)
            have hF : ∀ f, ρ (.func f) = .func (.func f) #[] #[] := fun f => hc _ (by intro t e; cases e)
            intro t ht; cases (show some 34 = some t from ht)
            refine ⟨fun _ => ?_, fun hn => absurd (hd 34 (by kernel_rfl)) hn⟩
            have h40 : ρ (.tmp 40) = .int .i64 yb := hd 40 (by kernel_rfl)
            have h45 : ρ (.tmp 45) = .int .i64 xb := hd 45 (by kernel_rfl)
            have ne1 := NE1.out
            exact Lin.Runs.value Lin.keeps (v := .bool true) (by simp [execOp, go_sem, h40, h45, ne1]) rfl
          · intro ρ wq hb ho hc hd
            have hC : ∀ v, ρ (.const v) = v := fun v => hc _ (by intro t e; cases e)
            have hF : ∀ f, ρ (.func f) = .func (.func f) #[] #[] := fun f => hc _ (by intro t e; cases e)
            have h34 : ρ (.tmp 34) = .bool true := hd 34 (by kernel_rfl)
            have h46 : ρ (.tmp 46) = .bool true := hd 46 (by kernel_rfl)
            exact Lin.Runs.value Lin.keeps (v := .bool true) (by simp [execOp, go_sem, hC, h34, h46]) rfl
          · intro ρ wq hb ho hc hd
            have hC : ∀ v, ρ (.const v) = v := fun v => hc _ (by intro t e; cases e)
            have hF : ∀ f, ρ (.func f) = .func (.func f) #[] #[] := fun f => hc _ (by intro t e; cases e)
            have h47 : ρ (.tmp 47) = .bool true := hd 47 (by kernel_rfl)
            exact Lin.Runs.value Lin.keeps (Lin.exec_move rfl) h47
          · intro ρ wq hb ho hc hd
            have hC : ∀ v, ρ (.const v) = v := fun v => hc _ (by intro t e; cases e)
            have hF : ∀ f, ρ (.func f) = .func (.func f) #[] #[] := fun f => hc _ (by intro t e; cases e)
            intro t ht; cases (show some 48 = some t from ht)
            refine ⟨fun _ => ?_, fun hn => absurd (hd 48 (by kernel_rfl)) hn⟩
            have h0 : ρ (.tmp 0) = .slice (some ⟨g, 0, none⟩) n cw := ho 0 (by kernel_rfl)
            exact Lin.Runs.value Lin.keeps (Lin.exec_move rfl) h0
          · intro ρ wq hb ho hc hd
            have hC : ∀ v, ρ (.const v) = v := fun v => hc _ (by intro t e; cases e)
            have hF : ∀ f, ρ (.func f) = .func (.func f) #[] #[] := fun f => hc _ (by intro t e; cases e)
            intro t ht; cases (show some 48 = some t from ht)
            refine ⟨fun _ => ?_, fun hn => absurd (hd 48 (by kernel_rfl)) hn⟩
            have h10 : ρ (.tmp 10) = .int .i64 (n0 : Int) := ho 10 (by kernel_rfl)
            exact Lin.Runs.value Lin.keeps (Lin.exec_move rfl) h10
          · intro ρ wq hb ho hc hd
            have hC : ∀ v, ρ (.const v) = v := fun v => hc _ (by intro t e; cases e)
            have hF : ∀ f, ρ (.func f) = .func (.func f) #[] #[] := fun f => hc _ (by intro t e; cases e)
            intro t ht; cases (show some 48 = some t from ht)
            refine ⟨fun _ => ?_, fun hn => absurd (hd 48 (by kernel_rfl)) hn⟩
            have h49 : ρ (.tmp 49) = .slice (some ⟨g, 0, none⟩) n cw := hd 49 (by kernel_rfl)
            have h50 : ρ (.tmp 50) = .int .i64 (n0 : Int) := hd 50 (by kernel_rfl)
            exact Lin.Runs.value Lin.keeps (v := .pointer (some ⟨g, n0 * 5, none⟩)) (by simp [execOp, go_sem, h49, h50, hn00, nlt]) rfl
          · intro ρ wq hb ho hc hd
            have hC : ∀ v, ρ (.const v) = v := fun v => hc _ (by intro t e; cases e)
            have hF : ∀ f, ρ (.func f) = .func (.func f) #[] #[] := fun f => hc _ (by intro t e; cases e)
            intro t ht; cases (show some 48 = some t from ht)
            refine ⟨fun _ => ?_, fun hn => absurd (hd 48 (by kernel_rfl)) hn⟩
            have h51 : ρ (.tmp 51) = .pointer (some ⟨g, n0 * 5, none⟩) := hd 51 (by kernel_rfl)
            exact Lin.Runs.value Lin.keeps (v := .pointer (some ⟨g, n0 * 5, none⟩)) (by simp [execOp, go_sem, h51]) rfl
          · intro ρ wq hb ho hc hd
            have hC : ∀ v, ρ (.const v) = v := fun v => hc _ (by intro t e; cases e)
            have hF : ∀ f, ρ (.func f) = .func (.func f) #[] #[] := fun f => hc _ (by intro t e; cases e)
            intro t ht; cases (show some 48 = some t from ht)
            refine ⟨fun _ => ?_, fun hn => absurd (hd 48 (by kernel_rfl)) hn⟩
            have h52 : ρ (.tmp 52) = .pointer (some ⟨g, n0 * 5, none⟩) := hd 52 (by kernel_rfl)
            exact Lin.Runs.value Lin.keeps (v := .pointer (some ⟨g, n0 * 5 + 2, none⟩)) (by simp [execOp, go_sem, h52]) rfl
          · intro ρ wq hb ho hc hd
            have hC : ∀ v, ρ (.const v) = v := fun v => hc _ (by intro t e; cases e)
            have hF : ∀ f, ρ (.func f) = .func (.func f) #[] #[] := fun f => hc _ (by intro t e; cases e)
            intro t ht; cases (show some 48 = some t from ht)
            refine ⟨fun _ => ?_, fun hn => absurd (hd 48 (by kernel_rfl)) hn⟩
            have h53 : ρ (.tmp 53) = .pointer (some ⟨g, n0 * 5 + 2, none⟩) := hd 53 (by kernel_rfl)
            have dd := (hb.cell (p := ⟨g, n0 * 5 + 2, none⟩) LG.out).trans q2
            exact Lin.Runs.value Lin.keeps (v := .int .i64 yw) (by simp [execOp, go_sem, h53, dd]) rfl
          · intro ρ wq hb ho hc hd
            have hC : ∀ v, ρ (.const v) = v := fun v => hc _ (by intro t e; cases e)
            have hF : ∀ f, ρ (.func f) = .func (.func f) #[] #[] := fun f => hc _ (by intro t e; cases e)
            intro t ht; cases (show some 48 = some t from ht)
            refine ⟨fun _ => ?_, fun hn => absurd (hd 48 (by kernel_rfl)) hn⟩
            have h1 : ρ (.tmp 1) = .slice (some ⟨b, off, none⟩) l.length c := ho 1 (by kernel_rfl)
            exact Lin.Runs.value Lin.keeps (Lin.exec_move rfl) h1
          · intro ρ wq hb ho hc hd
            have hC : ∀ v, ρ (.const v) = v := fun v => hc _ (by intro t e; cases e)
            have hF : ∀ f, ρ (.func f) = .func (.func f) #[] #[] := fun f => hc _ (by intro t e; cases e)
            intro t ht; cases (show some 48 = some t from ht)
            refine ⟨fun _ => ?_, fun hn => absurd (hd 48 (by kernel_rfl)) hn⟩
            have h9 : ρ (.tmp 9) = .int .i64 (k : Int) := ho 9 (by kernel_rfl)
            exact Lin.Runs.value Lin.keeps (Lin.exec_move rfl) h9
          · intro ρ wq hb ho hc hd
            have hC : ∀ v, ρ (.const v) = v := fun v => hc _ (by intro t e; cases e)
            have hF : ∀ f, ρ (.func f) = .func (.func f) #[] #[] := fun f => hc _ (by intro t e; cases e)
            intro t ht; cases (show some 48 = some t from ht)
            refine ⟨fun _ => ?_, fun hn => absurd (hd 48 (by kernel_rfl)) hn⟩
            have h55 : ρ (.tmp 55) = .slice (some ⟨b, off, none⟩) l.length c := hd 55 (by kernel_rfl)
            have h56 : ρ (.tmp 56) = .int .i64 (k : Int) := hd 56 (by kernel_rfl)
            exact Lin.Runs.value Lin.keeps (v := .pointer (some ⟨b, off + k * 4, none⟩)) (by simp [execOp, go_sem, h55, h56, hk0, hk1]) rfl
          · intro ρ wq hb ho hc hd
            have hC : ∀ v, ρ (.const v) = v := fun v => hc _ (by intro t e; cases e)
            have hF : ∀ f, ρ (.func f) = .func (.func f) #[] #[] := fun f => hc _ (by intro t e; cases e)
            intro t ht; cases (show some 48 = some t from ht)
            refine ⟨fun _ => ?_, fun hn => absurd (hd 48 (by kernel_rfl)) hn⟩
            have h57 : ρ (.tmp 57) = .pointer (some ⟨b, off + k * 4, none⟩) := hd 57 (by kernel_rfl)
            exact Lin.Runs.value Lin.keeps (v := .pointer (some ⟨b, off + k * 4 + 2, none⟩)) (by simp [execOp, go_sem, h57]) rfl
          · intro ρ wq hb ho hc hd
            have hC : ∀ v, ρ (.const v) = v := fun v => hc _ (by intro t e; cases e)
            have hF : ∀ f, ρ (.func f) = .func (.func f) #[] #[] := fun f => hc _ (by intro t e; cases e)
            intro t ht; cases (show some 48 = some t from ht)
            refine ⟨fun _ => ?_, fun hn => absurd (hd 48 (by kernel_rfl)) hn⟩
            have h58 : ρ (.tmp 58) = .pointer (some ⟨b, off + k * 4 + 2, none⟩) := hd 58 (by kernel_rfl)
            have dd := (hb.cell (p := ⟨b, off + k * 4 + 2, none⟩) LB.out).trans d2
            exact Lin.Runs.value Lin.keeps (v := .int .i64 xw) (by simp [execOp, go_sem, h58, dd]) rfl
          · intro ρ wq hb ho hc hd
            have hC : ∀ v, ρ (.const v) = v := fun v => hc _ (by intro t e; cases e)
            have hF : ∀ f, ρ (.func f) = .func (.func f) #[] #[] := fun f => hc _ (by intro t e; cases e)
            intro t ht; cases (show some 48 = some t from ht)
            refine ⟨fun _ => ?_, fun hn => absurd (hd 48 (by kernel_rfl)) hn⟩
            have h54 : ρ (.tmp 54) = .int .i64 yw := hd 54 (by kernel_rfl)
            have h59 : ρ (.tmp 59) = .int .i64 xw := hd 59 (by kernel_rfl)
            have ne2 := NE2.out
            exact Lin.Runs.value Lin.keeps (v := .bool false) (by simp [execOp, go_sem, h54, h59, ne2]) rfl
          · intro ρ wq hb ho hc hd
            have hC : ∀ v, ρ (.const v) = v := fun v => hc _ (by intro t e; cases e)
            have hF : ∀ f, ρ (.func f) = .func (.func f) #[] #[] := fun f => hc _ (by intro t e; cases e)
            have h48 : ρ (.tmp 48) = .bool true := hd 48 (by kernel_rfl)
            have h60 : ρ (.tmp 60) = .bool false := hd 60 (by kernel_rfl)
            exact Lin.Runs.value Lin.keeps (v := .bool false) (by simp [execOp, go_sem, hC, h48, h60]) rfl
          · intro vals w5 hb2 hv
            have ee := hv 61 (by kernel_rfl)
            have HB5 := Lib.hid (HB.out.trans (hb2.mono hbsz)); have HO5 := Lib.hid (own_below HO.out hb2)
            have d0 := (hb2.cell (p := ⟨b, off + k * 4, none⟩) LB.out).trans d0; have d1 := (hb2.cell (p := ⟨b, off + k * 4 + 1, none⟩) LB.out).trans d1; have d2 := (hb2.cell (p := ⟨b, off + k * 4 + 2, none⟩) LB.out).trans d2; have d3 := (hb2.cell (p := ⟨b, off + k * 4 + 3, none⟩) LB.out).trans d3
            have hbsz := HB5.out.size
            clear hb2
            change wpList _ _ _ [_] _ _
            simp only [Lin.putAll, Option.getD_some, List.take_succ_cons, List.take_zero, List.drop_succ_cons, List.drop_zero]
            rw [show vals 61 = .bool false from ee]
            clear ee hv
            go_simp
            generalize vals = vv
            go_wp2_with (
              (with_reducible show wpList _ _ _ (⟨some 69, _, _, _, _, _⟩ :: _) _ _)
              go_loud (refine wpList_append_lies _ rfl (.tmp 62) (.tmp 68) _ rfl w.heap.size 70 i0 _ 5 40 Try.underlying66 HI0.out HZ0.out HZ1.out HZ2.out rfl (by omega) _ n0 (rsc (kp l k) (fun _ => 0) n0) rfl (World.ownsRow.alloc HO5.out (.cells #[.int .i64 xs, .int .i64 xb, .int .i64 xw, .int .u32 xl, .int .i64 0] 70)) ⟨w5.heap.size, 0, none⟩ 1 1 (#[.int .i64 xs, .int .i64 xb, .int .i64 xw, .int .u32 xl, .int .i64 0] : Array Value).toList rfl rfl (World.news_of_block (t := 70) (fr := (0, 0)) (heap_alloc_new w5 (.cells #[.int .i64 xs, .int .i64 xb, .int .i64 xw, .int .u32 xl, .int .i64 0] 70))) (by simp [Value.oneCell']) (by omega) (by have := HNK.out; have := KM.out; unfold maxLen; omega) (by have := HNK.out; have := KM.out; omega) (by simp; omega) (w5.heap.size + 1) (by simp) ?_)
              intro ga capa w6 ho6 hg6 hat6 hl6
              rw [show rsc (kp l k) (fun _ => 0) n0 ++ (#[.int .i64 xs, .int .i64 xb, .int .i64 xw, .int .u32 xl, .int .i64 0] : Array Value).toList = rsc (kp l (k + 1)) (fun _ => 0) (n0 + 1) from RAPP.out] at ho6
              have O6 := Lib.hid ho6
              have HB6 := Lib.hid ((HB5.out.alloc hbsz (.cells #[.int .i64 xs, .int .i64 xb, .int .i64 xw, .int .u32 xl, .int .i64 0] 70)).grown hg6 (by simp; omega) (fun q hq => HO5.out.lt q hq |>.1))
              have d2 := (HB6.out.cell (p := ⟨b, off + k * 4 + 2, none⟩) LB0.out).trans (QD2.out)
              clear ho6 hg6 hat6 hl6)
            go_roundw
            case rel => exact ⟨k + 1, n0 + 1, _, HLT.out, by go_num, LEN2.out, by have := HNK.out; omega, O6.out, rfl, by have := HBS2.out; simpa using this, by rw [HS2.out], unhide WF2, HB6.out⟩
            case measure => have := HLT.out; simp [intOf]; omega
        · have NE1 := Lib.hid he; have NE2 := Lib.hid he2
          have LG := Lib.hid (show g < wr.heap.size from World.block_lt_of_cell? wr _ q1)
          clear he he2
          go_wp2_with fail
          refine Lin.wp_region_lin_tail Lin.keeps (n := 146) 35 (fun slotq => match slotq with | 27 => Lin.Spec.val (.bool true) | 28 => Lin.Spec.val (.bool true) | 29 => Lin.Spec.val (.int .i64 (n0 : Int)) | 30 => Lin.Spec.val (.slice (some ⟨g, 0, none⟩) n cw) | 31 => Lin.Spec.val (.int .i64 (n : Int)) | 32 => Lin.Spec.val (.bool true) | 33 => Lin.Spec.val (.bool true) | 34 => Lin.Spec.val (.bool true) | 35 => Lin.Spec.val (.slice (some ⟨g, 0, none⟩) n cw) | 36 => Lin.Spec.val (.int .i64 (n0 : Int)) | 37 => Lin.Spec.val (.pointer (some ⟨g, n0 * 5, none⟩)) | 38 => Lin.Spec.val (.pointer (some ⟨g, n0 * 5, none⟩)) | 39 => Lin.Spec.val (.pointer (some ⟨g, n0 * 5 + 1, none⟩)) | 40 => Lin.Spec.val (.int .i64 yb) | 41 => Lin.Spec.val (.slice (some ⟨b, off, none⟩) l.length c) | 42 => Lin.Spec.val (.int .i64 (k : Int)) | 43 => Lin.Spec.val (.pointer (some ⟨b, off + k * 4, none⟩)) | 44 => Lin.Spec.val (.pointer (some ⟨b, off + k * 4 + 1, none⟩)) | 45 => Lin.Spec.val (.int .i64 xb) | 46 => Lin.Spec.val (.bool true) | 47 => Lin.Spec.val (.bool true) | 48 => Lin.Spec.val (.bool true) | 49 => Lin.Spec.val (.slice (some ⟨g, 0, none⟩) n cw) | 50 => Lin.Spec.val (.int .i64 (n0 : Int)) | 51 => Lin.Spec.val (.pointer (some ⟨g, n0 * 5, none⟩)) | 52 => Lin.Spec.val (.pointer (some ⟨g, n0 * 5, none⟩)) | 53 => Lin.Spec.val (.pointer (some ⟨g, n0 * 5 + 2, none⟩)) | 54 => Lin.Spec.val (.int .i64 yw) | 55 => Lin.Spec.val (.slice (some ⟨b, off, none⟩) l.length c) | 56 => Lin.Spec.val (.int .i64 (k : Int)) | 57 => Lin.Spec.val (.pointer (some ⟨b, off + k * 4, none⟩)) | 58 => Lin.Spec.val (.pointer (some ⟨b, off + k * 4 + 2, none⟩)) | 59 => Lin.Spec.val (.int .i64 xw) | 60 => Lin.Spec.val (.bool true) | 61 => Lin.Spec.val (.bool true) | _ => Lin.Spec.any) (by kernel_rfl) rfl (by kernel_rfl) ⟨?_, ?_, ?_, ?_, ?_, ?_, ?_, ?_, ?_, ?_, ?_, ?_, ?_, ?_, ?_, ?_, ?_, ?_, ?_, ?_, ?_, ?_, ?_, ?_, ?_, ?_, ?_, ?_, ?_, ?_, ?_, ?_, ?_, ?_, ?_, trivial⟩ ?_
          · intro ρ wq hb ho hc hd
            have hC : ∀ v, ρ (.const v) = v := fun v => hc _ (by intro t e; cases e)
            have hF : ∀ f, ρ (.func f) = .func (.func f) #[] #[] := fun f => hc _ (by intro t e; cases e)
            have h7 : ρ (.tmp 7) = .bool true := ho 7 (by kernel_rfl)
            exact Lin.Runs.value Lin.keeps (Lin.exec_move rfl) h7
          · intro ρ wq hb ho hc hd
            have hC : ∀ v, ρ (.const v) = v := fun v => hc _ (by intro t e; cases e)
            have hF : ∀ f, ρ (.func f) = .func (.func f) #[] #[] := fun f => hc _ (by intro t e; cases e)
            have h27 : ρ (.tmp 27) = .bool true := hd 27 (by kernel_rfl)
            exact Lin.Runs.value Lin.keeps (Lin.exec_move rfl) h27
          · intro ρ wq hb ho hc hd
            have hC : ∀ v, ρ (.const v) = v := fun v => hc _ (by intro t e; cases e)
            have hF : ∀ f, ρ (.func f) = .func (.func f) #[] #[] := fun f => hc _ (by intro t e; cases e)
            intro t ht; cases (show some 28 = some t from ht)
            refine ⟨fun _ => ?_, fun hn => absurd (hd 28 (by kernel_rfl)) hn⟩
            have h10 : ρ (.tmp 10) = .int .i64 (n0 : Int) := ho 10 (by kernel_rfl)
            exact Lin.Runs.value Lin.keeps (Lin.exec_move rfl) h10
          · intro ρ wq hb ho hc hd
            have hC : ∀ v, ρ (.const v) = v := fun v => hc _ (by intro t e; cases e)
            have hF : ∀ f, ρ (.func f) = .func (.func f) #[] #[] := fun f => hc _ (by intro t e; cases e)
            intro t ht; cases (show some 28 = some t from ht)
            refine ⟨fun _ => ?_, fun hn => absurd (hd 28 (by kernel_rfl)) hn⟩
            have h0 : ρ (.tmp 0) = .slice (some ⟨g, 0, none⟩) n cw := ho 0 (by kernel_rfl)
            exact Lin.Runs.value Lin.keeps (Lin.exec_move rfl) h0
          · intro ρ wq hb ho hc hd
            have hC : ∀ v, ρ (.const v) = v := fun v => hc _ (by intro t e; cases e)
            have hF : ∀ f, ρ (.func f) = .func (.func f) #[] #[] := fun f => hc _ (by intro t e; cases e)
            intro t ht; cases (show some 28 = some t from ht)
            refine ⟨fun _ => ?_, fun hn => absurd (hd 28 (by kernel_rfl)) hn⟩
            have h30 : ρ (.tmp 30) = .slice (some ⟨g, 0, none⟩) n cw := hd 30 (by kernel_rfl)
            exact Lin.Runs.value Lin.keeps (v := .int .i64 (n : Int)) (by simp [execOp, go_sem, h30]) rfl
          · intro ρ wq hb ho hc hd
            have hC : ∀ v, ρ (.const v) = v := fun v => hc _ (by intro t e; cases e)
            have hF : ∀ f, ρ (.func f) = .func (.func f) #[] #[] := fun f => hc _ (by intro t e; cases e)
            intro t ht; cases (show some 28 = some t from ht)
            refine ⟨fun _ => ?_, fun hn => absurd (hd 28 (by kernel_rfl)) hn⟩
            have h29 : ρ (.tmp 29) = .int .i64 (n0 : Int) := hd 29 (by kernel_rfl)
            have h31 : ρ (.tmp 31) = .int .i64 (n : Int) := hd 31 (by kernel_rfl)
            exact Lin.Runs.value Lin.keeps (v := .bool true) (by simp [execOp, go_sem, h29, h31, nlt]) rfl
          · intro ρ wq hb ho hc hd
            have hC : ∀ v, ρ (.const v) = v := fun v => hc _ (by intro t e; cases e)
            have hF : ∀ f, ρ (.func f) = .func (.func f) #[] #[] := fun f => hc _ (by intro t e; cases e)
            have h28 : ρ (.tmp 28) = .bool true := hd 28 (by kernel_rfl)
            have h32 : ρ (.tmp 32) = .bool true := hd 32 (by kernel_rfl)
            exact Lin.Runs.value Lin.keeps (v := .bool true) (by simp [execOp, go_sem, hC, h28, h32]) rfl
          · intro ρ wq hb ho hc hd
            have hC : ∀ v, ρ (.const v) = v := fun v => hc _ (by intro t e; cases e)
            have hF : ∀ f, ρ (.func f) = .func (.func f) #[] #[] := fun f => hc _ (by intro t e; cases e)
            have h33 : ρ (.tmp 33) = .bool true := hd 33 (by kernel_rfl)
            exact Lin.Runs.value Lin.keeps (Lin.exec_move rfl) h33
          · intro ρ wq hb ho hc hd
            have hC : ∀ v, ρ (.const v) = v := fun v => hc _ (by intro t e; cases e)
            have hF : ∀ f, ρ (.func f) = .func (.func f) #[] #[] := fun f => hc _ (by intro t e; cases e)
            intro t ht; cases (show some 34 = some t from ht)
            refine ⟨fun _ => ?_, fun hn => absurd (hd 34 (by kernel_rfl)) hn⟩
            have h0 : ρ (.tmp 0) = .slice (some ⟨g, 0, none⟩) n cw := ho 0 (by kernel_rfl)
            exact Lin.Runs.value Lin.keeps (Lin.exec_move rfl) h0
          · intro ρ wq hb ho hc hd
            have hC : ∀ v, ρ (.const v) = v := fun v => hc _ (by intro t e; cases e)
            have hF : ∀ f, ρ (.func f) = .func (.func f) #[] #[] := fun f => hc _ (by intro t e; cases e)
            intro t ht; cases (show some 34 = some t from ht)
            refine ⟨fun _ => ?_, fun hn => absurd (hd 34 (by kernel_rfl)) hn⟩
            have h10 : ρ (.tmp 10) = .int .i64 (n0 : Int) := ho 10 (by kernel_rfl)
            exact Lin.Runs.value Lin.keeps (Lin.exec_move rfl) h10
          · intro ρ wq hb ho hc hd
            have hC : ∀ v, ρ (.const v) = v := fun v => hc _ (by intro t e; cases e)
            have hF : ∀ f, ρ (.func f) = .func (.func f) #[] #[] := fun f => hc _ (by intro t e; cases e)
            intro t ht; cases (show some 34 = some t from ht)
            refine ⟨fun _ => ?_, fun hn => absurd (hd 34 (by kernel_rfl)) hn⟩
            have h35 : ρ (.tmp 35) = .slice (some ⟨g, 0, none⟩) n cw := hd 35 (by kernel_rfl)
            have h36 : ρ (.tmp 36) = .int .i64 (n0 : Int) := hd 36 (by kernel_rfl)
            exact Lin.Runs.value Lin.keeps (v := .pointer (some ⟨g, n0 * 5, none⟩)) (by simp [execOp, go_sem, h35, h36, hn00, nlt]) rfl
          · intro ρ wq hb ho hc hd
            have hC : ∀ v, ρ (.const v) = v := fun v => hc _ (by intro t e; cases e)
            have hF : ∀ f, ρ (.func f) = .func (.func f) #[] #[] := fun f => hc _ (by intro t e; cases e)
            intro t ht; cases (show some 34 = some t from ht)
            refine ⟨fun _ => ?_, fun hn => absurd (hd 34 (by kernel_rfl)) hn⟩
            have h37 : ρ (.tmp 37) = .pointer (some ⟨g, n0 * 5, none⟩) := hd 37 (by kernel_rfl)
            exact Lin.Runs.value Lin.keeps (v := .pointer (some ⟨g, n0 * 5, none⟩)) (by simp [execOp, go_sem, h37]) rfl
          · intro ρ wq hb ho hc hd
            have hC : ∀ v, ρ (.const v) = v := fun v => hc _ (by intro t e; cases e)
            have hF : ∀ f, ρ (.func f) = .func (.func f) #[] #[] := fun f => hc _ (by intro t e; cases e)
            intro t ht; cases (show some 34 = some t from ht)
            refine ⟨fun _ => ?_, fun hn => absurd (hd 34 (by kernel_rfl)) hn⟩
            have h38 : ρ (.tmp 38) = .pointer (some ⟨g, n0 * 5, none⟩) := hd 38 (by kernel_rfl)
            exact Lin.Runs.value Lin.keeps (v := .pointer (some ⟨g, n0 * 5 + 1, none⟩)) (by simp [execOp, go_sem, h38]) rfl
          · intro ρ wq hb ho hc hd
            have hC : ∀ v, ρ (.const v) = v := fun v => hc _ (by intro t e; cases e)
            have hF : ∀ f, ρ (.func f) = .func (.func f) #[] #[] := fun f => hc _ (by intro t e; cases e)
            intro t ht; cases (show some 34 = some t from ht)
            refine ⟨fun _ => ?_, fun hn => absurd (hd 34 (by kernel_rfl)) hn⟩
            have h39 : ρ (.tmp 39) = .pointer (some ⟨g, n0 * 5 + 1, none⟩) := hd 39 (by kernel_rfl)
            have dd := (hb.cell (p := ⟨g, n0 * 5 + 1, none⟩) LG.out).trans q1
            exact Lin.Runs.value Lin.keeps (v := .int .i64 yb) (by simp [execOp, go_sem, h39, dd]) rfl
          · intro ρ wq hb ho hc hd
            have hC : ∀ v, ρ (.const v) = v := fun v => hc _ (by intro t e; cases e)
            have hF : ∀ f, ρ (.func f) = .func (.func f) #[] #[] := fun f => hc _ (by intro t e; cases e)
            intro t ht; cases (show some 34 = some t from ht)
            refine ⟨fun _ => ?_, fun hn => absurd (hd 34 (by kernel_rfl)) hn⟩
            have h1 : ρ (.tmp 1) = .slice (some ⟨b, off, none⟩) l.length c := ho 1 (by kernel_rfl)
            exact Lin.Runs.value Lin.keeps (Lin.exec_move rfl) h1
          · intro ρ wq hb ho hc hd
            have hC : ∀ v, ρ (.const v) = v := fun v => hc _ (by intro t e; cases e)
            have hF : ∀ f, ρ (.func f) = .func (.func f) #[] #[] := fun f => hc _ (by intro t e; cases e)
            intro t ht; cases (show some 34 = some t from ht)
            refine ⟨fun _ => ?_, fun hn => absurd (hd 34 (by kernel_rfl)) hn⟩
            have h9 : ρ (.tmp 9) = .int .i64 (k : Int) := ho 9 (by kernel_rfl)
            exact Lin.Runs.value Lin.keeps (Lin.exec_move rfl) h9
          · intro ρ wq hb ho hc hd
            have hC : ∀ v, ρ (.const v) = v := fun v => hc _ (by intro t e; cases e)
            have hF : ∀ f, ρ (.func f) = .func (.func f) #[] #[] := fun f => hc _ (by intro t e; cases e)
            intro t ht; cases (show some 34 = some t from ht)
            refine ⟨fun _ => ?_, fun hn => absurd (hd 34 (by kernel_rfl)) hn⟩
            have h41 : ρ (.tmp 41) = .slice (some ⟨b, off, none⟩) l.length c := hd 41 (by kernel_rfl)
            have h42 : ρ (.tmp 42) = .int .i64 (k : Int) := hd 42 (by kernel_rfl)
            exact Lin.Runs.value Lin.keeps (v := .pointer (some ⟨b, off + k * 4, none⟩)) (by simp [execOp, go_sem, h41, h42, hk0, hk1]) rfl
          · intro ρ wq hb ho hc hd
            have hC : ∀ v, ρ (.const v) = v := fun v => hc _ (by intro t e; cases e)
            have hF : ∀ f, ρ (.func f) = .func (.func f) #[] #[] := fun f => hc _ (by intro t e; cases e)
            intro t ht; cases (show some 34 = some t from ht)
            refine ⟨fun _ => ?_, fun hn => absurd (hd 34 (by kernel_rfl)) hn⟩
            have h43 : ρ (.tmp 43) = .pointer (some ⟨b, off + k * 4, none⟩) := hd 43 (by kernel_rfl)
            exact Lin.Runs.value Lin.keeps (v := .pointer (some ⟨b, off + k * 4 + 1, none⟩)) (by simp [execOp, go_sem, h43]) rfl
          · intro ρ wq hb ho hc hd
            have hC : ∀ v, ρ (.const v) = v := fun v => hc _ (by intro t e; cases e)
            have hF : ∀ f, ρ (.func f) = .func (.func f) #[] #[] := fun f => hc _ (by intro t e; cases e)
            intro t ht; cases (show some 34 = some t from ht)
            refine ⟨fun _ => ?_, fun hn => absurd (hd 34 (by kernel_rfl)) hn⟩
            have h44 : ρ (.tmp 44) = .pointer (some ⟨b, off + k * 4 + 1, none⟩) := hd 44 (by kernel_rfl)
            have dd := (hb.cell (p := ⟨b, off + k * 4 + 1, none⟩) LB.out).trans d1
            exact Lin.Runs.value Lin.keeps (v := .int .i64 xb) (by simp [execOp, go_sem, h44, dd]) rfl
          · intro ρ wq hb ho hc hd
            have hC : ∀ v, ρ (.const v) = v := fun v => hc _ (by intro t e; cases e)
            have hF : ∀ f, ρ (.func f) = .func (.func f) #[] #[] := fun f => hc _ (by intro t e; cases e)
            intro t ht; cases (show some 34 = some t from ht)
            refine ⟨fun _ => ?_, fun hn => absurd (hd 34 (by kernel_rfl)) hn⟩
            have h40 : ρ (.tmp 40) = .int .i64 yb := hd 40 (by kernel_rfl)
            have h45 : ρ (.tmp 45) = .int .i64 xb := hd 45 (by kernel_rfl)
            have ne1 := NE1.out
            exact Lin.Runs.value Lin.keeps (v := .bool true) (by simp [execOp, go_sem, h40, h45, ne1]) rfl
          · intro ρ wq hb ho hc hd
            have hC : ∀ v, ρ (.const v) = v := fun v => hc _ (by intro t e; cases e)
            have hF : ∀ f, ρ (.func f) = .func (.func f) #[] #[] := fun f => hc _ (by intro t e; cases e)
            have h34 : ρ (.tmp 34) = .bool true := hd 34 (by kernel_rfl)
            have h46 : ρ (.tmp 46) = .bool true := hd 46 (by kernel_rfl)
            exact Lin.Runs.value Lin.keeps (v := .bool true) (by simp [execOp, go_sem, hC, h34, h46]) rfl
          · intro ρ wq hb ho hc hd
            have hC : ∀ v, ρ (.const v) = v := fun v => hc _ (by intro t e; cases e)
            have hF : ∀ f, ρ (.func f) = .func (.func f) #[] #[] := fun f => hc _ (by intro t e; cases e)
            have h47 : ρ (.tmp 47) = .bool true := hd 47 (by kernel_rfl)
            exact Lin.Runs.value Lin.keeps (Lin.exec_move rfl) h47
          · intro ρ wq hb ho hc hd
            have hC : ∀ v, ρ (.const v) = v := fun v => hc _ (by intro t e; cases e)
            have hF : ∀ f, ρ (.func f) = .func (.func f) #[] #[] := fun f => hc _ (by intro t e; cases e)
            intro t ht; cases (show some 48 = some t from ht)
            refine ⟨fun _ => ?_, fun hn => absurd (hd 48 (by kernel_rfl)) hn⟩
            have h0 : ρ (.tmp 0) = .slice (some ⟨g, 0, none⟩) n cw := ho 0 (by kernel_rfl)
            exact Lin.Runs.value Lin.keeps (Lin.exec_move rfl) h0
          · intro ρ wq hb ho hc hd
            have hC : ∀ v, ρ (.const v) = v := fun v => hc _ (by intro t e; cases e)
            have hF : ∀ f, ρ (.func f) = .func (.func f) #[] #[] := fun f => hc _ (by intro t e; cases e)
            intro t ht; cases (show some 48 = some t from ht)
            refine ⟨fun _ => ?_, fun hn => absurd (hd 48 (by kernel_rfl)) hn⟩
            have h10 : ρ (.tmp 10) = .int .i64 (n0 : Int) := ho 10 (by kernel_rfl)
            exact Lin.Runs.value Lin.keeps (Lin.exec_move rfl) h10
          · intro ρ wq hb ho hc hd
            have hC : ∀ v, ρ (.const v) = v := fun v => hc _ (by intro t e; cases e)
            have hF : ∀ f, ρ (.func f) = .func (.func f) #[] #[] := fun f => hc _ (by intro t e; cases e)
            intro t ht; cases (show some 48 = some t from ht)
            refine ⟨fun _ => ?_, fun hn => absurd (hd 48 (by kernel_rfl)) hn⟩
            have h49 : ρ (.tmp 49) = .slice (some ⟨g, 0, none⟩) n cw := hd 49 (by kernel_rfl)
            have h50 : ρ (.tmp 50) = .int .i64 (n0 : Int) := hd 50 (by kernel_rfl)
            exact Lin.Runs.value Lin.keeps (v := .pointer (some ⟨g, n0 * 5, none⟩)) (by simp [execOp, go_sem, h49, h50, hn00, nlt]) rfl
          · intro ρ wq hb ho hc hd
            have hC : ∀ v, ρ (.const v) = v := fun v => hc _ (by intro t e; cases e)
            have hF : ∀ f, ρ (.func f) = .func (.func f) #[] #[] := fun f => hc _ (by intro t e; cases e)
            intro t ht; cases (show some 48 = some t from ht)
            refine ⟨fun _ => ?_, fun hn => absurd (hd 48 (by kernel_rfl)) hn⟩
            have h51 : ρ (.tmp 51) = .pointer (some ⟨g, n0 * 5, none⟩) := hd 51 (by kernel_rfl)
            exact Lin.Runs.value Lin.keeps (v := .pointer (some ⟨g, n0 * 5, none⟩)) (by simp [execOp, go_sem, h51]) rfl
          · intro ρ wq hb ho hc hd
            have hC : ∀ v, ρ (.const v) = v := fun v => hc _ (by intro t e; cases e)
            have hF : ∀ f, ρ (.func f) = .func (.func f) #[] #[] := fun f => hc _ (by intro t e; cases e)
            intro t ht; cases (show some 48 = some t from ht)
            refine ⟨fun _ => ?_, fun hn => absurd (hd 48 (by kernel_rfl)) hn⟩
            have h52 : ρ (.tmp 52) = .pointer (some ⟨g, n0 * 5, none⟩) := hd 52 (by kernel_rfl)
            exact Lin.Runs.value Lin.keeps (v := .pointer (some ⟨g, n0 * 5 + 2, none⟩)) (by simp [execOp, go_sem, h52]) rfl
          · intro ρ wq hb ho hc hd
            have hC : ∀ v, ρ (.const v) = v := fun v => hc _ (by intro t e; cases e)
            have hF : ∀ f, ρ (.func f) = .func (.func f) #[] #[] := fun f => hc _ (by intro t e; cases e)
            intro t ht; cases (show some 48 = some t from ht)
            refine ⟨fun _ => ?_, fun hn => absurd (hd 48 (by kernel_rfl)) hn⟩
            have h53 : ρ (.tmp 53) = .pointer (some ⟨g, n0 * 5 + 2, none⟩) := hd 53 (by kernel_rfl)
            have dd := (hb.cell (p := ⟨g, n0 * 5 + 2, none⟩) LG.out).trans q2
            exact Lin.Runs.value Lin.keeps (v := .int .i64 yw) (by simp [execOp, go_sem, h53, dd]) rfl
          · intro ρ wq hb ho hc hd
            have hC : ∀ v, ρ (.const v) = v := fun v => hc _ (by intro t e; cases e)
            have hF : ∀ f, ρ (.func f) = .func (.func f) #[] #[] := fun f => hc _ (by intro t e; cases e)
            intro t ht; cases (show some 48 = some t from ht)
            refine ⟨fun _ => ?_, fun hn => absurd (hd 48 (by kernel_rfl)) hn⟩
            have h1 : ρ (.tmp 1) = .slice (some ⟨b, off, none⟩) l.length c := ho 1 (by kernel_rfl)
            exact Lin.Runs.value Lin.keeps (Lin.exec_move rfl) h1
          · intro ρ wq hb ho hc hd
            have hC : ∀ v, ρ (.const v) = v := fun v => hc _ (by intro t e; cases e)
            have hF : ∀ f, ρ (.func f) = .func (.func f) #[] #[] := fun f => hc _ (by intro t e; cases e)
            intro t ht; cases (show some 48 = some t from ht)
            refine ⟨fun _ => ?_, fun hn => absurd (hd 48 (by kernel_rfl)) hn⟩
            have h9 : ρ (.tmp 9) = .int .i64 (k : Int) := ho 9 (by kernel_rfl)
            exact Lin.Runs.value Lin.keeps (Lin.exec_move rfl) h9
          · intro ρ wq hb ho hc hd
            have hC : ∀ v, ρ (.const v) = v := fun v => hc _ (by intro t e; cases e)
            have hF : ∀ f, ρ (.func f) = .func (.func f) #[] #[] := fun f => hc _ (by intro t e; cases e)
            intro t ht; cases (show some 48 = some t from ht)
            refine ⟨fun _ => ?_, fun hn => absurd (hd 48 (by kernel_rfl)) hn⟩
            have h55 : ρ (.tmp 55) = .slice (some ⟨b, off, none⟩) l.length c := hd 55 (by kernel_rfl)
            have h56 : ρ (.tmp 56) = .int .i64 (k : Int) := hd 56 (by kernel_rfl)
            exact Lin.Runs.value Lin.keeps (v := .pointer (some ⟨b, off + k * 4, none⟩)) (by simp [execOp, go_sem, h55, h56, hk0, hk1]) rfl
          · intro ρ wq hb ho hc hd
            have hC : ∀ v, ρ (.const v) = v := fun v => hc _ (by intro t e; cases e)
            have hF : ∀ f, ρ (.func f) = .func (.func f) #[] #[] := fun f => hc _ (by intro t e; cases e)
            intro t ht; cases (show some 48 = some t from ht)
            refine ⟨fun _ => ?_, fun hn => absurd (hd 48 (by kernel_rfl)) hn⟩
            have h57 : ρ (.tmp 57) = .pointer (some ⟨b, off + k * 4, none⟩) := hd 57 (by kernel_rfl)
            exact Lin.Runs.value Lin.keeps (v := .pointer (some ⟨b, off + k * 4 + 2, none⟩)) (by simp [execOp, go_sem, h57]) rfl
          · intro ρ wq hb ho hc hd
            have hC : ∀ v, ρ (.const v) = v := fun v => hc _ (by intro t e; cases e)
            have hF : ∀ f, ρ (.func f) = .func (.func f) #[] #[] := fun f => hc _ (by intro t e; cases e)
            intro t ht; cases (show some 48 = some t from ht)
            refine ⟨fun _ => ?_, fun hn => absurd (hd 48 (by kernel_rfl)) hn⟩
            have h58 : ρ (.tmp 58) = .pointer (some ⟨b, off + k * 4 + 2, none⟩) := hd 58 (by kernel_rfl)
            have dd := (hb.cell (p := ⟨b, off + k * 4 + 2, none⟩) LB.out).trans d2
            exact Lin.Runs.value Lin.keeps (v := .int .i64 xw) (by simp [execOp, go_sem, h58, dd]) rfl
          · intro ρ wq hb ho hc hd
            have hC : ∀ v, ρ (.const v) = v := fun v => hc _ (by intro t e; cases e)
            have hF : ∀ f, ρ (.func f) = .func (.func f) #[] #[] := fun f => hc _ (by intro t e; cases e)
            intro t ht; cases (show some 48 = some t from ht)
            refine ⟨fun _ => ?_, fun hn => absurd (hd 48 (by kernel_rfl)) hn⟩
            have h54 : ρ (.tmp 54) = .int .i64 yw := hd 54 (by kernel_rfl)
            have h59 : ρ (.tmp 59) = .int .i64 xw := hd 59 (by kernel_rfl)
            have ne2 := NE2.out
            exact Lin.Runs.value Lin.keeps (v := .bool true) (by simp [execOp, go_sem, h54, h59, ne2]) rfl
          · intro ρ wq hb ho hc hd
            have hC : ∀ v, ρ (.const v) = v := fun v => hc _ (by intro t e; cases e)
            have hF : ∀ f, ρ (.func f) = .func (.func f) #[] #[] := fun f => hc _ (by intro t e; cases e)
            have h48 : ρ (.tmp 48) = .bool true := hd 48 (by kernel_rfl)
            have h60 : ρ (.tmp 60) = .bool true := hd 60 (by kernel_rfl)
            exact Lin.Runs.value Lin.keeps (v := .bool true) (by simp [execOp, go_sem, hC, h48, h60]) rfl
          · intro vals w5 hb2 hv
            have ee := hv 61 (by kernel_rfl)
            have HB5 := Lib.hid (HB.out.trans (hb2.mono hbsz)); have HO5 := Lib.hid (own_below HO.out hb2)
            have d0 := (hb2.cell (p := ⟨b, off + k * 4, none⟩) LB.out).trans d0; have d1 := (hb2.cell (p := ⟨b, off + k * 4 + 1, none⟩) LB.out).trans d1; have d2 := (hb2.cell (p := ⟨b, off + k * 4 + 2, none⟩) LB.out).trans d2; have d3 := (hb2.cell (p := ⟨b, off + k * 4 + 3, none⟩) LB.out).trans d3
            have hbsz := HB5.out.size
            clear hb2
            change wpList _ _ _ [_] _ _
            simp only [Lin.putAll, Option.getD_some, List.take_succ_cons, List.take_zero, List.drop_succ_cons, List.drop_zero]
            rw [show vals 61 = .bool true from ee]
            clear ee hv
            go_simp
            generalize vals = vv
            go_wp2_with (
              (with_reducible show wpList _ _ _ (⟨some 69, _, _, _, _, _⟩ :: _) _ _)
              go_loud (refine wpList_append_lies _ rfl (.tmp 62) (.tmp 68) _ rfl w.heap.size 70 i0 _ 5 40 Try.underlying66 HI0.out HZ0.out HZ1.out HZ2.out rfl (by omega) _ n0 (rsc (kp l k) (fun _ => 0) n0) rfl (World.ownsRow.alloc HO5.out (.cells #[.int .i64 xs, .int .i64 xb, .int .i64 xw, .int .u32 xl, .int .i64 0] 70)) ⟨w5.heap.size, 0, none⟩ 1 1 (#[.int .i64 xs, .int .i64 xb, .int .i64 xw, .int .u32 xl, .int .i64 0] : Array Value).toList rfl rfl (World.news_of_block (t := 70) (fr := (0, 0)) (heap_alloc_new w5 (.cells #[.int .i64 xs, .int .i64 xb, .int .i64 xw, .int .u32 xl, .int .i64 0] 70))) (by simp [Value.oneCell']) (by omega) (by have := HNK.out; have := KM.out; unfold maxLen; omega) (by have := HNK.out; have := KM.out; omega) (by simp; omega) (w5.heap.size + 1) (by simp) ?_)
              intro ga capa w6 ho6 hg6 hat6 hl6
              rw [show rsc (kp l k) (fun _ => 0) n0 ++ (#[.int .i64 xs, .int .i64 xb, .int .i64 xw, .int .u32 xl, .int .i64 0] : Array Value).toList = rsc (kp l (k + 1)) (fun _ => 0) (n0 + 1) from RAPP.out] at ho6
              have O6 := Lib.hid ho6
              have HB6 := Lib.hid ((HB5.out.alloc hbsz (.cells #[.int .i64 xs, .int .i64 xb, .int .i64 xw, .int .u32 xl, .int .i64 0] 70)).grown hg6 (by simp; omega) (fun q hq => HO5.out.lt q hq |>.1))
              have d2 := (HB6.out.cell (p := ⟨b, off + k * 4 + 2, none⟩) LB0.out).trans (QD2.out)
              clear ho6 hg6 hat6 hl6)
            go_roundw
            case rel => exact ⟨k + 1, n0 + 1, _, HLT.out, by go_num, LEN2.out, by have := HNK.out; omega, O6.out, rfl, by have := HBS2.out; simpa using this, by rw [HS2.out], unhide WF2, HB6.out⟩
            case measure => have := HLT.out; simp [intOf]; omega
      · have KE := Lib.hid (unhide KN hp)
        have hp1 : xw < 1 := by omega
        clear KY KN
        go_wp2_with fail
        go_roundw
        case rel => exact ⟨k + 1, n0, bs, HLT.out, by go_num, by rw [KE.out]; exact HN.out, by have := HNK.out; omega, by rw [KE.out]; exact HO.out, rfl, by rw [KE.out]; exact HBS.out, by rw [KE.out], by rw [KE.out]; exact unhide HWF, HB.out⟩
        case measure => have := HLT.out; simp [intOf]; omega
    · obtain rfl : k = l.length := by omega
      have kge : ¬ (l.length : Int) < (l.length : Int) := by omega
      have HN := Lib.hid ((show kl.length = n0 from by rw [← HKL.out]; exact HN.out).symm.trans HM.out)
      have hmn := HN.out
      subst hmn
      have HO : Hid (wr.ownsRow w.heap.size 70 5 (.slice A6 n0 c6) n0 (rsc kl (fun _ => 0) n0)) := hide (by rw [← HKL.out]; exact HO.out)
      have HBS : Hid (bs = true ↔ SmQ n0 n kl pl) := hide (by rw [← HKL.out]; exact HBS.out)
      have HWF := hide (show ∀ j, j < n0 → 0 < wof kl j ∧ wof kl j ≤ 100 from by rw [← HKL.out]; exact unhide HWF)
      rw [HKL.out]
      clear hk hlt
      by_cases hz : n0 = 0
      · have mz : ((n0 : Int) == 0) = true := by rw [hz]; rfl
        have HZ := Lib.hid hz
        clear hz
        go_wp2_with fail
        exact bodyPost_ret (v := .tuple #[.slice Aw n cw, .int .i64 (-1)]) (by simp [results, Try.results34, go_sem]) rfl ⟨.inl ⟨HZ.out, rfl⟩, HB.out⟩
      · have mz : ((n0 : Int) == 0) = false := by rw [beq_eq_false_iff_ne]; omega
        have H0 := Lib.hid (show 0 < n0 by omega)
        have HM30 := Lib.hid (show n0 ≤ 30 from by have := HNK.out; have := HL.out; omega)
        obtain ⟨g, hA6⟩ : ∃ g, A6 = some ⟨g, 0, none⟩ := by
          obtain ⟨g, e, _⟩ := own_rs HO.out H0.out
          exact ⟨g, e⟩
        subst hA6
        have O0 : Hid (wr.ownsRow w.heap.size 70 5 (.slice (some ⟨g, 0, none⟩) n0 c6) n0 (rsc kl (bumpz (fun _ => 0) (wof kl) 0) n0)) := hide (by
          rw [rsc_congr (kl := kl) (pl := kl) (c := bumpz (fun _ => 0) (wof kl) 0) (d := fun _ => 0) n0 (fun i _ => ⟨rfl, if_neg (by omega)⟩)]; exact HO.out)
        have SUM := Lib.hid (rfl : Sm.S (wof kl) n0 = Sm.S (wof kl) n0)
        clear hz HN
        cases hbv : bs with
        | false =>
          have NS := Lib.hid (show ¬ SameSh n0 n kl pl from fun h => by
            have := HBS.out.2 (fun j hj => ⟨by have := h.1; omega, h.2 j hj⟩)
            rw [hbv] at this; cases this)
          subst hbv
          clear HBS HO
          go_wp2_with fail
          go_loopw [11, 12] (fun v11 v12 wq => RpB w g c6 n0 kl (fun _ => 0) (wof kl) v11 v12 wq) (fun _ v _ => n0 - (intOf v).toNat)
          case atStart => exact ⟨0, Nat.zero_le _, rfl, rfl, O0.out, HB.out⟩
          case round =>
            clear O0 HB
            rename World => wq
            obtain ⟨k, hk, rfl, rfl, hown, hbel⟩ := hrel
            have O := Lib.hid hown; have HB := Lib.hid hbel
            clear hown hbel
            have hbsz := HB.out.size
            have GB := Lib.hid (own_in5 O.out (k := g) rfl)
            by_cases hlt : k < n0
            · obtain ⟨lg, hc⟩ := own_rsg O.out H0.out
              obtain ⟨e0, e1, e2, e3, e4⟩ := hc k hlt
              have f4 := World.ownsRow.frozenAt O.out (k * 5 + 4)
              have k0 : (0 : Int) ≤ (k : Int) := Int.natCast_nonneg _
              have klz : (k : Int) < (n0 : Int) := by omega
              have k30 : k ≤ 30 := by have := HM30.out; omega
              have HLT := Lib.hid hlt
              have O1 : Hid (wq.ownsRow w.heap.size 70 5 (.slice (some ⟨g, 0, none⟩) n0 c6) n0 (rsc kl (bumpy (fun _ => 0) (wof kl) k) n0)) := hide (by
                rw [rsc_congr (kl := kl) (pl := kl) (c := bumpy (fun _ => 0) (wof kl) k) (d := bumpz (fun _ => 0) (wof kl) k) n0 (fun i _ => ⟨rfl, by
                  unfold bumpy bumpz
                  by_cases h1 : i = k
                  · subst h1; rw [if_pos rfl, if_neg (Nat.lt_irrefl _)]
                  · rw [if_neg h1]⟩)]
                exact O.out)
              have HB1 := HB
              clear hc lg
              go_wp2_with fail
              generalize wq = W1 at *
              clear e0 e1 e2 e3 e4 f4
              clear O HB
              obtain ⟨lg, hc⟩ := own_rsg O1.out H0.out
              obtain ⟨e0, e1, e2, e3, e4⟩ := hc k HLT.out
              have f4 := World.ownsRow.frozenAt O1.out (k * 5 + 4)
              rw [show bumpy (fun _ => 0) (wof kl) k k = 0 from if_pos rfl] at e4
              have hwk : (nth kl k).weight = wof kl k := rfl
              rw [hwk] at e2
              have ev : IntKind.i64.wrap (0 + wof kl k) = Sm.bump (fun _ => 0) (wof kl) k := by
                have h1 := (unhide HWF) k HLT.out
                skip
                rw [w64 _ (by omega)]; rfl
              have ev0 := ev
              rw [Int.zero_add] at ev0
              have st2 := World.ownsRow.stored O1.out (k * 5 + 4) (.int .i64 (Sm.bump (fun _ => 0) (wof kl) k))
              rw [bumpz_set HLT.out] at st2
              have O2 := Lib.hid st2.1
              have HB2 := Lib.hid (Below.setCell (p := ⟨g, k * 5 + 4, none⟩) HB1.out GB.out (.int .i64 (Sm.bump (fun _ => 0) (wof kl) k)))
              clear st2 hc lg hwk hbsz
              generalize hx1 : Sm.bump (fun _ => 0) (wof kl) k = x1 at *
              have HX1 := Lib.hid hx1
              clear hx1
              go_still_tail 16, (by kernel_rfl)
              change wpList _ _ _ _ _ W1.drew
              go_wp2_with fail
              generalize W1.setCell ⟨g, k * 5 + 4, none⟩ (.int .i64 x1) = W2 at *
              clear e0 e1 e2 e3 e4 f4 ev O1 HB1 ev0
              have BLT := Lib.hid (show Sm.am (Sm.bump (fun _ => 0) (wof kl)) k < n0 from Nat.lt_of_lt_of_le (am_lt1 _ k) HLT.out)
              obtain ⟨lg, hc⟩ := own_rsg O2.out H0.out
              obtain ⟨_, _, _, _, ek⟩ := hc k HLT.out
              obtain ⟨_, _, _, _, eb⟩ := hc _ BLT.out
              rw [show bumpz (fun _ => 0) (wof kl) (k + 1) k = x1 from by rw [← HX1.out]; exact if_pos (by omega)] at ek
              rw [show bumpz (fun _ => 0) (wof kl) (k + 1) (Sm.am (Sm.bump (fun _ => 0) (wof kl)) k) = Sm.bump (fun _ => 0) (wof kl) (Sm.am (Sm.bump (fun _ => 0) (wof kl)) k) from if_pos (am_lt1 _ k)] at eb
              have b0 : (0 : Int) ≤ ((Sm.am (Sm.bump (fun _ => 0) (wof kl)) k : Nat) : Int) := Int.natCast_nonneg _
              have bl : ((Sm.am (Sm.bump (fun _ => 0) (wof kl)) k : Nat) : Int) < (n0 : Int) := by have := BLT.out; omega
              have AMY := hide (fun (h : Sm.bump (fun _ => 0) (wof kl) (Sm.am (Sm.bump (fun _ => 0) (wof kl)) k) < x1) => show Sm.am (Sm.bump (fun _ => 0) (wof kl)) (k + 1) = k from if_pos (by rw [HX1.out]; exact h))
              have AMN := hide (fun (h : ¬ Sm.bump (fun _ => 0) (wof kl) (Sm.am (Sm.bump (fun _ => 0) (wof kl)) k) < x1) => show Sm.am (Sm.bump (fun _ => 0) (wof kl)) (k + 1) = Sm.am (Sm.bump (fun _ => 0) (wof kl)) k from if_neg (by rw [HX1.out]; exact h))
              clear hc lg
              generalize hbe : Sm.am (Sm.bump (fun _ => 0) (wof kl)) k = b9 at *
              generalize hy : Sm.bump (fun _ => 0) (wof kl) b9 = y9 at *
              clear hbe hy
              by_cases hlt2 : y9 < x1
              · have AM := Lib.hid (unhide AMY hlt2)
                clear AMY AMN
                go_quiet (fail)
                go_wp2_with fail
                go_roundw
                case rel => exact ⟨k + 1, HLT.out, by go_num, by rw [AM.out], O2.out, below_drewN HB2.out _⟩
                case measure => have := HLT.out; simp [intOf]; omega
              · have AM := Lib.hid (unhide AMN hlt2)
                clear AMY AMN
                go_quiet (fail)
                go_wp2_with fail
                go_roundw
                case rel => exact ⟨k + 1, HLT.out, by go_num, by rw [AM.out], O2.out, below_drewN HB2.out _⟩
                case measure => have := HLT.out; simp [intOf]; omega
            · obtain rfl : k = n0 := by omega
              have kge2 : ¬ (k : Int) < (k : Int) := by omega
              clear hk hlt
              have BLM := Lib.hid (Sm.am_lt (f := Sm.bump (fun _ => 0) (wof kl)) k H0.out)
              have bm : bumpz (fun _ => 0) (wof kl) k (Sm.am (Sm.bump (fun _ => 0) (wof kl)) k) = Sm.bump (fun _ => 0) (wof kl) (Sm.am (Sm.bump (fun _ => 0) (wof kl)) k) := if_pos BLM.out
              obtain ⟨lg, hc⟩ := own_rsg O.out H0.out
              obtain ⟨_, _, _, _, eb⟩ := hc _ BLM.out
              rw [bm] at eb
              have e1b : IntKind.i64.wrap (Sm.bump (fun _ => 0) (wof kl) (Sm.am (Sm.bump (fun _ => 0) (wof kl)) k) - Sm.S (wof kl) k) = Sm.bump (fun _ => 0) (wof kl) (Sm.am (Sm.bump (fun _ => 0) (wof kl)) k) - Sm.S (wof kl) k := by
                have h1 := (unhide HWF) _ BLM.out; have h3 := S_range (w := wof kl) k (unhide HWF); have h4 := HM30.out
                have h5 : Sm.bump (fun _ => 0) (wof kl) (Sm.am (Sm.bump (fun _ => 0) (wof kl)) k) = (fun _ => 0) (Sm.am (Sm.bump (fun _ => 0) (wof kl)) k) + wof kl (Sm.am (Sm.bump (fun _ => 0) (wof kl)) k) := rfl
                have h6 : (fun _ => 0 : Nat → Int) (Sm.am (Sm.bump (fun _ => 0) (wof kl)) k) = 0 := rfl
                rw [w64 _ (by omega)]
              have STR := World.ownsRow.stored O.out (Sm.am (Sm.bump (fun _ => 0) (wof kl)) k * 5 + 4) (.int .i64 (Sm.bump (fun _ => 0) (wof kl) (Sm.am (Sm.bump (fun _ => 0) (wof kl)) k) - Sm.S (wof kl) k))
              rw [stepz_set (kl := kl) (c := fun _ => 0) (w := wof kl) (Sm.S (wof kl) k) H0.out] at STR
              have O9 := Lib.hid STR.1
              have fg := World.ownsRow.frozenAt O.out (Sm.am (Sm.bump (fun _ => 0) (wof kl)) k * 5 + 4)
              have b0 : (0 : Int) ≤ ((Sm.am (Sm.bump (fun _ => 0) (wof kl)) k : Nat) : Int) := Int.natCast_nonneg _
              have bl : ((Sm.am (Sm.bump (fun _ => 0) (wof kl)) k : Nat) : Int) < (k : Int) := by have := BLM.out; omega
              have HB9 := Lib.hid (Below.setCell (p := ⟨g, Sm.am (Sm.bump (fun _ => 0) (wof kl)) k * 5 + 4, none⟩) HB.out GB.out (.int .i64 (Sm.bump (fun _ => 0) (wof kl) (Sm.am (Sm.bump (fun _ => 0) (wof kl)) k) - Sm.S (wof kl) k)))
              clear STR hc lg bm
              have PO := hide (show RpOut w Aw n cw k kl (fun _ => 0) (.returned (.tuple #[.slice (some ⟨g, 0, none⟩) k c6, .int .i64 ((Sm.am (Sm.bump (fun _ => 0) (wof kl)) k : Nat) : Int)])) _ from .inr ⟨H0.out, g, c6, rfl, O9.out⟩)
              generalize hbe : Sm.am (Sm.bump (fun _ => 0) (wof kl)) k = b9 at *
              generalize hy : Sm.bump (fun _ => 0) (wof kl) b9 = y9 at *
              generalize hsk : Sm.S (wof kl) k = sk at *
              clear hbe hy hsk O9
              go_wp2_with fail
              refine bodyPost_ret (v := .tuple #[.slice (some ⟨g, 0, none⟩) k c6, .int .i64 (b9 : Int)]) (by simp [results, Try.results34, go_sem]) rfl ⟨?_, HB9.out⟩
              rw [base_no NS.out]
              exact unhide PO
        | true =>
          by_cases hmn : n0 = n
          · have NS := Lib.hid (show SameSh n0 n kl pl from ⟨hmn, fun i hi => (HBS.out.1 hbv i hi).2⟩)
            subst hbv
            have HMN := Lib.hid hmn
            have mnz : ((n0 : Int) == (n : Int)) = true := by rw [hmn]; simp
            have O0 : Hid (wr.ownsRow w.heap.size 70 5 (.slice (some ⟨g, 0, none⟩) n0 c6) n0 (rsc kl (bumpz cr (wof kl) 0) n0)) := hide (by
              rw [rsc_congr (kl := kl) (pl := kl) (c := bumpz cr (wof kl) 0) (d := fun _ => 0) n0 (fun i _ => ⟨rfl, if_neg (by omega)⟩)]; exact HO.out)
            clear HBS HO hmn
            go_wp2_with fail
            go_loopw [11, 12] (fun v11 v12 wq => RpB w g c6 n0 kl (cr) (wof kl) v11 v12 wq) (fun _ v _ => n0 - (intOf v).toNat)
            case atStart => exact ⟨0, Nat.zero_le _, rfl, rfl, O0.out, HB.out⟩
            case round =>
              clear O0 HB
              rename World => wq
              obtain ⟨k, hk, rfl, rfl, hown, hbel⟩ := hrel
              have O := Lib.hid hown; have HB := Lib.hid hbel
              clear hown hbel
              have hbsz := HB.out.size
              have GB := Lib.hid (own_in5 O.out (k := g) rfl)
              by_cases hlt : k < n0
              · obtain ⟨lg, hc⟩ := own_rsg O.out H0.out
                obtain ⟨e0, e1, e2, e3, e4⟩ := hc k hlt
                have f4 := World.ownsRow.frozenAt O.out (k * 5 + 4)
                have k0 : (0 : Int) ≤ (k : Int) := Int.natCast_nonneg _
                have klz : (k : Int) < (n0 : Int) := by omega
                have k30 : k ≤ 30 := by have := HM30.out; omega
                have HLT := Lib.hid hlt
                obtain ⟨gw, rfl, hgw, hcw⟩ := HWS.out (by have := HMN.out; omega)
                obtain ⟨_, _, _, _, q4⟩ := hcw k (by have := HMN.out; omega)
                have q4 := (HB.out.cell (p := ⟨gw, k * 5 + 4, none⟩) hgw).trans q4
                have kln : (k : Int) < (n : Int) := by have := HMN.out; omega
                have st1 := World.ownsRow.stored O.out (k * 5 + 4) (.int .i64 (cr k))
                rw [bumpy_set hlt] at st1
                have O1 := Lib.hid st1.1
                have HB1 := Lib.hid (Below.setCell (p := ⟨g, k * 5 + 4, none⟩) HB.out GB.out (.int .i64 (cr k)))
                clear st1 hc lg hcw hgw
                go_wp2_with fail
                generalize wq.setCell ⟨g, k * 5 + 4, none⟩ (.int .i64 (cr k)) = W1 at *
                clear e0 e1 e2 e3 e4 f4
                clear O HB
                obtain ⟨lg, hc⟩ := own_rsg O1.out H0.out
                obtain ⟨e0, e1, e2, e3, e4⟩ := hc k HLT.out
                have f4 := World.ownsRow.frozenAt O1.out (k * 5 + 4)
                rw [show bumpy (cr) (wof kl) k k = cr k from if_pos rfl] at e4
                have hwk : (nth kl k).weight = wof kl k := rfl
                rw [hwk] at e2
                have ev : IntKind.i64.wrap (cr k + wof kl k) = Sm.bump (cr) (wof kl) k := by
                  have h1 := (unhide HWF) k HLT.out
                  have h2 := (unhide HCR) k (by have := HMN.out; have := HLT.out; omega)
                  rw [w64 _ (by omega)]; rfl
                have st2 := World.ownsRow.stored O1.out (k * 5 + 4) (.int .i64 (Sm.bump (cr) (wof kl) k))
                rw [bumpz_set HLT.out] at st2
                have O2 := Lib.hid st2.1
                have HB2 := Lib.hid (Below.setCell (p := ⟨g, k * 5 + 4, none⟩) HB1.out GB.out (.int .i64 (Sm.bump (cr) (wof kl) k)))
                clear st2 hc lg hwk hbsz
                generalize hx1 : Sm.bump (cr) (wof kl) k = x1 at *
                have HX1 := Lib.hid hx1
                clear hx1
                go_still_tail 16, (by kernel_rfl)
                change wpList _ _ _ _ _ W1.drew
                go_wp2_with fail
                generalize W1.setCell ⟨g, k * 5 + 4, none⟩ (.int .i64 x1) = W2 at *
                clear e0 e1 e2 e3 e4 f4 ev O1 HB1
                have BLT := Lib.hid (show Sm.am (Sm.bump (cr) (wof kl)) k < n0 from Nat.lt_of_lt_of_le (am_lt1 _ k) HLT.out)
                obtain ⟨lg, hc⟩ := own_rsg O2.out H0.out
                obtain ⟨_, _, _, _, ek⟩ := hc k HLT.out
                obtain ⟨_, _, _, _, eb⟩ := hc _ BLT.out
                rw [show bumpz (cr) (wof kl) (k + 1) k = x1 from by rw [← HX1.out]; exact if_pos (by omega)] at ek
                rw [show bumpz (cr) (wof kl) (k + 1) (Sm.am (Sm.bump (cr) (wof kl)) k) = Sm.bump (cr) (wof kl) (Sm.am (Sm.bump (cr) (wof kl)) k) from if_pos (am_lt1 _ k)] at eb
                have b0 : (0 : Int) ≤ ((Sm.am (Sm.bump (cr) (wof kl)) k : Nat) : Int) := Int.natCast_nonneg _
                have bl : ((Sm.am (Sm.bump (cr) (wof kl)) k : Nat) : Int) < (n0 : Int) := by have := BLT.out; omega
                have AMY := hide (fun (h : Sm.bump (cr) (wof kl) (Sm.am (Sm.bump (cr) (wof kl)) k) < x1) => show Sm.am (Sm.bump (cr) (wof kl)) (k + 1) = k from if_pos (by rw [HX1.out]; exact h))
                have AMN := hide (fun (h : ¬ Sm.bump (cr) (wof kl) (Sm.am (Sm.bump (cr) (wof kl)) k) < x1) => show Sm.am (Sm.bump (cr) (wof kl)) (k + 1) = Sm.am (Sm.bump (cr) (wof kl)) k from if_neg (by rw [HX1.out]; exact h))
                clear hc lg
                generalize hbe : Sm.am (Sm.bump (cr) (wof kl)) k = b9 at *
                generalize hy : Sm.bump (cr) (wof kl) b9 = y9 at *
                clear hbe hy
                by_cases hlt2 : y9 < x1
                · have AM := Lib.hid (unhide AMY hlt2)
                  clear AMY AMN
                  go_quiet (fail)
                  go_wp2_with fail
                  go_roundw
                  case rel => exact ⟨k + 1, HLT.out, by go_num, by rw [AM.out], O2.out, below_drewN HB2.out _⟩
                  case measure => have := HLT.out; simp [intOf]; omega
                · have AM := Lib.hid (unhide AMN hlt2)
                  clear AMY AMN
                  go_quiet (fail)
                  go_wp2_with fail
                  go_roundw
                  case rel => exact ⟨k + 1, HLT.out, by go_num, by rw [AM.out], O2.out, below_drewN HB2.out _⟩
                  case measure => have := HLT.out; simp [intOf]; omega
              · obtain rfl : k = n0 := by omega
                have kge2 : ¬ (k : Int) < (k : Int) := by omega
                clear hk hlt
                have BLM := Lib.hid (Sm.am_lt (f := Sm.bump (cr) (wof kl)) k H0.out)
                have bm : bumpz (cr) (wof kl) k (Sm.am (Sm.bump (cr) (wof kl)) k) = Sm.bump (cr) (wof kl) (Sm.am (Sm.bump (cr) (wof kl)) k) := if_pos BLM.out
                obtain ⟨lg, hc⟩ := own_rsg O.out H0.out
                obtain ⟨_, _, _, _, eb⟩ := hc _ BLM.out
                rw [bm] at eb
                have e1b : IntKind.i64.wrap (Sm.bump (cr) (wof kl) (Sm.am (Sm.bump (cr) (wof kl)) k) - Sm.S (wof kl) k) = Sm.bump (cr) (wof kl) (Sm.am (Sm.bump (cr) (wof kl)) k) - Sm.S (wof kl) k := by
                  have h1 := (unhide HWF) _ BLM.out; have h3 := S_range (w := wof kl) k (unhide HWF); have h4 := HM30.out
                  have h5 : Sm.bump (cr) (wof kl) (Sm.am (Sm.bump (cr) (wof kl)) k) = (cr) (Sm.am (Sm.bump (cr) (wof kl)) k) + wof kl (Sm.am (Sm.bump (cr) (wof kl)) k) := rfl
                  have h2 := (unhide HCR) (Sm.am (Sm.bump cr (wof kl)) k) (by have := HMN.out; have := BLM.out; omega)
                  rw [w64 _ (by omega)]
                have STR := World.ownsRow.stored O.out (Sm.am (Sm.bump (cr) (wof kl)) k * 5 + 4) (.int .i64 (Sm.bump (cr) (wof kl) (Sm.am (Sm.bump (cr) (wof kl)) k) - Sm.S (wof kl) k))
                rw [stepz_set (kl := kl) (c := cr) (w := wof kl) (Sm.S (wof kl) k) H0.out] at STR
                have O9 := Lib.hid STR.1
                have fg := World.ownsRow.frozenAt O.out (Sm.am (Sm.bump (cr) (wof kl)) k * 5 + 4)
                have b0 : (0 : Int) ≤ ((Sm.am (Sm.bump (cr) (wof kl)) k : Nat) : Int) := Int.natCast_nonneg _
                have bl : ((Sm.am (Sm.bump (cr) (wof kl)) k : Nat) : Int) < (k : Int) := by have := BLM.out; omega
                have HB9 := Lib.hid (Below.setCell (p := ⟨g, Sm.am (Sm.bump (cr) (wof kl)) k * 5 + 4, none⟩) HB.out GB.out (.int .i64 (Sm.bump (cr) (wof kl) (Sm.am (Sm.bump (cr) (wof kl)) k) - Sm.S (wof kl) k)))
                clear STR hc lg bm
                have PO := hide (show RpOut w Aw n cw k kl (cr) (.returned (.tuple #[.slice (some ⟨g, 0, none⟩) k c6, .int .i64 ((Sm.am (Sm.bump (cr) (wof kl)) k : Nat) : Int)])) _ from .inr ⟨H0.out, g, c6, rfl, O9.out⟩)
                generalize hbe : Sm.am (Sm.bump (cr) (wof kl)) k = b9 at *
                generalize hy : Sm.bump (cr) (wof kl) b9 = y9 at *
                generalize hsk : Sm.S (wof kl) k = sk at *
                clear hbe hy hsk O9
                go_wp2_with fail
                refine bodyPost_ret (v := .tuple #[.slice (some ⟨g, 0, none⟩) k c6, .int .i64 (b9 : Int)]) (by simp [results, Try.results34, go_sem]) rfl ⟨?_, HB9.out⟩
                rw [base_yes NS.out]
                exact unhide PO
          · have NS := Lib.hid (show ¬ SameSh n0 n kl pl from fun h => hmn h.1)
            subst hbv
            have mnz : ((n0 : Int) == (n : Int)) = false := by rw [beq_eq_false_iff_ne]; omega
            clear HBS HO hmn
            go_wp2_with fail
            go_loopw [11, 12] (fun v11 v12 wq => RpB w g c6 n0 kl (fun _ => 0) (wof kl) v11 v12 wq) (fun _ v _ => n0 - (intOf v).toNat)
            case atStart => exact ⟨0, Nat.zero_le _, rfl, rfl, O0.out, HB.out⟩
            case round =>
              clear O0 HB
              rename World => wq
              obtain ⟨k, hk, rfl, rfl, hown, hbel⟩ := hrel
              have O := Lib.hid hown; have HB := Lib.hid hbel
              clear hown hbel
              have hbsz := HB.out.size
              have GB := Lib.hid (own_in5 O.out (k := g) rfl)
              by_cases hlt : k < n0
              · obtain ⟨lg, hc⟩ := own_rsg O.out H0.out
                obtain ⟨e0, e1, e2, e3, e4⟩ := hc k hlt
                have f4 := World.ownsRow.frozenAt O.out (k * 5 + 4)
                have k0 : (0 : Int) ≤ (k : Int) := Int.natCast_nonneg _
                have klz : (k : Int) < (n0 : Int) := by omega
                have k30 : k ≤ 30 := by have := HM30.out; omega
                have HLT := Lib.hid hlt
                have O1 : Hid (wq.ownsRow w.heap.size 70 5 (.slice (some ⟨g, 0, none⟩) n0 c6) n0 (rsc kl (bumpy (fun _ => 0) (wof kl) k) n0)) := hide (by
                  rw [rsc_congr (kl := kl) (pl := kl) (c := bumpy (fun _ => 0) (wof kl) k) (d := bumpz (fun _ => 0) (wof kl) k) n0 (fun i _ => ⟨rfl, by
                    unfold bumpy bumpz
                    by_cases h1 : i = k
                    · subst h1; rw [if_pos rfl, if_neg (Nat.lt_irrefl _)]
                    · rw [if_neg h1]⟩)]
                  exact O.out)
                have HB1 := HB
                clear hc lg
                go_wp2_with fail
                generalize wq = W1 at *
                clear e0 e1 e2 e3 e4 f4
                clear O HB
                obtain ⟨lg, hc⟩ := own_rsg O1.out H0.out
                obtain ⟨e0, e1, e2, e3, e4⟩ := hc k HLT.out
                have f4 := World.ownsRow.frozenAt O1.out (k * 5 + 4)
                rw [show bumpy (fun _ => 0) (wof kl) k k = 0 from if_pos rfl] at e4
                have hwk : (nth kl k).weight = wof kl k := rfl
                rw [hwk] at e2
                have ev : IntKind.i64.wrap (0 + wof kl k) = Sm.bump (fun _ => 0) (wof kl) k := by
                  have h1 := (unhide HWF) k HLT.out
                  skip
                  rw [w64 _ (by omega)]; rfl
                have ev0 := ev
                rw [Int.zero_add] at ev0
                have st2 := World.ownsRow.stored O1.out (k * 5 + 4) (.int .i64 (Sm.bump (fun _ => 0) (wof kl) k))
                rw [bumpz_set HLT.out] at st2
                have O2 := Lib.hid st2.1
                have HB2 := Lib.hid (Below.setCell (p := ⟨g, k * 5 + 4, none⟩) HB1.out GB.out (.int .i64 (Sm.bump (fun _ => 0) (wof kl) k)))
                clear st2 hc lg hwk hbsz
                generalize hx1 : Sm.bump (fun _ => 0) (wof kl) k = x1 at *
                have HX1 := Lib.hid hx1
                clear hx1
                go_still_tail 16, (by kernel_rfl)
                change wpList _ _ _ _ _ W1.drew
                go_wp2_with fail
                generalize W1.setCell ⟨g, k * 5 + 4, none⟩ (.int .i64 x1) = W2 at *
                clear e0 e1 e2 e3 e4 f4 ev O1 HB1 ev0
                have BLT := Lib.hid (show Sm.am (Sm.bump (fun _ => 0) (wof kl)) k < n0 from Nat.lt_of_lt_of_le (am_lt1 _ k) HLT.out)
                obtain ⟨lg, hc⟩ := own_rsg O2.out H0.out
                obtain ⟨_, _, _, _, ek⟩ := hc k HLT.out
                obtain ⟨_, _, _, _, eb⟩ := hc _ BLT.out
                rw [show bumpz (fun _ => 0) (wof kl) (k + 1) k = x1 from by rw [← HX1.out]; exact if_pos (by omega)] at ek
                rw [show bumpz (fun _ => 0) (wof kl) (k + 1) (Sm.am (Sm.bump (fun _ => 0) (wof kl)) k) = Sm.bump (fun _ => 0) (wof kl) (Sm.am (Sm.bump (fun _ => 0) (wof kl)) k) from if_pos (am_lt1 _ k)] at eb
                have b0 : (0 : Int) ≤ ((Sm.am (Sm.bump (fun _ => 0) (wof kl)) k : Nat) : Int) := Int.natCast_nonneg _
                have bl : ((Sm.am (Sm.bump (fun _ => 0) (wof kl)) k : Nat) : Int) < (n0 : Int) := by have := BLT.out; omega
                have AMY := hide (fun (h : Sm.bump (fun _ => 0) (wof kl) (Sm.am (Sm.bump (fun _ => 0) (wof kl)) k) < x1) => show Sm.am (Sm.bump (fun _ => 0) (wof kl)) (k + 1) = k from if_pos (by rw [HX1.out]; exact h))
                have AMN := hide (fun (h : ¬ Sm.bump (fun _ => 0) (wof kl) (Sm.am (Sm.bump (fun _ => 0) (wof kl)) k) < x1) => show Sm.am (Sm.bump (fun _ => 0) (wof kl)) (k + 1) = Sm.am (Sm.bump (fun _ => 0) (wof kl)) k from if_neg (by rw [HX1.out]; exact h))
                clear hc lg
                generalize hbe : Sm.am (Sm.bump (fun _ => 0) (wof kl)) k = b9 at *
                generalize hy : Sm.bump (fun _ => 0) (wof kl) b9 = y9 at *
                clear hbe hy
                by_cases hlt2 : y9 < x1
                · have AM := Lib.hid (unhide AMY hlt2)
                  clear AMY AMN
                  go_quiet (fail)
                  go_wp2_with fail
                  go_roundw
                  case rel => exact ⟨k + 1, HLT.out, by go_num, by rw [AM.out], O2.out, below_drewN HB2.out _⟩
                  case measure => have := HLT.out; simp [intOf]; omega
                · have AM := Lib.hid (unhide AMN hlt2)
                  clear AMY AMN
                  go_quiet (fail)
                  go_wp2_with fail
                  go_roundw
                  case rel => exact ⟨k + 1, HLT.out, by go_num, by rw [AM.out], O2.out, below_drewN HB2.out _⟩
                  case measure => have := HLT.out; simp [intOf]; omega
              · obtain rfl : k = n0 := by omega
                have kge2 : ¬ (k : Int) < (k : Int) := by omega
                clear hk hlt
                have BLM := Lib.hid (Sm.am_lt (f := Sm.bump (fun _ => 0) (wof kl)) k H0.out)
                have bm : bumpz (fun _ => 0) (wof kl) k (Sm.am (Sm.bump (fun _ => 0) (wof kl)) k) = Sm.bump (fun _ => 0) (wof kl) (Sm.am (Sm.bump (fun _ => 0) (wof kl)) k) := if_pos BLM.out
                obtain ⟨lg, hc⟩ := own_rsg O.out H0.out
                obtain ⟨_, _, _, _, eb⟩ := hc _ BLM.out
                rw [bm] at eb
                have e1b : IntKind.i64.wrap (Sm.bump (fun _ => 0) (wof kl) (Sm.am (Sm.bump (fun _ => 0) (wof kl)) k) - Sm.S (wof kl) k) = Sm.bump (fun _ => 0) (wof kl) (Sm.am (Sm.bump (fun _ => 0) (wof kl)) k) - Sm.S (wof kl) k := by
                  have h1 := (unhide HWF) _ BLM.out; have h3 := S_range (w := wof kl) k (unhide HWF); have h4 := HM30.out
                  have h5 : Sm.bump (fun _ => 0) (wof kl) (Sm.am (Sm.bump (fun _ => 0) (wof kl)) k) = (fun _ => 0) (Sm.am (Sm.bump (fun _ => 0) (wof kl)) k) + wof kl (Sm.am (Sm.bump (fun _ => 0) (wof kl)) k) := rfl
                  have h6 : (fun _ => 0 : Nat → Int) (Sm.am (Sm.bump (fun _ => 0) (wof kl)) k) = 0 := rfl
                  rw [w64 _ (by omega)]
                have STR := World.ownsRow.stored O.out (Sm.am (Sm.bump (fun _ => 0) (wof kl)) k * 5 + 4) (.int .i64 (Sm.bump (fun _ => 0) (wof kl) (Sm.am (Sm.bump (fun _ => 0) (wof kl)) k) - Sm.S (wof kl) k))
                rw [stepz_set (kl := kl) (c := fun _ => 0) (w := wof kl) (Sm.S (wof kl) k) H0.out] at STR
                have O9 := Lib.hid STR.1
                have fg := World.ownsRow.frozenAt O.out (Sm.am (Sm.bump (fun _ => 0) (wof kl)) k * 5 + 4)
                have b0 : (0 : Int) ≤ ((Sm.am (Sm.bump (fun _ => 0) (wof kl)) k : Nat) : Int) := Int.natCast_nonneg _
                have bl : ((Sm.am (Sm.bump (fun _ => 0) (wof kl)) k : Nat) : Int) < (k : Int) := by have := BLM.out; omega
                have HB9 := Lib.hid (Below.setCell (p := ⟨g, Sm.am (Sm.bump (fun _ => 0) (wof kl)) k * 5 + 4, none⟩) HB.out GB.out (.int .i64 (Sm.bump (fun _ => 0) (wof kl) (Sm.am (Sm.bump (fun _ => 0) (wof kl)) k) - Sm.S (wof kl) k)))
                clear STR hc lg bm
                have PO := hide (show RpOut w Aw n cw k kl (fun _ => 0) (.returned (.tuple #[.slice (some ⟨g, 0, none⟩) k c6, .int .i64 ((Sm.am (Sm.bump (fun _ => 0) (wof kl)) k : Nat) : Int)])) _ from .inr ⟨H0.out, g, c6, rfl, O9.out⟩)
                generalize hbe : Sm.am (Sm.bump (fun _ => 0) (wof kl)) k = b9 at *
                generalize hy : Sm.bump (fun _ => 0) (wof kl) b9 = y9 at *
                generalize hsk : Sm.S (wof kl) k = sk at *
                clear hbe hy hsk O9
                go_wp2_with fail
                refine bodyPost_ret (v := .tuple #[.slice (some ⟨g, 0, none⟩) k c6, .int .i64 (b9 : Int)]) (by simp [results, Try.results34, go_sem]) rfl ⟨?_, HB9.out⟩
                rw [base_no NS.out]
                exact unhide PO
end Go.Proofs.Ytkebgkjopfdafaa
