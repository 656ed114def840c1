/-
  The law TurnPicks, walked. Helper of the claim TurnPicks. No condition.
-/
import Derived.Test.YtkebgkjopfdafaaTpk
namespace Go.Proofs.Ytkebgkjopfdafaa
open Go.ChangeShapes Go.WideShapes Go.ChangeAt Go.RowKit
set_option linter.unusedVariables false
set_option maxRecDepth 100000
theorem asc_right : ∀ (l : List Cand) (last : Int), rightFrom last l = true → ∀ j, j < l.length → last < (nth l j).slot ∧ (nth l j).slot ≤ 4095
  | [], _, _, j, hj => by simp at hj
  | x :: l, last, h, j, hj => by
    have hx : ¬ (x.slot ≤ last ∨ 4095 < x.slot ∨ x.weight < 0 ∨ 100 < x.weight) := fun hh => by rw [right_no hh] at h; cases h
    rw [right_go hx] at h
    match j with
    | 0 => exact ⟨by simp only [nth, List.getD, List.getElem?_cons_zero, Option.getD_some]; omega, by simp only [nth, List.getD, List.getElem?_cons_zero, Option.getD_some]; omega⟩
    | j + 1 =>
      have h2 := asc_right l x.slot h j (by simp at hj; omega)
      have e : nth (x :: l) (j + 1) = nth l j := by simp [nth, List.getD]
      rw [e]; omega
theorem slots_right {l : List Cand} (h : rightB l = true) (k : Nat) : -1 ≤ (nth l k).slot ∧ (nth l k).slot ≤ 4095 := by
  by_cases hk : k < l.length
  · have := asc_right l (-1) h k hk; omega
  · have e : nth l k = default := by simp [nth, List.getD, List.getElem?_eq_none (Nat.le_of_not_lt hk)]
    rw [e]; decide
def nths (ls : List (List Cand)) (i : Nat) : List Cand := ls.getD i []
/-- A slice of slices of candidates at A. -/
def CandsS (w : World) (B : Nat) (A : Option Addr) (ls : List (List Cand)) : Prop :=
  0 < ls.length → ∃ b off, A = some ⟨b, off, none⟩ ∧ b < B ∧ ∀ i, i < ls.length → ∃ Ai ci, w.cell? ⟨b, off + i, none⟩ = some (.slice Ai (nths ls i).length ci) ∧ Cands w B Ai (nths ls i) ∧ (nths ls i).length ≤ maxLen
def LRel (W : World) (bt : Nat) (ls : List (List Cand)) (v4 v5 : Value) (wr : World) : Prop :=
  ∃ (i : Nat) (next : Int), i ≤ ls.length ∧ i ≤ 40 ∧ v4 = .int .i64 next ∧ v5 = .int .i64 (i : Int) ∧ Is wr bt 37 #[.int .i64 next] ∧ Below W.heap.size W wr
set_option maxHeartbeats 8000000 in
theorem walk18 (A : Option Addr) (c : Nat) (ls : List (List Cand)) (w : World) (h : CandsS w w.heap.size A ls) (hm : ls.length ≤ maxLen) : Calls Try.prog 4 #[.slice A ls.length c] w fun e w' => e = .returned (.bool true) ∧ Below w.heap.size w w' := by
  have HCS := Lib.hid h
  clear h
  unfold maxLen at hm
  go_enter Try.func4, Try.ntmps4
  go_wp2_with fail
  refine (awake18 _).mono ?_
  rintro e w1 ⟨rfl, hb1⟩
  have hb0 := hb1.alloc hb1.size (.cells #[.int .i64 0] 37)
  have hi0 := Is.new w1 37 #[.int .i64 0]
  have hbt0 := hb1.size
  have HB0 := Lib.hid hb0; have HI0 := Lib.hid hi0
  clear hb0 hi0 hb1
  go_wp2_with fail
  generalize w1.alloc (.cells #[.int .i64 0] 37) = wa at *
  generalize w1.heap.size = bt at *
  go_loopw [4, 5] (fun v4 v5 wr => LRel w bt ls v4 v5 wr) (fun _ v5 _ => ls.length - (intOf v5).toNat)
  case atStart => exact ⟨0, 0, Nat.zero_le _, by omega, rfl, rfl, HI0.out, HB0.out⟩
  case round =>
    obtain ⟨i, next, hi, hi40, rfl, rfl, his, hb⟩ := hrel
    have HIS := Lib.hid his; have HB := Lib.hid hb
    clear his hb HI0 HB0
    by_cases hlt : i < ls.length
    · by_cases h40 : i < 40
      · have i40 : i + 1 ≤ 40 := by omega
        have il : (i : Int) < (ls.length : Int) := by omega
        have i0 : (0 : Int) ≤ (i : Int) := by omega
        have i40z : (i : Int) < 40 := by omega
        obtain ⟨b, off, rfl, hbl, hcs⟩ := HCS.out (by omega)
        obtain ⟨Ai, ci, di0, hci, hlm⟩ := hcs i hlt
        have DI := Lib.hid di0; have HCI := Lib.hid hci
        have HIL := Lib.hid (show i + 1 ≤ ls.length from hlt)
        clear hcs di0 hci hlt
        have di := (HB.out.cell (p := ⟨b, off + i, none⟩) hbl).trans DI.out
        have hlm9 := hlm
        unfold maxLen at hlm9
        by_cases h70 : 70 < (nths ls i).length
        · have h70z : (70 : Int) < ((nths ls i).length : Int) := by omega
          go_wp2_with fail
          refine (awake18 _).mono ?_
          rintro e w9 ⟨rfl, hb9⟩
          have HB9 := Lib.hid (HB.out.trans (hb9.mono HB.out.size))
          clear hb9
          go_wp2_with fail
          go_ret
          exact ⟨rfl, HB9.out⟩
        have h70z : ¬ (70 : Int) < ((nths ls i).length : Int) := by omega
        have hl70 : (nths ls i).length ≤ 1000 := by omega
        go_wp2_with fail
        refine (to_any Ai ci (nths ls i) _ ((HCI.out.below HB.out).more HB.out.size) hl70).mono ?_
        rintro e w2 ⟨v, rfl, hxo, hb2⟩
        obtain ⟨Ax, cx, rfl⟩ := own_shape hxo
        have HXO := Lib.hid hxo
        have hbt1 : bt < wr.heap.size := HIS.out.lt
        have HB9 := Lib.hid (HB.out.trans (hb2.mono HB.out.size)); have HIS9 := Lib.hid (HIS.out.below hb2 HIS.out.lt)
        clear HB HIS di hxo hb2
        have HB := HB9; have HIS := HIS9
        clear HB9 HIS9
        have di := (HB.out.cell (p := ⟨b, off + i, none⟩) hbl).trans DI.out
        have hbc : b < _ := Nat.lt_of_lt_of_le hbl HB.out.size
        have HX := Lib.hid (cands_of_own HXO.out)
        go_wp2_with fail
        cases hrb : rightB (nths ls i) with
        | false =>
          have HRB := Lib.hid hrb
          clear hrb
          refine Lin.wp_region_lin Lin.keeps (n := 117)  (fun slotq => match slotq with | 39 => Lin.Spec.val (.slice Ax (nths ls i).length cx) | 40 => Lin.Spec.val (.bool false) | 41 => Lin.Spec.val (.slice (some ⟨b, off, none⟩) ls.length c) | 42 => Lin.Spec.val (.int .i64 (i : Int)) | 43 => Lin.Spec.val (.pointer (some ⟨b, off + i, none⟩)) | 44 => Lin.Spec.val (.slice Ai (nths ls i).length ci) | 45 => Lin.Spec.val (.bool false) | 46 => Lin.Spec.val (.bool false) | _ => Lin.Spec.any) (by kernel_rfl) rfl (by kernel_rfl) ⟨?_, ?_, ?_, ?_, ?_, ?_, ?_, ?_, trivial⟩ ?_
          · intro ρ wq hb ho hc hd
            have hC : ∀ v, ρ (.const v) = v := fun v => hc _ (by intro t e; cases e)
            have hF : ∀ f, ρ (.func f) = .func (.func f) #[] #[] := fun f => hc _ (by intro t e; cases e)
            have h6 : ρ (.tmp 6) = .slice Ax (nths ls i).length cx := ho 6 (by kernel_rfl)
            exact Lin.Runs.value Lin.keeps (Lin.exec_move rfl) h6
          · intro ρ wq hb ho hc hd
            have hC : ∀ v, ρ (.const v) = v := fun v => hc _ (by intro t e; cases e)
            have hF : ∀ f, ρ (.func f) = .func (.func f) #[] #[] := fun f => hc _ (by intro t e; cases e)
            have h39 : ρ (.tmp 39) = .slice Ax (nths ls i).length cx := hd 39 (by kernel_rfl)
            exact Lin.Runs.call Lin.keeps (f := 20) (args := #[.slice Ax (nths ls i).length cx]) (by simp [execOp, go_sem, hF, h39]) ((tright_any Ax cx (nths ls i) wq ((HX.out.below hb).more hb.size) hl70).mono fun e w9 h => ⟨_, h.1, h.2, by rw [HRB.out]; rfl⟩)
          · intro ρ wq hb ho hc hd
            have hC : ∀ v, ρ (.const v) = v := fun v => hc _ (by intro t e; cases e)
            have hF : ∀ f, ρ (.func f) = .func (.func f) #[] #[] := fun f => hc _ (by intro t e; cases e)
            have h0 : ρ (.tmp 0) = .slice (some ⟨b, off, none⟩) ls.length c := ho 0 (by kernel_rfl)
            exact Lin.Runs.value Lin.keeps (Lin.exec_move rfl) h0
          · intro ρ wq hb ho hc hd
            have hC : ∀ v, ρ (.const v) = v := fun v => hc _ (by intro t e; cases e)
            have hF : ∀ f, ρ (.func f) = .func (.func f) #[] #[] := fun f => hc _ (by intro t e; cases e)
            have h5 : ρ (.tmp 5) = .int .i64 (i : Int) := ho 5 (by kernel_rfl)
            exact Lin.Runs.value Lin.keeps (Lin.exec_move rfl) h5
          · intro ρ wq hb ho hc hd
            have hC : ∀ v, ρ (.const v) = v := fun v => hc _ (by intro t e; cases e)
            have hF : ∀ f, ρ (.func f) = .func (.func f) #[] #[] := fun f => hc _ (by intro t e; cases e)
            have h41 : ρ (.tmp 41) = .slice (some ⟨b, off, none⟩) ls.length c := hd 41 (by kernel_rfl)
            have h42 : ρ (.tmp 42) = .int .i64 (i : Int) := hd 42 (by kernel_rfl)
            exact Lin.Runs.value Lin.keeps (v := .pointer (some ⟨b, off + i, none⟩)) (by simp [execOp, go_sem, h41, h42, i0, il]) rfl
          · intro ρ wq hb ho hc hd
            have hC : ∀ v, ρ (.const v) = v := fun v => hc _ (by intro t e; cases e)
            have hF : ∀ f, ρ (.func f) = .func (.func f) #[] #[] := fun f => hc _ (by intro t e; cases e)
            have h43 : ρ (.tmp 43) = .pointer (some ⟨b, off + i, none⟩) := hd 43 (by kernel_rfl)
            have dd := (hb.cell (p := ⟨b, off + i, none⟩) hbc).trans di
            exact Lin.Runs.value Lin.keeps (v := .slice Ai (nths ls i).length ci) (by simp [execOp, go_sem, h43, dd]) rfl
          · intro ρ wq hb ho hc hd
            have hC : ∀ v, ρ (.const v) = v := fun v => hc _ (by intro t e; cases e)
            have hF : ∀ f, ρ (.func f) = .func (.func f) #[] #[] := fun f => hc _ (by intro t e; cases e)
            have h44 : ρ (.tmp 44) = .slice Ai (nths ls i).length ci := hd 44 (by kernel_rfl)
            exact Lin.Runs.call Lin.keeps (f := 15) (args := #[.slice Ai (nths ls i).length ci]) (by simp [execOp, go_sem, hF, h44]) ((rright_any Ai ci (nths ls i) w.heap.size wq (HCI.out.below (HB.out.trans (hb.mono HB.out.size))) hlm).mono fun e w9 h => ⟨_, h.1, h.2 ▸ Below.refl _ _, by rw [HRB.out]; rfl⟩)
          · intro ρ wq hb ho hc hd
            have hC : ∀ v, ρ (.const v) = v := fun v => hc _ (by intro t e; cases e)
            have hF : ∀ f, ρ (.func f) = .func (.func f) #[] #[] := fun f => hc _ (by intro t e; cases e)
            have h40 : ρ (.tmp 40) = .bool false := hd 40 (by kernel_rfl)
            have h45 : ρ (.tmp 45) = .bool false := hd 45 (by kernel_rfl)
            exact Lin.Runs.value Lin.keeps (v := .bool false) (by simp [execOp, go_sem, h40, h45]) rfl
          · intro vals w5 hb2 hv
            have e46 := hv 46 (by kernel_rfl)
            have HB9 := Lib.hid (HB.out.trans (hb2.mono HB.out.size))
            have HIS9 := Lib.hid (HIS.out.below hb2 HIS.out.lt)
            have HXO9 := Lib.hid (own_below HXO.out hb2)
            clear HB HIS di HXO HX
            have HB := HB9; have HIS := HIS9; have HXO := HXO9
            clear HB9 HIS9 HXO9
            have di := (HB.out.cell (p := ⟨b, off + i, none⟩) hbl).trans DI.out
            have hbc : b < _ := Nat.lt_of_lt_of_le hbl HB.out.size
            have HX := Lib.hid (cands_of_own HXO.out)
            clear hv hb2
            simp only [Lin.putAll, Option.getD_some]
            rw [show vals 46 = .bool false from e46]
            go_simp
            generalize vals = vv
            go_wp2_with fail
            refine (rright_any Ai ci (nths ls i) w.heap.size _ (HCI.out.below HB.out) hlm).mono ?_
            rw [HRB.out]
            rintro e w6 ⟨rfl, rfl⟩
            go_wp2_with fail
            go_roundw
            case rel => exact ⟨i + 1, next, HIL.out, i40, rfl, by go_num, HIS.out, HB.out⟩
            case measure => have := HIL.out; simp [intOf]; omega
        | true =>
          have HRB := Lib.hid hrb
          have HSL := Lib.hid (slots_right hrb)
          clear hrb
          refine Lin.wp_region_lin Lin.keeps (n := 117)  (fun slotq => match slotq with | 39 => Lin.Spec.val (.slice Ax (nths ls i).length cx) | 40 => Lin.Spec.val (.bool true) | 41 => Lin.Spec.val (.slice (some ⟨b, off, none⟩) ls.length c) | 42 => Lin.Spec.val (.int .i64 (i : Int)) | 43 => Lin.Spec.val (.pointer (some ⟨b, off + i, none⟩)) | 44 => Lin.Spec.val (.slice Ai (nths ls i).length ci) | 45 => Lin.Spec.val (.bool true) | 46 => Lin.Spec.val (.bool false) | _ => Lin.Spec.any) (by kernel_rfl) rfl (by kernel_rfl) ⟨?_, ?_, ?_, ?_, ?_, ?_, ?_, ?_, trivial⟩ ?_
          · intro ρ wq hb ho hc hd
            have hC : ∀ v, ρ (.const v) = v := fun v => hc _ (by intro t e; cases e)
            have hF : ∀ f, ρ (.func f) = .func (.func f) #[] #[] := fun f => hc _ (by intro t e; cases e)
            have h6 : ρ (.tmp 6) = .slice Ax (nths ls i).length cx := ho 6 (by kernel_rfl)
            exact Lin.Runs.value Lin.keeps (Lin.exec_move rfl) h6
          · intro ρ wq hb ho hc hd
            have hC : ∀ v, ρ (.const v) = v := fun v => hc _ (by intro t e; cases e)
            have hF : ∀ f, ρ (.func f) = .func (.func f) #[] #[] := fun f => hc _ (by intro t e; cases e)
            have h39 : ρ (.tmp 39) = .slice Ax (nths ls i).length cx := hd 39 (by kernel_rfl)
            exact Lin.Runs.call Lin.keeps (f := 20) (args := #[.slice Ax (nths ls i).length cx]) (by simp [execOp, go_sem, hF, h39]) ((tright_any Ax cx (nths ls i) wq ((HX.out.below hb).more hb.size) hl70).mono fun e w9 h => ⟨_, h.1, h.2, by rw [HRB.out]; rfl⟩)
          · intro ρ wq hb ho hc hd
            have hC : ∀ v, ρ (.const v) = v := fun v => hc _ (by intro t e; cases e)
            have hF : ∀ f, ρ (.func f) = .func (.func f) #[] #[] := fun f => hc _ (by intro t e; cases e)
            have h0 : ρ (.tmp 0) = .slice (some ⟨b, off, none⟩) ls.length c := ho 0 (by kernel_rfl)
            exact Lin.Runs.value Lin.keeps (Lin.exec_move rfl) h0
          · intro ρ wq hb ho hc hd
            have hC : ∀ v, ρ (.const v) = v := fun v => hc _ (by intro t e; cases e)
            have hF : ∀ f, ρ (.func f) = .func (.func f) #[] #[] := fun f => hc _ (by intro t e; cases e)
            have h5 : ρ (.tmp 5) = .int .i64 (i : Int) := ho 5 (by kernel_rfl)
            exact Lin.Runs.value Lin.keeps (Lin.exec_move rfl) h5
          · intro ρ wq hb ho hc hd
            have hC : ∀ v, ρ (.const v) = v := fun v => hc _ (by intro t e; cases e)
            have hF : ∀ f, ρ (.func f) = .func (.func f) #[] #[] := fun f => hc _ (by intro t e; cases e)
            have h41 : ρ (.tmp 41) = .slice (some ⟨b, off, none⟩) ls.length c := hd 41 (by kernel_rfl)
            have h42 : ρ (.tmp 42) = .int .i64 (i : Int) := hd 42 (by kernel_rfl)
            exact Lin.Runs.value Lin.keeps (v := .pointer (some ⟨b, off + i, none⟩)) (by simp [execOp, go_sem, h41, h42, i0, il]) rfl
          · intro ρ wq hb ho hc hd
            have hC : ∀ v, ρ (.const v) = v := fun v => hc _ (by intro t e; cases e)
            have hF : ∀ f, ρ (.func f) = .func (.func f) #[] #[] := fun f => hc _ (by intro t e; cases e)
            have h43 : ρ (.tmp 43) = .pointer (some ⟨b, off + i, none⟩) := hd 43 (by kernel_rfl)
            have dd := (hb.cell (p := ⟨b, off + i, none⟩) hbc).trans di
            exact Lin.Runs.value Lin.keeps (v := .slice Ai (nths ls i).length ci) (by simp [execOp, go_sem, h43, dd]) rfl
          · intro ρ wq hb ho hc hd
            have hC : ∀ v, ρ (.const v) = v := fun v => hc _ (by intro t e; cases e)
            have hF : ∀ f, ρ (.func f) = .func (.func f) #[] #[] := fun f => hc _ (by intro t e; cases e)
            have h44 : ρ (.tmp 44) = .slice Ai (nths ls i).length ci := hd 44 (by kernel_rfl)
            exact Lin.Runs.call Lin.keeps (f := 15) (args := #[.slice Ai (nths ls i).length ci]) (by simp [execOp, go_sem, hF, h44]) ((rright_any Ai ci (nths ls i) w.heap.size wq (HCI.out.below (HB.out.trans (hb.mono HB.out.size))) hlm).mono fun e w9 h => ⟨_, h.1, h.2 ▸ Below.refl _ _, by rw [HRB.out]; rfl⟩)
          · intro ρ wq hb ho hc hd
            have hC : ∀ v, ρ (.const v) = v := fun v => hc _ (by intro t e; cases e)
            have hF : ∀ f, ρ (.func f) = .func (.func f) #[] #[] := fun f => hc _ (by intro t e; cases e)
            have h40 : ρ (.tmp 40) = .bool true := hd 40 (by kernel_rfl)
            have h45 : ρ (.tmp 45) = .bool true := hd 45 (by kernel_rfl)
            exact Lin.Runs.value Lin.keeps (v := .bool false) (by simp [execOp, go_sem, h40, h45]) rfl
          · intro vals w5 hb2 hv
            have e46 := hv 46 (by kernel_rfl)
            have HB9 := Lib.hid (HB.out.trans (hb2.mono HB.out.size))
            have HIS9 := Lib.hid (HIS.out.below hb2 HIS.out.lt)
            have HXO9 := Lib.hid (own_below HXO.out hb2)
            clear HB HIS di HXO HX
            have HB := HB9; have HIS := HIS9; have HXO := HXO9
            clear HB9 HIS9 HXO9
            have di := (HB.out.cell (p := ⟨b, off + i, none⟩) hbl).trans DI.out
            have hbc : b < _ := Nat.lt_of_lt_of_le hbl HB.out.size
            have HX := Lib.hid (cands_of_own HXO.out)
            clear hv hb2
            simp only [Lin.putAll, Option.getD_some]
            rw [show vals 46 = .bool false from e46]
            go_simp
            generalize vals = vv
            go_wp2_with fail
            refine (rright_any Ai ci (nths ls i) w.heap.size _ (HCI.out.below HB.out) hlm).mono ?_
            rw [HRB.out]
            rintro e w6 ⟨rfl, rfl⟩
            go_wp2_with fail
            by_cases hpos : 0 < (nths ls i).length
            · refine (pick_any bt Ax cx (nths ls i) next _ HIS.out HX.out hlm hpos HSL.out).mono ?_
              rintro e w3 ⟨k, hk, rfl, hg, his⟩
              have HK := Lib.hid hk
              have hkl : k < (nths ls i).length := hk.1
              have HXO9 := Lib.hid (World.ownsRow.kept HXO.out hg (.inr (own_far HXO.out hbt1)))
              have HB9 := Lib.hid (below_only HB.out hg hbt0)
              have HIS9 := Lib.hid his
              obtain ⟨bx, ox, rfl, hbx, hcx⟩ := (cands_of_own HXO9.out) hpos
              obtain ⟨x0, x1, x2, x3⟩ := cell4 hkl hcx
              have hks := HSL.out k
              clear HB HIS HXO HX di hg his hk hcx
              have HB := HB9; have HIS := HIS9; have HXO := HXO9
              clear HB9 HIS9 HXO9
              have HNX := Lib.hid (rfl : ((nth (nths ls i) k).slot + 1 = (nth (nths ls i) k).slot + 1))
              unfold Cand.val
              generalize hq : nth (nths ls i) k = q at *
              obtain ⟨xs, xb, xw, xl⟩ := q
              simp only at x0 x1 x2 x3 hks
              have HIS := Lib.hid (show Is w3 bt 37 #[.int .i64 (xs + 1)] from HIS.out)
              clear hq HNX
              have di := (HB.out.cell (p := ⟨b, off + i, none⟩) hbl).trans DI.out
              have hbc : b < w3.heap.size := Nat.lt_of_lt_of_le hbl HB.out.size
              skip
              go_wp2_with fail
              have hb4 : Below w3.heap.size w3 (w3.alloc (.cells #[.int .i64 xs, .int .i64 xb, .int .i64 xw, .int .u32 xl] 29)) := (Below.refl _ _).alloc (Nat.le_refl _) _
              have hz4 := Is.new w3 29 #[.int .i64 xs, .int .i64 xb, .int .i64 xw, .int .u32 xl]
              have HB4 := Lib.hid (HB.out.trans (hb4.mono HB.out.size)); have HIS4 := Lib.hid (HIS.out.below hb4 HIS.out.lt)
              have hbx3 : bx < w3.heap.size := hbx
              have x0 := (hb4.cell (p := ⟨bx, ox + k * 4, none⟩) hbx).trans x0
              have x1 := (hb4.cell (p := ⟨bx, ox + k * 4 + 1, none⟩) hbx).trans x1
              have x2 := (hb4.cell (p := ⟨bx, ox + k * 4 + 2, none⟩) hbx).trans x2
              have x3 := (hb4.cell (p := ⟨bx, ox + k * 4 + 3, none⟩) hbx).trans x3
              have z0 : (w3.alloc (.cells #[.int .i64 xs, .int .i64 xb, .int .i64 xw, .int .u32 xl] 29)).cell? ⟨w3.heap.size, 0, none⟩ = some (.int .i64 xs) := hz4.cell 0
              have z1 : (w3.alloc (.cells #[.int .i64 xs, .int .i64 xb, .int .i64 xw, .int .u32 xl] 29)).cell? ⟨w3.heap.size, 1, none⟩ = some (.int .i64 xb) := hz4.cell 1
              have z2 : (w3.alloc (.cells #[.int .i64 xs, .int .i64 xb, .int .i64 xw, .int .u32 xl] 29)).cell? ⟨w3.heap.size, 2, none⟩ = some (.int .i64 xw) := hz4.cell 2
              have z3 : (w3.alloc (.cells #[.int .i64 xs, .int .i64 xb, .int .i64 xw, .int .u32 xl] 29)).cell? ⟨w3.heap.size, 3, none⟩ = some (.int .u32 xl) := hz4.cell 3
              have lg7 := hz4.lt
              have lbx : bx < (w3.alloc (.cells #[.int .i64 xs, .int .i64 xb, .int .i64 xw, .int .u32 xl] 29)).heap.size := Nat.lt_of_lt_of_le hbx hb4.size
              clear HB HIS di hb4 hz4
              have HB := HB4; have HIS := HIS4
              clear HB4 HIS4
              generalize w3.alloc (.cells #[.int .i64 xs, .int .i64 xb, .int .i64 xw, .int .u32 xl] 29) = w4 at *
              generalize w3.heap.size = g7 at *
              refine (rpick_any Ai ci (nths ls i) next w.heap.size _ (HCI.out.below HB.out) hl70 hpos).mono ?_
              rintro e w5 ⟨k', hk', rfl, rfl⟩
              obtain rfl : k = k' := (hk'.unique HK.out).symm
              clear hk'
              have k0 : (0 : Int) ≤ (k : Int) := by omega
              have k00 : (0 : Nat) ≤ k := by omega
              have klz : (k : Int) < ((nths ls i).length : Int) := by omega
              have kl := hkl
              go_wp2_with fail
              refine Lin.wp_region_lin Lin.keeps (n := 117)  (fun slotq => match slotq with | 65 => Lin.Spec.val (.bool true) | 66 => Lin.Spec.val (.int .i64 (k : Int)) | 67 => Lin.Spec.val (.bool true) | 68 => Lin.Spec.val (.bool false) | 69 => Lin.Spec.val (.bool false) | 70 => Lin.Spec.val (.bool true) | 71 => Lin.Spec.val (.bool false) | 72 => Lin.Spec.val (.bool false) | 73 => Lin.Spec.val (undef) | 74 => Lin.Spec.val (undef) | 75 => Lin.Spec.val (undef) | 76 => Lin.Spec.val (.bool false) | 77 => Lin.Spec.val (.bool false) | 78 => Lin.Spec.val (.bool false) | 79 => Lin.Spec.val (.bool true) | 80 => Lin.Spec.val (.bool true) | 81 => Lin.Spec.val (.agg #[.int .i64 xs, .int .i64 xb, .int .i64 xw, .int .u32 xl]) | 82 => Lin.Spec.val (.slice (some ⟨bx, ox, none⟩) (nths ls i).length cx) | 83 => Lin.Spec.val (.int .i64 (k : Int)) | 84 => Lin.Spec.val (.pointer (some ⟨bx, ox + k * 4, none⟩)) | 85 => Lin.Spec.val (.agg #[.int .i64 xs, .int .i64 xb, .int .i64 xw, .int .u32 xl]) | 86 => Lin.Spec.val (.bool false) | 87 => Lin.Spec.val (.bool false) | 88 => Lin.Spec.val (.bool false) | _ => Lin.Spec.any) (by kernel_rfl) rfl (by kernel_rfl) ⟨?_, ?_, ?_, ?_, ?_, ?_, ?_, ?_, ?_, ?_, ?_, ?_, ?_, ?_, ?_, ?_, ?_, ?_, ?_, ?_, ?_, ?_, ?_, ?_, trivial⟩ ?_
              · intro ρ wq hb ho hc hd
                have hC : ∀ v, ρ (.const v) = v := fun v => hc _ (by intro t e; cases e)
                have hF : ∀ f, ρ (.func f) = .func (.func f) #[] #[] := fun f => hc _ (by intro t e; cases e)
                have h8 : ρ (.tmp 8) = .bool true := ho 8 (by kernel_rfl)
                exact Lin.Runs.value Lin.keeps (Lin.exec_move rfl) h8
              · intro ρ wq hb ho hc hd
                have hC : ∀ v, ρ (.const v) = v := fun v => hc _ (by intro t e; cases e)
                have hF : ∀ f, ρ (.func f) = .func (.func f) #[] #[] := fun f => hc _ (by intro t e; cases e)
                have h9 : ρ (.tmp 9) = .int .i64 (k : Int) := ho 9 (by kernel_rfl)
                exact Lin.Runs.value Lin.keeps (Lin.exec_move rfl) h9
              · intro ρ wq hb ho hc hd
                have hC : ∀ v, ρ (.const v) = v := fun v => hc _ (by intro t e; cases e)
                have hF : ∀ f, ρ (.func f) = .func (.func f) #[] #[] := fun f => hc _ (by intro t e; cases e)
                have h66 : ρ (.tmp 66) = .int .i64 (k : Int) := hd 66 (by kernel_rfl)
                exact Lin.Runs.value Lin.keeps (v := .bool true) (by simp [execOp, go_sem, hC, h66, k0, k00]) rfl
              · intro ρ wq hb ho hc hd
                have hC : ∀ v, ρ (.const v) = v := fun v => hc _ (by intro t e; cases e)
                have hF : ∀ f, ρ (.func f) = .func (.func f) #[] #[] := fun f => hc _ (by intro t e; cases e)
                have h65 : ρ (.tmp 65) = .bool true := hd 65 (by kernel_rfl)
                have h67 : ρ (.tmp 67) = .bool true := hd 67 (by kernel_rfl)
                exact Lin.Runs.value Lin.keeps (v := .bool false) (by simp [execOp, go_sem, h65, h67]) rfl
              · intro ρ wq hb ho hc hd
                have hC : ∀ v, ρ (.const v) = v := fun v => hc _ (by intro t e; cases e)
                have hF : ∀ f, ρ (.func f) = .func (.func f) #[] #[] := fun f => hc _ (by intro t e; cases e)
                have h68 : ρ (.tmp 68) = .bool false := hd 68 (by kernel_rfl)
                exact Lin.Runs.value Lin.keeps (Lin.exec_move rfl) h68
              · intro ρ wq hb ho hc hd
                have hC : ∀ v, ρ (.const v) = v := fun v => hc _ (by intro t e; cases e)
                have hF : ∀ f, ρ (.func f) = .func (.func f) #[] #[] := fun f => hc _ (by intro t e; cases e)
                intro t ht; cases (show some 69 = some t from ht)
                refine ⟨fun _ => ?_, fun hn => absurd (hd 69 (by kernel_rfl)) hn⟩
                have h8 : ρ (.tmp 8) = .bool true := ho 8 (by kernel_rfl)
                exact Lin.Runs.value Lin.keeps (Lin.exec_move rfl) h8
              · intro ρ wq hb ho hc hd
                have hC : ∀ v, ρ (.const v) = v := fun v => hc _ (by intro t e; cases e)
                have hF : ∀ f, ρ (.func f) = .func (.func f) #[] #[] := fun f => hc _ (by intro t e; cases e)
                intro t ht; cases (show some 69 = some t from ht)
                refine ⟨fun _ => ?_, fun hn => absurd (hd 69 (by kernel_rfl)) hn⟩
                have h70 : ρ (.tmp 70) = .bool true := hd 70 (by kernel_rfl)
                exact Lin.Runs.value Lin.keeps (v := .bool false) (by simp [execOp, go_sem, h70]) rfl
              · intro ρ wq hb ho hc hd
                have hC : ∀ v, ρ (.const v) = v := fun v => hc _ (by intro t e; cases e)
                have hF : ∀ f, ρ (.func f) = .func (.func f) #[] #[] := fun f => hc _ (by intro t e; cases e)
                intro t ht; cases (show some 69 = some t from ht)
                refine ⟨fun _ => ?_, fun hn => absurd (hd 69 (by kernel_rfl)) hn⟩
                have h71 : ρ (.tmp 71) = .bool false := hd 71 (by kernel_rfl)
                exact Lin.Runs.value Lin.keeps (Lin.exec_move rfl) h71
              · intro ρ wq hb ho hc hd
                have hC : ∀ v, ρ (.const v) = v := fun v => hc _ (by intro t e; cases e)
                have hF : ∀ f, ρ (.func f) = .func (.func f) #[] #[] := fun f => hc _ (by intro t e; cases e)
                intro t ht; cases (show some 72 = some t from ht)
                exact ⟨fun he => absurd (he.symm.trans (hd 72 (by kernel_rfl))) (by first | simp | (intro h; cases h)), fun _ => rfl⟩
              · intro ρ wq hb ho hc hd
                have hC : ∀ v, ρ (.const v) = v := fun v => hc _ (by intro t e; cases e)
                have hF : ∀ f, ρ (.func f) = .func (.func f) #[] #[] := fun f => hc _ (by intro t e; cases e)
                intro t ht; cases (show some 72 = some t from ht)
                exact ⟨fun he => absurd (he.symm.trans (hd 72 (by kernel_rfl))) (by first | simp | (intro h; cases h)), fun _ => rfl⟩
              · intro ρ wq hb ho hc hd
                have hC : ∀ v, ρ (.const v) = v := fun v => hc _ (by intro t e; cases e)
                have hF : ∀ f, ρ (.func f) = .func (.func f) #[] #[] := fun f => hc _ (by intro t e; cases e)
                intro t ht; cases (show some 72 = some t from ht)
                exact ⟨fun he => absurd (he.symm.trans (hd 72 (by kernel_rfl))) (by first | simp | (intro h; cases h)), fun _ => rfl⟩
              · intro ρ wq hb ho hc hd
                have hC : ∀ v, ρ (.const v) = v := fun v => hc _ (by intro t e; cases e)
                have hF : ∀ f, ρ (.func f) = .func (.func f) #[] #[] := fun f => hc _ (by intro t e; cases e)
                intro t ht; cases (show some 69 = some t from ht)
                refine ⟨fun _ => ?_, fun hn => absurd (hd 69 (by kernel_rfl)) hn⟩
                have h72 : ρ (.tmp 72) = .bool false := hd 72 (by kernel_rfl)
                have h75 : ρ (.tmp 75) = undef := hd 75 (by kernel_rfl)
                exact Lin.Runs.value Lin.keeps (v := .bool false) (by simp [execOp, go_sem, hC, h72, h75]) rfl
              · intro ρ wq hb ho hc hd
                have hC : ∀ v, ρ (.const v) = v := fun v => hc _ (by intro t e; cases e)
                have hF : ∀ f, ρ (.func f) = .func (.func f) #[] #[] := fun f => hc _ (by intro t e; cases e)
                have h69 : ρ (.tmp 69) = .bool false := hd 69 (by kernel_rfl)
                have h76 : ρ (.tmp 76) = .bool false := hd 76 (by kernel_rfl)
                exact Lin.Runs.value Lin.keeps (v := .bool false) (by simp [execOp, go_sem, hC, h69, h76]) rfl
              · intro ρ wq hb ho hc hd
                have hC : ∀ v, ρ (.const v) = v := fun v => hc _ (by intro t e; cases e)
                have hF : ∀ f, ρ (.func f) = .func (.func f) #[] #[] := fun f => hc _ (by intro t e; cases e)
                have h77 : ρ (.tmp 77) = .bool false := hd 77 (by kernel_rfl)
                exact Lin.Runs.value Lin.keeps (Lin.exec_move rfl) h77
              · intro ρ wq hb ho hc hd
                have hC : ∀ v, ρ (.const v) = v := fun v => hc _ (by intro t e; cases e)
                have hF : ∀ f, ρ (.func f) = .func (.func f) #[] #[] := fun f => hc _ (by intro t e; cases e)
                intro t ht; cases (show some 78 = some t from ht)
                refine ⟨fun _ => ?_, fun hn => absurd (hd 78 (by kernel_rfl)) hn⟩
                have h8 : ρ (.tmp 8) = .bool true := ho 8 (by kernel_rfl)
                exact Lin.Runs.value Lin.keeps (Lin.exec_move rfl) h8
              · intro ρ wq hb ho hc hd
                have hC : ∀ v, ρ (.const v) = v := fun v => hc _ (by intro t e; cases e)
                have hF : ∀ f, ρ (.func f) = .func (.func f) #[] #[] := fun f => hc _ (by intro t e; cases e)
                intro t ht; cases (show some 78 = some t from ht)
                refine ⟨fun _ => ?_, fun hn => absurd (hd 78 (by kernel_rfl)) hn⟩
                have h79 : ρ (.tmp 79) = .bool true := hd 79 (by kernel_rfl)
                exact Lin.Runs.value Lin.keeps (Lin.exec_move rfl) h79
              · intro ρ wq hb ho hc hd
                have hC : ∀ v, ρ (.const v) = v := fun v => hc _ (by intro t e; cases e)
                have hF : ∀ f, ρ (.func f) = .func (.func f) #[] #[] := fun f => hc _ (by intro t e; cases e)
                intro t ht; cases (show some 80 = some t from ht)
                refine ⟨fun _ => ?_, fun hn => absurd (hd 80 (by kernel_rfl)) hn⟩
                have h7 : ρ (.tmp 7) = .pointer (some ⟨g7, 0, none⟩) := ho 7 (by kernel_rfl)
                have dd0 := (hb.cell (p := ⟨g7, 0, none⟩) lg7).trans z0
                have dd1 := (hb.cell (p := ⟨g7, 1, none⟩) lg7).trans z1
                have dd2 := (hb.cell (p := ⟨g7, 2, none⟩) lg7).trans z2
                have dd3 := (hb.cell (p := ⟨g7, 3, none⟩) lg7).trans z3
                exact Lin.Runs.value Lin.keeps (v := .agg #[.int .i64 xs, .int .i64 xb, .int .i64 xw, .int .u32 xl]) (by simp [execOp, go_sem, h7, dd0, dd1, dd2, dd3]) rfl
              · intro ρ wq hb ho hc hd
                have hC : ∀ v, ρ (.const v) = v := fun v => hc _ (by intro t e; cases e)
                have hF : ∀ f, ρ (.func f) = .func (.func f) #[] #[] := fun f => hc _ (by intro t e; cases e)
                intro t ht; cases (show some 80 = some t from ht)
                refine ⟨fun _ => ?_, fun hn => absurd (hd 80 (by kernel_rfl)) hn⟩
                have h6 : ρ (.tmp 6) = .slice (some ⟨bx, ox, none⟩) (nths ls i).length cx := ho 6 (by kernel_rfl)
                exact Lin.Runs.value Lin.keeps (Lin.exec_move rfl) h6
              · intro ρ wq hb ho hc hd
                have hC : ∀ v, ρ (.const v) = v := fun v => hc _ (by intro t e; cases e)
                have hF : ∀ f, ρ (.func f) = .func (.func f) #[] #[] := fun f => hc _ (by intro t e; cases e)
                intro t ht; cases (show some 80 = some t from ht)
                refine ⟨fun _ => ?_, fun hn => absurd (hd 80 (by kernel_rfl)) hn⟩
                have h9 : ρ (.tmp 9) = .int .i64 (k : Int) := ho 9 (by kernel_rfl)
                exact Lin.Runs.value Lin.keeps (Lin.exec_move rfl) h9
              · intro ρ wq hb ho hc hd
                have hC : ∀ v, ρ (.const v) = v := fun v => hc _ (by intro t e; cases e)
                have hF : ∀ f, ρ (.func f) = .func (.func f) #[] #[] := fun f => hc _ (by intro t e; cases e)
                intro t ht; cases (show some 80 = some t from ht)
                refine ⟨fun _ => ?_, fun hn => absurd (hd 80 (by kernel_rfl)) hn⟩
                have h82 : ρ (.tmp 82) = .slice (some ⟨bx, ox, none⟩) (nths ls i).length cx := hd 82 (by kernel_rfl)
                have h83 : ρ (.tmp 83) = .int .i64 (k : Int) := hd 83 (by kernel_rfl)
                exact Lin.Runs.value Lin.keeps (v := .pointer (some ⟨bx, ox + k * 4, none⟩)) (by simp [execOp, go_sem, h82, h83, k0, klz, kl]) rfl
              · intro ρ wq hb ho hc hd
                have hC : ∀ v, ρ (.const v) = v := fun v => hc _ (by intro t e; cases e)
                have hF : ∀ f, ρ (.func f) = .func (.func f) #[] #[] := fun f => hc _ (by intro t e; cases e)
                intro t ht; cases (show some 80 = some t from ht)
                refine ⟨fun _ => ?_, fun hn => absurd (hd 80 (by kernel_rfl)) hn⟩
                have h84 : ρ (.tmp 84) = .pointer (some ⟨bx, ox + k * 4, none⟩) := hd 84 (by kernel_rfl)
                have dd0 := (hb.cell (p := ⟨bx, ox + k * 4, none⟩) lbx).trans x0
                have dd1 := (hb.cell (p := ⟨bx, ox + k * 4 + 1, none⟩) lbx).trans x1
                have dd2 := (hb.cell (p := ⟨bx, ox + k * 4 + 2, none⟩) lbx).trans x2
                have dd3 := (hb.cell (p := ⟨bx, ox + k * 4 + 3, none⟩) lbx).trans x3
                exact Lin.Runs.value Lin.keeps (v := .agg #[.int .i64 xs, .int .i64 xb, .int .i64 xw, .int .u32 xl]) (by simp [execOp, go_sem, h84, dd0, dd1, dd2, dd3]) rfl
              · intro ρ wq hb ho hc hd
                have hC : ∀ v, ρ (.const v) = v := fun v => hc _ (by intro t e; cases e)
                have hF : ∀ f, ρ (.func f) = .func (.func f) #[] #[] := fun f => hc _ (by intro t e; cases e)
                intro t ht; cases (show some 80 = some t from ht)
                refine ⟨fun _ => ?_, fun hn => absurd (hd 80 (by kernel_rfl)) hn⟩
                have h81 : ρ (.tmp 81) = .agg #[.int .i64 xs, .int .i64 xb, .int .i64 xw, .int .u32 xl] := hd 81 (by kernel_rfl)
                have h85 : ρ (.tmp 85) = .agg #[.int .i64 xs, .int .i64 xb, .int .i64 xw, .int .u32 xl] := hd 85 (by kernel_rfl)
                exact Lin.Runs.value Lin.keeps (v := .bool false) (by simp [execOp, go_sem, h81, h85]) rfl
              · intro ρ wq hb ho hc hd
                have hC : ∀ v, ρ (.const v) = v := fun v => hc _ (by intro t e; cases e)
                have hF : ∀ f, ρ (.func f) = .func (.func f) #[] #[] := fun f => hc _ (by intro t e; cases e)
                intro t ht; cases (show some 78 = some t from ht)
                refine ⟨fun _ => ?_, fun hn => absurd (hd 78 (by kernel_rfl)) hn⟩
                have h80 : ρ (.tmp 80) = .bool true := hd 80 (by kernel_rfl)
                have h86 : ρ (.tmp 86) = .bool false := hd 86 (by kernel_rfl)
                exact Lin.Runs.value Lin.keeps (v := .bool false) (by simp [execOp, go_sem, hC, h80, h86]) rfl
              · intro ρ wq hb ho hc hd
                have hC : ∀ v, ρ (.const v) = v := fun v => hc _ (by intro t e; cases e)
                have hF : ∀ f, ρ (.func f) = .func (.func f) #[] #[] := fun f => hc _ (by intro t e; cases e)
                have h78 : ρ (.tmp 78) = .bool false := hd 78 (by kernel_rfl)
                have h87 : ρ (.tmp 87) = .bool false := hd 87 (by kernel_rfl)
                exact Lin.Runs.value Lin.keeps (v := .bool false) (by simp [execOp, go_sem, hC, h78, h87]) rfl
              · intro vals w6 hb2 hv
                have e88 := hv 88 (by kernel_rfl)
                have HB9 := Lib.hid (HB.out.trans (hb2.mono HB.out.size))
                have HIS9 := Lib.hid (HIS.out.below hb2 HIS.out.lt)
                have y0 := (hb2.cell (p := ⟨bx, ox + k * 4, none⟩) lbx).trans x0
                clear HB HIS hv hb2 x0 x1 x2 x3 z0 z1 z2 z3
                have HB := HB9; have HIS := HIS9
                clear HB9 HIS9
                simp only [Lin.putAll, Option.getD_some]
                rw [show vals 88 = .bool false from e88]
                go_simp
                generalize vals = vv
                go_wp2_with fail
                refine (tnext bt (xs + 1) _ HIS.out).mono ?_
                rintro e w7 ⟨rfl, rfl⟩
                go_wp2_with fail
                go_roundw
                case rel => exact ⟨i + 1, xs + 1, HIL.out, i40, rfl, by go_num, HIS.out, HB.out⟩
                case measure => have := HIL.out; simp [intOf]; omega
    
            · have hl0 : (nths ls i).length = 0 := by omega
              rw [hl0]
              rw [hl0] at di
              refine (pick_none bt Ax 0 cx _ rfl).mono ?_
              rintro e w3 ⟨rfl, hb3⟩
              have HB9 := Lib.hid (HB.out.trans (hb3.mono HB.out.size))
              have HIS9 := Lib.hid (HIS.out.below hb3 HIS.out.lt)
              clear HB HIS HXO HX di hb3
              have HB := HB9; have HIS := HIS9
              clear HB9 HIS9
              have di := (HB.out.cell (p := ⟨b, off + i, none⟩) hbl).trans DI.out
              have hbc : b < w3.heap.size := Nat.lt_of_lt_of_le hbl HB.out.size
              have di : w3.cell? ⟨b, off + i, none⟩ = some (.slice Ai 0 ci) := by rw [hl0] at di; exact di
              go_wp2_with fail
              have hb4 : Below w3.heap.size w3 (w3.alloc (.cells #[.int .i64 0, .int .i64 0, .int .i64 0, .int .u32 0] 29)) := (Below.refl _ _).alloc (Nat.le_refl _) _
              have hz4 := Is.new w3 29 #[.int .i64 0, .int .i64 0, .int .i64 0, .int .u32 0]
              have HB4 := Lib.hid (HB.out.trans (hb4.mono HB.out.size)); have HIS4 := Lib.hid (HIS.out.below hb4 HIS.out.lt)
              have z0 : (w3.alloc (.cells #[.int .i64 0, .int .i64 0, .int .i64 0, .int .u32 0] 29)).cell? ⟨w3.heap.size, 0, none⟩ = some (.int .i64 0) := hz4.cell 0
              have z1 : (w3.alloc (.cells #[.int .i64 0, .int .i64 0, .int .i64 0, .int .u32 0] 29)).cell? ⟨w3.heap.size, 1, none⟩ = some (.int .i64 0) := hz4.cell 1
              have z2 : (w3.alloc (.cells #[.int .i64 0, .int .i64 0, .int .i64 0, .int .u32 0] 29)).cell? ⟨w3.heap.size, 2, none⟩ = some (.int .i64 0) := hz4.cell 2
              have z3 : (w3.alloc (.cells #[.int .i64 0, .int .i64 0, .int .i64 0, .int .u32 0] 29)).cell? ⟨w3.heap.size, 3, none⟩ = some (.int .u32 0) := hz4.cell 3
              have lg7 := hz4.lt
              skip
              clear HB HIS di hb4 hz4
              have HB := HB4; have HIS := HIS4
              clear HB4 HIS4
              generalize w3.alloc (.cells #[.int .i64 0, .int .i64 0, .int .i64 0, .int .u32 0] 29) = w4 at *
              generalize w3.heap.size = g7 at *
              refine (rpick_none Ai ci next _).mono ?_
              rintro e w5 ⟨rfl, rfl⟩
              go_wp2_with fail
              refine Lin.wp_region_lin Lin.keeps (n := 117)  (fun slotq => match slotq with | 65 => Lin.Spec.val (.bool false) | 66 => Lin.Spec.val (.int .i64 (-1)) | 67 => Lin.Spec.val (.bool false) | 68 => Lin.Spec.val (.bool false) | 69 => Lin.Spec.val (.bool false) | 70 => Lin.Spec.val (.bool false) | 71 => Lin.Spec.val (.bool true) | 72 => Lin.Spec.val (.bool true) | 73 => Lin.Spec.val (.agg #[.int .i64 0, .int .i64 0, .int .i64 0, .int .u32 0]) | 74 => Lin.Spec.val (.agg #[.int .i64 0, .int .i64 0, .int .i64 0, .int .u32 0]) | 75 => Lin.Spec.val (.bool false) | 76 => Lin.Spec.val (.bool false) | 77 => Lin.Spec.val (.bool false) | 78 => Lin.Spec.val (.bool false) | 79 => Lin.Spec.val (.bool false) | 80 => Lin.Spec.val (.bool false) | 81 => Lin.Spec.val (undef) | 82 => Lin.Spec.val (undef) | 83 => Lin.Spec.val (undef) | 84 => Lin.Spec.val (undef) | 85 => Lin.Spec.val (undef) | 86 => Lin.Spec.val (undef) | 87 => Lin.Spec.val (.bool false) | 88 => Lin.Spec.val (.bool false) | _ => Lin.Spec.any) (by kernel_rfl) rfl (by kernel_rfl) ⟨?_, ?_, ?_, ?_, ?_, ?_, ?_, ?_, ?_, ?_, ?_, ?_, ?_, ?_, ?_, ?_, ?_, ?_, ?_, ?_, ?_, ?_, ?_, ?_, trivial⟩ ?_
              · intro ρ wq hb ho hc hd
                have hC : ∀ v, ρ (.const v) = v := fun v => hc _ (by intro t e; cases e)
                have hF : ∀ f, ρ (.func f) = .func (.func f) #[] #[] := fun f => hc _ (by intro t e; cases e)
                have h8 : ρ (.tmp 8) = .bool false := ho 8 (by kernel_rfl)
                exact Lin.Runs.value Lin.keeps (Lin.exec_move rfl) h8
              · intro ρ wq hb ho hc hd
                have hC : ∀ v, ρ (.const v) = v := fun v => hc _ (by intro t e; cases e)
                have hF : ∀ f, ρ (.func f) = .func (.func f) #[] #[] := fun f => hc _ (by intro t e; cases e)
                have h9 : ρ (.tmp 9) = .int .i64 (-1) := ho 9 (by kernel_rfl)
                exact Lin.Runs.value Lin.keeps (Lin.exec_move rfl) h9
              · intro ρ wq hb ho hc hd
                have hC : ∀ v, ρ (.const v) = v := fun v => hc _ (by intro t e; cases e)
                have hF : ∀ f, ρ (.func f) = .func (.func f) #[] #[] := fun f => hc _ (by intro t e; cases e)
                have h66 : ρ (.tmp 66) = .int .i64 (-1) := hd 66 (by kernel_rfl)
                exact Lin.Runs.value Lin.keeps (v := .bool false) (by simp [execOp, go_sem, hC, h66]) rfl
              · intro ρ wq hb ho hc hd
                have hC : ∀ v, ρ (.const v) = v := fun v => hc _ (by intro t e; cases e)
                have hF : ∀ f, ρ (.func f) = .func (.func f) #[] #[] := fun f => hc _ (by intro t e; cases e)
                have h65 : ρ (.tmp 65) = .bool false := hd 65 (by kernel_rfl)
                have h67 : ρ (.tmp 67) = .bool false := hd 67 (by kernel_rfl)
                exact Lin.Runs.value Lin.keeps (v := .bool false) (by simp [execOp, go_sem, h65, h67]) rfl
              · intro ρ wq hb ho hc hd
                have hC : ∀ v, ρ (.const v) = v := fun v => hc _ (by intro t e; cases e)
                have hF : ∀ f, ρ (.func f) = .func (.func f) #[] #[] := fun f => hc _ (by intro t e; cases e)
                have h68 : ρ (.tmp 68) = .bool false := hd 68 (by kernel_rfl)
                exact Lin.Runs.value Lin.keeps (Lin.exec_move rfl) h68
              · intro ρ wq hb ho hc hd
                have hC : ∀ v, ρ (.const v) = v := fun v => hc _ (by intro t e; cases e)
                have hF : ∀ f, ρ (.func f) = .func (.func f) #[] #[] := fun f => hc _ (by intro t e; cases e)
                intro t ht; cases (show some 69 = some t from ht)
                refine ⟨fun _ => ?_, fun hn => absurd (hd 69 (by kernel_rfl)) hn⟩
                have h8 : ρ (.tmp 8) = .bool false := ho 8 (by kernel_rfl)
                exact Lin.Runs.value Lin.keeps (Lin.exec_move rfl) h8
              · intro ρ wq hb ho hc hd
                have hC : ∀ v, ρ (.const v) = v := fun v => hc _ (by intro t e; cases e)
                have hF : ∀ f, ρ (.func f) = .func (.func f) #[] #[] := fun f => hc _ (by intro t e; cases e)
                intro t ht; cases (show some 69 = some t from ht)
                refine ⟨fun _ => ?_, fun hn => absurd (hd 69 (by kernel_rfl)) hn⟩
                have h70 : ρ (.tmp 70) = .bool false := hd 70 (by kernel_rfl)
                exact Lin.Runs.value Lin.keeps (v := .bool true) (by simp [execOp, go_sem, h70]) rfl
              · intro ρ wq hb ho hc hd
                have hC : ∀ v, ρ (.const v) = v := fun v => hc _ (by intro t e; cases e)
                have hF : ∀ f, ρ (.func f) = .func (.func f) #[] #[] := fun f => hc _ (by intro t e; cases e)
                intro t ht; cases (show some 69 = some t from ht)
                refine ⟨fun _ => ?_, fun hn => absurd (hd 69 (by kernel_rfl)) hn⟩
                have h71 : ρ (.tmp 71) = .bool true := hd 71 (by kernel_rfl)
                exact Lin.Runs.value Lin.keeps (Lin.exec_move rfl) h71
              · intro ρ wq hb ho hc hd
                have hC : ∀ v, ρ (.const v) = v := fun v => hc _ (by intro t e; cases e)
                have hF : ∀ f, ρ (.func f) = .func (.func f) #[] #[] := fun f => hc _ (by intro t e; cases e)
                intro t ht; cases (show some 72 = some t from ht)
                refine ⟨fun _ => ?_, fun hn => absurd (hd 72 (by kernel_rfl)) hn⟩
                have h7 : ρ (.tmp 7) = .pointer (some ⟨g7, 0, none⟩) := ho 7 (by kernel_rfl)
                have dd0 := (hb.cell (p := ⟨g7, 0, none⟩) lg7).trans z0
                have dd1 := (hb.cell (p := ⟨g7, 1, none⟩) lg7).trans z1
                have dd2 := (hb.cell (p := ⟨g7, 2, none⟩) lg7).trans z2
                have dd3 := (hb.cell (p := ⟨g7, 3, none⟩) lg7).trans z3
                exact Lin.Runs.value Lin.keeps (v := .agg #[.int .i64 0, .int .i64 0, .int .i64 0, .int .u32 0]) (by simp [execOp, go_sem, h7, dd0, dd1, dd2, dd3]) rfl
              · intro ρ wq hb ho hc hd
                have hC : ∀ v, ρ (.const v) = v := fun v => hc _ (by intro t e; cases e)
                have hF : ∀ f, ρ (.func f) = .func (.func f) #[] #[] := fun f => hc _ (by intro t e; cases e)
                intro t ht; cases (show some 72 = some t from ht)
                refine ⟨fun _ => ?_, fun hn => absurd (hd 72 (by kernel_rfl)) hn⟩
                exact Lin.Runs.value Lin.keeps (v := .agg #[.int .i64 0, .int .i64 0, .int .i64 0, .int .u32 0]) (by simp [execOp, go_sem, ]) rfl
              · intro ρ wq hb ho hc hd
                have hC : ∀ v, ρ (.const v) = v := fun v => hc _ (by intro t e; cases e)
                have hF : ∀ f, ρ (.func f) = .func (.func f) #[] #[] := fun f => hc _ (by intro t e; cases e)
                intro t ht; cases (show some 72 = some t from ht)
                refine ⟨fun _ => ?_, fun hn => absurd (hd 72 (by kernel_rfl)) hn⟩
                have h73 : ρ (.tmp 73) = .agg #[.int .i64 0, .int .i64 0, .int .i64 0, .int .u32 0] := hd 73 (by kernel_rfl)
                have h74 : ρ (.tmp 74) = .agg #[.int .i64 0, .int .i64 0, .int .i64 0, .int .u32 0] := hd 74 (by kernel_rfl)
                exact Lin.Runs.value Lin.keeps (v := .bool false) (by simp [execOp, go_sem, h73, h74]) rfl
              · intro ρ wq hb ho hc hd
                have hC : ∀ v, ρ (.const v) = v := fun v => hc _ (by intro t e; cases e)
                have hF : ∀ f, ρ (.func f) = .func (.func f) #[] #[] := fun f => hc _ (by intro t e; cases e)
                intro t ht; cases (show some 69 = some t from ht)
                refine ⟨fun _ => ?_, fun hn => absurd (hd 69 (by kernel_rfl)) hn⟩
                have h72 : ρ (.tmp 72) = .bool true := hd 72 (by kernel_rfl)
                have h75 : ρ (.tmp 75) = .bool false := hd 75 (by kernel_rfl)
                exact Lin.Runs.value Lin.keeps (v := .bool false) (by simp [execOp, go_sem, hC, h72, h75]) rfl
              · intro ρ wq hb ho hc hd
                have hC : ∀ v, ρ (.const v) = v := fun v => hc _ (by intro t e; cases e)
                have hF : ∀ f, ρ (.func f) = .func (.func f) #[] #[] := fun f => hc _ (by intro t e; cases e)
                have h69 : ρ (.tmp 69) = .bool false := hd 69 (by kernel_rfl)
                have h76 : ρ (.tmp 76) = .bool false := hd 76 (by kernel_rfl)
                exact Lin.Runs.value Lin.keeps (v := .bool false) (by simp [execOp, go_sem, hC, h69, h76]) rfl
              · intro ρ wq hb ho hc hd
                have hC : ∀ v, ρ (.const v) = v := fun v => hc _ (by intro t e; cases e)
                have hF : ∀ f, ρ (.func f) = .func (.func f) #[] #[] := fun f => hc _ (by intro t e; cases e)
                have h77 : ρ (.tmp 77) = .bool false := hd 77 (by kernel_rfl)
                exact Lin.Runs.value Lin.keeps (Lin.exec_move rfl) h77
              · intro ρ wq hb ho hc hd
                have hC : ∀ v, ρ (.const v) = v := fun v => hc _ (by intro t e; cases e)
                have hF : ∀ f, ρ (.func f) = .func (.func f) #[] #[] := fun f => hc _ (by intro t e; cases e)
                intro t ht; cases (show some 78 = some t from ht)
                refine ⟨fun _ => ?_, fun hn => absurd (hd 78 (by kernel_rfl)) hn⟩
                have h8 : ρ (.tmp 8) = .bool false := ho 8 (by kernel_rfl)
                exact Lin.Runs.value Lin.keeps (Lin.exec_move rfl) h8
              · intro ρ wq hb ho hc hd
                have hC : ∀ v, ρ (.const v) = v := fun v => hc _ (by intro t e; cases e)
                have hF : ∀ f, ρ (.func f) = .func (.func f) #[] #[] := fun f => hc _ (by intro t e; cases e)
                intro t ht; cases (show some 78 = some t from ht)
                refine ⟨fun _ => ?_, fun hn => absurd (hd 78 (by kernel_rfl)) hn⟩
                have h79 : ρ (.tmp 79) = .bool false := hd 79 (by kernel_rfl)
                exact Lin.Runs.value Lin.keeps (Lin.exec_move rfl) h79
              · intro ρ wq hb ho hc hd
                have hC : ∀ v, ρ (.const v) = v := fun v => hc _ (by intro t e; cases e)
                have hF : ∀ f, ρ (.func f) = .func (.func f) #[] #[] := fun f => hc _ (by intro t e; cases e)
                intro t ht; cases (show some 80 = some t from ht)
                exact ⟨fun he => absurd (he.symm.trans (hd 80 (by kernel_rfl))) (by first | simp | (intro h; cases h)), fun _ => rfl⟩
              · intro ρ wq hb ho hc hd
                have hC : ∀ v, ρ (.const v) = v := fun v => hc _ (by intro t e; cases e)
                have hF : ∀ f, ρ (.func f) = .func (.func f) #[] #[] := fun f => hc _ (by intro t e; cases e)
                intro t ht; cases (show some 80 = some t from ht)
                exact ⟨fun he => absurd (he.symm.trans (hd 80 (by kernel_rfl))) (by first | simp | (intro h; cases h)), fun _ => rfl⟩
              · intro ρ wq hb ho hc hd
                have hC : ∀ v, ρ (.const v) = v := fun v => hc _ (by intro t e; cases e)
                have hF : ∀ f, ρ (.func f) = .func (.func f) #[] #[] := fun f => hc _ (by intro t e; cases e)
                intro t ht; cases (show some 80 = some t from ht)
                exact ⟨fun he => absurd (he.symm.trans (hd 80 (by kernel_rfl))) (by first | simp | (intro h; cases h)), fun _ => rfl⟩
              · intro ρ wq hb ho hc hd
                have hC : ∀ v, ρ (.const v) = v := fun v => hc _ (by intro t e; cases e)
                have hF : ∀ f, ρ (.func f) = .func (.func f) #[] #[] := fun f => hc _ (by intro t e; cases e)
                intro t ht; cases (show some 80 = some t from ht)
                exact ⟨fun he => absurd (he.symm.trans (hd 80 (by kernel_rfl))) (by first | simp | (intro h; cases h)), fun _ => rfl⟩
              · intro ρ wq hb ho hc hd
                have hC : ∀ v, ρ (.const v) = v := fun v => hc _ (by intro t e; cases e)
                have hF : ∀ f, ρ (.func f) = .func (.func f) #[] #[] := fun f => hc _ (by intro t e; cases e)
                intro t ht; cases (show some 80 = some t from ht)
                exact ⟨fun he => absurd (he.symm.trans (hd 80 (by kernel_rfl))) (by first | simp | (intro h; cases h)), fun _ => rfl⟩
              · intro ρ wq hb ho hc hd
                have hC : ∀ v, ρ (.const v) = v := fun v => hc _ (by intro t e; cases e)
                have hF : ∀ f, ρ (.func f) = .func (.func f) #[] #[] := fun f => hc _ (by intro t e; cases e)
                intro t ht; cases (show some 80 = some t from ht)
                exact ⟨fun he => absurd (he.symm.trans (hd 80 (by kernel_rfl))) (by first | simp | (intro h; cases h)), fun _ => rfl⟩
              · intro ρ wq hb ho hc hd
                have hC : ∀ v, ρ (.const v) = v := fun v => hc _ (by intro t e; cases e)
                have hF : ∀ f, ρ (.func f) = .func (.func f) #[] #[] := fun f => hc _ (by intro t e; cases e)
                intro t ht; cases (show some 78 = some t from ht)
                refine ⟨fun _ => ?_, fun hn => absurd (hd 78 (by kernel_rfl)) hn⟩
                have h80 : ρ (.tmp 80) = .bool false := hd 80 (by kernel_rfl)
                have h86 : ρ (.tmp 86) = undef := hd 86 (by kernel_rfl)
                exact Lin.Runs.value Lin.keeps (v := .bool false) (by simp [execOp, go_sem, hC, h80, h86]) rfl
              · intro ρ wq hb ho hc hd
                have hC : ∀ v, ρ (.const v) = v := fun v => hc _ (by intro t e; cases e)
                have hF : ∀ f, ρ (.func f) = .func (.func f) #[] #[] := fun f => hc _ (by intro t e; cases e)
                have h78 : ρ (.tmp 78) = .bool false := hd 78 (by kernel_rfl)
                have h87 : ρ (.tmp 87) = .bool false := hd 87 (by kernel_rfl)
                exact Lin.Runs.value Lin.keeps (v := .bool false) (by simp [execOp, go_sem, hC, h78, h87]) rfl
              · intro vals w6 hb2 hv
                have e88 := hv 88 (by kernel_rfl)
                have HB9 := Lib.hid (HB.out.trans (hb2.mono HB.out.size))
                have HIS9 := Lib.hid (HIS.out.below hb2 HIS.out.lt)
                clear HB HIS hv hb2 z0 z1 z2 z3
                have HB := HB9; have HIS := HIS9
                clear HB9 HIS9
                simp only [Lin.putAll, Option.getD_some]
                rw [show vals 88 = .bool false from e88]
                go_simp
                generalize vals = vv
                go_wp2_with fail
                refine (tnext bt next _ HIS.out).mono ?_
                rintro e w7 ⟨rfl, rfl⟩
                go_wp2_with fail
                go_roundw
                case rel => exact ⟨i + 1, next, HIL.out, i40, rfl, by go_num, HIS.out, HB.out⟩
                case measure => have := HIL.out; simp [intOf]; omega
    

      · have il : (i : Int) < (ls.length : Int) := by omega
        have i40z : ¬ (i : Int) < 40 := by omega
        clear hlt
        have hz9 := HB.out.size
        go_wp2_with fail
        refine (pick_nil _ _ _ _).mono ?_
        rintro e w8 ⟨rfl, hb8⟩
        have HB8 := Lib.hid ((HB.out.alloc hz9 (.cells #[.int .i64 0, .int .i64 0, .int .i64 0, .int .u32 0] 29)).trans (hb8.mono (by simp; omega)))
        clear hb8
        go_wp2_with fail
        refine (tnext_nil _).mono ?_
        rintro e w9 ⟨rfl, rfl⟩
        go_wp2_with fail
        refine (awake18 _).mono ?_
        rintro e w9 ⟨rfl, hb9⟩
        have hz8 := HB8.out.size
        have HB9 := Lib.hid ((HB8.out.alloc hz8 (.cells #[.int .i64 0, .int .i64 0, .int .i64 0, .int .u32 0] 29)).trans (hb9.mono (by simp; omega)))
        clear hb9
        go_wp2_with fail
        go_ret
        exact ⟨rfl, HB9.out⟩
    · have il : ¬ (i : Int) < (ls.length : Int) := by omega
      have hz9 := HB.out.size
      go_wp2_with fail
      refine (pick_nil _ _ _ _).mono ?_
      rintro e w8 ⟨rfl, hb8⟩
      have HB8 := Lib.hid ((HB.out.alloc hz9 (.cells #[.int .i64 0, .int .i64 0, .int .i64 0, .int .u32 0] 29)).trans (hb8.mono (by simp; omega)))
      clear hb8
      go_wp2_with fail
      refine (tnext_nil _).mono ?_
      rintro e w9 ⟨rfl, rfl⟩
      go_wp2_with fail
      refine (awake18 _).mono ?_
      rintro e w9 ⟨rfl, hb9⟩
      have hz8 := HB8.out.size
      have HB9 := Lib.hid ((HB8.out.alloc hz8 (.cells #[.int .i64 0, .int .i64 0, .int .i64 0, .int .u32 0] 29)).trans (hb9.mono (by simp; omega)))
      clear hb9
      go_wp2_with fail
      go_ret
      exact ⟨rfl, HB9.out⟩
end Go.Proofs.Ytkebgkjopfdafaa
