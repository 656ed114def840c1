/-
  Candidates of layer 19: right, to, weighty. Helper of the claims SmoothShares and SmoothPicks. No condition.
-/
import Derived.Test.YtkebgkjopfdafaaTurn
import Derived.Test.YtkebgkjopfdafaaByte
import Derived.Test.YtkebgkjopfdafaaLin4
import Derived.Test.YtkebgkjopfdafaaSmM
namespace Go.Proofs.Ytkebgkjopfdafaa
open Go.ChangeShapes Go.WideShapes Go.ChangeAt Go.RowKit
set_option linter.unusedSimpArgs false
set_option linter.unusedVariables false
set_option maxRecDepth 100000
set_option maxRecDepth 100000 in
set_option maxHeartbeats 3200000 in
theorem to19 (A : Option Addr) (c : Nat) (l : List Cand) (w : World) (h : Cands w w.heap.size A l) (hm : l.length ≤ 1000) :
    Calls Try.prog 32 #[.slice A l.length c] w fun e w' => ∃ v, e = .returned v ∧ w'.ownsRow w.heap.size 29 4 v l.length (cellsOf l) ∧ Below w.heap.size w w' := by
  obtain ⟨i0, hi0, hz0, hz1, hz2⟩ := info_parts info_cand
  go_enter Try.func32, Try.ntmps32
  go_wp2
  go_loopw [3, 4] (fun v i wr => ToRel w l v i wr) (fun _ i _ => l.length - (intOf i).toNat)
  case atStart => exact ⟨0, Nat.zero_le _, rfl, World.ownsRow_nil _ _ _ _, Below.refl _ _⟩
  case round =>
    obtain ⟨k, hk, rfl, hown, hbel⟩ := hrel
    by_cases hlt : k < l.length
    · obtain ⟨b, off, rfl, hb, hc⟩ := h (by omega)
      obtain ⟨c0, c1, c2, c3⟩ := cell4 hlt hc
      have d0 := (hbel.cell (p := ⟨b, off + k * 4, none⟩) hb).trans c0
      have d1 := (hbel.cell (p := ⟨b, off + k * 4 + 1, none⟩) hb).trans c1
      have d2 := (hbel.cell (p := ⟨b, off + k * 4 + 2, none⟩) hb).trans c2
      have d3 := (hbel.cell (p := ⟨b, off + k * 4 + 3, none⟩) hb).trans c3
      have HS := Lib.hid (cells_snoc l k hlt)
      have ab := own_far hown hb
      have bl := hbel.size
      have HB := Lib.hid hbel
      clear c0 c1 c2 c3 hc hbel h
      generalize hx : nth l k = x at *
      clear hx
      have hk0 : (0 : Int) ≤ (k : Int) := Int.natCast_nonneg _
      have hk1 : (k : Int) < (l.length : Int) := by omega
      go_wp2_with fail
      go_region_held3 (fun w' => w'.cell? ⟨b, off + k * 4, none⟩ = some (.int .i64 x.slot) ∧ w'.cell? ⟨b, off + k * 4 + 1, none⟩ = some (.int .i64 x.backend) ∧
        w'.cell? ⟨b, off + k * 4 + 2, none⟩ = some (.int .i64 x.weight) ∧ w'.cell? ⟨b, off + k * 4 + 3, none⟩ = some (.int .u32 x.load))
        (first
          | go_keep
          | (go_split_ands
             refine ⟨?_, ?_, ?_, ?_⟩
             · (rw [hgrow.cell_far _ (by simp; omega) (Ne.symm ab)]; assumption)
             · (rw [hgrow.cell_far _ (by simp; omega) (Ne.symm ab)]; assumption)
             · (rw [hgrow.cell_far _ (by simp; omega) (Ne.symm ab)]; assumption)
             · (rw [hgrow.cell_far _ (by simp; omega) (Ne.symm ab)]; assumption)))
        ((refine step_append_lies _ (by rfl) _ _ _ (by rfl) w.heap.size 29 i0 _ 4 32 Try.underlying26 hi0 hz0 hz1 hz2 rfl (by omega) _ k (cellsOf (l.take k)) (by rfl) ((hown.alloc _).drew)
            ⟨wr.heap.size, 0, none⟩ 1 1 x.cells.toList (by rfl) (by rfl) (World.news_of_block (cs := x.cells) (t := 29) (fr := (0, 0)) (heap_alloc_new wr _)) (by simp [Value.oneCell', Cand.cells])
            (by omega) (by unfold maxLen; omega) (by omega) (by simp; omega) (wr.heap.size + 1) (by simp) ?_; intro gg cap w1 hown1 hgrow hat hlt))
      have hb1 := below_grown HB.out hgrow hown.lt
      rw [← HS.out] at hown1
      have HO := Lib.hid hown1
      have HB1 := Lib.hid hb1
      clear hown1 hb1 hgrow hown
      go_wp2
      go_roundw
      case rel => exact ⟨k + 1, by omega, by go_num, HO.out, HB1.out⟩
      case measure => simp [intOf]; omega
    · obtain rfl : k = l.length := by omega
      rw [List.take_length] at hown
      have HO := Lib.hid hown
      clear hown
      go_wp2
      go_ret
      exact ⟨_, rfl, HO.out, hbel⟩

/-- No backend stands twice. -/
def Df (l : List Cand) : Prop := ∀ i, i < l.length → ∀ k, k < i → (nth l i).backend ≠ (nth l k).backend
open Classical in
noncomputable def rgt (l : List Cand) : Bool := decide (l.length ≤ 30 ∧ rightB l = true ∧ Df l)
theorem rgt_no {l : List Cand} (h : ¬ (l.length ≤ 30 ∧ rightB l = true ∧ Df l)) : rgt l = false := by unfold rgt; simp only [decide_eq_false_iff_not]; exact h
theorem rgt_yes {l : List Cand} (h : l.length ≤ 30 ∧ rightB l = true ∧ Df l) : rgt l = true := by unfold rgt; simp only [decide_eq_true_eq]; exact h
def DO (w : World) (l : List Cand) (v : Value) (wr : World) : Prop := ∃ i : Nat, i ≤ l.length ∧ v = .int .i64 (i : Int) ∧ (∀ a, a < i → ∀ b, b < a → (nth l a).backend ≠ (nth l b).backend) ∧ Below w.heap.size w wr
def DI (w : World) (l : List Cand) (i : Nat) (v : Value) (wr : World) : Prop := ∃ k : Nat, k ≤ i ∧ v = .int .i64 (k : Int) ∧ (∀ b, b < k → (nth l i).backend ≠ (nth l b).backend) ∧ Below w.heap.size w wr
theorem lt_snoc {P : Nat → Prop} {k : Nat} (h : ∀ b, b < k → P b) (hk : P k) : ∀ b, b < k + 1 → P b := fun b hb => by
  rcases Nat.lt_or_ge b k with hh | hh
  · exact h b hh
  · obtain rfl : b = k := by omega
    exact hk
set_option maxHeartbeats 4000000 in
theorem right19 (A : Option Addr) (c : Nat) (l : List Cand) (w : World) (h : Cands w w.heap.size A l) (hm : l.length ≤ maxLen) :
    Calls Try.prog 30 #[.slice A l.length c] w fun e w' => e = .returned (.bool (rgt l)) ∧ Below w.heap.size w w' := by
  have RT := Lib.hid (rright_any A c l w.heap.size w h hm)
  have HC := Lib.hid h
  clear h hm
  by_cases h30 : l.length ≤ 30
  · have hq : ¬ (30 : Int) < (l.length : Int) := by omega
    have HL := Lib.hid h30
    clear h30
    cases hr : rightB l with
    | false =>
      rw [hr] at RT
      go_enter Try.func30, Try.ntmps30
      go_wp2_with fail
      refine RT.out.mono ?_
      rintro e w1 ⟨rfl, rfl⟩
      go_wp2_with fail
      go_ret
      exact ⟨ret_bool (by rw [rgt_no (fun hh => by rw [hr] at hh; cases hh.2.1)]), Below.refl _ _⟩
    | true =>
      rw [hr] at RT
      have HR := Lib.hid hr
      clear hr
      go_enter Try.func30, Try.ntmps30
      go_wp2_with fail
      refine RT.out.mono ?_
      rintro e w1 ⟨rfl, rfl⟩
      go_wp2_with fail
      clear RT
      go_loopw [3] (fun v wr => DO w l v wr) (fun v _ => l.length - (intOf v).toNat)
      case atStart => exact ⟨0, Nat.zero_le _, rfl, fun a h => absurd h (by omega), Below.refl _ _⟩
      case round =>
        obtain ⟨i, hi, rfl, hd, hbel⟩ := hrel
        have HD := Lib.hid hd; have HB := Lib.hid hbel
        clear hd hbel
        by_cases hil : i < l.length
        · have ilz : (i : Int) < (l.length : Int) := by omega
          have ILT := Lib.hid hil
          clear hi hil
          go_wp2_with fail
          go_loopw [4] (fun v wr => DI w l i v wr) (fun v _ => i - (intOf v).toNat)
          case atStart => exact ⟨0, Nat.zero_le _, rfl, fun a h => absurd h (by omega), HB.out⟩
          case round =>
            obtain ⟨k, hk, rfl, hd, hbel⟩ := hrel
            have HK := Lib.hid hd; have HBK := Lib.hid hbel
            clear hd hbel HB
            by_cases hkl : k < i
            · have hil := ILT.out
              obtain ⟨b, off, rfl, hbs, hc⟩ := HC.out (by omega)
              have HBS := Lib.hid (Nat.lt_of_lt_of_le hbs HBK.out.size)
              have ci := (HBK.out.cell (p := ⟨b, off + i * 4 + 1, none⟩) hbs).trans (hc i 1 (by omega) (by omega))
              have ck := (HBK.out.cell (p := ⟨b, off + k * 4 + 1, none⟩) hbs).trans (hc k 1 (by omega) (by omega))
              have klz : (k : Int) < (i : Int) := by omega
              have kl : (k : Int) < (l.length : Int) := by omega
              have il := ilz
              have i0 : (0 : Int) ≤ (i : Int) := by omega
              have k0 : (0 : Int) ≤ (k : Int) := by omega
              have KLT := Lib.hid hkl
              clear hc hbs hkl hk hil
              by_cases he : (nth l i).backend = (nth l k).backend
              · have NE := Lib.hid he
                have ci : _ = some (Value.int .i64 (nth l i).backend) := ci
                have ck : _ = some (Value.int .i64 (nth l k).backend) := ck
                generalize (nth l i).backend = x at ci ck he
                generalize (nth l k).backend = y at ci ck he
                have heb : (x == y) = true := by simp [he]
                clear he
                go_wp2_with fail
                refine Lin.wp_region_lin Lin.keeps (n := 35)  (fun slotq => match slotq with | 24 => Lin.Spec.val (.slice (some ⟨b, off, none⟩) l.length c) | 25 => Lin.Spec.val (.int .i64 (i : Int)) | 26 => Lin.Spec.val (.pointer (some ⟨b, off + i * 4, none⟩)) | 27 => Lin.Spec.val (.pointer (some ⟨b, off + i * 4 + 1, none⟩)) | 28 => Lin.Spec.val (.int .i64 x) | 29 => Lin.Spec.val (.slice (some ⟨b, off, none⟩) l.length c) | 30 => Lin.Spec.val (.int .i64 (k : Int)) | 31 => Lin.Spec.val (.pointer (some ⟨b, off + k * 4, none⟩)) | 32 => Lin.Spec.val (.pointer (some ⟨b, off + k * 4 + 1, none⟩)) | 33 => Lin.Spec.val (.int .i64 y) | 34 => Lin.Spec.val (.bool true) | _ => Lin.Spec.any) (by kernel_rfl) rfl (by kernel_rfl) ⟨?_, ?_, ?_, ?_, ?_, ?_, ?_, ?_, ?_, ?_, ?_, trivial⟩ ?_
                · intro ρ wq hb ho hc hd
                  have hC : ∀ v, ρ (.const v) = v := fun v => hc _ (by intro t e; cases e)
                  have hF : ∀ f, ρ (.func f) = .func (.func f) #[] #[] := fun f => hc _ (by intro t e; cases e)
                  have h0 : ρ (.tmp 0) = .slice (some ⟨b, off, none⟩) l.length c := ho 0 (by kernel_rfl)
                  exact Lin.Runs.value Lin.keeps (Lin.exec_move rfl) h0
                · intro ρ wq hb ho hc hd
                  have hC : ∀ v, ρ (.const v) = v := fun v => hc _ (by intro t e; cases e)
                  have hF : ∀ f, ρ (.func f) = .func (.func f) #[] #[] := fun f => hc _ (by intro t e; cases e)
                  have h3 : ρ (.tmp 3) = .int .i64 (i : Int) := ho 3 (by kernel_rfl)
                  exact Lin.Runs.value Lin.keeps (Lin.exec_move rfl) h3
                · intro ρ wq hb ho hc hd
                  have hC : ∀ v, ρ (.const v) = v := fun v => hc _ (by intro t e; cases e)
                  have hF : ∀ f, ρ (.func f) = .func (.func f) #[] #[] := fun f => hc _ (by intro t e; cases e)
                  have h24 : ρ (.tmp 24) = .slice (some ⟨b, off, none⟩) l.length c := hd 24 (by kernel_rfl)
                  have h25 : ρ (.tmp 25) = .int .i64 (i : Int) := hd 25 (by kernel_rfl)
                  exact Lin.Runs.value Lin.keeps (v := .pointer (some ⟨b, off + i * 4, none⟩)) (by simp [execOp, go_sem, h24, h25, i0, il]) rfl
                · intro ρ wq hb ho hc hd
                  have hC : ∀ v, ρ (.const v) = v := fun v => hc _ (by intro t e; cases e)
                  have hF : ∀ f, ρ (.func f) = .func (.func f) #[] #[] := fun f => hc _ (by intro t e; cases e)
                  have h26 : ρ (.tmp 26) = .pointer (some ⟨b, off + i * 4, none⟩) := hd 26 (by kernel_rfl)
                  exact Lin.Runs.value Lin.keeps (v := .pointer (some ⟨b, off + i * 4 + 1, none⟩)) (by simp [execOp, go_sem, h26]) rfl
                · intro ρ wq hb ho hc hd
                  have hC : ∀ v, ρ (.const v) = v := fun v => hc _ (by intro t e; cases e)
                  have hF : ∀ f, ρ (.func f) = .func (.func f) #[] #[] := fun f => hc _ (by intro t e; cases e)
                  have h27 : ρ (.tmp 27) = .pointer (some ⟨b, off + i * 4 + 1, none⟩) := hd 27 (by kernel_rfl)
                  have dd := (hb.cell (p := ⟨b, off + i * 4 + 1, none⟩) HBS.out).trans ci
                  exact Lin.Runs.value Lin.keeps (v := .int .i64 x) (by simp [execOp, go_sem, h27, dd]) rfl
                · intro ρ wq hb ho hc hd
                  have hC : ∀ v, ρ (.const v) = v := fun v => hc _ (by intro t e; cases e)
                  have hF : ∀ f, ρ (.func f) = .func (.func f) #[] #[] := fun f => hc _ (by intro t e; cases e)
                  have h0 : ρ (.tmp 0) = .slice (some ⟨b, off, none⟩) l.length c := ho 0 (by kernel_rfl)
                  exact Lin.Runs.value Lin.keeps (Lin.exec_move rfl) h0
                · intro ρ wq hb ho hc hd
                  have hC : ∀ v, ρ (.const v) = v := fun v => hc _ (by intro t e; cases e)
                  have hF : ∀ f, ρ (.func f) = .func (.func f) #[] #[] := fun f => hc _ (by intro t e; cases e)
                  have h4 : ρ (.tmp 4) = .int .i64 (k : Int) := ho 4 (by kernel_rfl)
                  exact Lin.Runs.value Lin.keeps (Lin.exec_move rfl) h4
                · intro ρ wq hb ho hc hd
                  have hC : ∀ v, ρ (.const v) = v := fun v => hc _ (by intro t e; cases e)
                  have hF : ∀ f, ρ (.func f) = .func (.func f) #[] #[] := fun f => hc _ (by intro t e; cases e)
                  have h29 : ρ (.tmp 29) = .slice (some ⟨b, off, none⟩) l.length c := hd 29 (by kernel_rfl)
                  have h30 : ρ (.tmp 30) = .int .i64 (k : Int) := hd 30 (by kernel_rfl)
                  exact Lin.Runs.value Lin.keeps (v := .pointer (some ⟨b, off + k * 4, none⟩)) (by simp [execOp, go_sem, h29, h30, k0, kl]) rfl
                · intro ρ wq hb ho hc hd
                  have hC : ∀ v, ρ (.const v) = v := fun v => hc _ (by intro t e; cases e)
                  have hF : ∀ f, ρ (.func f) = .func (.func f) #[] #[] := fun f => hc _ (by intro t e; cases e)
                  have h31 : ρ (.tmp 31) = .pointer (some ⟨b, off + k * 4, none⟩) := hd 31 (by kernel_rfl)
                  exact Lin.Runs.value Lin.keeps (v := .pointer (some ⟨b, off + k * 4 + 1, none⟩)) (by simp [execOp, go_sem, h31]) rfl
                · intro ρ wq hb ho hc hd
                  have hC : ∀ v, ρ (.const v) = v := fun v => hc _ (by intro t e; cases e)
                  have hF : ∀ f, ρ (.func f) = .func (.func f) #[] #[] := fun f => hc _ (by intro t e; cases e)
                  have h32 : ρ (.tmp 32) = .pointer (some ⟨b, off + k * 4 + 1, none⟩) := hd 32 (by kernel_rfl)
                  have dd := (hb.cell (p := ⟨b, off + k * 4 + 1, none⟩) HBS.out).trans ck
                  exact Lin.Runs.value Lin.keeps (v := .int .i64 y) (by simp [execOp, go_sem, h32, dd]) rfl
                · intro ρ wq hb ho hc hd
                  have hC : ∀ v, ρ (.const v) = v := fun v => hc _ (by intro t e; cases e)
                  have hF : ∀ f, ρ (.func f) = .func (.func f) #[] #[] := fun f => hc _ (by intro t e; cases e)
                  have h28 : ρ (.tmp 28) = .int .i64 x := hd 28 (by kernel_rfl)
                  have h33 : ρ (.tmp 33) = .int .i64 y := hd 33 (by kernel_rfl)
                  exact Lin.Runs.value Lin.keeps (v := .bool true) (by simp [execOp, go_sem, h28, h33, heb]) rfl
                · intro vals w5 hb2 hv
                  have ee := hv 34 (by kernel_rfl)
                  have HB5 := Lib.hid (HBK.out.trans (hb2.mono HBK.out.size))
                  clear hb2
                  simp only [Lin.putAll, Option.getD_some]
                  rw [show vals 34 = .bool true from ee]
                  clear ee hv
                  go_simp
                  generalize vals = vv
                  go_wp2_with fail
                  go_ret
                  exact ⟨ret_bool (by rw [rgt_no (fun hh => hh.2.2 i ILT.out k KLT.out NE.out)]), HB5.out⟩
              · have NE := Lib.hid he
                have ci : _ = some (Value.int .i64 (nth l i).backend) := ci
                have ck : _ = some (Value.int .i64 (nth l k).backend) := ck
                generalize (nth l i).backend = x at ci ck he
                generalize (nth l k).backend = y at ci ck he
                have heb : (x == y) = false := by simp [he]
                clear he
                go_wp2_with fail
                refine Lin.wp_region_lin Lin.keeps (n := 35)  (fun slotq => match slotq with | 24 => Lin.Spec.val (.slice (some ⟨b, off, none⟩) l.length c) | 25 => Lin.Spec.val (.int .i64 (i : Int)) | 26 => Lin.Spec.val (.pointer (some ⟨b, off + i * 4, none⟩)) | 27 => Lin.Spec.val (.pointer (some ⟨b, off + i * 4 + 1, none⟩)) | 28 => Lin.Spec.val (.int .i64 x) | 29 => Lin.Spec.val (.slice (some ⟨b, off, none⟩) l.length c) | 30 => Lin.Spec.val (.int .i64 (k : Int)) | 31 => Lin.Spec.val (.pointer (some ⟨b, off + k * 4, none⟩)) | 32 => Lin.Spec.val (.pointer (some ⟨b, off + k * 4 + 1, none⟩)) | 33 => Lin.Spec.val (.int .i64 y) | 34 => Lin.Spec.val (.bool false) | _ => Lin.Spec.any) (by kernel_rfl) rfl (by kernel_rfl) ⟨?_, ?_, ?_, ?_, ?_, ?_, ?_, ?_, ?_, ?_, ?_, trivial⟩ ?_
                · intro ρ wq hb ho hc hd
                  have hC : ∀ v, ρ (.const v) = v := fun v => hc _ (by intro t e; cases e)
                  have hF : ∀ f, ρ (.func f) = .func (.func f) #[] #[] := fun f => hc _ (by intro t e; cases e)
                  have h0 : ρ (.tmp 0) = .slice (some ⟨b, off, none⟩) l.length c := ho 0 (by kernel_rfl)
                  exact Lin.Runs.value Lin.keeps (Lin.exec_move rfl) h0
                · intro ρ wq hb ho hc hd
                  have hC : ∀ v, ρ (.const v) = v := fun v => hc _ (by intro t e; cases e)
                  have hF : ∀ f, ρ (.func f) = .func (.func f) #[] #[] := fun f => hc _ (by intro t e; cases e)
                  have h3 : ρ (.tmp 3) = .int .i64 (i : Int) := ho 3 (by kernel_rfl)
                  exact Lin.Runs.value Lin.keeps (Lin.exec_move rfl) h3
                · intro ρ wq hb ho hc hd
                  have hC : ∀ v, ρ (.const v) = v := fun v => hc _ (by intro t e; cases e)
                  have hF : ∀ f, ρ (.func f) = .func (.func f) #[] #[] := fun f => hc _ (by intro t e; cases e)
                  have h24 : ρ (.tmp 24) = .slice (some ⟨b, off, none⟩) l.length c := hd 24 (by kernel_rfl)
                  have h25 : ρ (.tmp 25) = .int .i64 (i : Int) := hd 25 (by kernel_rfl)
                  exact Lin.Runs.value Lin.keeps (v := .pointer (some ⟨b, off + i * 4, none⟩)) (by simp [execOp, go_sem, h24, h25, i0, il]) rfl
                · intro ρ wq hb ho hc hd
                  have hC : ∀ v, ρ (.const v) = v := fun v => hc _ (by intro t e; cases e)
                  have hF : ∀ f, ρ (.func f) = .func (.func f) #[] #[] := fun f => hc _ (by intro t e; cases e)
                  have h26 : ρ (.tmp 26) = .pointer (some ⟨b, off + i * 4, none⟩) := hd 26 (by kernel_rfl)
                  exact Lin.Runs.value Lin.keeps (v := .pointer (some ⟨b, off + i * 4 + 1, none⟩)) (by simp [execOp, go_sem, h26]) rfl
                · intro ρ wq hb ho hc hd
                  have hC : ∀ v, ρ (.const v) = v := fun v => hc _ (by intro t e; cases e)
                  have hF : ∀ f, ρ (.func f) = .func (.func f) #[] #[] := fun f => hc _ (by intro t e; cases e)
                  have h27 : ρ (.tmp 27) = .pointer (some ⟨b, off + i * 4 + 1, none⟩) := hd 27 (by kernel_rfl)
                  have dd := (hb.cell (p := ⟨b, off + i * 4 + 1, none⟩) HBS.out).trans ci
                  exact Lin.Runs.value Lin.keeps (v := .int .i64 x) (by simp [execOp, go_sem, h27, dd]) rfl
                · intro ρ wq hb ho hc hd
                  have hC : ∀ v, ρ (.const v) = v := fun v => hc _ (by intro t e; cases e)
                  have hF : ∀ f, ρ (.func f) = .func (.func f) #[] #[] := fun f => hc _ (by intro t e; cases e)
                  have h0 : ρ (.tmp 0) = .slice (some ⟨b, off, none⟩) l.length c := ho 0 (by kernel_rfl)
                  exact Lin.Runs.value Lin.keeps (Lin.exec_move rfl) h0
                · intro ρ wq hb ho hc hd
                  have hC : ∀ v, ρ (.const v) = v := fun v => hc _ (by intro t e; cases e)
                  have hF : ∀ f, ρ (.func f) = .func (.func f) #[] #[] := fun f => hc _ (by intro t e; cases e)
                  have h4 : ρ (.tmp 4) = .int .i64 (k : Int) := ho 4 (by kernel_rfl)
                  exact Lin.Runs.value Lin.keeps (Lin.exec_move rfl) h4
                · intro ρ wq hb ho hc hd
                  have hC : ∀ v, ρ (.const v) = v := fun v => hc _ (by intro t e; cases e)
                  have hF : ∀ f, ρ (.func f) = .func (.func f) #[] #[] := fun f => hc _ (by intro t e; cases e)
                  have h29 : ρ (.tmp 29) = .slice (some ⟨b, off, none⟩) l.length c := hd 29 (by kernel_rfl)
                  have h30 : ρ (.tmp 30) = .int .i64 (k : Int) := hd 30 (by kernel_rfl)
                  exact Lin.Runs.value Lin.keeps (v := .pointer (some ⟨b, off + k * 4, none⟩)) (by simp [execOp, go_sem, h29, h30, k0, kl]) rfl
                · intro ρ wq hb ho hc hd
                  have hC : ∀ v, ρ (.const v) = v := fun v => hc _ (by intro t e; cases e)
                  have hF : ∀ f, ρ (.func f) = .func (.func f) #[] #[] := fun f => hc _ (by intro t e; cases e)
                  have h31 : ρ (.tmp 31) = .pointer (some ⟨b, off + k * 4, none⟩) := hd 31 (by kernel_rfl)
                  exact Lin.Runs.value Lin.keeps (v := .pointer (some ⟨b, off + k * 4 + 1, none⟩)) (by simp [execOp, go_sem, h31]) rfl
                · intro ρ wq hb ho hc hd
                  have hC : ∀ v, ρ (.const v) = v := fun v => hc _ (by intro t e; cases e)
                  have hF : ∀ f, ρ (.func f) = .func (.func f) #[] #[] := fun f => hc _ (by intro t e; cases e)
                  have h32 : ρ (.tmp 32) = .pointer (some ⟨b, off + k * 4 + 1, none⟩) := hd 32 (by kernel_rfl)
                  have dd := (hb.cell (p := ⟨b, off + k * 4 + 1, none⟩) HBS.out).trans ck
                  exact Lin.Runs.value Lin.keeps (v := .int .i64 y) (by simp [execOp, go_sem, h32, dd]) rfl
                · intro ρ wq hb ho hc hd
                  have hC : ∀ v, ρ (.const v) = v := fun v => hc _ (by intro t e; cases e)
                  have hF : ∀ f, ρ (.func f) = .func (.func f) #[] #[] := fun f => hc _ (by intro t e; cases e)
                  have h28 : ρ (.tmp 28) = .int .i64 x := hd 28 (by kernel_rfl)
                  have h33 : ρ (.tmp 33) = .int .i64 y := hd 33 (by kernel_rfl)
                  exact Lin.Runs.value Lin.keeps (v := .bool false) (by simp [execOp, go_sem, h28, h33, heb]) rfl
                · intro vals w5 hb2 hv
                  have ee := hv 34 (by kernel_rfl)
                  have HB5 := Lib.hid (HBK.out.trans (hb2.mono HBK.out.size))
                  clear hb2
                  simp only [Lin.putAll, Option.getD_some]
                  rw [show vals 34 = .bool false from ee]
                  clear ee hv
                  go_simp
                  generalize vals = vv
                  go_wp2_with fail
                  go_roundw
                  case rel => exact ⟨k + 1, KLT.out, by go_num, lt_snoc HK.out NE.out, HB5.out⟩
                  case measure => have := KLT.out; simp [intOf]; omega
            · obtain rfl : k = i := by omega
              have kge : ¬ (k : Int) < (k : Int) := by omega
              clear hk hkl
              go_wp2_with fail
              go_roundw
              case rel => exact ⟨k + 1, ILT.out, by go_num, lt_snoc HD.out HK.out, HBK.out⟩
              case measure => have := ILT.out; simp [intOf]; omega
        · obtain rfl : i = l.length := by omega
          have ige : ¬ (l.length : Int) < (l.length : Int) := by omega
          clear hi hil
          go_wp2_with fail
          go_ret
          exact ⟨ret_bool (by rw [rgt_yes ⟨HL.out, HR.out, HD.out⟩]), HB.out⟩
  · have hq : (30 : Int) < (l.length : Int) := by omega
    go_enter Try.func30, Try.ntmps30
    go_wp2_with fail
    go_ret
    exact ⟨ret_bool (by rw [rgt_no (fun hh => h30 hh.1)]), Below.refl _ _⟩
/-- Those of the first k that weigh something. -/
def kp (l : List Cand) (k : Nat) : List Cand := (l.take k).filter fun x => decide (0 < x.weight)
theorem kp_yes {l : List Cand} {k : Nat} (hk : k < l.length) (h : 0 < (nth l k).weight) : kp l (k + 1) = kp l k ++ [nth l k] := by
  unfold kp
  rw [List.take_succ_eq_append_getElem hk, List.filter_append]
  have e : l[k] = nth l k := by simp [nth, List.getD, hk]
  rw [e]; simp [h]
theorem kp_no {l : List Cand} {k : Nat} (hk : k < l.length) (h : ¬ 0 < (nth l k).weight) : kp l (k + 1) = kp l k := by
  unfold kp
  rw [List.take_succ_eq_append_getElem hk, List.filter_append]
  have e : l[k] = nth l k := by simp [nth, List.getD, hk]
  rw [e]; simp [h]
theorem cells_one (l : List Cand) (c : Cand) : cellsOf (l ++ [c]) = cellsOf l ++ c.cells.toList := by simp [cellsOf]
def WRel (w : World) (l : List Cand) (v i : Value) (wr : World) : Prop :=
  ∃ k : Nat, k ≤ l.length ∧ i = .int .i64 (k : Int) ∧ (∃ n, n = (kp l k).length ∧ n ≤ k ∧ wr.ownsRow w.heap.size 29 4 v n (cellsOf (kp l k))) ∧ Below w.heap.size w wr
set_option maxHeartbeats 4000000 in
theorem weighty_any (A : Option Addr) (c : Nat) (l : List Cand) (w : World) (h : Cands w w.heap.size A l) (hm : l.length ≤ 1000) :
    Calls Try.prog 77 #[.slice A l.length c] w fun e w' => ∃ v, e = .returned v ∧ w'.ownsRow w.heap.size 29 4 v (kp l l.length).length (cellsOf (kp l l.length)) ∧ Below w.heap.size w w' := by
  obtain ⟨i0, hi0, hz0, hz1, hz2⟩ := info_parts info_cand
  have HI0 := Lib.hid hi0; have HZ0 := Lib.hid hz0; have HZ1 := Lib.hid hz1; have HZ2 := Lib.hid hz2
  clear hi0 hz0 hz1 hz2
  have HC := Lib.hid h
  clear h
  go_enter Try.func77, Try.ntmps77
  go_wp2_with fail
  go_loopw [3, 8] (fun v i wr => WRel w l v i wr) (fun _ i _ => l.length - (intOf i).toNat)
  case atStart => exact ⟨0, Nat.zero_le _, rfl, ⟨0, rfl, Nat.le_refl _, World.ownsRow_nil _ _ _ _⟩, Below.refl _ _⟩
  case round =>
    obtain ⟨k, hk, rfl, ⟨n, hn, hnk, hown⟩, hbel⟩ := hrel
    have HN := Lib.hid hn; have HO := Lib.hid hown; have HB := Lib.hid hbel; have HNK := Lib.hid hnk
    clear hn hown hbel hnk
    by_cases hlt : k < l.length
    · obtain ⟨b, off, rfl, hb, hc⟩ := HC.out (by omega)
      obtain ⟨c0, c1, c2, c3⟩ := cell4 hlt hc
      have d0 := (HB.out.cell (p := ⟨b, off + k * 4, none⟩) hb).trans c0
      have d1 := (HB.out.cell (p := ⟨b, off + k * 4 + 1, none⟩) hb).trans c1
      have d2 := (HB.out.cell (p := ⟨b, off + k * 4 + 2, none⟩) hb).trans c2
      have d3 := (HB.out.cell (p := ⟨b, off + k * 4 + 3, none⟩) hb).trans c3
      have KY := hide (fun h => kp_yes (l := l) (k := k) hlt h)
      have KN := hide (fun h => kp_no (l := l) (k := k) hlt h)
      have hk0 : (0 : Int) ≤ (k : Int) := Int.natCast_nonneg _
      have hk1 : (k : Int) < (l.length : Int) := by omega
      have HLT := Lib.hid hlt; have KM := Lib.hid (show k ≤ 1000 from by omega); have hbs := HB.out.size
      clear c0 c1 c2 c3 hc hb hlt hk
      generalize nth l k = x at *
      obtain ⟨xs, xb, xw, xl⟩ := x
      simp only at d0 d1 d2 d3 KY KN
      by_cases hp : 0 < xw
      · have KE := Lib.hid (unhide KY hp)
        clear KY KN
        go_wp2_with (
          (with_reducible show wpList _ _ _ (⟨some 18, _, _, _, _, _⟩ :: _) _ _)
          go_loud (refine wpList_append_lies _ rfl (.tmp 15) (.tmp 17) _ rfl w.heap.size 29 i0 _ 4 32 Try.underlying26 HI0.out HZ0.out HZ1.out HZ2.out rfl (by omega) _ n (cellsOf (kp l k)) rfl ((HO.out.alloc (.cells #[.int .i64 xs, .int .i64 xb, .int .i64 xw, .int .u32 xl] 29)).alloc (.cells #[.int .i64 xs, .int .i64 xb, .int .i64 xw, .int .u32 xl] 29)) ⟨wr.heap.size + 1, 0, none⟩ 1 1 (#[.int .i64 xs, .int .i64 xb, .int .i64 xw, .int .u32 xl] : Array Value).toList rfl rfl (World.news_of_block (t := 29) (fr := (0, 0)) (by have := heap_alloc_new (wr.alloc (.cells #[.int .i64 xs, .int .i64 xb, .int .i64 xw, .int .u32 xl] 29)) (.cells #[.int .i64 xs, .int .i64 xb, .int .i64 xw, .int .u32 xl] 29); simpa using this)) (by simp [Value.oneCell']) (by omega) (by have := HNK.out; have := KM.out; unfold maxLen; omega) (by have := HNK.out; have := KM.out; omega) (by simp; omega) (wr.heap.size + 1 + 1) (by simp) ?_)
          intro ga capa w6 ho6 hg6 hat6 hl6
          rw [show cellsOf (kp l k) ++ (#[.int .i64 xs, .int .i64 xb, .int .i64 xw, .int .u32 xl] : Array Value).toList = cellsOf (kp l (k + 1)) from by rw [KE.out, cells_one]; rfl] at ho6
          have O6 := Lib.hid ho6
          have HB6 := Lib.hid (((HB.out.alloc hbs (.cells #[.int .i64 xs, .int .i64 xb, .int .i64 xw, .int .u32 xl] 29)).alloc (by simp; omega) (.cells #[.int .i64 xs, .int .i64 xb, .int .i64 xw, .int .u32 xl] 29)).grown hg6 (by simp; omega) (fun q hq => HO.out.lt q hq |>.1))
          clear ho6 hg6 hat6 hl6)
        go_roundw
        case rel => exact ⟨k + 1, HLT.out, by go_num, ⟨n + 1, by rw [KE.out, List.length_append, ← HN.out]; rfl, by have := HNK.out; omega, O6.out⟩, HB6.out⟩
        case measure => have := HLT.out; simp [intOf]; omega
      · have KE := Lib.hid (unhide KN hp)
        clear KY KN
        go_wp2_with fail
        go_roundw
        case rel => exact ⟨k + 1, HLT.out, by go_num, ⟨n, by rw [KE.out]; exact HN.out, by have := HNK.out; omega, by rw [KE.out]; exact HO.out.alloc _⟩, HB.out.alloc hbs _⟩
        case measure => have := HLT.out; simp [intOf]; omega
    · obtain rfl : k = l.length := by omega
      have hge : ¬ (l.length : Int) < (l.length : Int) := by omega
      clear hk hlt
      go_wp2_with fail
      go_ret
      exact ⟨_, rfl, by rw [← HN.out]; exact HO.out, HB.out⟩
end Go.Proofs.Ytkebgkjopfdafaa
