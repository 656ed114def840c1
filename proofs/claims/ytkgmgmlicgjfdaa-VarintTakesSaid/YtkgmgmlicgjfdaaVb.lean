/-
  The law VarintTakes, walked. Helper of the claim VarintTakes. No condition.
-/
import Derived.Test.YtkgmgmlicgjfdaaVa
namespace Go.Proofs.Ytkgmgmlicgjfdaa
open Go.ChangeShapes Go.WideShapes Go.ChangeAt Go.RowKit
set_option linter.unusedVariables false
set_option maxRecDepth 100000
theorem OwnU.more {w : World} {B B' : Nat} {v : Value} {xs : List Int} (h : OwnU w B' v xs) (hB : B ≤ B') : OwnU w B v xs := by
  obtain ⟨h1, h2⟩ := h
  refine ⟨h1, ?_⟩
  rcases h2 with ⟨a, b⟩ | ⟨g, cap, cur, a, hb, rest⟩
  · exact .inl ⟨a, b⟩
  · exact .inr ⟨g, cap, cur, a, by omega, rest⟩
theorem IsB.rest {l : List Int} {n c i : Nat} {A : Option Addr} {w : World} (h : IsB l n (.slice A n c) w) (hi : i ≤ n) : IsB (l.drop i) (n - i) (.slice (if c = i then A else A.map (·.add i)) (n - i) (c - i)) w := by
  have hp := h.part (i := i) (k := n - i) (by omega)
  obtain ⟨A', c', e, h1, _⟩ := id h
  rw [List.take_of_length_le (by rw [List.length_drop]; omega)] at hp
  exact hp
def WRel (W : World) (l : List Int) (v0 v10 v11 v12 : Value) (wr : World) : Prop :=
  (∃ j p xs A n c A4 c4, At l j p xs ∧ v0 = .slice A n c ∧ v10 = .slice A4 j c4 ∧ v11 = .bool true ∧ v12 = .int .i64 (j : Nat) ∧ p + n = l.length ∧ IsB (l.drop p) n (.slice A n c) W ∧ OwnU wr W.heap.size (.slice A4 j c4) xs ∧ Below W.heap.size W wr) ∨
  (∃ j p xs A n c i, At l j p xs ∧ vsz (l.drop p) = 0 ∧ p < l.length ∧ v0 = .slice A n c ∧ v11 = .bool false ∧ v12 = .int .i64 (i : Nat) ∧ n ≤ 1000 ∧ i ≤ 1000 ∧ Below W.heap.size W wr)
def KRel (W : World) (k : Nat) (v : Value) (wr : World) : Prop := ∃ i : Nat, i ≤ k ∧ v = .int .i64 (i : Int) ∧ Below W.heap.size W wr
set_option maxHeartbeats 1000000 in
theorem walk_long (A : Option Addr) (c : Nat) (b : List Int) (w : World) (h5 : 500 < b.length) : Calls Try.prog 8 #[.slice A b.length c] w fun e w' => e = .returned (.bool true) ∧ Below w.heap.size w w' := by
  have h : (500 : Int) < (b.length : Int) := by omega
  go_enter Try.func8, Try.ntmps8
  go_wp2_with fail
  refine (awake39 _).mono ?_
  rintro e w1 ⟨rfl, rfl⟩
  go_wp2_with fail
  go_ret
  exact ⟨rfl, Below.refl _ _⟩
set_option maxHeartbeats 8000000 in
theorem walk_some (A : Option Addr) (c : Nat) (b : List Int) (w : World) (hv : IsB b b.length (.slice A b.length c) w) (ho : Octets b) (h5 : ¬ 500 < b.length) (hs : vsz b ≠ 0) : Calls Try.prog 8 #[.slice A b.length c] w fun e w' => e = .returned (.bool true) ∧ Below w.heap.size w w' := by
  have h : ¬ (500 : Int) < (b.length : Int) := by omega
  have HV := hide hv; have HO := hide ho
  clear hv ho
  go_enter Try.func8, Try.ntmps8
  go_wp2_with fail
  refine (vtake_some b b.length _ _ HV.out HO.out (by omega) hs).mono ?_
  rintro e w1 ⟨A4, c4, rfl, hb, h4⟩
  have HB1 := Lib.hid hb; have H4 := hide h4
  clear hb h4
  go_wp2_with fail
  refine (rtake b b.length _ _ (HV.out.st HB1.out) HO.out (by omega)).mono ?_
  rintro e w2 ⟨rfl, hb⟩
  have HB2 := Lib.hid (HB1.out.trans (hb.mono HB1.out.size)); have H42 := hide (H4.out.st hb)
  have hsn := vsz_le b
  clear hb H4 HB1
  generalize vsz b = s at *
  generalize vnum b = x at *
  have hposn : 0 < s := by omega
  have hs0n : ¬ s = 0 := by omega
  have hpos : (0 : Int) < (s : Int) := by omega
  have hs0 : ¬ (s : Int) = 0 := by omega
  go_wp2_with fail
  refine Lin.wp_region_lin Lin.keeps (n := 143)  (fun slotq => match slotq with | 31 => Lin.Spec.val (.int .u64 x) | 32 => Lin.Spec.val (.int .u64 x) | 33 => Lin.Spec.val (.bool false) | 34 => Lin.Spec.val (.bool false) | 35 => Lin.Spec.val (.int .i64 0) | 36 => Lin.Spec.val (.bool true) | 37 => Lin.Spec.val (.int .i64 (s : Int)) | 38 => Lin.Spec.val (.bool true) | 39 => Lin.Spec.val (.bool false) | 40 => Lin.Spec.val (.bool false) | 41 => Lin.Spec.val (.bool false) | 42 => Lin.Spec.val (.int .i64 (s : Int)) | 43 => Lin.Spec.val (.bool true) | 44 => Lin.Spec.val (.bool true) | 45 => Lin.Spec.val (.slice A4 (b.length - s) c4) | 46 => Lin.Spec.val (.string (strOfNums (b.drop s))) | 47 => Lin.Spec.val (.slice A b.length c) | 48 => Lin.Spec.val (.int .i64 (s : Int)) | 49 => Lin.Spec.sl (b.drop s) (b.length - s) | 50 => Lin.Spec.val (.string (strOfNums (b.drop s))) | 51 => Lin.Spec.val (.bool false) | 52 => Lin.Spec.val (.bool false) | 53 => Lin.Spec.val (.bool false) | 54 => Lin.Spec.val (.bool false) | 55 => Lin.Spec.val (.int .i64 (s : Int)) | 56 => Lin.Spec.val (.bool false) | 57 => Lin.Spec.val (.bool false) | 58 => Lin.Spec.val (undef) | 59 => Lin.Spec.val (undef) | 60 => Lin.Spec.val (undef) | 61 => Lin.Spec.val (undef) | 62 => Lin.Spec.val (undef) | 63 => Lin.Spec.val (undef) | 64 => Lin.Spec.val (undef) | 65 => Lin.Spec.val (.bool false) | 66 => Lin.Spec.val (.bool false) | _ => Lin.Spec.any) (by kernel_rfl) rfl (by kernel_rfl) ⟨?_, ?_, ?_, ?_, ?_, ?_, ?_, ?_, ?_, ?_, ?_, ?_, ?_, ?_, ?_, ?_, ?_, ?_, ?_, ?_, ?_, ?_, ?_, ?_, ?_, ?_, ?_, ?_, ?_, ?_, ?_, ?_, ?_, ?_, ?_, ?_, trivial⟩ ?_
  · intro ρ wq hb ho hc hd
    have hC : ∀ v, ρ (.const v) = v := fun v => hc _ (by intro t e; cases e)
    have hF : ∀ f, ρ (.func f) = .func (.func f) #[] #[] := fun f => hc _ (by intro t e; cases e)
    have h3 : ρ (.tmp 3) = .int .u64 x := ho 3 (by kernel_rfl)
    exact Lin.Runs.value Lin.keeps (Lin.exec_move rfl) h3
  · intro ρ wq hb ho hc hd
    have hC : ∀ v, ρ (.const v) = v := fun v => hc _ (by intro t e; cases e)
    have hF : ∀ f, ρ (.func f) = .func (.func f) #[] #[] := fun f => hc _ (by intro t e; cases e)
    have h6 : ρ (.tmp 6) = .int .u64 x := ho 6 (by kernel_rfl)
    exact Lin.Runs.value Lin.keeps (Lin.exec_move rfl) h6
  · intro ρ wq hb ho hc hd
    have hC : ∀ v, ρ (.const v) = v := fun v => hc _ (by intro t e; cases e)
    have hF : ∀ f, ρ (.func f) = .func (.func f) #[] #[] := fun f => hc _ (by intro t e; cases e)
    have h31 : ρ (.tmp 31) = .int .u64 x := hd 31 (by kernel_rfl)
    have h32 : ρ (.tmp 32) = .int .u64 x := hd 32 (by kernel_rfl)
    exact Lin.Runs.value Lin.keeps (v := .bool false) (by simp [execOp, go_sem, h31, h32]) rfl
  · intro ρ wq hb ho hc hd
    have hC : ∀ v, ρ (.const v) = v := fun v => hc _ (by intro t e; cases e)
    have hF : ∀ f, ρ (.func f) = .func (.func f) #[] #[] := fun f => hc _ (by intro t e; cases e)
    have h33 : ρ (.tmp 33) = .bool false := hd 33 (by kernel_rfl)
    exact Lin.Runs.value Lin.keeps (Lin.exec_move rfl) h33
  · intro ρ wq hb ho hc hd
    have hC : ∀ v, ρ (.const v) = v := fun v => hc _ (by intro t e; cases e)
    have hF : ∀ f, ρ (.func f) = .func (.func f) #[] #[] := fun f => hc _ (by intro t e; cases e)
    intro t ht; cases (show some 34 = some t from ht)
    refine ⟨fun _ => ?_, fun hn => absurd (hd 34 (by kernel_rfl)) hn⟩
    have h5 : ρ (.tmp 5) = .int .i64 0 := ho 5 (by kernel_rfl)
    exact Lin.Runs.value Lin.keeps (Lin.exec_move rfl) h5
  · intro ρ wq hb ho hc hd
    have hC : ∀ v, ρ (.const v) = v := fun v => hc _ (by intro t e; cases e)
    have hF : ∀ f, ρ (.func f) = .func (.func f) #[] #[] := fun f => hc _ (by intro t e; cases e)
    intro t ht; cases (show some 34 = some t from ht)
    refine ⟨fun _ => ?_, fun hn => absurd (hd 34 (by kernel_rfl)) hn⟩
    have h35 : ρ (.tmp 35) = .int .i64 0 := hd 35 (by kernel_rfl)
    exact Lin.Runs.value Lin.keeps (v := .bool true) (by simp [execOp, go_sem, hC, h35]) rfl
  · intro ρ wq hb ho hc hd
    have hC : ∀ v, ρ (.const v) = v := fun v => hc _ (by intro t e; cases e)
    have hF : ∀ f, ρ (.func f) = .func (.func f) #[] #[] := fun f => hc _ (by intro t e; cases e)
    intro t ht; cases (show some 34 = some t from ht)
    refine ⟨fun _ => ?_, fun hn => absurd (hd 34 (by kernel_rfl)) hn⟩
    have h7 : ρ (.tmp 7) = .int .i64 (s : Int) := ho 7 (by kernel_rfl)
    exact Lin.Runs.value Lin.keeps (Lin.exec_move rfl) h7
  · intro ρ wq hb ho hc hd
    have hC : ∀ v, ρ (.const v) = v := fun v => hc _ (by intro t e; cases e)
    have hF : ∀ f, ρ (.func f) = .func (.func f) #[] #[] := fun f => hc _ (by intro t e; cases e)
    intro t ht; cases (show some 34 = some t from ht)
    refine ⟨fun _ => ?_, fun hn => absurd (hd 34 (by kernel_rfl)) hn⟩
    have h37 : ρ (.tmp 37) = .int .i64 (s : Int) := hd 37 (by kernel_rfl)
    exact Lin.Runs.value Lin.keeps (v := .bool true) (by simp [execOp, go_sem, hC, h37, hpos, hposn]) rfl
  · intro ρ wq hb ho hc hd
    have hC : ∀ v, ρ (.const v) = v := fun v => hc _ (by intro t e; cases e)
    have hF : ∀ f, ρ (.func f) = .func (.func f) #[] #[] := fun f => hc _ (by intro t e; cases e)
    intro t ht; cases (show some 34 = some t from ht)
    refine ⟨fun _ => ?_, fun hn => absurd (hd 34 (by kernel_rfl)) hn⟩
    have h36 : ρ (.tmp 36) = .bool true := hd 36 (by kernel_rfl)
    have h38 : ρ (.tmp 38) = .bool true := hd 38 (by kernel_rfl)
    exact Lin.Runs.value Lin.keeps (v := .bool false) (by simp [execOp, go_sem, h36, h38]) rfl
  · intro ρ wq hb ho hc hd
    have hC : ∀ v, ρ (.const v) = v := fun v => hc _ (by intro t e; cases e)
    have hF : ∀ f, ρ (.func f) = .func (.func f) #[] #[] := fun f => hc _ (by intro t e; cases e)
    have h34 : ρ (.tmp 34) = .bool false := hd 34 (by kernel_rfl)
    have h39 : ρ (.tmp 39) = .bool false := hd 39 (by kernel_rfl)
    exact Lin.Runs.value Lin.keeps (v := .bool false) (by simp [execOp, go_sem, hC, h34, h39]) rfl
  · intro ρ wq hb ho hc hd
    have hC : ∀ v, ρ (.const v) = v := fun v => hc _ (by intro t e; cases e)
    have hF : ∀ f, ρ (.func f) = .func (.func f) #[] #[] := fun f => hc _ (by intro t e; cases e)
    have h40 : ρ (.tmp 40) = .bool false := hd 40 (by kernel_rfl)
    exact Lin.Runs.value Lin.keeps (Lin.exec_move rfl) h40
  · intro ρ wq hb ho hc hd
    have hC : ∀ v, ρ (.const v) = v := fun v => hc _ (by intro t e; cases e)
    have hF : ∀ f, ρ (.func f) = .func (.func f) #[] #[] := fun f => hc _ (by intro t e; cases e)
    intro t ht; cases (show some 41 = some t from ht)
    refine ⟨fun _ => ?_, fun hn => absurd (hd 41 (by kernel_rfl)) hn⟩
    have h7 : ρ (.tmp 7) = .int .i64 (s : Int) := ho 7 (by kernel_rfl)
    exact Lin.Runs.value Lin.keeps (Lin.exec_move rfl) h7
  · intro ρ wq hb ho hc hd
    have hC : ∀ v, ρ (.const v) = v := fun v => hc _ (by intro t e; cases e)
    have hF : ∀ f, ρ (.func f) = .func (.func f) #[] #[] := fun f => hc _ (by intro t e; cases e)
    intro t ht; cases (show some 41 = some t from ht)
    refine ⟨fun _ => ?_, fun hn => absurd (hd 41 (by kernel_rfl)) hn⟩
    have h42 : ρ (.tmp 42) = .int .i64 (s : Int) := hd 42 (by kernel_rfl)
    exact Lin.Runs.value Lin.keeps (v := .bool true) (by simp [execOp, go_sem, hC, h42, hpos, hposn]) rfl
  · intro ρ wq hb ho hc hd
    have hC : ∀ v, ρ (.const v) = v := fun v => hc _ (by intro t e; cases e)
    have hF : ∀ f, ρ (.func f) = .func (.func f) #[] #[] := fun f => hc _ (by intro t e; cases e)
    intro t ht; cases (show some 41 = some t from ht)
    refine ⟨fun _ => ?_, fun hn => absurd (hd 41 (by kernel_rfl)) hn⟩
    have h43 : ρ (.tmp 43) = .bool true := hd 43 (by kernel_rfl)
    exact Lin.Runs.value Lin.keeps (Lin.exec_move rfl) h43
  · intro ρ wq hb ho hc hd
    have hC : ∀ v, ρ (.const v) = v := fun v => hc _ (by intro t e; cases e)
    have hF : ∀ f, ρ (.func f) = .func (.func f) #[] #[] := fun f => hc _ (by intro t e; cases e)
    intro t ht; cases (show some 44 = some t from ht)
    refine ⟨fun _ => ?_, fun hn => absurd (hd 44 (by kernel_rfl)) hn⟩
    have h4 : ρ (.tmp 4) = .slice A4 (b.length - s) c4 := ho 4 (by kernel_rfl)
    exact Lin.Runs.value Lin.keeps (Lin.exec_move rfl) h4
  · intro ρ wq hb ho hc hd
    have hC : ∀ v, ρ (.const v) = v := fun v => hc _ (by intro t e; cases e)
    have hF : ∀ f, ρ (.func f) = .func (.func f) #[] #[] := fun f => hc _ (by intro t e; cases e)
    intro t ht; cases (show some 44 = some t from ht)
    refine ⟨fun _ => ?_, fun hn => absurd (hd 44 (by kernel_rfl)) hn⟩
    have h45 : ρ (.tmp 45) = .slice A4 (b.length - s) c4 := hd 45 (by kernel_rfl)
    exact Lin.Runs.value Lin.keeps (Lin.exec_convert rfl (by rw [h45]; exact (H42.out.st hb).conv)) rfl
  · intro ρ wq hb ho hc hd
    have hC : ∀ v, ρ (.const v) = v := fun v => hc _ (by intro t e; cases e)
    have hF : ∀ f, ρ (.func f) = .func (.func f) #[] #[] := fun f => hc _ (by intro t e; cases e)
    intro t ht; cases (show some 44 = some t from ht)
    refine ⟨fun _ => ?_, fun hn => absurd (hd 44 (by kernel_rfl)) hn⟩
    have h0 : ρ (.tmp 0) = .slice A b.length c := ho 0 (by kernel_rfl)
    exact Lin.Runs.value Lin.keeps (Lin.exec_move rfl) h0
  · intro ρ wq hb ho hc hd
    have hC : ∀ v, ρ (.const v) = v := fun v => hc _ (by intro t e; cases e)
    have hF : ∀ f, ρ (.func f) = .func (.func f) #[] #[] := fun f => hc _ (by intro t e; cases e)
    intro t ht; cases (show some 44 = some t from ht)
    refine ⟨fun _ => ?_, fun hn => absurd (hd 44 (by kernel_rfl)) hn⟩
    have h7 : ρ (.tmp 7) = .int .i64 (s : Int) := ho 7 (by kernel_rfl)
    exact Lin.Runs.value Lin.keeps (Lin.exec_move rfl) h7
  · intro ρ wq hb ho hc hd
    have hC : ∀ v, ρ (.const v) = v := fun v => hc _ (by intro t e; cases e)
    have hF : ∀ f, ρ (.func f) = .func (.func f) #[] #[] := fun f => hc _ (by intro t e; cases e)
    intro t ht; cases (show some 44 = some t from ht)
    refine ⟨fun _ => ?_, fun hn => absurd (hd 44 (by kernel_rfl)) hn⟩
    have h47 : ρ (.tmp 47) = .slice A b.length c := hd 47 (by kernel_rfl)
    have h48 : ρ (.tmp 48) = .int .i64 (s : Int) := hd 48 (by kernel_rfl)
    have hx := (HV.out.st HB2.out).st hb
    obtain ⟨q1, q2⟩ := hx.caps
    exact Lin.Runs.value Lin.keeps (run_sl1 _ ρ wq (.tmp 47) (.tmp 48) rfl (i := s) h47 h48 hsn q1 q2) (hx.rest hsn)
  · intro ρ wq hb ho hc hd
    have hC : ∀ v, ρ (.const v) = v := fun v => hc _ (by intro t e; cases e)
    have hF : ∀ f, ρ (.func f) = .func (.func f) #[] #[] := fun f => hc _ (by intro t e; cases e)
    intro t ht; cases (show some 44 = some t from ht)
    refine ⟨fun _ => ?_, fun hn => absurd (hd 44 (by kernel_rfl)) hn⟩
    have h49 := hd 49 (by kernel_rfl)
    exact Lin.Runs.value Lin.keeps (Lin.exec_convert rfl h49.conv) rfl
  · intro ρ wq hb ho hc hd
    have hC : ∀ v, ρ (.const v) = v := fun v => hc _ (by intro t e; cases e)
    have hF : ∀ f, ρ (.func f) = .func (.func f) #[] #[] := fun f => hc _ (by intro t e; cases e)
    intro t ht; cases (show some 44 = some t from ht)
    refine ⟨fun _ => ?_, fun hn => absurd (hd 44 (by kernel_rfl)) hn⟩
    have h46 : ρ (.tmp 46) = .string (strOfNums (b.drop s)) := hd 46 (by kernel_rfl)
    have h50 : ρ (.tmp 50) = .string (strOfNums (b.drop s)) := hd 50 (by kernel_rfl)
    exact Lin.Runs.value Lin.keeps (v := .bool false) (by simp [execOp, go_sem, h46, h50]) rfl
  · intro ρ wq hb ho hc hd
    have hC : ∀ v, ρ (.const v) = v := fun v => hc _ (by intro t e; cases e)
    have hF : ∀ f, ρ (.func f) = .func (.func f) #[] #[] := fun f => hc _ (by intro t e; cases e)
    intro t ht; cases (show some 41 = some t from ht)
    refine ⟨fun _ => ?_, fun hn => absurd (hd 41 (by kernel_rfl)) hn⟩
    have h44 : ρ (.tmp 44) = .bool true := hd 44 (by kernel_rfl)
    have h51 : ρ (.tmp 51) = .bool false := hd 51 (by kernel_rfl)
    exact Lin.Runs.value Lin.keeps (v := .bool false) (by simp [execOp, go_sem, hC, h44, h51]) rfl
  · intro ρ wq hb ho hc hd
    have hC : ∀ v, ρ (.const v) = v := fun v => hc _ (by intro t e; cases e)
    have hF : ∀ f, ρ (.func f) = .func (.func f) #[] #[] := fun f => hc _ (by intro t e; cases e)
    have h41 : ρ (.tmp 41) = .bool false := hd 41 (by kernel_rfl)
    have h52 : ρ (.tmp 52) = .bool false := hd 52 (by kernel_rfl)
    exact Lin.Runs.value Lin.keeps (v := .bool false) (by simp [execOp, go_sem, hC, h41, h52]) rfl
  · intro ρ wq hb ho hc hd
    have hC : ∀ v, ρ (.const v) = v := fun v => hc _ (by intro t e; cases e)
    have hF : ∀ f, ρ (.func f) = .func (.func f) #[] #[] := fun f => hc _ (by intro t e; cases e)
    have h53 : ρ (.tmp 53) = .bool false := hd 53 (by kernel_rfl)
    exact Lin.Runs.value Lin.keeps (Lin.exec_move rfl) h53
  · intro ρ wq hb ho hc hd
    have hC : ∀ v, ρ (.const v) = v := fun v => hc _ (by intro t e; cases e)
    have hF : ∀ f, ρ (.func f) = .func (.func f) #[] #[] := fun f => hc _ (by intro t e; cases e)
    intro t ht; cases (show some 54 = some t from ht)
    refine ⟨fun _ => ?_, fun hn => absurd (hd 54 (by kernel_rfl)) hn⟩
    have h7 : ρ (.tmp 7) = .int .i64 (s : Int) := ho 7 (by kernel_rfl)
    exact Lin.Runs.value Lin.keeps (Lin.exec_move rfl) h7
  · intro ρ wq hb ho hc hd
    have hC : ∀ v, ρ (.const v) = v := fun v => hc _ (by intro t e; cases e)
    have hF : ∀ f, ρ (.func f) = .func (.func f) #[] #[] := fun f => hc _ (by intro t e; cases e)
    intro t ht; cases (show some 54 = some t from ht)
    refine ⟨fun _ => ?_, fun hn => absurd (hd 54 (by kernel_rfl)) hn⟩
    have h55 : ρ (.tmp 55) = .int .i64 (s : Int) := hd 55 (by kernel_rfl)
    exact Lin.Runs.value Lin.keeps (v := .bool false) (by simp [execOp, go_sem, hC, h55, hs0, hs0n]) rfl
  · intro ρ wq hb ho hc hd
    have hC : ∀ v, ρ (.const v) = v := fun v => hc _ (by intro t e; cases e)
    have hF : ∀ f, ρ (.func f) = .func (.func f) #[] #[] := fun f => hc _ (by intro t e; cases e)
    intro t ht; cases (show some 54 = some t from ht)
    refine ⟨fun _ => ?_, fun hn => absurd (hd 54 (by kernel_rfl)) hn⟩
    have h56 : ρ (.tmp 56) = .bool false := hd 56 (by kernel_rfl)
    exact Lin.Runs.value Lin.keeps (Lin.exec_move rfl) h56
  · intro ρ wq hb ho hc hd
    have hC : ∀ v, ρ (.const v) = v := fun v => hc _ (by intro t e; cases e)
    have hF : ∀ f, ρ (.func f) = .func (.func f) #[] #[] := fun f => hc _ (by intro t e; cases e)
    intro t ht; cases (show some 57 = some t from ht)
    exact ⟨fun he => absurd (he.symm.trans (hd 57 (by kernel_rfl))) (by first | simp | (intro h; cases h)), fun _ => rfl⟩
  · intro ρ wq hb ho hc hd
    have hC : ∀ v, ρ (.const v) = v := fun v => hc _ (by intro t e; cases e)
    have hF : ∀ f, ρ (.func f) = .func (.func f) #[] #[] := fun f => hc _ (by intro t e; cases e)
    intro t ht; cases (show some 57 = some t from ht)
    exact ⟨fun he => absurd (he.symm.trans (hd 57 (by kernel_rfl))) (by first | simp | (intro h; cases h)), fun _ => rfl⟩
  · intro ρ wq hb ho hc hd
    have hC : ∀ v, ρ (.const v) = v := fun v => hc _ (by intro t e; cases e)
    have hF : ∀ f, ρ (.func f) = .func (.func f) #[] #[] := fun f => hc _ (by intro t e; cases e)
    intro t ht; cases (show some 57 = some t from ht)
    exact ⟨fun he => absurd (he.symm.trans (hd 57 (by kernel_rfl))) (by first | simp | (intro h; cases h)), fun _ => rfl⟩
  · intro ρ wq hb ho hc hd
    have hC : ∀ v, ρ (.const v) = v := fun v => hc _ (by intro t e; cases e)
    have hF : ∀ f, ρ (.func f) = .func (.func f) #[] #[] := fun f => hc _ (by intro t e; cases e)
    intro t ht; cases (show some 60 = some t from ht)
    exact ⟨fun he => absurd (he.symm.trans (hd 60 (by kernel_rfl))) (by first | simp | (intro h; cases h)), fun _ => rfl⟩
  · intro ρ wq hb ho hc hd
    have hC : ∀ v, ρ (.const v) = v := fun v => hc _ (by intro t e; cases e)
    have hF : ∀ f, ρ (.func f) = .func (.func f) #[] #[] := fun f => hc _ (by intro t e; cases e)
    intro t ht; cases (show some 60 = some t from ht)
    exact ⟨fun he => absurd (he.symm.trans (hd 60 (by kernel_rfl))) (by first | simp | (intro h; cases h)), fun _ => rfl⟩
  · intro ρ wq hb ho hc hd
    have hC : ∀ v, ρ (.const v) = v := fun v => hc _ (by intro t e; cases e)
    have hF : ∀ f, ρ (.func f) = .func (.func f) #[] #[] := fun f => hc _ (by intro t e; cases e)
    intro t ht; cases (show some 60 = some t from ht)
    exact ⟨fun he => absurd (he.symm.trans (hd 60 (by kernel_rfl))) (by first | simp | (intro h; cases h)), fun _ => rfl⟩
  · intro ρ wq hb ho hc hd
    have hC : ∀ v, ρ (.const v) = v := fun v => hc _ (by intro t e; cases e)
    have hF : ∀ f, ρ (.func f) = .func (.func f) #[] #[] := fun f => hc _ (by intro t e; cases e)
    intro t ht; cases (show some 57 = some t from ht)
    exact ⟨fun he => absurd (he.symm.trans (hd 57 (by kernel_rfl))) (by first | simp | (intro h; cases h)), fun _ => rfl⟩
  · intro ρ wq hb ho hc hd
    have hC : ∀ v, ρ (.const v) = v := fun v => hc _ (by intro t e; cases e)
    have hF : ∀ f, ρ (.func f) = .func (.func f) #[] #[] := fun f => hc _ (by intro t e; cases e)
    intro t ht; cases (show some 54 = some t from ht)
    refine ⟨fun _ => ?_, fun hn => absurd (hd 54 (by kernel_rfl)) hn⟩
    have h57 : ρ (.tmp 57) = .bool false := hd 57 (by kernel_rfl)
    have h64 : ρ (.tmp 64) = undef := hd 64 (by kernel_rfl)
    exact Lin.Runs.value Lin.keeps (v := .bool false) (by simp [execOp, go_sem, hC, h57, h64]) rfl
  · intro ρ wq hb ho hc hd
    have hC : ∀ v, ρ (.const v) = v := fun v => hc _ (by intro t e; cases e)
    have hF : ∀ f, ρ (.func f) = .func (.func f) #[] #[] := fun f => hc _ (by intro t e; cases e)
    have h54 : ρ (.tmp 54) = .bool false := hd 54 (by kernel_rfl)
    have h65 : ρ (.tmp 65) = .bool false := hd 65 (by kernel_rfl)
    exact Lin.Runs.value Lin.keeps (v := .bool false) (by simp [execOp, go_sem, hC, h54, h65]) rfl
  · intro vals w5 hb2 hv
    have e66 := hv 66 (by kernel_rfl)
    have HB5 := Lib.hid (HB2.out.trans (hb2.mono HB2.out.size))
    clear hv hb2
    simp only [Lin.putAll, Option.getD_some]
    rw [show vals 66 = .bool false from e66]
    go_simp
    generalize vals = vv
    go_wp2_with fail
    refine (vall b A c _ (HV.out.st HB5.out) HO.out (by omega)).mono ?_
    rintro e w6 ⟨j0, p0, xs0, hat, hz, hb, ⟨hp, A8, c8, rfl, hu⟩ | ⟨hp, rfl⟩⟩
    · have HV6 := hide ((HV.out.st HB5.out).st hb); have HB6 := Lib.hid (HB5.out.trans (hb.mono HB5.out.size)); have HAT0 := Lib.hid hat; have HZ0 := Lib.hid hz; have HP0 := Lib.hid hp; have HU8 := Lib.hid (OwnU.more hu HB5.out.size)
      clear hat hz hb hp hu HV HB2 HB5
      go_wp2_with fail
      go_loopw [0, 10, 11, 12] (fun v0 v10 v11 v12 wr => WRel w6 b v0 v10 v11 v12 wr) (fun _ _ _ v12 _ => (2000 - intOf v12).toNat)
      case atStart => exact .inl ⟨0, 0, [], A, b.length, c, none, 0, At.start b, rfl, rfl, rfl, rfl, by omega, by rw [List.drop_zero]; exact HV6.out, OwnU.nil _ _, Below.refl _ _⟩
      case round =>
        rename_i wr
        rcases hrel with ⟨j, p, xs, A0, n, c0, A10, c10, hat, rfl, rfl, rfl, rfl, hpn, hi, hu, hb⟩ | ⟨j, p, xs, A0, n, c0, i, hat, hz, hpl, rfl, rfl, rfl, hn9, hi9, hb⟩
        · obtain ⟨le1, le2⟩ := hat.le
          by_cases h0 : n = 0
          · subst h0
            have hv := vsz_empty (l := b.drop p) (by obtain ⟨_, _, _, e, _⟩ := hi; exact e)
            obtain ⟨rfl, rfl, rfl⟩ := hat.same hv HAT0.out HZ0.out
            have HXL := Lib.hid hat.len
            have HJB := Lib.hid (show j ≤ 500 from by omega)
            have HU10 := Lib.hid hu; have HB10 := Lib.hid hb
            clear hat hv hi hu hb hpn le1
            by_cases hj5 : j < 500
            · have hj5' : (j : Int) < 500 := by omega
              go_wp2_with fail
              have HW := Lib.hid HB10.out.size
              have HUL := Lib.hid HU10.out
              have HU88 := Lib.hid (HU8.out.below HB10.out)
              obtain ⟨WX, hWX⟩ : ∃ X, X = wr := ⟨_, rfl⟩
              go_loopw [15] (fun v wy => KRel wr j v wy) (fun v _ => (j - intOf v).toNat)
              case atStart => exact ⟨0, Nat.zero_le _, rfl, Below.refl _ _⟩
              case round =>
                rename_i wl
                obtain ⟨i, hi, rfl, hbl⟩ := hrel
                have HBL := Lib.hid hbl
                clear hbl
                by_cases hij : i < j
                · obtain ⟨g8, rfl, hg8, dc8⟩ := HU88.out.cells (by rw [HXL.out]; exact Nat.lt_of_le_of_lt (Nat.zero_le _) hij)
                  obtain ⟨g10, rfl, hg10, dc10⟩ := HUL.out.cells (by rw [HXL.out]; exact Nat.lt_of_le_of_lt (Nat.zero_le _) hij)
                  have d8 := (HBL.out.cell (p := ⟨g8, i, none⟩) hg8).trans (dc8 i (by rw [HXL.out]; exact hij))
                  have d10 := (HBL.out.cell (p := ⟨g10, i, none⟩) hg10).trans (dc10 i (by rw [HXL.out]; exact hij))
                  have hg8 := Nat.lt_of_lt_of_le hg8 HBL.out.size
                  have hg10 := Nat.lt_of_lt_of_le hg10 HBL.out.size
                  generalize at0 xs i = z at *
                  have hge : ¬ (j : Int) ≤ (i : Int) := by omega
                  have ijz : (i : Int) < (j : Int) := by omega
                  have ij := hij
                  have i9 : (i : Int) < 500 := by have := HJB.out; omega
                  have i0 : (0 : Int) ≤ (i : Int) := by omega
                  clear dc8 dc10
                  go_wp2_with fail
                  refine Lin.wp_region_lin Lin.keeps (n := 143)  (fun slotq => match slotq with | 116 => Lin.Spec.val (.int .i64 (i : Int)) | 117 => Lin.Spec.val (.slice (some ⟨g8, 0, none⟩) j c8) | 118 => Lin.Spec.val (.int .i64 (j : Int)) | 119 => Lin.Spec.val (.bool false) | 120 => Lin.Spec.val (.bool false) | 121 => Lin.Spec.val (.slice (some ⟨g8, 0, none⟩) j c8) | 122 => Lin.Spec.val (.int .i64 (i : Int)) | 123 => Lin.Spec.val (.pointer (some ⟨g8, 0 + i, none⟩)) | 124 => Lin.Spec.val (.int .u64 z) | 125 => Lin.Spec.val (.slice (some ⟨g10, 0, none⟩) j c10) | 126 => Lin.Spec.val (.int .i64 (i : Int)) | 127 => Lin.Spec.val (.pointer (some ⟨g10, 0 + i, none⟩)) | 128 => Lin.Spec.val (.int .u64 z) | 129 => Lin.Spec.val (.bool false) | 130 => Lin.Spec.val (.bool false) | _ => Lin.Spec.any) (by kernel_rfl) rfl (by kernel_rfl) ⟨?_, ?_, ?_, ?_, ?_, ?_, ?_, ?_, ?_, ?_, ?_, ?_, ?_, ?_, ?_, trivial⟩ ?_
                  · intro ρ wq hb ho hc hd
                    have hC : ∀ v, ρ (.const v) = v := fun v => hc _ (by intro t e; cases e)
                    have hF : ∀ f, ρ (.func f) = .func (.func f) #[] #[] := fun f => hc _ (by intro t e; cases e)
                    have h15 : ρ (.tmp 15) = .int .i64 (i : Int) := ho 15 (by kernel_rfl)
                    exact Lin.Runs.value Lin.keeps (Lin.exec_move rfl) h15
                  · intro ρ wq hb ho hc hd
                    have hC : ∀ v, ρ (.const v) = v := fun v => hc _ (by intro t e; cases e)
                    have hF : ∀ f, ρ (.func f) = .func (.func f) #[] #[] := fun f => hc _ (by intro t e; cases e)
                    have h8 : ρ (.tmp 8) = .slice (some ⟨g8, 0, none⟩) j c8 := ho 8 (by kernel_rfl)
                    exact Lin.Runs.value Lin.keeps (Lin.exec_move rfl) h8
                  · intro ρ wq hb ho hc hd
                    have hC : ∀ v, ρ (.const v) = v := fun v => hc _ (by intro t e; cases e)
                    have hF : ∀ f, ρ (.func f) = .func (.func f) #[] #[] := fun f => hc _ (by intro t e; cases e)
                    have h117 : ρ (.tmp 117) = .slice (some ⟨g8, 0, none⟩) j c8 := hd 117 (by kernel_rfl)
                    exact Lin.Runs.value Lin.keeps (v := .int .i64 (j : Int)) (by simp [execOp, go_sem, h117]) rfl
                  · intro ρ wq hb ho hc hd
                    have hC : ∀ v, ρ (.const v) = v := fun v => hc _ (by intro t e; cases e)
                    have hF : ∀ f, ρ (.func f) = .func (.func f) #[] #[] := fun f => hc _ (by intro t e; cases e)
                    have h116 : ρ (.tmp 116) = .int .i64 (i : Int) := hd 116 (by kernel_rfl)
                    have h118 : ρ (.tmp 118) = .int .i64 (j : Int) := hd 118 (by kernel_rfl)
                    exact Lin.Runs.value Lin.keeps (v := .bool false) (by simp [execOp, go_sem, h116, h118, hge, ij]) rfl
                  · intro ρ wq hb ho hc hd
                    have hC : ∀ v, ρ (.const v) = v := fun v => hc _ (by intro t e; cases e)
                    have hF : ∀ f, ρ (.func f) = .func (.func f) #[] #[] := fun f => hc _ (by intro t e; cases e)
                    have h119 : ρ (.tmp 119) = .bool false := hd 119 (by kernel_rfl)
                    exact Lin.Runs.value Lin.keeps (Lin.exec_move rfl) h119
                  · intro ρ wq hb ho hc hd
                    have hC : ∀ v, ρ (.const v) = v := fun v => hc _ (by intro t e; cases e)
                    have hF : ∀ f, ρ (.func f) = .func (.func f) #[] #[] := fun f => hc _ (by intro t e; cases e)
                    intro t ht; cases (show some 120 = some t from ht)
                    refine ⟨fun _ => ?_, fun hn => absurd (hd 120 (by kernel_rfl)) hn⟩
                    have h8 : ρ (.tmp 8) = .slice (some ⟨g8, 0, none⟩) j c8 := ho 8 (by kernel_rfl)
                    exact Lin.Runs.value Lin.keeps (Lin.exec_move rfl) h8
                  · intro ρ wq hb ho hc hd
                    have hC : ∀ v, ρ (.const v) = v := fun v => hc _ (by intro t e; cases e)
                    have hF : ∀ f, ρ (.func f) = .func (.func f) #[] #[] := fun f => hc _ (by intro t e; cases e)
                    intro t ht; cases (show some 120 = some t from ht)
                    refine ⟨fun _ => ?_, fun hn => absurd (hd 120 (by kernel_rfl)) hn⟩
                    have h15 : ρ (.tmp 15) = .int .i64 (i : Int) := ho 15 (by kernel_rfl)
                    exact Lin.Runs.value Lin.keeps (Lin.exec_move rfl) h15
                  · intro ρ wq hb ho hc hd
                    have hC : ∀ v, ρ (.const v) = v := fun v => hc _ (by intro t e; cases e)
                    have hF : ∀ f, ρ (.func f) = .func (.func f) #[] #[] := fun f => hc _ (by intro t e; cases e)
                    intro t ht; cases (show some 120 = some t from ht)
                    refine ⟨fun _ => ?_, fun hn => absurd (hd 120 (by kernel_rfl)) hn⟩
                    have h121 : ρ (.tmp 121) = .slice (some ⟨g8, 0, none⟩) j c8 := hd 121 (by kernel_rfl)
                    have h122 : ρ (.tmp 122) = .int .i64 (i : Int) := hd 122 (by kernel_rfl)
                    exact Lin.Runs.value Lin.keeps (v := .pointer (some ⟨g8, 0 + i, none⟩)) (by simp [execOp, go_sem, h121, h122, i0, ij, addr_add]) rfl
                  · intro ρ wq hb ho hc hd
                    have hC : ∀ v, ρ (.const v) = v := fun v => hc _ (by intro t e; cases e)
                    have hF : ∀ f, ρ (.func f) = .func (.func f) #[] #[] := fun f => hc _ (by intro t e; cases e)
                    intro t ht; cases (show some 120 = some t from ht)
                    refine ⟨fun _ => ?_, fun hn => absurd (hd 120 (by kernel_rfl)) hn⟩
                    have h123 : ρ (.tmp 123) = .pointer (some ⟨g8, 0 + i, none⟩) := hd 123 (by kernel_rfl)
                    have dd := (hb.cell (p := ⟨g8, i, none⟩) hg8).trans d8
                    exact Lin.Runs.value Lin.keeps (v := .int .u64 z) (by simp [execOp, go_sem, h123, dd]) rfl
                  · intro ρ wq hb ho hc hd
                    have hC : ∀ v, ρ (.const v) = v := fun v => hc _ (by intro t e; cases e)
                    have hF : ∀ f, ρ (.func f) = .func (.func f) #[] #[] := fun f => hc _ (by intro t e; cases e)
                    intro t ht; cases (show some 120 = some t from ht)
                    refine ⟨fun _ => ?_, fun hn => absurd (hd 120 (by kernel_rfl)) hn⟩
                    have h10 : ρ (.tmp 10) = .slice (some ⟨g10, 0, none⟩) j c10 := ho 10 (by kernel_rfl)
                    exact Lin.Runs.value Lin.keeps (Lin.exec_move rfl) h10
                  · intro ρ wq hb ho hc hd
                    have hC : ∀ v, ρ (.const v) = v := fun v => hc _ (by intro t e; cases e)
                    have hF : ∀ f, ρ (.func f) = .func (.func f) #[] #[] := fun f => hc _ (by intro t e; cases e)
                    intro t ht; cases (show some 120 = some t from ht)
                    refine ⟨fun _ => ?_, fun hn => absurd (hd 120 (by kernel_rfl)) hn⟩
                    have h15 : ρ (.tmp 15) = .int .i64 (i : Int) := ho 15 (by kernel_rfl)
                    exact Lin.Runs.value Lin.keeps (Lin.exec_move rfl) h15
                  · intro ρ wq hb ho hc hd
                    have hC : ∀ v, ρ (.const v) = v := fun v => hc _ (by intro t e; cases e)
                    have hF : ∀ f, ρ (.func f) = .func (.func f) #[] #[] := fun f => hc _ (by intro t e; cases e)
                    intro t ht; cases (show some 120 = some t from ht)
                    refine ⟨fun _ => ?_, fun hn => absurd (hd 120 (by kernel_rfl)) hn⟩
                    have h125 : ρ (.tmp 125) = .slice (some ⟨g10, 0, none⟩) j c10 := hd 125 (by kernel_rfl)
                    have h126 : ρ (.tmp 126) = .int .i64 (i : Int) := hd 126 (by kernel_rfl)
                    exact Lin.Runs.value Lin.keeps (v := .pointer (some ⟨g10, 0 + i, none⟩)) (by simp [execOp, go_sem, h125, h126, i0, ij, addr_add]) rfl
                  · intro ρ wq hb ho hc hd
                    have hC : ∀ v, ρ (.const v) = v := fun v => hc _ (by intro t e; cases e)
                    have hF : ∀ f, ρ (.func f) = .func (.func f) #[] #[] := fun f => hc _ (by intro t e; cases e)
                    intro t ht; cases (show some 120 = some t from ht)
                    refine ⟨fun _ => ?_, fun hn => absurd (hd 120 (by kernel_rfl)) hn⟩
                    have h127 : ρ (.tmp 127) = .pointer (some ⟨g10, 0 + i, none⟩) := hd 127 (by kernel_rfl)
                    have dd := (hb.cell (p := ⟨g10, i, none⟩) hg10).trans d10
                    exact Lin.Runs.value Lin.keeps (v := .int .u64 z) (by simp [execOp, go_sem, h127, dd]) rfl
                  · intro ρ wq hb ho hc hd
                    have hC : ∀ v, ρ (.const v) = v := fun v => hc _ (by intro t e; cases e)
                    have hF : ∀ f, ρ (.func f) = .func (.func f) #[] #[] := fun f => hc _ (by intro t e; cases e)
                    intro t ht; cases (show some 120 = some t from ht)
                    refine ⟨fun _ => ?_, fun hn => absurd (hd 120 (by kernel_rfl)) hn⟩
                    have h124 : ρ (.tmp 124) = .int .u64 z := hd 124 (by kernel_rfl)
                    have h128 : ρ (.tmp 128) = .int .u64 z := hd 128 (by kernel_rfl)
                    exact Lin.Runs.value Lin.keeps (v := .bool false) (by simp [execOp, go_sem, h124, h128]) rfl
                  · intro ρ wq hb ho hc hd
                    have hC : ∀ v, ρ (.const v) = v := fun v => hc _ (by intro t e; cases e)
                    have hF : ∀ f, ρ (.func f) = .func (.func f) #[] #[] := fun f => hc _ (by intro t e; cases e)
                    have h120 : ρ (.tmp 120) = .bool false := hd 120 (by kernel_rfl)
                    have h129 : ρ (.tmp 129) = .bool false := hd 129 (by kernel_rfl)
                    exact Lin.Runs.value Lin.keeps (v := .bool false) (by simp [execOp, go_sem, hC, h120, h129]) rfl
                  · intro vals w8 hb2 hv
                    have e130 := hv 130 (by kernel_rfl)
                    have HB8 := Lib.hid (HBL.out.trans (hb2.mono HBL.out.size))
                    clear hv hb2
                    simp only [Lin.putAll, Option.getD_some]
                    rw [show vals 130 = .bool false from e130]
                    go_simp
                    generalize vals = vv
                    go_wp2_with fail
                    go_roundw
                    case rel => exact ⟨i + 1, by omega, by go_num, HB8.out⟩
                    case measure => simp [intOf]; omega
    
                · obtain rfl : i = j := by omega
                  clear hij hi
                  go_wp2_with fail
                  refine (awake39 _).mono ?_
                  rintro e w9 ⟨rfl, rfl⟩
                  go_wp2_with fail
                  go_ret
                  exact ⟨rfl, (HB6.out.trans (HB10.out.mono HB6.out.size)).trans (HBL.out.mono (Nat.le_trans HB6.out.size HB10.out.size))⟩
            · have hj5' : ¬ (j : Int) < 500 := by omega
              go_wp2_with fail
              have HW := Lib.hid HB10.out.size
              have HUL := Lib.hid HU10.out
              have HU88 := Lib.hid (HU8.out.below HB10.out)
              obtain ⟨WX, hWX⟩ : ∃ X, X = wr := ⟨_, rfl⟩
              go_loopw [15] (fun v wy => KRel wr j v wy) (fun v _ => (j - intOf v).toNat)
              case atStart => exact ⟨0, Nat.zero_le _, rfl, Below.refl _ _⟩
              case round =>
                rename_i wl
                obtain ⟨i, hi, rfl, hbl⟩ := hrel
                have HBL := Lib.hid hbl
                clear hbl
                by_cases hij : i < j
                · obtain ⟨g8, rfl, hg8, dc8⟩ := HU88.out.cells (by rw [HXL.out]; exact Nat.lt_of_le_of_lt (Nat.zero_le _) hij)
                  obtain ⟨g10, rfl, hg10, dc10⟩ := HUL.out.cells (by rw [HXL.out]; exact Nat.lt_of_le_of_lt (Nat.zero_le _) hij)
                  have d8 := (HBL.out.cell (p := ⟨g8, i, none⟩) hg8).trans (dc8 i (by rw [HXL.out]; exact hij))
                  have d10 := (HBL.out.cell (p := ⟨g10, i, none⟩) hg10).trans (dc10 i (by rw [HXL.out]; exact hij))
                  have hg8 := Nat.lt_of_lt_of_le hg8 HBL.out.size
                  have hg10 := Nat.lt_of_lt_of_le hg10 HBL.out.size
                  generalize at0 xs i = z at *
                  have hge : ¬ (j : Int) ≤ (i : Int) := by omega
                  have ijz : (i : Int) < (j : Int) := by omega
                  have ij := hij
                  have i9 : (i : Int) < 500 := by have := HJB.out; omega
                  have i0 : (0 : Int) ≤ (i : Int) := by omega
                  clear dc8 dc10
                  go_wp2_with fail
                  refine Lin.wp_region_lin Lin.keeps (n := 143)  (fun slotq => match slotq with | 116 => Lin.Spec.val (.int .i64 (i : Int)) | 117 => Lin.Spec.val (.slice (some ⟨g8, 0, none⟩) j c8) | 118 => Lin.Spec.val (.int .i64 (j : Int)) | 119 => Lin.Spec.val (.bool false) | 120 => Lin.Spec.val (.bool false) | 121 => Lin.Spec.val (.slice (some ⟨g8, 0, none⟩) j c8) | 122 => Lin.Spec.val (.int .i64 (i : Int)) | 123 => Lin.Spec.val (.pointer (some ⟨g8, 0 + i, none⟩)) | 124 => Lin.Spec.val (.int .u64 z) | 125 => Lin.Spec.val (.slice (some ⟨g10, 0, none⟩) j c10) | 126 => Lin.Spec.val (.int .i64 (i : Int)) | 127 => Lin.Spec.val (.pointer (some ⟨g10, 0 + i, none⟩)) | 128 => Lin.Spec.val (.int .u64 z) | 129 => Lin.Spec.val (.bool false) | 130 => Lin.Spec.val (.bool false) | _ => Lin.Spec.any) (by kernel_rfl) rfl (by kernel_rfl) ⟨?_, ?_, ?_, ?_, ?_, ?_, ?_, ?_, ?_, ?_, ?_, ?_, ?_, ?_, ?_, trivial⟩ ?_
                  · intro ρ wq hb ho hc hd
                    have hC : ∀ v, ρ (.const v) = v := fun v => hc _ (by intro t e; cases e)
                    have hF : ∀ f, ρ (.func f) = .func (.func f) #[] #[] := fun f => hc _ (by intro t e; cases e)
                    have h15 : ρ (.tmp 15) = .int .i64 (i : Int) := ho 15 (by kernel_rfl)
                    exact Lin.Runs.value Lin.keeps (Lin.exec_move rfl) h15
                  · intro ρ wq hb ho hc hd
                    have hC : ∀ v, ρ (.const v) = v := fun v => hc _ (by intro t e; cases e)
                    have hF : ∀ f, ρ (.func f) = .func (.func f) #[] #[] := fun f => hc _ (by intro t e; cases e)
                    have h8 : ρ (.tmp 8) = .slice (some ⟨g8, 0, none⟩) j c8 := ho 8 (by kernel_rfl)
                    exact Lin.Runs.value Lin.keeps (Lin.exec_move rfl) h8
                  · intro ρ wq hb ho hc hd
                    have hC : ∀ v, ρ (.const v) = v := fun v => hc _ (by intro t e; cases e)
                    have hF : ∀ f, ρ (.func f) = .func (.func f) #[] #[] := fun f => hc _ (by intro t e; cases e)
                    have h117 : ρ (.tmp 117) = .slice (some ⟨g8, 0, none⟩) j c8 := hd 117 (by kernel_rfl)
                    exact Lin.Runs.value Lin.keeps (v := .int .i64 (j : Int)) (by simp [execOp, go_sem, h117]) rfl
                  · intro ρ wq hb ho hc hd
                    have hC : ∀ v, ρ (.const v) = v := fun v => hc _ (by intro t e; cases e)
                    have hF : ∀ f, ρ (.func f) = .func (.func f) #[] #[] := fun f => hc _ (by intro t e; cases e)
                    have h116 : ρ (.tmp 116) = .int .i64 (i : Int) := hd 116 (by kernel_rfl)
                    have h118 : ρ (.tmp 118) = .int .i64 (j : Int) := hd 118 (by kernel_rfl)
                    exact Lin.Runs.value Lin.keeps (v := .bool false) (by simp [execOp, go_sem, h116, h118, hge, ij]) rfl
                  · intro ρ wq hb ho hc hd
                    have hC : ∀ v, ρ (.const v) = v := fun v => hc _ (by intro t e; cases e)
                    have hF : ∀ f, ρ (.func f) = .func (.func f) #[] #[] := fun f => hc _ (by intro t e; cases e)
                    have h119 : ρ (.tmp 119) = .bool false := hd 119 (by kernel_rfl)
                    exact Lin.Runs.value Lin.keeps (Lin.exec_move rfl) h119
                  · intro ρ wq hb ho hc hd
                    have hC : ∀ v, ρ (.const v) = v := fun v => hc _ (by intro t e; cases e)
                    have hF : ∀ f, ρ (.func f) = .func (.func f) #[] #[] := fun f => hc _ (by intro t e; cases e)
                    intro t ht; cases (show some 120 = some t from ht)
                    refine ⟨fun _ => ?_, fun hn => absurd (hd 120 (by kernel_rfl)) hn⟩
                    have h8 : ρ (.tmp 8) = .slice (some ⟨g8, 0, none⟩) j c8 := ho 8 (by kernel_rfl)
                    exact Lin.Runs.value Lin.keeps (Lin.exec_move rfl) h8
                  · intro ρ wq hb ho hc hd
                    have hC : ∀ v, ρ (.const v) = v := fun v => hc _ (by intro t e; cases e)
                    have hF : ∀ f, ρ (.func f) = .func (.func f) #[] #[] := fun f => hc _ (by intro t e; cases e)
                    intro t ht; cases (show some 120 = some t from ht)
                    refine ⟨fun _ => ?_, fun hn => absurd (hd 120 (by kernel_rfl)) hn⟩
                    have h15 : ρ (.tmp 15) = .int .i64 (i : Int) := ho 15 (by kernel_rfl)
                    exact Lin.Runs.value Lin.keeps (Lin.exec_move rfl) h15
                  · intro ρ wq hb ho hc hd
                    have hC : ∀ v, ρ (.const v) = v := fun v => hc _ (by intro t e; cases e)
                    have hF : ∀ f, ρ (.func f) = .func (.func f) #[] #[] := fun f => hc _ (by intro t e; cases e)
                    intro t ht; cases (show some 120 = some t from ht)
                    refine ⟨fun _ => ?_, fun hn => absurd (hd 120 (by kernel_rfl)) hn⟩
                    have h121 : ρ (.tmp 121) = .slice (some ⟨g8, 0, none⟩) j c8 := hd 121 (by kernel_rfl)
                    have h122 : ρ (.tmp 122) = .int .i64 (i : Int) := hd 122 (by kernel_rfl)
                    exact Lin.Runs.value Lin.keeps (v := .pointer (some ⟨g8, 0 + i, none⟩)) (by simp [execOp, go_sem, h121, h122, i0, ij, addr_add]) rfl
                  · intro ρ wq hb ho hc hd
                    have hC : ∀ v, ρ (.const v) = v := fun v => hc _ (by intro t e; cases e)
                    have hF : ∀ f, ρ (.func f) = .func (.func f) #[] #[] := fun f => hc _ (by intro t e; cases e)
                    intro t ht; cases (show some 120 = some t from ht)
                    refine ⟨fun _ => ?_, fun hn => absurd (hd 120 (by kernel_rfl)) hn⟩
                    have h123 : ρ (.tmp 123) = .pointer (some ⟨g8, 0 + i, none⟩) := hd 123 (by kernel_rfl)
                    have dd := (hb.cell (p := ⟨g8, i, none⟩) hg8).trans d8
                    exact Lin.Runs.value Lin.keeps (v := .int .u64 z) (by simp [execOp, go_sem, h123, dd]) rfl
                  · intro ρ wq hb ho hc hd
                    have hC : ∀ v, ρ (.const v) = v := fun v => hc _ (by intro t e; cases e)
                    have hF : ∀ f, ρ (.func f) = .func (.func f) #[] #[] := fun f => hc _ (by intro t e; cases e)
                    intro t ht; cases (show some 120 = some t from ht)
                    refine ⟨fun _ => ?_, fun hn => absurd (hd 120 (by kernel_rfl)) hn⟩
                    have h10 : ρ (.tmp 10) = .slice (some ⟨g10, 0, none⟩) j c10 := ho 10 (by kernel_rfl)
                    exact Lin.Runs.value Lin.keeps (Lin.exec_move rfl) h10
                  · intro ρ wq hb ho hc hd
                    have hC : ∀ v, ρ (.const v) = v := fun v => hc _ (by intro t e; cases e)
                    have hF : ∀ f, ρ (.func f) = .func (.func f) #[] #[] := fun f => hc _ (by intro t e; cases e)
                    intro t ht; cases (show some 120 = some t from ht)
                    refine ⟨fun _ => ?_, fun hn => absurd (hd 120 (by kernel_rfl)) hn⟩
                    have h15 : ρ (.tmp 15) = .int .i64 (i : Int) := ho 15 (by kernel_rfl)
                    exact Lin.Runs.value Lin.keeps (Lin.exec_move rfl) h15
                  · intro ρ wq hb ho hc hd
                    have hC : ∀ v, ρ (.const v) = v := fun v => hc _ (by intro t e; cases e)
                    have hF : ∀ f, ρ (.func f) = .func (.func f) #[] #[] := fun f => hc _ (by intro t e; cases e)
                    intro t ht; cases (show some 120 = some t from ht)
                    refine ⟨fun _ => ?_, fun hn => absurd (hd 120 (by kernel_rfl)) hn⟩
                    have h125 : ρ (.tmp 125) = .slice (some ⟨g10, 0, none⟩) j c10 := hd 125 (by kernel_rfl)
                    have h126 : ρ (.tmp 126) = .int .i64 (i : Int) := hd 126 (by kernel_rfl)
                    exact Lin.Runs.value Lin.keeps (v := .pointer (some ⟨g10, 0 + i, none⟩)) (by simp [execOp, go_sem, h125, h126, i0, ij, addr_add]) rfl
                  · intro ρ wq hb ho hc hd
                    have hC : ∀ v, ρ (.const v) = v := fun v => hc _ (by intro t e; cases e)
                    have hF : ∀ f, ρ (.func f) = .func (.func f) #[] #[] := fun f => hc _ (by intro t e; cases e)
                    intro t ht; cases (show some 120 = some t from ht)
                    refine ⟨fun _ => ?_, fun hn => absurd (hd 120 (by kernel_rfl)) hn⟩
                    have h127 : ρ (.tmp 127) = .pointer (some ⟨g10, 0 + i, none⟩) := hd 127 (by kernel_rfl)
                    have dd := (hb.cell (p := ⟨g10, i, none⟩) hg10).trans d10
                    exact Lin.Runs.value Lin.keeps (v := .int .u64 z) (by simp [execOp, go_sem, h127, dd]) rfl
                  · intro ρ wq hb ho hc hd
                    have hC : ∀ v, ρ (.const v) = v := fun v => hc _ (by intro t e; cases e)
                    have hF : ∀ f, ρ (.func f) = .func (.func f) #[] #[] := fun f => hc _ (by intro t e; cases e)
                    intro t ht; cases (show some 120 = some t from ht)
                    refine ⟨fun _ => ?_, fun hn => absurd (hd 120 (by kernel_rfl)) hn⟩
                    have h124 : ρ (.tmp 124) = .int .u64 z := hd 124 (by kernel_rfl)
                    have h128 : ρ (.tmp 128) = .int .u64 z := hd 128 (by kernel_rfl)
                    exact Lin.Runs.value Lin.keeps (v := .bool false) (by simp [execOp, go_sem, h124, h128]) rfl
                  · intro ρ wq hb ho hc hd
                    have hC : ∀ v, ρ (.const v) = v := fun v => hc _ (by intro t e; cases e)
                    have hF : ∀ f, ρ (.func f) = .func (.func f) #[] #[] := fun f => hc _ (by intro t e; cases e)
                    have h120 : ρ (.tmp 120) = .bool false := hd 120 (by kernel_rfl)
                    have h129 : ρ (.tmp 129) = .bool false := hd 129 (by kernel_rfl)
                    exact Lin.Runs.value Lin.keeps (v := .bool false) (by simp [execOp, go_sem, hC, h120, h129]) rfl
                  · intro vals w8 hb2 hv
                    have e130 := hv 130 (by kernel_rfl)
                    have HB8 := Lib.hid (HBL.out.trans (hb2.mono HBL.out.size))
                    clear hv hb2
                    simp only [Lin.putAll, Option.getD_some]
                    rw [show vals 130 = .bool false from e130]
                    go_simp
                    generalize vals = vv
                    go_wp2_with fail
                    go_roundw
                    case rel => exact ⟨i + 1, by omega, by go_num, HB8.out⟩
                    case measure => simp [intOf]; omega
    
                · obtain rfl : i = j := by omega
                  clear hij hi
                  go_wp2_with fail
                  refine (awake39 _).mono ?_
                  rintro e w9 ⟨rfl, rfl⟩
                  go_wp2_with fail
                  go_ret
                  exact ⟨rfl, (HB6.out.trans (HB10.out.mono HB6.out.size)).trans (HBL.out.mono (Nat.le_trans HB6.out.size HB10.out.size))⟩
          · have h0' : 0 < n := by omega
            have hn1 : n ≤ 1000 := by omega
            have hj5' : (j : Int) < 500 := by omega
            have hj1 : j ≤ 499 := by omega
            have hnn : (0 : Int) < (n : Int) := by omega
            have HXL := Lib.hid hat.len
            have HPL := Lib.hid (show p < b.length from by omega)
            have HF := hide (rtake (b.drop p) n _ wr (hi.st hb) (HO.out.drop p) hn1)
            have hsl := vsz_le (b.drop p)
            rw [show (b.drop p).length = n from by obtain ⟨_, _, _, e, _⟩ := hi; exact e] at hsl
            have HAT := Lib.hid hat; have HI1 := hide hi; have HU := Lib.hid hu; have HB := Lib.hid hb; have HPN := Lib.hid hpn
            have HNX := Lib.hid (fun hv0 : vsz (b.drop p) ≠ 0 => hat.next hv0)
            have HDD := Lib.hid (show (b.drop p).drop (vsz (b.drop p)) = b.drop (p + vsz (b.drop p)) from List.drop_drop)
            have HZZ := Lib.hid (show vsz (b.drop p) = 0 → vsz (b.drop p) = 0 from id)
            clear hat hi hu hb hpn le1 le2
            obtain ⟨D, hD⟩ : ∃ D, b.drop p = D := ⟨_, rfl⟩
            have HD := Lib.hid hD
            rw [hD] at HF hsl HI1 HNX HDD
            obtain ⟨s, hs⟩ : ∃ s, vsz D = s := ⟨_, rfl⟩
            have HS := Lib.hid hs
            rw [hs] at HF hsl HNX HDD
            generalize vnum D = x at *
            clear hs hD
            obtain ⟨m, hsm⟩ : ∃ m, s + m = n := ⟨n - s, by omega⟩
            have HSM := Lib.hid hsm
            have HPS := Lib.hid (show p + s + m = b.length from by have := HPN.out; omega)
            have hm9 : m ≤ 1000 := by omega
            clear hsm hsl
            by_cases hs0 : s = 0
            · subst hs0
              go_wp2_with fail
              refine (unhide HF).mono ?_
              rintro e w1 ⟨rfl, hb1⟩
              have HB1 := Lib.hid (HB.out.trans (hb1.mono HB.out.size))
              have HU1 := Lib.hid (HU.out.below hb1)
              clear hb1 HB HU
              go_wp2_with (first
                | ((with_reducible show wpList _ _ _ (⟨some 94, _, _, _, _, _⟩ :: _) _ _)
                   have hown2 := HU1.out.below ((Below.refl w1.heap.size w1).alloc (Nat.le_refl _) (.cells #[.int .u64 x] 29))
                   have hcell2 : (w1.alloc (.cells #[.int .u64 x] 29)).cell? ⟨w1.heap.size, 0, none⟩ = some (.int .u64 x) := (Is.new w1 29 #[.int .u64 x]).cell 0
                   have hbase2 : w6.heap.size ≤ (w1.alloc (.cells #[.int .u64 x] 29)).heap.size := by have := HB1.out.size; simp; omega
                   go_loud (refine app_u (.tmp 91) (.tmp 93) rfl rfl (n := j) (base := w6.heap.size) (v := .slice A10 j c10) (xs := xs) (u := x) (g0 := w1.heap.size) rfl hown2 HXL.out rfl hcell2 (by omega) hbase2 ?_)
                   clear hown2 hcell2 hbase2
                   intro A5 c5 w2 hu2 hg2
                   have hb2 : Below w6.heap.size w6 w2 := (HB1.out.alloc HB1.out.size _).grown hg2 (by have := HB1.out.size; simp; omega) (fun q hq => (World.ownsRow.lt HU1.out q hq).1)
                   have HU2 := Lib.hid hu2; have HB2 := Lib.hid hb2
                   clear hu2 hg2 hb2 HU1 HB1)
                | ((with_reducible show wpList _ _ _ (⟨some 97, _, _, _, _, _⟩ :: _) _ _)
                   refine sl_p1 _ _ rfl rfl (i := 0) (k := m) rfl rfl HI1.out HSM.out ?_
                   intro X9 d9 hX9
                   clear hX9
                   ))
              go_roundw
    
              case rel => exact .inr ⟨j, p, xs, X9, m, d9, j + 1, HAT.out, by rw [HD.out]; exact HS.out, HPL.out, rfl, rfl, by go_num, hm9, by omega, HB2.out⟩
              case measure => simp [intOf]; omega
            · have hspos : (0 : Int) < (s : Int) := by omega
              have HAT2 := Lib.hid (HNX.out hs0)
              clear HNX
              go_wp2_with fail
              refine (unhide HF).mono ?_
              rintro e w1 ⟨rfl, hb1⟩
              have HB1 := Lib.hid (HB.out.trans (hb1.mono HB.out.size))
              have HU1 := Lib.hid (HU.out.below hb1)
              clear hb1 HB HU
              go_wp2_with (first
                | ((with_reducible show wpList _ _ _ (⟨some 94, _, _, _, _, _⟩ :: _) _ _)
                   have hown2 := HU1.out.below ((Below.refl w1.heap.size w1).alloc (Nat.le_refl _) (.cells #[.int .u64 x] 29))
                   have hcell2 : (w1.alloc (.cells #[.int .u64 x] 29)).cell? ⟨w1.heap.size, 0, none⟩ = some (.int .u64 x) := (Is.new w1 29 #[.int .u64 x]).cell 0
                   have hbase2 : w6.heap.size ≤ (w1.alloc (.cells #[.int .u64 x] 29)).heap.size := by have := HB1.out.size; simp; omega
                   go_loud (refine app_u (.tmp 91) (.tmp 93) rfl rfl (n := j) (base := w6.heap.size) (v := .slice A10 j c10) (xs := xs) (u := x) (g0 := w1.heap.size) rfl hown2 HXL.out rfl hcell2 (by omega) hbase2 ?_)
                   clear hown2 hcell2 hbase2
                   intro A5 c5 w2 hu2 hg2
                   have hb2 : Below w6.heap.size w6 w2 := (HB1.out.alloc HB1.out.size _).grown hg2 (by have := HB1.out.size; simp; omega) (fun q hq => (World.ownsRow.lt HU1.out q hq).1)
                   have HU2 := Lib.hid hu2; have HB2 := Lib.hid hb2
                   clear hu2 hg2 hb2 HU1 HB1)
                | ((with_reducible show wpList _ _ _ (⟨some 97, _, _, _, _, _⟩ :: _) _ _)
                   refine sl_p1 _ _ rfl rfl (i := s) (k := m) rfl rfl HI1.out HSM.out ?_
                   intro X9 d9 hX9
                   rw [HDD.out] at hX9
                   have HX9 := hide hX9
                   clear hX9))
              go_roundw
    
              case rel => exact .inl ⟨j + 1, p + s, xs ++ [x], X9, m, d9, A5, c5, HAT2.out, rfl, rfl, by have h9 : 0 < s := Nat.pos_of_ne_zero hs0; simp [h9], by go_num, HPS.out, HX9.out, HU2.out, HB2.out⟩
              case measure => simp [intOf]; omega
        · obtain ⟨rfl, rfl, rfl⟩ := hat.same hz HAT0.out HZ0.out
          exfalso; have := HP0.out; omega
    
    · have HV6 := hide ((HV.out.st HB5.out).st hb); have HB6 := Lib.hid (HB5.out.trans (hb.mono HB5.out.size)); have HAT0 := Lib.hid hat; have HZ0 := Lib.hid hz; have HP0 := Lib.hid hp
      clear hat hz hb hp HV HB2 HB5
      go_wp2_with fail
      go_loopw [0, 10, 11, 12] (fun v0 v10 v11 v12 wr => WRel w6 b v0 v10 v11 v12 wr) (fun _ _ _ v12 _ => (2000 - intOf v12).toNat)
      case atStart => exact .inl ⟨0, 0, [], A, b.length, c, none, 0, At.start b, rfl, rfl, rfl, rfl, by omega, by rw [List.drop_zero]; exact HV6.out, OwnU.nil _ _, Below.refl _ _⟩
      case round =>
        rename_i wr
        rcases hrel with ⟨j, p, xs, A0, n, c0, A10, c10, hat, rfl, rfl, rfl, rfl, hpn, hi, hu, hb⟩ | ⟨j, p, xs, A0, n, c0, i, hat, hz, hpl, rfl, rfl, rfl, hn9, hi9, hb⟩
        · obtain ⟨le1, le2⟩ := hat.le
          by_cases h0 : n = 0
          · subst h0
            have hv := vsz_empty (l := b.drop p) (by obtain ⟨_, _, _, e, _⟩ := hi; exact e)
            obtain ⟨rfl, rfl, rfl⟩ := hat.same hv HAT0.out HZ0.out
            exfalso; have := HP0.out; omega
          · have h0' : 0 < n := by omega
            have hn1 : n ≤ 1000 := by omega
            have hj5' : (j : Int) < 500 := by omega
            have hj1 : j ≤ 499 := by omega
            have hnn : (0 : Int) < (n : Int) := by omega
            have HXL := Lib.hid hat.len
            have HPL := Lib.hid (show p < b.length from by omega)
            have HF := hide (rtake (b.drop p) n _ wr (hi.st hb) (HO.out.drop p) hn1)
            have hsl := vsz_le (b.drop p)
            rw [show (b.drop p).length = n from by obtain ⟨_, _, _, e, _⟩ := hi; exact e] at hsl
            have HAT := Lib.hid hat; have HI1 := hide hi; have HU := Lib.hid hu; have HB := Lib.hid hb; have HPN := Lib.hid hpn
            have HNX := Lib.hid (fun hv0 : vsz (b.drop p) ≠ 0 => hat.next hv0)
            have HDD := Lib.hid (show (b.drop p).drop (vsz (b.drop p)) = b.drop (p + vsz (b.drop p)) from List.drop_drop)
            have HZZ := Lib.hid (show vsz (b.drop p) = 0 → vsz (b.drop p) = 0 from id)
            clear hat hi hu hb hpn le1 le2
            obtain ⟨D, hD⟩ : ∃ D, b.drop p = D := ⟨_, rfl⟩
            have HD := Lib.hid hD
            rw [hD] at HF hsl HI1 HNX HDD
            obtain ⟨s, hs⟩ : ∃ s, vsz D = s := ⟨_, rfl⟩
            have HS := Lib.hid hs
            rw [hs] at HF hsl HNX HDD
            generalize vnum D = x at *
            clear hs hD
            obtain ⟨m, hsm⟩ : ∃ m, s + m = n := ⟨n - s, by omega⟩
            have HSM := Lib.hid hsm
            have HPS := Lib.hid (show p + s + m = b.length from by have := HPN.out; omega)
            have hm9 : m ≤ 1000 := by omega
            clear hsm hsl
            by_cases hs0 : s = 0
            · subst hs0
              go_wp2_with fail
              refine (unhide HF).mono ?_
              rintro e w1 ⟨rfl, hb1⟩
              have HB1 := Lib.hid (HB.out.trans (hb1.mono HB.out.size))
              have HU1 := Lib.hid (HU.out.below hb1)
              clear hb1 HB HU
              go_wp2_with (first
                | ((with_reducible show wpList _ _ _ (⟨some 94, _, _, _, _, _⟩ :: _) _ _)
                   have hown2 := HU1.out.below ((Below.refl w1.heap.size w1).alloc (Nat.le_refl _) (.cells #[.int .u64 x] 29))
                   have hcell2 : (w1.alloc (.cells #[.int .u64 x] 29)).cell? ⟨w1.heap.size, 0, none⟩ = some (.int .u64 x) := (Is.new w1 29 #[.int .u64 x]).cell 0
                   have hbase2 : w6.heap.size ≤ (w1.alloc (.cells #[.int .u64 x] 29)).heap.size := by have := HB1.out.size; simp; omega
                   go_loud (refine app_u (.tmp 91) (.tmp 93) rfl rfl (n := j) (base := w6.heap.size) (v := .slice A10 j c10) (xs := xs) (u := x) (g0 := w1.heap.size) rfl hown2 HXL.out rfl hcell2 (by omega) hbase2 ?_)
                   clear hown2 hcell2 hbase2
                   intro A5 c5 w2 hu2 hg2
                   have hb2 : Below w6.heap.size w6 w2 := (HB1.out.alloc HB1.out.size _).grown hg2 (by have := HB1.out.size; simp; omega) (fun q hq => (World.ownsRow.lt HU1.out q hq).1)
                   have HU2 := Lib.hid hu2; have HB2 := Lib.hid hb2
                   clear hu2 hg2 hb2 HU1 HB1)
                | ((with_reducible show wpList _ _ _ (⟨some 97, _, _, _, _, _⟩ :: _) _ _)
                   refine sl_p1 _ _ rfl rfl (i := 0) (k := m) rfl rfl HI1.out HSM.out ?_
                   intro X9 d9 hX9
                   clear hX9
                   ))
              go_roundw
    
              case rel => exact .inr ⟨j, p, xs, X9, m, d9, j + 1, HAT.out, by rw [HD.out]; exact HS.out, HPL.out, rfl, rfl, by go_num, hm9, by omega, HB2.out⟩
              case measure => simp [intOf]; omega
            · have hspos : (0 : Int) < (s : Int) := by omega
              have HAT2 := Lib.hid (HNX.out hs0)
              clear HNX
              go_wp2_with fail
              refine (unhide HF).mono ?_
              rintro e w1 ⟨rfl, hb1⟩
              have HB1 := Lib.hid (HB.out.trans (hb1.mono HB.out.size))
              have HU1 := Lib.hid (HU.out.below hb1)
              clear hb1 HB HU
              go_wp2_with (first
                | ((with_reducible show wpList _ _ _ (⟨some 94, _, _, _, _, _⟩ :: _) _ _)
                   have hown2 := HU1.out.below ((Below.refl w1.heap.size w1).alloc (Nat.le_refl _) (.cells #[.int .u64 x] 29))
                   have hcell2 : (w1.alloc (.cells #[.int .u64 x] 29)).cell? ⟨w1.heap.size, 0, none⟩ = some (.int .u64 x) := (Is.new w1 29 #[.int .u64 x]).cell 0
                   have hbase2 : w6.heap.size ≤ (w1.alloc (.cells #[.int .u64 x] 29)).heap.size := by have := HB1.out.size; simp; omega
                   go_loud (refine app_u (.tmp 91) (.tmp 93) rfl rfl (n := j) (base := w6.heap.size) (v := .slice A10 j c10) (xs := xs) (u := x) (g0 := w1.heap.size) rfl hown2 HXL.out rfl hcell2 (by omega) hbase2 ?_)
                   clear hown2 hcell2 hbase2
                   intro A5 c5 w2 hu2 hg2
                   have hb2 : Below w6.heap.size w6 w2 := (HB1.out.alloc HB1.out.size _).grown hg2 (by have := HB1.out.size; simp; omega) (fun q hq => (World.ownsRow.lt HU1.out q hq).1)
                   have HU2 := Lib.hid hu2; have HB2 := Lib.hid hb2
                   clear hu2 hg2 hb2 HU1 HB1)
                | ((with_reducible show wpList _ _ _ (⟨some 97, _, _, _, _, _⟩ :: _) _ _)
                   refine sl_p1 _ _ rfl rfl (i := s) (k := m) rfl rfl HI1.out HSM.out ?_
                   intro X9 d9 hX9
                   rw [HDD.out] at hX9
                   have HX9 := hide hX9
                   clear hX9))
              go_roundw
    
              case rel => exact .inl ⟨j + 1, p + s, xs ++ [x], X9, m, d9, A5, c5, HAT2.out, rfl, rfl, by have h9 : 0 < s := Nat.pos_of_ne_zero hs0; simp [h9], by go_num, HPS.out, HX9.out, HU2.out, HB2.out⟩
              case measure => simp [intOf]; omega
        · have HB10 := Lib.hid hb
          clear hat hz hpl hb
          by_cases hi5 : i < 500
          · have hi5' : (i : Int) < 500 := by omega
            by_cases hn0 : n = 0
            · subst hn0
              go_wp2_with fail
              refine (awake39 _).mono ?_
              rintro e w9 ⟨rfl, rfl⟩
              go_wp2_with fail
              go_ret
              exact ⟨rfl, HB6.out.trans (HB10.out.mono HB6.out.size)⟩
            · have hn0' : (0 : Int) < (n : Int) := by omega
              go_wp2_with fail
              refine (awake39 _).mono ?_
              rintro e w9 ⟨rfl, rfl⟩
              go_wp2_with fail
              go_ret
              exact ⟨rfl, HB6.out.trans (HB10.out.mono HB6.out.size)⟩
          · have hi5' : ¬ (i : Int) < 500 := by omega
            go_wp2_with fail
            refine (awake39 _).mono ?_
            rintro e w9 ⟨rfl, rfl⟩
            go_wp2_with fail
            go_ret
            exact ⟨rfl, HB6.out.trans (HB10.out.mono HB6.out.size)⟩
    
set_option maxHeartbeats 8000000 in
theorem walk_none (A : Option Addr) (c : Nat) (b : List Int) (w : World) (hv : IsB b b.length (.slice A b.length c) w) (ho : Octets b) (h5 : ¬ 500 < b.length) (hs : vsz b = 0) : Calls Try.prog 8 #[.slice A b.length c] w fun e w' => e = .returned (.bool true) ∧ Below w.heap.size w w' := by
  have h : ¬ (500 : Int) < (b.length : Int) := by omega
  have HV := hide hv; have HO := hide ho
  clear hv ho
  go_enter Try.func8, Try.ntmps8
  go_wp2_with fail
  refine (vtake_none b b.length _ _ HV.out HO.out (by omega) hs).mono ?_
  rintro e w1 ⟨rfl, hb⟩
  have HB1 := Lib.hid hb
  clear hb
  go_wp2_with fail
  refine (rtake b b.length _ _ (HV.out.st HB1.out) HO.out (by omega)).mono ?_
  rintro e w2 ⟨rfl, hb⟩
  have HB2 := Lib.hid (HB1.out.trans (hb.mono HB1.out.size))
  rw [vnum_none hs, hs]
  clear hb HB1 hs
  go_wp2_with fail
  refine Lin.wp_region_lin Lin.keeps (n := 143)  (fun slotq => match slotq with | 31 => Lin.Spec.val (.int .u64 0) | 32 => Lin.Spec.val (.int .u64 0) | 33 => Lin.Spec.val (.bool false) | 34 => Lin.Spec.val (.bool false) | 35 => Lin.Spec.val (.int .i64 20) | 36 => Lin.Spec.val (.bool false) | 37 => Lin.Spec.val (.int .i64 0) | 38 => Lin.Spec.val (.bool false) | 39 => Lin.Spec.val (.bool false) | 40 => Lin.Spec.val (.bool false) | 41 => Lin.Spec.val (.bool false) | 42 => Lin.Spec.val (.int .i64 0) | 43 => Lin.Spec.val (.bool false) | 44 => Lin.Spec.val (.bool false) | 45 => Lin.Spec.val (undef) | 46 => Lin.Spec.val (undef) | 47 => Lin.Spec.val (undef) | 48 => Lin.Spec.val (undef) | 49 => Lin.Spec.val (undef) | 50 => Lin.Spec.val (undef) | 51 => Lin.Spec.val (undef) | 52 => Lin.Spec.val (.bool false) | 53 => Lin.Spec.val (.bool false) | 54 => Lin.Spec.val (.bool false) | 55 => Lin.Spec.val (.int .i64 0) | 56 => Lin.Spec.val (.bool true) | 57 => Lin.Spec.val (.bool true) | 58 => Lin.Spec.val (.int .i64 20) | 59 => Lin.Spec.val (.bool false) | 60 => Lin.Spec.val (.bool false) | 61 => Lin.Spec.val (.slice none 0 0) | 62 => Lin.Spec.val (.int .i64 0) | 63 => Lin.Spec.val (.bool false) | 64 => Lin.Spec.val (.bool false) | 65 => Lin.Spec.val (.bool false) | 66 => Lin.Spec.val (.bool false) | _ => Lin.Spec.any) (by kernel_rfl) rfl (by kernel_rfl) ⟨?_, ?_, ?_, ?_, ?_, ?_, ?_, ?_, ?_, ?_, ?_, ?_, ?_, ?_, ?_, ?_, ?_, ?_, ?_, ?_, ?_, ?_, ?_, ?_, ?_, ?_, ?_, ?_, ?_, ?_, ?_, ?_, ?_, ?_, ?_, ?_, trivial⟩ ?_
  · intro ρ wq hb ho hc hd
    have hC : ∀ v, ρ (.const v) = v := fun v => hc _ (by intro t e; cases e)
    have hF : ∀ f, ρ (.func f) = .func (.func f) #[] #[] := fun f => hc _ (by intro t e; cases e)
    have h3 : ρ (.tmp 3) = .int .u64 0 := ho 3 (by kernel_rfl)
    exact Lin.Runs.value Lin.keeps (Lin.exec_move rfl) h3
  · intro ρ wq hb ho hc hd
    have hC : ∀ v, ρ (.const v) = v := fun v => hc _ (by intro t e; cases e)
    have hF : ∀ f, ρ (.func f) = .func (.func f) #[] #[] := fun f => hc _ (by intro t e; cases e)
    have h6 : ρ (.tmp 6) = .int .u64 0 := ho 6 (by kernel_rfl)
    exact Lin.Runs.value Lin.keeps (Lin.exec_move rfl) h6
  · intro ρ wq hb ho hc hd
    have hC : ∀ v, ρ (.const v) = v := fun v => hc _ (by intro t e; cases e)
    have hF : ∀ f, ρ (.func f) = .func (.func f) #[] #[] := fun f => hc _ (by intro t e; cases e)
    have h31 : ρ (.tmp 31) = .int .u64 0 := hd 31 (by kernel_rfl)
    have h32 : ρ (.tmp 32) = .int .u64 0 := hd 32 (by kernel_rfl)
    exact Lin.Runs.value Lin.keeps (v := .bool false) (by simp [execOp, go_sem, h31, h32]) rfl
  · intro ρ wq hb ho hc hd
    have hC : ∀ v, ρ (.const v) = v := fun v => hc _ (by intro t e; cases e)
    have hF : ∀ f, ρ (.func f) = .func (.func f) #[] #[] := fun f => hc _ (by intro t e; cases e)
    have h33 : ρ (.tmp 33) = .bool false := hd 33 (by kernel_rfl)
    exact Lin.Runs.value Lin.keeps (Lin.exec_move rfl) h33
  · intro ρ wq hb ho hc hd
    have hC : ∀ v, ρ (.const v) = v := fun v => hc _ (by intro t e; cases e)
    have hF : ∀ f, ρ (.func f) = .func (.func f) #[] #[] := fun f => hc _ (by intro t e; cases e)
    intro t ht; cases (show some 34 = some t from ht)
    refine ⟨fun _ => ?_, fun hn => absurd (hd 34 (by kernel_rfl)) hn⟩
    have h5 : ρ (.tmp 5) = .int .i64 20 := ho 5 (by kernel_rfl)
    exact Lin.Runs.value Lin.keeps (Lin.exec_move rfl) h5
  · intro ρ wq hb ho hc hd
    have hC : ∀ v, ρ (.const v) = v := fun v => hc _ (by intro t e; cases e)
    have hF : ∀ f, ρ (.func f) = .func (.func f) #[] #[] := fun f => hc _ (by intro t e; cases e)
    intro t ht; cases (show some 34 = some t from ht)
    refine ⟨fun _ => ?_, fun hn => absurd (hd 34 (by kernel_rfl)) hn⟩
    have h35 : ρ (.tmp 35) = .int .i64 20 := hd 35 (by kernel_rfl)
    exact Lin.Runs.value Lin.keeps (v := .bool false) (by simp [execOp, go_sem, hC, h35]) rfl
  · intro ρ wq hb ho hc hd
    have hC : ∀ v, ρ (.const v) = v := fun v => hc _ (by intro t e; cases e)
    have hF : ∀ f, ρ (.func f) = .func (.func f) #[] #[] := fun f => hc _ (by intro t e; cases e)
    intro t ht; cases (show some 34 = some t from ht)
    refine ⟨fun _ => ?_, fun hn => absurd (hd 34 (by kernel_rfl)) hn⟩
    have h7 : ρ (.tmp 7) = .int .i64 0 := ho 7 (by kernel_rfl)
    exact Lin.Runs.value Lin.keeps (Lin.exec_move rfl) h7
  · intro ρ wq hb ho hc hd
    have hC : ∀ v, ρ (.const v) = v := fun v => hc _ (by intro t e; cases e)
    have hF : ∀ f, ρ (.func f) = .func (.func f) #[] #[] := fun f => hc _ (by intro t e; cases e)
    intro t ht; cases (show some 34 = some t from ht)
    refine ⟨fun _ => ?_, fun hn => absurd (hd 34 (by kernel_rfl)) hn⟩
    have h37 : ρ (.tmp 37) = .int .i64 0 := hd 37 (by kernel_rfl)
    exact Lin.Runs.value Lin.keeps (v := .bool false) (by simp [execOp, go_sem, hC, h37]) rfl
  · intro ρ wq hb ho hc hd
    have hC : ∀ v, ρ (.const v) = v := fun v => hc _ (by intro t e; cases e)
    have hF : ∀ f, ρ (.func f) = .func (.func f) #[] #[] := fun f => hc _ (by intro t e; cases e)
    intro t ht; cases (show some 34 = some t from ht)
    refine ⟨fun _ => ?_, fun hn => absurd (hd 34 (by kernel_rfl)) hn⟩
    have h36 : ρ (.tmp 36) = .bool false := hd 36 (by kernel_rfl)
    have h38 : ρ (.tmp 38) = .bool false := hd 38 (by kernel_rfl)
    exact Lin.Runs.value Lin.keeps (v := .bool false) (by simp [execOp, go_sem, h36, h38]) rfl
  · intro ρ wq hb ho hc hd
    have hC : ∀ v, ρ (.const v) = v := fun v => hc _ (by intro t e; cases e)
    have hF : ∀ f, ρ (.func f) = .func (.func f) #[] #[] := fun f => hc _ (by intro t e; cases e)
    have h34 : ρ (.tmp 34) = .bool false := hd 34 (by kernel_rfl)
    have h39 : ρ (.tmp 39) = .bool false := hd 39 (by kernel_rfl)
    exact Lin.Runs.value Lin.keeps (v := .bool false) (by simp [execOp, go_sem, hC, h34, h39]) rfl
  · intro ρ wq hb ho hc hd
    have hC : ∀ v, ρ (.const v) = v := fun v => hc _ (by intro t e; cases e)
    have hF : ∀ f, ρ (.func f) = .func (.func f) #[] #[] := fun f => hc _ (by intro t e; cases e)
    have h40 : ρ (.tmp 40) = .bool false := hd 40 (by kernel_rfl)
    exact Lin.Runs.value Lin.keeps (Lin.exec_move rfl) h40
  · intro ρ wq hb ho hc hd
    have hC : ∀ v, ρ (.const v) = v := fun v => hc _ (by intro t e; cases e)
    have hF : ∀ f, ρ (.func f) = .func (.func f) #[] #[] := fun f => hc _ (by intro t e; cases e)
    intro t ht; cases (show some 41 = some t from ht)
    refine ⟨fun _ => ?_, fun hn => absurd (hd 41 (by kernel_rfl)) hn⟩
    have h7 : ρ (.tmp 7) = .int .i64 0 := ho 7 (by kernel_rfl)
    exact Lin.Runs.value Lin.keeps (Lin.exec_move rfl) h7
  · intro ρ wq hb ho hc hd
    have hC : ∀ v, ρ (.const v) = v := fun v => hc _ (by intro t e; cases e)
    have hF : ∀ f, ρ (.func f) = .func (.func f) #[] #[] := fun f => hc _ (by intro t e; cases e)
    intro t ht; cases (show some 41 = some t from ht)
    refine ⟨fun _ => ?_, fun hn => absurd (hd 41 (by kernel_rfl)) hn⟩
    have h42 : ρ (.tmp 42) = .int .i64 0 := hd 42 (by kernel_rfl)
    exact Lin.Runs.value Lin.keeps (v := .bool false) (by simp [execOp, go_sem, hC, h42]) rfl
  · intro ρ wq hb ho hc hd
    have hC : ∀ v, ρ (.const v) = v := fun v => hc _ (by intro t e; cases e)
    have hF : ∀ f, ρ (.func f) = .func (.func f) #[] #[] := fun f => hc _ (by intro t e; cases e)
    intro t ht; cases (show some 41 = some t from ht)
    refine ⟨fun _ => ?_, fun hn => absurd (hd 41 (by kernel_rfl)) hn⟩
    have h43 : ρ (.tmp 43) = .bool false := hd 43 (by kernel_rfl)
    exact Lin.Runs.value Lin.keeps (Lin.exec_move rfl) h43
  · intro ρ wq hb ho hc hd
    have hC : ∀ v, ρ (.const v) = v := fun v => hc _ (by intro t e; cases e)
    have hF : ∀ f, ρ (.func f) = .func (.func f) #[] #[] := fun f => hc _ (by intro t e; cases e)
    intro t ht; cases (show some 44 = some t from ht)
    exact ⟨fun he => absurd (he.symm.trans (hd 44 (by kernel_rfl))) (by first | simp | (intro h; cases h)), fun _ => rfl⟩
  · intro ρ wq hb ho hc hd
    have hC : ∀ v, ρ (.const v) = v := fun v => hc _ (by intro t e; cases e)
    have hF : ∀ f, ρ (.func f) = .func (.func f) #[] #[] := fun f => hc _ (by intro t e; cases e)
    intro t ht; cases (show some 44 = some t from ht)
    exact ⟨fun he => absurd (he.symm.trans (hd 44 (by kernel_rfl))) (by first | simp | (intro h; cases h)), fun _ => rfl⟩
  · intro ρ wq hb ho hc hd
    have hC : ∀ v, ρ (.const v) = v := fun v => hc _ (by intro t e; cases e)
    have hF : ∀ f, ρ (.func f) = .func (.func f) #[] #[] := fun f => hc _ (by intro t e; cases e)
    intro t ht; cases (show some 44 = some t from ht)
    exact ⟨fun he => absurd (he.symm.trans (hd 44 (by kernel_rfl))) (by first | simp | (intro h; cases h)), fun _ => rfl⟩
  · intro ρ wq hb ho hc hd
    have hC : ∀ v, ρ (.const v) = v := fun v => hc _ (by intro t e; cases e)
    have hF : ∀ f, ρ (.func f) = .func (.func f) #[] #[] := fun f => hc _ (by intro t e; cases e)
    intro t ht; cases (show some 44 = some t from ht)
    exact ⟨fun he => absurd (he.symm.trans (hd 44 (by kernel_rfl))) (by first | simp | (intro h; cases h)), fun _ => rfl⟩
  · intro ρ wq hb ho hc hd
    have hC : ∀ v, ρ (.const v) = v := fun v => hc _ (by intro t e; cases e)
    have hF : ∀ f, ρ (.func f) = .func (.func f) #[] #[] := fun f => hc _ (by intro t e; cases e)
    intro t ht; cases (show some 44 = some t from ht)
    exact ⟨fun he => absurd (he.symm.trans (hd 44 (by kernel_rfl))) (by first | simp | (intro h; cases h)), fun _ => rfl⟩
  · intro ρ wq hb ho hc hd
    have hC : ∀ v, ρ (.const v) = v := fun v => hc _ (by intro t e; cases e)
    have hF : ∀ f, ρ (.func f) = .func (.func f) #[] #[] := fun f => hc _ (by intro t e; cases e)
    intro t ht; cases (show some 44 = some t from ht)
    exact ⟨fun he => absurd (he.symm.trans (hd 44 (by kernel_rfl))) (by first | simp | (intro h; cases h)), fun _ => rfl⟩
  · intro ρ wq hb ho hc hd
    have hC : ∀ v, ρ (.const v) = v := fun v => hc _ (by intro t e; cases e)
    have hF : ∀ f, ρ (.func f) = .func (.func f) #[] #[] := fun f => hc _ (by intro t e; cases e)
    intro t ht; cases (show some 44 = some t from ht)
    exact ⟨fun he => absurd (he.symm.trans (hd 44 (by kernel_rfl))) (by first | simp | (intro h; cases h)), fun _ => rfl⟩
  · intro ρ wq hb ho hc hd
    have hC : ∀ v, ρ (.const v) = v := fun v => hc _ (by intro t e; cases e)
    have hF : ∀ f, ρ (.func f) = .func (.func f) #[] #[] := fun f => hc _ (by intro t e; cases e)
    intro t ht; cases (show some 41 = some t from ht)
    refine ⟨fun _ => ?_, fun hn => absurd (hd 41 (by kernel_rfl)) hn⟩
    have h44 : ρ (.tmp 44) = .bool false := hd 44 (by kernel_rfl)
    have h51 : ρ (.tmp 51) = undef := hd 51 (by kernel_rfl)
    exact Lin.Runs.value Lin.keeps (v := .bool false) (by simp [execOp, go_sem, hC, h44, h51]) rfl
  · intro ρ wq hb ho hc hd
    have hC : ∀ v, ρ (.const v) = v := fun v => hc _ (by intro t e; cases e)
    have hF : ∀ f, ρ (.func f) = .func (.func f) #[] #[] := fun f => hc _ (by intro t e; cases e)
    have h41 : ρ (.tmp 41) = .bool false := hd 41 (by kernel_rfl)
    have h52 : ρ (.tmp 52) = .bool false := hd 52 (by kernel_rfl)
    exact Lin.Runs.value Lin.keeps (v := .bool false) (by simp [execOp, go_sem, hC, h41, h52]) rfl
  · intro ρ wq hb ho hc hd
    have hC : ∀ v, ρ (.const v) = v := fun v => hc _ (by intro t e; cases e)
    have hF : ∀ f, ρ (.func f) = .func (.func f) #[] #[] := fun f => hc _ (by intro t e; cases e)
    have h53 : ρ (.tmp 53) = .bool false := hd 53 (by kernel_rfl)
    exact Lin.Runs.value Lin.keeps (Lin.exec_move rfl) h53
  · intro ρ wq hb ho hc hd
    have hC : ∀ v, ρ (.const v) = v := fun v => hc _ (by intro t e; cases e)
    have hF : ∀ f, ρ (.func f) = .func (.func f) #[] #[] := fun f => hc _ (by intro t e; cases e)
    intro t ht; cases (show some 54 = some t from ht)
    refine ⟨fun _ => ?_, fun hn => absurd (hd 54 (by kernel_rfl)) hn⟩
    have h7 : ρ (.tmp 7) = .int .i64 0 := ho 7 (by kernel_rfl)
    exact Lin.Runs.value Lin.keeps (Lin.exec_move rfl) h7
  · intro ρ wq hb ho hc hd
    have hC : ∀ v, ρ (.const v) = v := fun v => hc _ (by intro t e; cases e)
    have hF : ∀ f, ρ (.func f) = .func (.func f) #[] #[] := fun f => hc _ (by intro t e; cases e)
    intro t ht; cases (show some 54 = some t from ht)
    refine ⟨fun _ => ?_, fun hn => absurd (hd 54 (by kernel_rfl)) hn⟩
    have h55 : ρ (.tmp 55) = .int .i64 0 := hd 55 (by kernel_rfl)
    exact Lin.Runs.value Lin.keeps (v := .bool true) (by simp [execOp, go_sem, hC, h55]) rfl
  · intro ρ wq hb ho hc hd
    have hC : ∀ v, ρ (.const v) = v := fun v => hc _ (by intro t e; cases e)
    have hF : ∀ f, ρ (.func f) = .func (.func f) #[] #[] := fun f => hc _ (by intro t e; cases e)
    intro t ht; cases (show some 54 = some t from ht)
    refine ⟨fun _ => ?_, fun hn => absurd (hd 54 (by kernel_rfl)) hn⟩
    have h56 : ρ (.tmp 56) = .bool true := hd 56 (by kernel_rfl)
    exact Lin.Runs.value Lin.keeps (Lin.exec_move rfl) h56
  · intro ρ wq hb ho hc hd
    have hC : ∀ v, ρ (.const v) = v := fun v => hc _ (by intro t e; cases e)
    have hF : ∀ f, ρ (.func f) = .func (.func f) #[] #[] := fun f => hc _ (by intro t e; cases e)
    intro t ht; cases (show some 57 = some t from ht)
    refine ⟨fun _ => ?_, fun hn => absurd (hd 57 (by kernel_rfl)) hn⟩
    have h5 : ρ (.tmp 5) = .int .i64 20 := ho 5 (by kernel_rfl)
    exact Lin.Runs.value Lin.keeps (Lin.exec_move rfl) h5
  · intro ρ wq hb ho hc hd
    have hC : ∀ v, ρ (.const v) = v := fun v => hc _ (by intro t e; cases e)
    have hF : ∀ f, ρ (.func f) = .func (.func f) #[] #[] := fun f => hc _ (by intro t e; cases e)
    intro t ht; cases (show some 57 = some t from ht)
    refine ⟨fun _ => ?_, fun hn => absurd (hd 57 (by kernel_rfl)) hn⟩
    have h58 : ρ (.tmp 58) = .int .i64 20 := hd 58 (by kernel_rfl)
    exact Lin.Runs.value Lin.keeps (v := .bool false) (by simp [execOp, go_sem, hC, h58]) rfl
  · intro ρ wq hb ho hc hd
    have hC : ∀ v, ρ (.const v) = v := fun v => hc _ (by intro t e; cases e)
    have hF : ∀ f, ρ (.func f) = .func (.func f) #[] #[] := fun f => hc _ (by intro t e; cases e)
    intro t ht; cases (show some 57 = some t from ht)
    refine ⟨fun _ => ?_, fun hn => absurd (hd 57 (by kernel_rfl)) hn⟩
    have h59 : ρ (.tmp 59) = .bool false := hd 59 (by kernel_rfl)
    exact Lin.Runs.value Lin.keeps (Lin.exec_move rfl) h59
  · intro ρ wq hb ho hc hd
    have hC : ∀ v, ρ (.const v) = v := fun v => hc _ (by intro t e; cases e)
    have hF : ∀ f, ρ (.func f) = .func (.func f) #[] #[] := fun f => hc _ (by intro t e; cases e)
    intro t ht; cases (show some 60 = some t from ht)
    refine ⟨fun _ => ?_, fun hn => absurd (hd 60 (by kernel_rfl)) hn⟩
    have h4 : ρ (.tmp 4) = .slice none 0 0 := ho 4 (by kernel_rfl)
    exact Lin.Runs.value Lin.keeps (Lin.exec_move rfl) h4
  · intro ρ wq hb ho hc hd
    have hC : ∀ v, ρ (.const v) = v := fun v => hc _ (by intro t e; cases e)
    have hF : ∀ f, ρ (.func f) = .func (.func f) #[] #[] := fun f => hc _ (by intro t e; cases e)
    intro t ht; cases (show some 60 = some t from ht)
    refine ⟨fun _ => ?_, fun hn => absurd (hd 60 (by kernel_rfl)) hn⟩
    have h61 : ρ (.tmp 61) = .slice none 0 0 := hd 61 (by kernel_rfl)
    exact Lin.Runs.value Lin.keeps (v := .int .i64 0) (by simp [execOp, go_sem, h61]) rfl
  · intro ρ wq hb ho hc hd
    have hC : ∀ v, ρ (.const v) = v := fun v => hc _ (by intro t e; cases e)
    have hF : ∀ f, ρ (.func f) = .func (.func f) #[] #[] := fun f => hc _ (by intro t e; cases e)
    intro t ht; cases (show some 60 = some t from ht)
    refine ⟨fun _ => ?_, fun hn => absurd (hd 60 (by kernel_rfl)) hn⟩
    have h62 : ρ (.tmp 62) = .int .i64 0 := hd 62 (by kernel_rfl)
    exact Lin.Runs.value Lin.keeps (v := .bool false) (by simp [execOp, go_sem, hC, h62]) rfl
  · intro ρ wq hb ho hc hd
    have hC : ∀ v, ρ (.const v) = v := fun v => hc _ (by intro t e; cases e)
    have hF : ∀ f, ρ (.func f) = .func (.func f) #[] #[] := fun f => hc _ (by intro t e; cases e)
    intro t ht; cases (show some 57 = some t from ht)
    refine ⟨fun _ => ?_, fun hn => absurd (hd 57 (by kernel_rfl)) hn⟩
    have h60 : ρ (.tmp 60) = .bool false := hd 60 (by kernel_rfl)
    have h63 : ρ (.tmp 63) = .bool false := hd 63 (by kernel_rfl)
    exact Lin.Runs.value Lin.keeps (v := .bool false) (by simp [execOp, go_sem, hC, h60, h63]) rfl
  · intro ρ wq hb ho hc hd
    have hC : ∀ v, ρ (.const v) = v := fun v => hc _ (by intro t e; cases e)
    have hF : ∀ f, ρ (.func f) = .func (.func f) #[] #[] := fun f => hc _ (by intro t e; cases e)
    intro t ht; cases (show some 54 = some t from ht)
    refine ⟨fun _ => ?_, fun hn => absurd (hd 54 (by kernel_rfl)) hn⟩
    have h57 : ρ (.tmp 57) = .bool true := hd 57 (by kernel_rfl)
    have h64 : ρ (.tmp 64) = .bool false := hd 64 (by kernel_rfl)
    exact Lin.Runs.value Lin.keeps (v := .bool false) (by simp [execOp, go_sem, hC, h57, h64]) rfl
  · intro ρ wq hb ho hc hd
    have hC : ∀ v, ρ (.const v) = v := fun v => hc _ (by intro t e; cases e)
    have hF : ∀ f, ρ (.func f) = .func (.func f) #[] #[] := fun f => hc _ (by intro t e; cases e)
    have h54 : ρ (.tmp 54) = .bool false := hd 54 (by kernel_rfl)
    have h65 : ρ (.tmp 65) = .bool false := hd 65 (by kernel_rfl)
    exact Lin.Runs.value Lin.keeps (v := .bool false) (by simp [execOp, go_sem, hC, h54, h65]) rfl
  · intro vals w5 hb2 hv
    have e66 := hv 66 (by kernel_rfl)
    have HB5 := Lib.hid (HB2.out.trans (hb2.mono HB2.out.size))
    clear hv hb2
    simp only [Lin.putAll, Option.getD_some]
    rw [show vals 66 = .bool false from e66]
    go_simp
    generalize vals = vv
    go_wp2_with fail
    refine (vall b A c _ (HV.out.st HB5.out) HO.out (by omega)).mono ?_
    rintro e w6 ⟨j0, p0, xs0, hat, hz, hb, ⟨hp, A8, c8, rfl, hu⟩ | ⟨hp, rfl⟩⟩
    · have HV6 := hide ((HV.out.st HB5.out).st hb); have HB6 := Lib.hid (HB5.out.trans (hb.mono HB5.out.size)); have HAT0 := Lib.hid hat; have HZ0 := Lib.hid hz; have HP0 := Lib.hid hp; have HU8 := Lib.hid (OwnU.more hu HB5.out.size)
      clear hat hz hb hp hu HV HB2 HB5
      go_wp2_with fail
      go_loopw [0, 10, 11, 12] (fun v0 v10 v11 v12 wr => WRel w6 b v0 v10 v11 v12 wr) (fun _ _ _ v12 _ => (2000 - intOf v12).toNat)
      case atStart => exact .inl ⟨0, 0, [], A, b.length, c, none, 0, At.start b, rfl, rfl, rfl, rfl, by omega, by rw [List.drop_zero]; exact HV6.out, OwnU.nil _ _, Below.refl _ _⟩
      case round =>
        rename_i wr
        rcases hrel with ⟨j, p, xs, A0, n, c0, A10, c10, hat, rfl, rfl, rfl, rfl, hpn, hi, hu, hb⟩ | ⟨j, p, xs, A0, n, c0, i, hat, hz, hpl, rfl, rfl, rfl, hn9, hi9, hb⟩
        · obtain ⟨le1, le2⟩ := hat.le
          by_cases h0 : n = 0
          · subst h0
            have hv := vsz_empty (l := b.drop p) (by obtain ⟨_, _, _, e, _⟩ := hi; exact e)
            obtain ⟨rfl, rfl, rfl⟩ := hat.same hv HAT0.out HZ0.out
            have HXL := Lib.hid hat.len
            have HJB := Lib.hid (show j ≤ 500 from by omega)
            have HU10 := Lib.hid hu; have HB10 := Lib.hid hb
            clear hat hv hi hu hb hpn le1
            by_cases hj5 : j < 500
            · have hj5' : (j : Int) < 500 := by omega
              go_wp2_with fail
              have HW := Lib.hid HB10.out.size
              have HUL := Lib.hid HU10.out
              have HU88 := Lib.hid (HU8.out.below HB10.out)
              obtain ⟨WX, hWX⟩ : ∃ X, X = wr := ⟨_, rfl⟩
              go_loopw [15] (fun v wy => KRel wr j v wy) (fun v _ => (j - intOf v).toNat)
              case atStart => exact ⟨0, Nat.zero_le _, rfl, Below.refl _ _⟩
              case round =>
                rename_i wl
                obtain ⟨i, hi, rfl, hbl⟩ := hrel
                have HBL := Lib.hid hbl
                clear hbl
                by_cases hij : i < j
                · obtain ⟨g8, rfl, hg8, dc8⟩ := HU88.out.cells (by rw [HXL.out]; exact Nat.lt_of_le_of_lt (Nat.zero_le _) hij)
                  obtain ⟨g10, rfl, hg10, dc10⟩ := HUL.out.cells (by rw [HXL.out]; exact Nat.lt_of_le_of_lt (Nat.zero_le _) hij)
                  have d8 := (HBL.out.cell (p := ⟨g8, i, none⟩) hg8).trans (dc8 i (by rw [HXL.out]; exact hij))
                  have d10 := (HBL.out.cell (p := ⟨g10, i, none⟩) hg10).trans (dc10 i (by rw [HXL.out]; exact hij))
                  have hg8 := Nat.lt_of_lt_of_le hg8 HBL.out.size
                  have hg10 := Nat.lt_of_lt_of_le hg10 HBL.out.size
                  generalize at0 xs i = z at *
                  have hge : ¬ (j : Int) ≤ (i : Int) := by omega
                  have ijz : (i : Int) < (j : Int) := by omega
                  have ij := hij
                  have i9 : (i : Int) < 500 := by have := HJB.out; omega
                  have i0 : (0 : Int) ≤ (i : Int) := by omega
                  clear dc8 dc10
                  go_wp2_with fail
                  refine Lin.wp_region_lin Lin.keeps (n := 143)  (fun slotq => match slotq with | 116 => Lin.Spec.val (.int .i64 (i : Int)) | 117 => Lin.Spec.val (.slice (some ⟨g8, 0, none⟩) j c8) | 118 => Lin.Spec.val (.int .i64 (j : Int)) | 119 => Lin.Spec.val (.bool false) | 120 => Lin.Spec.val (.bool false) | 121 => Lin.Spec.val (.slice (some ⟨g8, 0, none⟩) j c8) | 122 => Lin.Spec.val (.int .i64 (i : Int)) | 123 => Lin.Spec.val (.pointer (some ⟨g8, 0 + i, none⟩)) | 124 => Lin.Spec.val (.int .u64 z) | 125 => Lin.Spec.val (.slice (some ⟨g10, 0, none⟩) j c10) | 126 => Lin.Spec.val (.int .i64 (i : Int)) | 127 => Lin.Spec.val (.pointer (some ⟨g10, 0 + i, none⟩)) | 128 => Lin.Spec.val (.int .u64 z) | 129 => Lin.Spec.val (.bool false) | 130 => Lin.Spec.val (.bool false) | _ => Lin.Spec.any) (by kernel_rfl) rfl (by kernel_rfl) ⟨?_, ?_, ?_, ?_, ?_, ?_, ?_, ?_, ?_, ?_, ?_, ?_, ?_, ?_, ?_, trivial⟩ ?_
                  · intro ρ wq hb ho hc hd
                    have hC : ∀ v, ρ (.const v) = v := fun v => hc _ (by intro t e; cases e)
                    have hF : ∀ f, ρ (.func f) = .func (.func f) #[] #[] := fun f => hc _ (by intro t e; cases e)
                    have h15 : ρ (.tmp 15) = .int .i64 (i : Int) := ho 15 (by kernel_rfl)
                    exact Lin.Runs.value Lin.keeps (Lin.exec_move rfl) h15
                  · intro ρ wq hb ho hc hd
                    have hC : ∀ v, ρ (.const v) = v := fun v => hc _ (by intro t e; cases e)
                    have hF : ∀ f, ρ (.func f) = .func (.func f) #[] #[] := fun f => hc _ (by intro t e; cases e)
                    have h8 : ρ (.tmp 8) = .slice (some ⟨g8, 0, none⟩) j c8 := ho 8 (by kernel_rfl)
                    exact Lin.Runs.value Lin.keeps (Lin.exec_move rfl) h8
                  · intro ρ wq hb ho hc hd
                    have hC : ∀ v, ρ (.const v) = v := fun v => hc _ (by intro t e; cases e)
                    have hF : ∀ f, ρ (.func f) = .func (.func f) #[] #[] := fun f => hc _ (by intro t e; cases e)
                    have h117 : ρ (.tmp 117) = .slice (some ⟨g8, 0, none⟩) j c8 := hd 117 (by kernel_rfl)
                    exact Lin.Runs.value Lin.keeps (v := .int .i64 (j : Int)) (by simp [execOp, go_sem, h117]) rfl
                  · intro ρ wq hb ho hc hd
                    have hC : ∀ v, ρ (.const v) = v := fun v => hc _ (by intro t e; cases e)
                    have hF : ∀ f, ρ (.func f) = .func (.func f) #[] #[] := fun f => hc _ (by intro t e; cases e)
                    have h116 : ρ (.tmp 116) = .int .i64 (i : Int) := hd 116 (by kernel_rfl)
                    have h118 : ρ (.tmp 118) = .int .i64 (j : Int) := hd 118 (by kernel_rfl)
                    exact Lin.Runs.value Lin.keeps (v := .bool false) (by simp [execOp, go_sem, h116, h118, hge, ij]) rfl
                  · intro ρ wq hb ho hc hd
                    have hC : ∀ v, ρ (.const v) = v := fun v => hc _ (by intro t e; cases e)
                    have hF : ∀ f, ρ (.func f) = .func (.func f) #[] #[] := fun f => hc _ (by intro t e; cases e)
                    have h119 : ρ (.tmp 119) = .bool false := hd 119 (by kernel_rfl)
                    exact Lin.Runs.value Lin.keeps (Lin.exec_move rfl) h119
                  · intro ρ wq hb ho hc hd
                    have hC : ∀ v, ρ (.const v) = v := fun v => hc _ (by intro t e; cases e)
                    have hF : ∀ f, ρ (.func f) = .func (.func f) #[] #[] := fun f => hc _ (by intro t e; cases e)
                    intro t ht; cases (show some 120 = some t from ht)
                    refine ⟨fun _ => ?_, fun hn => absurd (hd 120 (by kernel_rfl)) hn⟩
                    have h8 : ρ (.tmp 8) = .slice (some ⟨g8, 0, none⟩) j c8 := ho 8 (by kernel_rfl)
                    exact Lin.Runs.value Lin.keeps (Lin.exec_move rfl) h8
                  · intro ρ wq hb ho hc hd
                    have hC : ∀ v, ρ (.const v) = v := fun v => hc _ (by intro t e; cases e)
                    have hF : ∀ f, ρ (.func f) = .func (.func f) #[] #[] := fun f => hc _ (by intro t e; cases e)
                    intro t ht; cases (show some 120 = some t from ht)
                    refine ⟨fun _ => ?_, fun hn => absurd (hd 120 (by kernel_rfl)) hn⟩
                    have h15 : ρ (.tmp 15) = .int .i64 (i : Int) := ho 15 (by kernel_rfl)
                    exact Lin.Runs.value Lin.keeps (Lin.exec_move rfl) h15
                  · intro ρ wq hb ho hc hd
                    have hC : ∀ v, ρ (.const v) = v := fun v => hc _ (by intro t e; cases e)
                    have hF : ∀ f, ρ (.func f) = .func (.func f) #[] #[] := fun f => hc _ (by intro t e; cases e)
                    intro t ht; cases (show some 120 = some t from ht)
                    refine ⟨fun _ => ?_, fun hn => absurd (hd 120 (by kernel_rfl)) hn⟩
                    have h121 : ρ (.tmp 121) = .slice (some ⟨g8, 0, none⟩) j c8 := hd 121 (by kernel_rfl)
                    have h122 : ρ (.tmp 122) = .int .i64 (i : Int) := hd 122 (by kernel_rfl)
                    exact Lin.Runs.value Lin.keeps (v := .pointer (some ⟨g8, 0 + i, none⟩)) (by simp [execOp, go_sem, h121, h122, i0, ij, addr_add]) rfl
                  · intro ρ wq hb ho hc hd
                    have hC : ∀ v, ρ (.const v) = v := fun v => hc _ (by intro t e; cases e)
                    have hF : ∀ f, ρ (.func f) = .func (.func f) #[] #[] := fun f => hc _ (by intro t e; cases e)
                    intro t ht; cases (show some 120 = some t from ht)
                    refine ⟨fun _ => ?_, fun hn => absurd (hd 120 (by kernel_rfl)) hn⟩
                    have h123 : ρ (.tmp 123) = .pointer (some ⟨g8, 0 + i, none⟩) := hd 123 (by kernel_rfl)
                    have dd := (hb.cell (p := ⟨g8, i, none⟩) hg8).trans d8
                    exact Lin.Runs.value Lin.keeps (v := .int .u64 z) (by simp [execOp, go_sem, h123, dd]) rfl
                  · intro ρ wq hb ho hc hd
                    have hC : ∀ v, ρ (.const v) = v := fun v => hc _ (by intro t e; cases e)
                    have hF : ∀ f, ρ (.func f) = .func (.func f) #[] #[] := fun f => hc _ (by intro t e; cases e)
                    intro t ht; cases (show some 120 = some t from ht)
                    refine ⟨fun _ => ?_, fun hn => absurd (hd 120 (by kernel_rfl)) hn⟩
                    have h10 : ρ (.tmp 10) = .slice (some ⟨g10, 0, none⟩) j c10 := ho 10 (by kernel_rfl)
                    exact Lin.Runs.value Lin.keeps (Lin.exec_move rfl) h10
                  · intro ρ wq hb ho hc hd
                    have hC : ∀ v, ρ (.const v) = v := fun v => hc _ (by intro t e; cases e)
                    have hF : ∀ f, ρ (.func f) = .func (.func f) #[] #[] := fun f => hc _ (by intro t e; cases e)
                    intro t ht; cases (show some 120 = some t from ht)
                    refine ⟨fun _ => ?_, fun hn => absurd (hd 120 (by kernel_rfl)) hn⟩
                    have h15 : ρ (.tmp 15) = .int .i64 (i : Int) := ho 15 (by kernel_rfl)
                    exact Lin.Runs.value Lin.keeps (Lin.exec_move rfl) h15
                  · intro ρ wq hb ho hc hd
                    have hC : ∀ v, ρ (.const v) = v := fun v => hc _ (by intro t e; cases e)
                    have hF : ∀ f, ρ (.func f) = .func (.func f) #[] #[] := fun f => hc _ (by intro t e; cases e)
                    intro t ht; cases (show some 120 = some t from ht)
                    refine ⟨fun _ => ?_, fun hn => absurd (hd 120 (by kernel_rfl)) hn⟩
                    have h125 : ρ (.tmp 125) = .slice (some ⟨g10, 0, none⟩) j c10 := hd 125 (by kernel_rfl)
                    have h126 : ρ (.tmp 126) = .int .i64 (i : Int) := hd 126 (by kernel_rfl)
                    exact Lin.Runs.value Lin.keeps (v := .pointer (some ⟨g10, 0 + i, none⟩)) (by simp [execOp, go_sem, h125, h126, i0, ij, addr_add]) rfl
                  · intro ρ wq hb ho hc hd
                    have hC : ∀ v, ρ (.const v) = v := fun v => hc _ (by intro t e; cases e)
                    have hF : ∀ f, ρ (.func f) = .func (.func f) #[] #[] := fun f => hc _ (by intro t e; cases e)
                    intro t ht; cases (show some 120 = some t from ht)
                    refine ⟨fun _ => ?_, fun hn => absurd (hd 120 (by kernel_rfl)) hn⟩
                    have h127 : ρ (.tmp 127) = .pointer (some ⟨g10, 0 + i, none⟩) := hd 127 (by kernel_rfl)
                    have dd := (hb.cell (p := ⟨g10, i, none⟩) hg10).trans d10
                    exact Lin.Runs.value Lin.keeps (v := .int .u64 z) (by simp [execOp, go_sem, h127, dd]) rfl
                  · intro ρ wq hb ho hc hd
                    have hC : ∀ v, ρ (.const v) = v := fun v => hc _ (by intro t e; cases e)
                    have hF : ∀ f, ρ (.func f) = .func (.func f) #[] #[] := fun f => hc _ (by intro t e; cases e)
                    intro t ht; cases (show some 120 = some t from ht)
                    refine ⟨fun _ => ?_, fun hn => absurd (hd 120 (by kernel_rfl)) hn⟩
                    have h124 : ρ (.tmp 124) = .int .u64 z := hd 124 (by kernel_rfl)
                    have h128 : ρ (.tmp 128) = .int .u64 z := hd 128 (by kernel_rfl)
                    exact Lin.Runs.value Lin.keeps (v := .bool false) (by simp [execOp, go_sem, h124, h128]) rfl
                  · intro ρ wq hb ho hc hd
                    have hC : ∀ v, ρ (.const v) = v := fun v => hc _ (by intro t e; cases e)
                    have hF : ∀ f, ρ (.func f) = .func (.func f) #[] #[] := fun f => hc _ (by intro t e; cases e)
                    have h120 : ρ (.tmp 120) = .bool false := hd 120 (by kernel_rfl)
                    have h129 : ρ (.tmp 129) = .bool false := hd 129 (by kernel_rfl)
                    exact Lin.Runs.value Lin.keeps (v := .bool false) (by simp [execOp, go_sem, hC, h120, h129]) rfl
                  · intro vals w8 hb2 hv
                    have e130 := hv 130 (by kernel_rfl)
                    have HB8 := Lib.hid (HBL.out.trans (hb2.mono HBL.out.size))
                    clear hv hb2
                    simp only [Lin.putAll, Option.getD_some]
                    rw [show vals 130 = .bool false from e130]
                    go_simp
                    generalize vals = vv
                    go_wp2_with fail
                    go_roundw
                    case rel => exact ⟨i + 1, by omega, by go_num, HB8.out⟩
                    case measure => simp [intOf]; omega
    
                · obtain rfl : i = j := by omega
                  clear hij hi
                  go_wp2_with fail
                  refine (awake39 _).mono ?_
                  rintro e w9 ⟨rfl, rfl⟩
                  go_wp2_with fail
                  go_ret
                  exact ⟨rfl, (HB6.out.trans (HB10.out.mono HB6.out.size)).trans (HBL.out.mono (Nat.le_trans HB6.out.size HB10.out.size))⟩
            · have hj5' : ¬ (j : Int) < 500 := by omega
              go_wp2_with fail
              have HW := Lib.hid HB10.out.size
              have HUL := Lib.hid HU10.out
              have HU88 := Lib.hid (HU8.out.below HB10.out)
              obtain ⟨WX, hWX⟩ : ∃ X, X = wr := ⟨_, rfl⟩
              go_loopw [15] (fun v wy => KRel wr j v wy) (fun v _ => (j - intOf v).toNat)
              case atStart => exact ⟨0, Nat.zero_le _, rfl, Below.refl _ _⟩
              case round =>
                rename_i wl
                obtain ⟨i, hi, rfl, hbl⟩ := hrel
                have HBL := Lib.hid hbl
                clear hbl
                by_cases hij : i < j
                · obtain ⟨g8, rfl, hg8, dc8⟩ := HU88.out.cells (by rw [HXL.out]; exact Nat.lt_of_le_of_lt (Nat.zero_le _) hij)
                  obtain ⟨g10, rfl, hg10, dc10⟩ := HUL.out.cells (by rw [HXL.out]; exact Nat.lt_of_le_of_lt (Nat.zero_le _) hij)
                  have d8 := (HBL.out.cell (p := ⟨g8, i, none⟩) hg8).trans (dc8 i (by rw [HXL.out]; exact hij))
                  have d10 := (HBL.out.cell (p := ⟨g10, i, none⟩) hg10).trans (dc10 i (by rw [HXL.out]; exact hij))
                  have hg8 := Nat.lt_of_lt_of_le hg8 HBL.out.size
                  have hg10 := Nat.lt_of_lt_of_le hg10 HBL.out.size
                  generalize at0 xs i = z at *
                  have hge : ¬ (j : Int) ≤ (i : Int) := by omega
                  have ijz : (i : Int) < (j : Int) := by omega
                  have ij := hij
                  have i9 : (i : Int) < 500 := by have := HJB.out; omega
                  have i0 : (0 : Int) ≤ (i : Int) := by omega
                  clear dc8 dc10
                  go_wp2_with fail
                  refine Lin.wp_region_lin Lin.keeps (n := 143)  (fun slotq => match slotq with | 116 => Lin.Spec.val (.int .i64 (i : Int)) | 117 => Lin.Spec.val (.slice (some ⟨g8, 0, none⟩) j c8) | 118 => Lin.Spec.val (.int .i64 (j : Int)) | 119 => Lin.Spec.val (.bool false) | 120 => Lin.Spec.val (.bool false) | 121 => Lin.Spec.val (.slice (some ⟨g8, 0, none⟩) j c8) | 122 => Lin.Spec.val (.int .i64 (i : Int)) | 123 => Lin.Spec.val (.pointer (some ⟨g8, 0 + i, none⟩)) | 124 => Lin.Spec.val (.int .u64 z) | 125 => Lin.Spec.val (.slice (some ⟨g10, 0, none⟩) j c10) | 126 => Lin.Spec.val (.int .i64 (i : Int)) | 127 => Lin.Spec.val (.pointer (some ⟨g10, 0 + i, none⟩)) | 128 => Lin.Spec.val (.int .u64 z) | 129 => Lin.Spec.val (.bool false) | 130 => Lin.Spec.val (.bool false) | _ => Lin.Spec.any) (by kernel_rfl) rfl (by kernel_rfl) ⟨?_, ?_, ?_, ?_, ?_, ?_, ?_, ?_, ?_, ?_, ?_, ?_, ?_, ?_, ?_, trivial⟩ ?_
                  · intro ρ wq hb ho hc hd
                    have hC : ∀ v, ρ (.const v) = v := fun v => hc _ (by intro t e; cases e)
                    have hF : ∀ f, ρ (.func f) = .func (.func f) #[] #[] := fun f => hc _ (by intro t e; cases e)
                    have h15 : ρ (.tmp 15) = .int .i64 (i : Int) := ho 15 (by kernel_rfl)
                    exact Lin.Runs.value Lin.keeps (Lin.exec_move rfl) h15
                  · intro ρ wq hb ho hc hd
                    have hC : ∀ v, ρ (.const v) = v := fun v => hc _ (by intro t e; cases e)
                    have hF : ∀ f, ρ (.func f) = .func (.func f) #[] #[] := fun f => hc _ (by intro t e; cases e)
                    have h8 : ρ (.tmp 8) = .slice (some ⟨g8, 0, none⟩) j c8 := ho 8 (by kernel_rfl)
                    exact Lin.Runs.value Lin.keeps (Lin.exec_move rfl) h8
                  · intro ρ wq hb ho hc hd
                    have hC : ∀ v, ρ (.const v) = v := fun v => hc _ (by intro t e; cases e)
                    have hF : ∀ f, ρ (.func f) = .func (.func f) #[] #[] := fun f => hc _ (by intro t e; cases e)
                    have h117 : ρ (.tmp 117) = .slice (some ⟨g8, 0, none⟩) j c8 := hd 117 (by kernel_rfl)
                    exact Lin.Runs.value Lin.keeps (v := .int .i64 (j : Int)) (by simp [execOp, go_sem, h117]) rfl
                  · intro ρ wq hb ho hc hd
                    have hC : ∀ v, ρ (.const v) = v := fun v => hc _ (by intro t e; cases e)
                    have hF : ∀ f, ρ (.func f) = .func (.func f) #[] #[] := fun f => hc _ (by intro t e; cases e)
                    have h116 : ρ (.tmp 116) = .int .i64 (i : Int) := hd 116 (by kernel_rfl)
                    have h118 : ρ (.tmp 118) = .int .i64 (j : Int) := hd 118 (by kernel_rfl)
                    exact Lin.Runs.value Lin.keeps (v := .bool false) (by simp [execOp, go_sem, h116, h118, hge, ij]) rfl
                  · intro ρ wq hb ho hc hd
                    have hC : ∀ v, ρ (.const v) = v := fun v => hc _ (by intro t e; cases e)
                    have hF : ∀ f, ρ (.func f) = .func (.func f) #[] #[] := fun f => hc _ (by intro t e; cases e)
                    have h119 : ρ (.tmp 119) = .bool false := hd 119 (by kernel_rfl)
                    exact Lin.Runs.value Lin.keeps (Lin.exec_move rfl) h119
                  · intro ρ wq hb ho hc hd
                    have hC : ∀ v, ρ (.const v) = v := fun v => hc _ (by intro t e; cases e)
                    have hF : ∀ f, ρ (.func f) = .func (.func f) #[] #[] := fun f => hc _ (by intro t e; cases e)
                    intro t ht; cases (show some 120 = some t from ht)
                    refine ⟨fun _ => ?_, fun hn => absurd (hd 120 (by kernel_rfl)) hn⟩
                    have h8 : ρ (.tmp 8) = .slice (some ⟨g8, 0, none⟩) j c8 := ho 8 (by kernel_rfl)
                    exact Lin.Runs.value Lin.keeps (Lin.exec_move rfl) h8
                  · intro ρ wq hb ho hc hd
                    have hC : ∀ v, ρ (.const v) = v := fun v => hc _ (by intro t e; cases e)
                    have hF : ∀ f, ρ (.func f) = .func (.func f) #[] #[] := fun f => hc _ (by intro t e; cases e)
                    intro t ht; cases (show some 120 = some t from ht)
                    refine ⟨fun _ => ?_, fun hn => absurd (hd 120 (by kernel_rfl)) hn⟩
                    have h15 : ρ (.tmp 15) = .int .i64 (i : Int) := ho 15 (by kernel_rfl)
                    exact Lin.Runs.value Lin.keeps (Lin.exec_move rfl) h15
                  · intro ρ wq hb ho hc hd
                    have hC : ∀ v, ρ (.const v) = v := fun v => hc _ (by intro t e; cases e)
                    have hF : ∀ f, ρ (.func f) = .func (.func f) #[] #[] := fun f => hc _ (by intro t e; cases e)
                    intro t ht; cases (show some 120 = some t from ht)
                    refine ⟨fun _ => ?_, fun hn => absurd (hd 120 (by kernel_rfl)) hn⟩
                    have h121 : ρ (.tmp 121) = .slice (some ⟨g8, 0, none⟩) j c8 := hd 121 (by kernel_rfl)
                    have h122 : ρ (.tmp 122) = .int .i64 (i : Int) := hd 122 (by kernel_rfl)
                    exact Lin.Runs.value Lin.keeps (v := .pointer (some ⟨g8, 0 + i, none⟩)) (by simp [execOp, go_sem, h121, h122, i0, ij, addr_add]) rfl
                  · intro ρ wq hb ho hc hd
                    have hC : ∀ v, ρ (.const v) = v := fun v => hc _ (by intro t e; cases e)
                    have hF : ∀ f, ρ (.func f) = .func (.func f) #[] #[] := fun f => hc _ (by intro t e; cases e)
                    intro t ht; cases (show some 120 = some t from ht)
                    refine ⟨fun _ => ?_, fun hn => absurd (hd 120 (by kernel_rfl)) hn⟩
                    have h123 : ρ (.tmp 123) = .pointer (some ⟨g8, 0 + i, none⟩) := hd 123 (by kernel_rfl)
                    have dd := (hb.cell (p := ⟨g8, i, none⟩) hg8).trans d8
                    exact Lin.Runs.value Lin.keeps (v := .int .u64 z) (by simp [execOp, go_sem, h123, dd]) rfl
                  · intro ρ wq hb ho hc hd
                    have hC : ∀ v, ρ (.const v) = v := fun v => hc _ (by intro t e; cases e)
                    have hF : ∀ f, ρ (.func f) = .func (.func f) #[] #[] := fun f => hc _ (by intro t e; cases e)
                    intro t ht; cases (show some 120 = some t from ht)
                    refine ⟨fun _ => ?_, fun hn => absurd (hd 120 (by kernel_rfl)) hn⟩
                    have h10 : ρ (.tmp 10) = .slice (some ⟨g10, 0, none⟩) j c10 := ho 10 (by kernel_rfl)
                    exact Lin.Runs.value Lin.keeps (Lin.exec_move rfl) h10
                  · intro ρ wq hb ho hc hd
                    have hC : ∀ v, ρ (.const v) = v := fun v => hc _ (by intro t e; cases e)
                    have hF : ∀ f, ρ (.func f) = .func (.func f) #[] #[] := fun f => hc _ (by intro t e; cases e)
                    intro t ht; cases (show some 120 = some t from ht)
                    refine ⟨fun _ => ?_, fun hn => absurd (hd 120 (by kernel_rfl)) hn⟩
                    have h15 : ρ (.tmp 15) = .int .i64 (i : Int) := ho 15 (by kernel_rfl)
                    exact Lin.Runs.value Lin.keeps (Lin.exec_move rfl) h15
                  · intro ρ wq hb ho hc hd
                    have hC : ∀ v, ρ (.const v) = v := fun v => hc _ (by intro t e; cases e)
                    have hF : ∀ f, ρ (.func f) = .func (.func f) #[] #[] := fun f => hc _ (by intro t e; cases e)
                    intro t ht; cases (show some 120 = some t from ht)
                    refine ⟨fun _ => ?_, fun hn => absurd (hd 120 (by kernel_rfl)) hn⟩
                    have h125 : ρ (.tmp 125) = .slice (some ⟨g10, 0, none⟩) j c10 := hd 125 (by kernel_rfl)
                    have h126 : ρ (.tmp 126) = .int .i64 (i : Int) := hd 126 (by kernel_rfl)
                    exact Lin.Runs.value Lin.keeps (v := .pointer (some ⟨g10, 0 + i, none⟩)) (by simp [execOp, go_sem, h125, h126, i0, ij, addr_add]) rfl
                  · intro ρ wq hb ho hc hd
                    have hC : ∀ v, ρ (.const v) = v := fun v => hc _ (by intro t e; cases e)
                    have hF : ∀ f, ρ (.func f) = .func (.func f) #[] #[] := fun f => hc _ (by intro t e; cases e)
                    intro t ht; cases (show some 120 = some t from ht)
                    refine ⟨fun _ => ?_, fun hn => absurd (hd 120 (by kernel_rfl)) hn⟩
                    have h127 : ρ (.tmp 127) = .pointer (some ⟨g10, 0 + i, none⟩) := hd 127 (by kernel_rfl)
                    have dd := (hb.cell (p := ⟨g10, i, none⟩) hg10).trans d10
                    exact Lin.Runs.value Lin.keeps (v := .int .u64 z) (by simp [execOp, go_sem, h127, dd]) rfl
                  · intro ρ wq hb ho hc hd
                    have hC : ∀ v, ρ (.const v) = v := fun v => hc _ (by intro t e; cases e)
                    have hF : ∀ f, ρ (.func f) = .func (.func f) #[] #[] := fun f => hc _ (by intro t e; cases e)
                    intro t ht; cases (show some 120 = some t from ht)
                    refine ⟨fun _ => ?_, fun hn => absurd (hd 120 (by kernel_rfl)) hn⟩
                    have h124 : ρ (.tmp 124) = .int .u64 z := hd 124 (by kernel_rfl)
                    have h128 : ρ (.tmp 128) = .int .u64 z := hd 128 (by kernel_rfl)
                    exact Lin.Runs.value Lin.keeps (v := .bool false) (by simp [execOp, go_sem, h124, h128]) rfl
                  · intro ρ wq hb ho hc hd
                    have hC : ∀ v, ρ (.const v) = v := fun v => hc _ (by intro t e; cases e)
                    have hF : ∀ f, ρ (.func f) = .func (.func f) #[] #[] := fun f => hc _ (by intro t e; cases e)
                    have h120 : ρ (.tmp 120) = .bool false := hd 120 (by kernel_rfl)
                    have h129 : ρ (.tmp 129) = .bool false := hd 129 (by kernel_rfl)
                    exact Lin.Runs.value Lin.keeps (v := .bool false) (by simp [execOp, go_sem, hC, h120, h129]) rfl
                  · intro vals w8 hb2 hv
                    have e130 := hv 130 (by kernel_rfl)
                    have HB8 := Lib.hid (HBL.out.trans (hb2.mono HBL.out.size))
                    clear hv hb2
                    simp only [Lin.putAll, Option.getD_some]
                    rw [show vals 130 = .bool false from e130]
                    go_simp
                    generalize vals = vv
                    go_wp2_with fail
                    go_roundw
                    case rel => exact ⟨i + 1, by omega, by go_num, HB8.out⟩
                    case measure => simp [intOf]; omega
    
                · obtain rfl : i = j := by omega
                  clear hij hi
                  go_wp2_with fail
                  refine (awake39 _).mono ?_
                  rintro e w9 ⟨rfl, rfl⟩
                  go_wp2_with fail
                  go_ret
                  exact ⟨rfl, (HB6.out.trans (HB10.out.mono HB6.out.size)).trans (HBL.out.mono (Nat.le_trans HB6.out.size HB10.out.size))⟩
          · have h0' : 0 < n := by omega
            have hn1 : n ≤ 1000 := by omega
            have hj5' : (j : Int) < 500 := by omega
            have hj1 : j ≤ 499 := by omega
            have hnn : (0 : Int) < (n : Int) := by omega
            have HXL := Lib.hid hat.len
            have HPL := Lib.hid (show p < b.length from by omega)
            have HF := hide (rtake (b.drop p) n _ wr (hi.st hb) (HO.out.drop p) hn1)
            have hsl := vsz_le (b.drop p)
            rw [show (b.drop p).length = n from by obtain ⟨_, _, _, e, _⟩ := hi; exact e] at hsl
            have HAT := Lib.hid hat; have HI1 := hide hi; have HU := Lib.hid hu; have HB := Lib.hid hb; have HPN := Lib.hid hpn
            have HNX := Lib.hid (fun hv0 : vsz (b.drop p) ≠ 0 => hat.next hv0)
            have HDD := Lib.hid (show (b.drop p).drop (vsz (b.drop p)) = b.drop (p + vsz (b.drop p)) from List.drop_drop)
            have HZZ := Lib.hid (show vsz (b.drop p) = 0 → vsz (b.drop p) = 0 from id)
            clear hat hi hu hb hpn le1 le2
            obtain ⟨D, hD⟩ : ∃ D, b.drop p = D := ⟨_, rfl⟩
            have HD := Lib.hid hD
            rw [hD] at HF hsl HI1 HNX HDD
            obtain ⟨s, hs⟩ : ∃ s, vsz D = s := ⟨_, rfl⟩
            have HS := Lib.hid hs
            rw [hs] at HF hsl HNX HDD
            generalize vnum D = x at *
            clear hs hD
            obtain ⟨m, hsm⟩ : ∃ m, s + m = n := ⟨n - s, by omega⟩
            have HSM := Lib.hid hsm
            have HPS := Lib.hid (show p + s + m = b.length from by have := HPN.out; omega)
            have hm9 : m ≤ 1000 := by omega
            clear hsm hsl
            by_cases hs0 : s = 0
            · subst hs0
              go_wp2_with fail
              refine (unhide HF).mono ?_
              rintro e w1 ⟨rfl, hb1⟩
              have HB1 := Lib.hid (HB.out.trans (hb1.mono HB.out.size))
              have HU1 := Lib.hid (HU.out.below hb1)
              clear hb1 HB HU
              go_wp2_with (first
                | ((with_reducible show wpList _ _ _ (⟨some 94, _, _, _, _, _⟩ :: _) _ _)
                   have hown2 := HU1.out.below ((Below.refl w1.heap.size w1).alloc (Nat.le_refl _) (.cells #[.int .u64 x] 29))
                   have hcell2 : (w1.alloc (.cells #[.int .u64 x] 29)).cell? ⟨w1.heap.size, 0, none⟩ = some (.int .u64 x) := (Is.new w1 29 #[.int .u64 x]).cell 0
                   have hbase2 : w6.heap.size ≤ (w1.alloc (.cells #[.int .u64 x] 29)).heap.size := by have := HB1.out.size; simp; omega
                   go_loud (refine app_u (.tmp 91) (.tmp 93) rfl rfl (n := j) (base := w6.heap.size) (v := .slice A10 j c10) (xs := xs) (u := x) (g0 := w1.heap.size) rfl hown2 HXL.out rfl hcell2 (by omega) hbase2 ?_)
                   clear hown2 hcell2 hbase2
                   intro A5 c5 w2 hu2 hg2
                   have hb2 : Below w6.heap.size w6 w2 := (HB1.out.alloc HB1.out.size _).grown hg2 (by have := HB1.out.size; simp; omega) (fun q hq => (World.ownsRow.lt HU1.out q hq).1)
                   have HU2 := Lib.hid hu2; have HB2 := Lib.hid hb2
                   clear hu2 hg2 hb2 HU1 HB1)
                | ((with_reducible show wpList _ _ _ (⟨some 97, _, _, _, _, _⟩ :: _) _ _)
                   refine sl_p1 _ _ rfl rfl (i := 0) (k := m) rfl rfl HI1.out HSM.out ?_
                   intro X9 d9 hX9
                   clear hX9
                   ))
              go_roundw
    
              case rel => exact .inr ⟨j, p, xs, X9, m, d9, j + 1, HAT.out, by rw [HD.out]; exact HS.out, HPL.out, rfl, rfl, by go_num, hm9, by omega, HB2.out⟩
              case measure => simp [intOf]; omega
            · have hspos : (0 : Int) < (s : Int) := by omega
              have HAT2 := Lib.hid (HNX.out hs0)
              clear HNX
              go_wp2_with fail
              refine (unhide HF).mono ?_
              rintro e w1 ⟨rfl, hb1⟩
              have HB1 := Lib.hid (HB.out.trans (hb1.mono HB.out.size))
              have HU1 := Lib.hid (HU.out.below hb1)
              clear hb1 HB HU
              go_wp2_with (first
                | ((with_reducible show wpList _ _ _ (⟨some 94, _, _, _, _, _⟩ :: _) _ _)
                   have hown2 := HU1.out.below ((Below.refl w1.heap.size w1).alloc (Nat.le_refl _) (.cells #[.int .u64 x] 29))
                   have hcell2 : (w1.alloc (.cells #[.int .u64 x] 29)).cell? ⟨w1.heap.size, 0, none⟩ = some (.int .u64 x) := (Is.new w1 29 #[.int .u64 x]).cell 0
                   have hbase2 : w6.heap.size ≤ (w1.alloc (.cells #[.int .u64 x] 29)).heap.size := by have := HB1.out.size; simp; omega
                   go_loud (refine app_u (.tmp 91) (.tmp 93) rfl rfl (n := j) (base := w6.heap.size) (v := .slice A10 j c10) (xs := xs) (u := x) (g0 := w1.heap.size) rfl hown2 HXL.out rfl hcell2 (by omega) hbase2 ?_)
                   clear hown2 hcell2 hbase2
                   intro A5 c5 w2 hu2 hg2
                   have hb2 : Below w6.heap.size w6 w2 := (HB1.out.alloc HB1.out.size _).grown hg2 (by have := HB1.out.size; simp; omega) (fun q hq => (World.ownsRow.lt HU1.out q hq).1)
                   have HU2 := Lib.hid hu2; have HB2 := Lib.hid hb2
                   clear hu2 hg2 hb2 HU1 HB1)
                | ((with_reducible show wpList _ _ _ (⟨some 97, _, _, _, _, _⟩ :: _) _ _)
                   refine sl_p1 _ _ rfl rfl (i := s) (k := m) rfl rfl HI1.out HSM.out ?_
                   intro X9 d9 hX9
                   rw [HDD.out] at hX9
                   have HX9 := hide hX9
                   clear hX9))
              go_roundw
    
              case rel => exact .inl ⟨j + 1, p + s, xs ++ [x], X9, m, d9, A5, c5, HAT2.out, rfl, rfl, by have h9 : 0 < s := Nat.pos_of_ne_zero hs0; simp [h9], by go_num, HPS.out, HX9.out, HU2.out, HB2.out⟩
              case measure => simp [intOf]; omega
        · obtain ⟨rfl, rfl, rfl⟩ := hat.same hz HAT0.out HZ0.out
          exfalso; have := HP0.out; omega
    
    · have HV6 := hide ((HV.out.st HB5.out).st hb); have HB6 := Lib.hid (HB5.out.trans (hb.mono HB5.out.size)); have HAT0 := Lib.hid hat; have HZ0 := Lib.hid hz; have HP0 := Lib.hid hp
      clear hat hz hb hp HV HB2 HB5
      go_wp2_with fail
      go_loopw [0, 10, 11, 12] (fun v0 v10 v11 v12 wr => WRel w6 b v0 v10 v11 v12 wr) (fun _ _ _ v12 _ => (2000 - intOf v12).toNat)
      case atStart => exact .inl ⟨0, 0, [], A, b.length, c, none, 0, At.start b, rfl, rfl, rfl, rfl, by omega, by rw [List.drop_zero]; exact HV6.out, OwnU.nil _ _, Below.refl _ _⟩
      case round =>
        rename_i wr
        rcases hrel with ⟨j, p, xs, A0, n, c0, A10, c10, hat, rfl, rfl, rfl, rfl, hpn, hi, hu, hb⟩ | ⟨j, p, xs, A0, n, c0, i, hat, hz, hpl, rfl, rfl, rfl, hn9, hi9, hb⟩
        · obtain ⟨le1, le2⟩ := hat.le
          by_cases h0 : n = 0
          · subst h0
            have hv := vsz_empty (l := b.drop p) (by obtain ⟨_, _, _, e, _⟩ := hi; exact e)
            obtain ⟨rfl, rfl, rfl⟩ := hat.same hv HAT0.out HZ0.out
            exfalso; have := HP0.out; omega
          · have h0' : 0 < n := by omega
            have hn1 : n ≤ 1000 := by omega
            have hj5' : (j : Int) < 500 := by omega
            have hj1 : j ≤ 499 := by omega
            have hnn : (0 : Int) < (n : Int) := by omega
            have HXL := Lib.hid hat.len
            have HPL := Lib.hid (show p < b.length from by omega)
            have HF := hide (rtake (b.drop p) n _ wr (hi.st hb) (HO.out.drop p) hn1)
            have hsl := vsz_le (b.drop p)
            rw [show (b.drop p).length = n from by obtain ⟨_, _, _, e, _⟩ := hi; exact e] at hsl
            have HAT := Lib.hid hat; have HI1 := hide hi; have HU := Lib.hid hu; have HB := Lib.hid hb; have HPN := Lib.hid hpn
            have HNX := Lib.hid (fun hv0 : vsz (b.drop p) ≠ 0 => hat.next hv0)
            have HDD := Lib.hid (show (b.drop p).drop (vsz (b.drop p)) = b.drop (p + vsz (b.drop p)) from List.drop_drop)
            have HZZ := Lib.hid (show vsz (b.drop p) = 0 → vsz (b.drop p) = 0 from id)
            clear hat hi hu hb hpn le1 le2
            obtain ⟨D, hD⟩ : ∃ D, b.drop p = D := ⟨_, rfl⟩
            have HD := Lib.hid hD
            rw [hD] at HF hsl HI1 HNX HDD
            obtain ⟨s, hs⟩ : ∃ s, vsz D = s := ⟨_, rfl⟩
            have HS := Lib.hid hs
            rw [hs] at HF hsl HNX HDD
            generalize vnum D = x at *
            clear hs hD
            obtain ⟨m, hsm⟩ : ∃ m, s + m = n := ⟨n - s, by omega⟩
            have HSM := Lib.hid hsm
            have HPS := Lib.hid (show p + s + m = b.length from by have := HPN.out; omega)
            have hm9 : m ≤ 1000 := by omega
            clear hsm hsl
            by_cases hs0 : s = 0
            · subst hs0
              go_wp2_with fail
              refine (unhide HF).mono ?_
              rintro e w1 ⟨rfl, hb1⟩
              have HB1 := Lib.hid (HB.out.trans (hb1.mono HB.out.size))
              have HU1 := Lib.hid (HU.out.below hb1)
              clear hb1 HB HU
              go_wp2_with (first
                | ((with_reducible show wpList _ _ _ (⟨some 94, _, _, _, _, _⟩ :: _) _ _)
                   have hown2 := HU1.out.below ((Below.refl w1.heap.size w1).alloc (Nat.le_refl _) (.cells #[.int .u64 x] 29))
                   have hcell2 : (w1.alloc (.cells #[.int .u64 x] 29)).cell? ⟨w1.heap.size, 0, none⟩ = some (.int .u64 x) := (Is.new w1 29 #[.int .u64 x]).cell 0
                   have hbase2 : w6.heap.size ≤ (w1.alloc (.cells #[.int .u64 x] 29)).heap.size := by have := HB1.out.size; simp; omega
                   go_loud (refine app_u (.tmp 91) (.tmp 93) rfl rfl (n := j) (base := w6.heap.size) (v := .slice A10 j c10) (xs := xs) (u := x) (g0 := w1.heap.size) rfl hown2 HXL.out rfl hcell2 (by omega) hbase2 ?_)
                   clear hown2 hcell2 hbase2
                   intro A5 c5 w2 hu2 hg2
                   have hb2 : Below w6.heap.size w6 w2 := (HB1.out.alloc HB1.out.size _).grown hg2 (by have := HB1.out.size; simp; omega) (fun q hq => (World.ownsRow.lt HU1.out q hq).1)
                   have HU2 := Lib.hid hu2; have HB2 := Lib.hid hb2
                   clear hu2 hg2 hb2 HU1 HB1)
                | ((with_reducible show wpList _ _ _ (⟨some 97, _, _, _, _, _⟩ :: _) _ _)
                   refine sl_p1 _ _ rfl rfl (i := 0) (k := m) rfl rfl HI1.out HSM.out ?_
                   intro X9 d9 hX9
                   clear hX9
                   ))
              go_roundw
    
              case rel => exact .inr ⟨j, p, xs, X9, m, d9, j + 1, HAT.out, by rw [HD.out]; exact HS.out, HPL.out, rfl, rfl, by go_num, hm9, by omega, HB2.out⟩
              case measure => simp [intOf]; omega
            · have hspos : (0 : Int) < (s : Int) := by omega
              have HAT2 := Lib.hid (HNX.out hs0)
              clear HNX
              go_wp2_with fail
              refine (unhide HF).mono ?_
              rintro e w1 ⟨rfl, hb1⟩
              have HB1 := Lib.hid (HB.out.trans (hb1.mono HB.out.size))
              have HU1 := Lib.hid (HU.out.below hb1)
              clear hb1 HB HU
              go_wp2_with (first
                | ((with_reducible show wpList _ _ _ (⟨some 94, _, _, _, _, _⟩ :: _) _ _)
                   have hown2 := HU1.out.below ((Below.refl w1.heap.size w1).alloc (Nat.le_refl _) (.cells #[.int .u64 x] 29))
                   have hcell2 : (w1.alloc (.cells #[.int .u64 x] 29)).cell? ⟨w1.heap.size, 0, none⟩ = some (.int .u64 x) := (Is.new w1 29 #[.int .u64 x]).cell 0
                   have hbase2 : w6.heap.size ≤ (w1.alloc (.cells #[.int .u64 x] 29)).heap.size := by have := HB1.out.size; simp; omega
                   go_loud (refine app_u (.tmp 91) (.tmp 93) rfl rfl (n := j) (base := w6.heap.size) (v := .slice A10 j c10) (xs := xs) (u := x) (g0 := w1.heap.size) rfl hown2 HXL.out rfl hcell2 (by omega) hbase2 ?_)
                   clear hown2 hcell2 hbase2
                   intro A5 c5 w2 hu2 hg2
                   have hb2 : Below w6.heap.size w6 w2 := (HB1.out.alloc HB1.out.size _).grown hg2 (by have := HB1.out.size; simp; omega) (fun q hq => (World.ownsRow.lt HU1.out q hq).1)
                   have HU2 := Lib.hid hu2; have HB2 := Lib.hid hb2
                   clear hu2 hg2 hb2 HU1 HB1)
                | ((with_reducible show wpList _ _ _ (⟨some 97, _, _, _, _, _⟩ :: _) _ _)
                   refine sl_p1 _ _ rfl rfl (i := s) (k := m) rfl rfl HI1.out HSM.out ?_
                   intro X9 d9 hX9
                   rw [HDD.out] at hX9
                   have HX9 := hide hX9
                   clear hX9))
              go_roundw
    
              case rel => exact .inl ⟨j + 1, p + s, xs ++ [x], X9, m, d9, A5, c5, HAT2.out, rfl, rfl, by have h9 : 0 < s := Nat.pos_of_ne_zero hs0; simp [h9], by go_num, HPS.out, HX9.out, HU2.out, HB2.out⟩
              case measure => simp [intOf]; omega
        · have HB10 := Lib.hid hb
          clear hat hz hpl hb
          by_cases hi5 : i < 500
          · have hi5' : (i : Int) < 500 := by omega
            by_cases hn0 : n = 0
            · subst hn0
              go_wp2_with fail
              refine (awake39 _).mono ?_
              rintro e w9 ⟨rfl, rfl⟩
              go_wp2_with fail
              go_ret
              exact ⟨rfl, HB6.out.trans (HB10.out.mono HB6.out.size)⟩
            · have hn0' : (0 : Int) < (n : Int) := by omega
              go_wp2_with fail
              refine (awake39 _).mono ?_
              rintro e w9 ⟨rfl, rfl⟩
              go_wp2_with fail
              go_ret
              exact ⟨rfl, HB6.out.trans (HB10.out.mono HB6.out.size)⟩
          · have hi5' : ¬ (i : Int) < 500 := by omega
            go_wp2_with fail
            refine (awake39 _).mono ?_
            rintro e w9 ⟨rfl, rfl⟩
            go_wp2_with fail
            go_ret
            exact ⟨rfl, HB6.out.trans (HB10.out.mono HB6.out.size)⟩
    
theorem walk (A : Option Addr) (c : Nat) (b : List Int) (w : World) (hv : IsB b b.length (.slice A b.length c) w) (ho : Octets b) : Calls Try.prog 8 #[.slice A b.length c] w fun e w' => e = .returned (.bool true) ∧ Below w.heap.size w w' := by
  by_cases h5 : 500 < b.length
  · exact walk_long A c b w h5
  by_cases hs : vsz b = 0
  · exact walk_none A c b w hv ho h5 hs
  · exact walk_some A c b w hv ho h5 hs
end Go.Proofs.Ytkgmgmlicgjfdaa
