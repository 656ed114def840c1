/-
  Read of the reference of layer 13. Helper of the claims of layer 13. No condition.
-/
import Derived.Test.YthjkjohmaemmiaaCd2
import Derived.Test.YthjkjohmaemmiaaRk
namespace Go.Proofs.Ythjkjohmaemmiaa
open Go.ChangeShapes Go.WideShapes Go.ChangeAt Go.RowKit
set_option linter.unusedSimpArgs false
set_option linter.unusedVariables false
set_option maxRecDepth 100000
set_option maxHeartbeats 400000 in
theorem rread_short (key : List Int) (n : Nat) (A : Option Addr) (k c : Nat) (hk : k ≠ 12) (w : World) : Calls Try.prog 30 #[.agg (rcs key n), .slice A k c] w fun e w' => e = .returned (.tuple #[.int .i64 0, .int .i64 0, .int .u64 0, .int .i64 20]) ∧ Below w.heap.size w w' := by
  have g1 : ((k : Int) == 12) = false := by rw [beq_eq_false_iff_ne]; omega
  have g2 : ((k : Int) != 12) = true := by simp; omega
  have HB0 := Lib.hid (show Below w.heap.size w (w.alloc (.cells (rcs key n) 38)) from (Below.refl _ _).alloc (Nat.le_refl _) _)
  generalize (rcs key n) = rs at *
  go_enter Try.func30, Try.ntmps30
  go_wp2_with fail
  refine bodyPost_ret (v := .tuple #[.int .i64 0, .int .i64 0, .int .u64 0, .int .i64 20]) (by simp [results, Try.results30, go_sem]) rfl ⟨rfl, HB0.out⟩
set_option maxHeartbeats 2000000 in
theorem rread_C (key : List Int) (hk : key.length = 16) (ho : Octets key) (n : Nat) (hn : n < 18446744073709551616) (L : List Int) (hlo : Octets L) (A : Option Addr) (c : Nat) (wd x on : Nat) (hwd : wd < 65536) (hw5 : nw L 5 2 = (wd : Int)) (hon : nw L 0 5 = (on : Int)) (hx : wd / 32768 = x) (kk : List Int) (hkk : kk.length = 16) (hko : Octets kk) (hat : atp key n (x : Int) = kk) (hok : ato n (x : Int) = false) (w : World) (hl : IsB L 12 (.slice A 12 c) w) :
    Calls Try.prog 30 #[.agg (rcs key n), .slice A 12 c] w fun e w' => e = .returned (.tuple #[.int .i64 0, .int .i64 0, .int .u64 0, .int .i64 26]) ∧ Below w.heap.size w w' := by
  have LEN := isbk_len hl
  have f0 : IntKind.u16.wrap (wd : Int) = (wd : Int) := by rw [IntKind.wrap_u16]; omega
  have f1 : (wd : Int) / 32768 = (x : Int) := by omega
  have f1' : (wd : Int).tdiv 32768 = (x : Int) := by rw [Int.tdiv_eq_ediv_of_nonneg (by omega)]; omega
  have f2 : IntKind.i64.wrap (x : Int) = (x : Int) := IntWalk.i64_in _ (by omega)
  have AT1 := hide (fun W => show Calls Try.prog 81 #[.agg (rcs key n), .int .i64 (x : Int)] W fun e w' => e = .returned (.tuple #[.agg (u8s kk).toArray, .bool false]) ∧ Below W.heap.size W w' from by have h := hrat_any key hk ho n hn (x : Int) W; rw [hat, hok] at h; exact h)
  obtain ⟨hc0, hc1⟩ := isbk_caps hl
  unfold maxLen at hc1
  have c5 : (5 : Int) ≤ (c : Int) := by omega
  have TT := Lib.hid (rfl : true = true)
  have SNE := TT
  have KSZ := Lib.hid (key_size hkk); have KONE := Lib.hid (one_u8s kk)
  have RSZ := Lib.hid (rcs_size hk n)
  have HL := Lib.hid hl; have HLO := Lib.hid hlo; have H5 := Lib.hid hw5; have H0 := Lib.hid hon; have LE := Lib.hid LEN
  generalize (u8s kk).toArray = ks at *
  have HB0 := Lib.hid (show Below w.heap.size w (w.alloc (.cells (rcs key n) 38)) from (Below.refl _ _).alloc (Nat.le_refl _) _)
  have G0 := Lib.hid (Is.new w 38 (rcs key n))
  clear hk ho hn hat hok hkk hko hl hlo hw5 hon LEN hx
  go_enter Try.func30, Try.ntmps30
  go_wp2_with fail
  generalize (w.alloc (.cells (rcs key n) 38)) = V at *
  refine (get_q 5 2 (wd : Int) (HL.out.st HB0.out) HLO.out (by omega) (by omega) H5.out).mono ?_
  rintro e w1 ⟨rfl, rfl⟩
  go_wp2_with (with_reducible show wpList _ _ _ (⟨some 19, _, _, _, _, _⟩ :: _) _ _; go_loud (refine Go.wpList_load_row rfl 38 (.tmp 2) rfl w.heap.size rfl 38 (rcs key n) (0, 0) _ (is_raw G0.out) Try.underlying38 rfl (by rw [RSZ.out]; kernel_rfl) ?_))
  refine (unhide AT1 _).mono ?_
  rintro e w4 ⟨rfl, hb⟩
  have J4 := Lib.hid (Is.new w4 36 #[.int .u8 0, .int .u8 0, .int .u8 0, .int .u8 0, .int .u8 0, .int .u8 0, .int .u8 0, .int .u8 0, .int .u8 0, .int .u8 0, .int .u8 0, .int .u8 0, .int .u8 0, .int .u8 0, .int .u8 0, .int .u8 0])
  have hz4 : w.heap.size ≤ w4.heap.size := Nat.le_trans HB0.out.size hb.size
  have K4 := Lib.hid (is_row (cs' := ks) J4.out)
  have HB4 := Lib.hid (below_setRow ((HB0.out.trans (hb.mono HB0.out.size)).alloc hz4 (.cells #[.int .u8 0, .int .u8 0, .int .u8 0, .int .u8 0, .int .u8 0, .int .u8 0, .int .u8 0, .int .u8 0, .int .u8 0, .int .u8 0, .int .u8 0, .int .u8 0, .int .u8 0, .int .u8 0, .int .u8 0, .int .u8 0] 36)) (g := w4.heap.size) hz4 ks)
  clear hb HB0 G0 hz4
  go_wp2_with (
    (with_reducible show wpList _ _ _ (⟨none, _, _, _, _, _⟩ :: _) _ _)
    go_loud (refine Go.wpList_store_row rfl 36 (.tmp 9) (.tmp 24) rfl w4.heap.size ks rfl rfl 36 #[.int .u8 0, .int .u8 0, .int .u8 0, .int .u8 0, .int .u8 0, .int .u8 0, .int .u8 0, .int .u8 0, .int .u8 0, .int .u8 0, .int .u8 0, .int .u8 0, .int .u8 0, .int .u8 0, .int .u8 0, .int .u8 0] (is_raw J4.out) (by rw [KSZ.out]; kernel_rfl) (by rw [KSZ.out]; simp) KONE.out ?_)
    generalize (w4.alloc (.cells #[.int .u8 0, .int .u8 0, .int .u8 0, .int .u8 0, .int .u8 0, .int .u8 0, .int .u8 0, .int .u8 0, .int .u8 0, .int .u8 0, .int .u8 0, .int .u8 0, .int .u8 0, .int .u8 0, .int .u8 0, .int .u8 0] 36)).setRow w4.heap.size ks = X at *
    generalize w4.heap.size = g9 at *)
  clear J4
  refine Lin.wp_region_lin Lin.keeps (n := 52)  (fun slotq => match slotq with | 26 => Lin.Spec.val (.bool false) | 27 => Lin.Spec.val (.bool true) | 28 => Lin.Spec.val (.bool true) | 29 => Lin.Spec.val (undef) | 30 => Lin.Spec.val (undef) | 31 => Lin.Spec.val (undef) | 32 => Lin.Spec.val (undef) | 33 => Lin.Spec.val (undef) | 34 => Lin.Spec.val (undef) | 35 => Lin.Spec.val (undef) | 36 => Lin.Spec.val (undef) | 37 => Lin.Spec.val (undef) | 38 => Lin.Spec.val (.bool true) | _ => Lin.Spec.any) (by kernel_rfl) rfl (by kernel_rfl) ⟨?_, ?_, ?_, ?_, ?_, ?_, ?_, ?_, ?_, ?_, ?_, ?_, ?_, trivial⟩ ?_
  · intro ρ wq hb ho hc hd
    have hC : ∀ v, ρ (.const v) = v := fun v => hc _ (by intro t e; cases e)
    have hF : ∀ f, ρ (.func f) = .func (.func f) #[] #[] := fun f => hc _ (by intro t e; cases e)
    have h10 : ρ (.tmp 10) = .bool false := ho 10 (by kernel_rfl)
    exact Lin.Runs.value Lin.keeps (Lin.exec_move rfl) h10
  · intro ρ wq hb ho hc hd
    have hC : ∀ v, ρ (.const v) = v := fun v => hc _ (by intro t e; cases e)
    have hF : ∀ f, ρ (.func f) = .func (.func f) #[] #[] := fun f => hc _ (by intro t e; cases e)
    have h26 : ρ (.tmp 26) = .bool false := hd 26 (by kernel_rfl)
    exact Lin.Runs.value Lin.keeps (v := .bool true) (by simp [execOp, go_sem, h26]) rfl
  · intro ρ wq hb ho hc hd
    have hC : ∀ v, ρ (.const v) = v := fun v => hc _ (by intro t e; cases e)
    have hF : ∀ f, ρ (.func f) = .func (.func f) #[] #[] := fun f => hc _ (by intro t e; cases e)
    have h27 : ρ (.tmp 27) = .bool true := hd 27 (by kernel_rfl)
    exact Lin.Runs.value Lin.keeps (v := .bool true) (by simp [execOp, go_sem, h27]) rfl
  · intro ρ wq hb ho hc hd
    have hC : ∀ v, ρ (.const v) = v := fun v => hc _ (by intro t e; cases e)
    have hF : ∀ f, ρ (.func f) = .func (.func f) #[] #[] := fun f => hc _ (by intro t e; cases e)
    intro t ht; cases (show some 28 = some t from ht)
    exact ⟨fun he => absurd (he.symm.trans (hd 28 (by kernel_rfl))) (by first | simp | (intro h; cases h)), fun _ => rfl⟩
  · intro ρ wq hb ho hc hd
    have hC : ∀ v, ρ (.const v) = v := fun v => hc _ (by intro t e; cases e)
    have hF : ∀ f, ρ (.func f) = .func (.func f) #[] #[] := fun f => hc _ (by intro t e; cases e)
    intro t ht; cases (show some 28 = some t from ht)
    exact ⟨fun he => absurd (he.symm.trans (hd 28 (by kernel_rfl))) (by first | simp | (intro h; cases h)), fun _ => rfl⟩
  · intro ρ wq hb ho hc hd
    have hC : ∀ v, ρ (.const v) = v := fun v => hc _ (by intro t e; cases e)
    have hF : ∀ f, ρ (.func f) = .func (.func f) #[] #[] := fun f => hc _ (by intro t e; cases e)
    intro t ht; cases (show some 28 = some t from ht)
    exact ⟨fun he => absurd (he.symm.trans (hd 28 (by kernel_rfl))) (by first | simp | (intro h; cases h)), fun _ => rfl⟩
  · intro ρ wq hb ho hc hd
    have hC : ∀ v, ρ (.const v) = v := fun v => hc _ (by intro t e; cases e)
    have hF : ∀ f, ρ (.func f) = .func (.func f) #[] #[] := fun f => hc _ (by intro t e; cases e)
    intro t ht; cases (show some 28 = some t from ht)
    exact ⟨fun he => absurd (he.symm.trans (hd 28 (by kernel_rfl))) (by first | simp | (intro h; cases h)), fun _ => rfl⟩
  · intro ρ wq hb ho hc hd
    have hC : ∀ v, ρ (.const v) = v := fun v => hc _ (by intro t e; cases e)
    have hF : ∀ f, ρ (.func f) = .func (.func f) #[] #[] := fun f => hc _ (by intro t e; cases e)
    intro t ht; cases (show some 28 = some t from ht)
    exact ⟨fun he => absurd (he.symm.trans (hd 28 (by kernel_rfl))) (by first | simp | (intro h; cases h)), fun _ => rfl⟩
  · intro ρ wq hb ho hc hd
    have hC : ∀ v, ρ (.const v) = v := fun v => hc _ (by intro t e; cases e)
    have hF : ∀ f, ρ (.func f) = .func (.func f) #[] #[] := fun f => hc _ (by intro t e; cases e)
    intro t ht; cases (show some 28 = some t from ht)
    exact ⟨fun he => absurd (he.symm.trans (hd 28 (by kernel_rfl))) (by first | simp | (intro h; cases h)), fun _ => rfl⟩
  · intro ρ wq hb ho hc hd
    have hC : ∀ v, ρ (.const v) = v := fun v => hc _ (by intro t e; cases e)
    have hF : ∀ f, ρ (.func f) = .func (.func f) #[] #[] := fun f => hc _ (by intro t e; cases e)
    intro t ht; cases (show some 28 = some t from ht)
    exact ⟨fun he => absurd (he.symm.trans (hd 28 (by kernel_rfl))) (by first | simp | (intro h; cases h)), fun _ => rfl⟩
  · intro ρ wq hb ho hc hd
    have hC : ∀ v, ρ (.const v) = v := fun v => hc _ (by intro t e; cases e)
    have hF : ∀ f, ρ (.func f) = .func (.func f) #[] #[] := fun f => hc _ (by intro t e; cases e)
    intro t ht; cases (show some 28 = some t from ht)
    exact ⟨fun he => absurd (he.symm.trans (hd 28 (by kernel_rfl))) (by first | simp | (intro h; cases h)), fun _ => rfl⟩
  · intro ρ wq hb ho hc hd
    have hC : ∀ v, ρ (.const v) = v := fun v => hc _ (by intro t e; cases e)
    have hF : ∀ f, ρ (.func f) = .func (.func f) #[] #[] := fun f => hc _ (by intro t e; cases e)
    intro t ht; cases (show some 28 = some t from ht)
    exact ⟨fun he => absurd (he.symm.trans (hd 28 (by kernel_rfl))) (by first | simp | (intro h; cases h)), fun _ => rfl⟩
  · intro ρ wq hb ho hc hd
    have hC : ∀ v, ρ (.const v) = v := fun v => hc _ (by intro t e; cases e)
    have hF : ∀ f, ρ (.func f) = .func (.func f) #[] #[] := fun f => hc _ (by intro t e; cases e)
    have h28 : ρ (.tmp 28) = .bool true := hd 28 (by kernel_rfl)
    have h37 : ρ (.tmp 37) = undef := hd 37 (by kernel_rfl)
    exact Lin.Runs.value Lin.keeps (v := .bool true) (by simp [execOp, go_sem, hC, h28, h37]) rfl
  · intro vals w5 hb2 hv
    have ee : vals 38 = .bool true := hv 38 (by kernel_rfl)
    have HB5 := Lib.hid (HB4.out.trans (hb2.mono HB4.out.size))
    clear hb2 hv HB4 K4
    simp only [Lin.putAll, Option.getD_some]
    rw [ee]
    clear ee
    go_simp
    generalize vals = vq
    go_wp2_with fail
    refine bodyPost_ret (v := .tuple #[.int .i64 0, .int .i64 0, .int .u64 0, .int .i64 26]) (by simp [results, Try.results30, go_sem]) rfl ⟨rfl, HB5.out⟩
set_option maxHeartbeats 2000000 in
theorem rread_D (key : List Int) (hk : key.length = 16) (ho : Octets key) (n : Nat) (hn : n < 18446744073709551616) (L : List Int) (hlo : Octets L) (A : Option Addr) (c : Nat) (wd x on : Nat) (hwd : wd < 65536) (hw5 : nw L 5 2 = (wd : Int)) (hon : nw L 0 5 = (on : Int)) (hx : wd / 32768 = x) (kk : List Int) (hkk : kk.length = 16) (hko : Octets kk) (hat : atp key n (x : Int) = kk) (hok : ato n (x : Int) = true) (htg : tgc kk (L.take 7) ≠ L.drop 7) (w : World) (hl : IsB L 12 (.slice A 12 c) w) :
    Calls Try.prog 30 #[.agg (rcs key n), .slice A 12 c] w fun e w' => e = .returned (.tuple #[.int .i64 0, .int .i64 0, .int .u64 0, .int .i64 26]) ∧ Below w.heap.size w w' := by
  have LEN := isbk_len hl
  have f0 : IntKind.u16.wrap (wd : Int) = (wd : Int) := by rw [IntKind.wrap_u16]; omega
  have f1 : (wd : Int) / 32768 = (x : Int) := by omega
  have f1' : (wd : Int).tdiv 32768 = (x : Int) := by rw [Int.tdiv_eq_ediv_of_nonneg (by omega)]; omega
  have f2 : IntKind.i64.wrap (x : Int) = (x : Int) := IntWalk.i64_in _ (by omega)
  have AT1 := hide (fun W => show Calls Try.prog 81 #[.agg (rcs key n), .int .i64 (x : Int)] W fun e w' => e = .returned (.tuple #[.agg (u8s kk).toArray, .bool true]) ∧ Below W.heap.size W w' from by have h := hrat_any key hk ho n hn (x : Int) W; rw [hat, hok] at h; exact h)
  obtain ⟨hc0, hc1⟩ := isbk_caps hl
  unfold maxLen at hc1
  have c5 : (5 : Int) ≤ (c : Int) := by omega
  have TT := hide (fun W h => rtag13 kk hkk hko (L.take 7) 6 c A (hlo.take 7) (by omega) W h)
  have SNE := hide (show ¬ (strOfNums (tgc kk (L.take 7))).toList = (strOfNums (L.drop 7)).toList from by have h := eqb_of (tgc_ok kk (L.take 7)) (hlo.drop 7); rw [decide_eq_false htg] at h; exact beq_eq_false_iff_ne.1 h)
  generalize htt : tgc kk (L.take 7) = tt at SNE TT
  clear htt htg
  have KSZ := Lib.hid (key_size hkk); have KONE := Lib.hid (one_u8s kk)
  have RSZ := Lib.hid (rcs_size hk n)
  have HL := Lib.hid hl; have HLO := Lib.hid hlo; have H5 := Lib.hid hw5; have H0 := Lib.hid hon; have LE := Lib.hid LEN
  generalize (u8s kk).toArray = ks at *
  have HB0 := Lib.hid (show Below w.heap.size w (w.alloc (.cells (rcs key n) 38)) from (Below.refl _ _).alloc (Nat.le_refl _) _)
  have G0 := Lib.hid (Is.new w 38 (rcs key n))
  clear hk ho hn hat hok hkk hko hl hlo hw5 hon LEN hx
  go_enter Try.func30, Try.ntmps30
  go_wp2_with fail
  generalize (w.alloc (.cells (rcs key n) 38)) = V at *
  refine (get_q 5 2 (wd : Int) (HL.out.st HB0.out) HLO.out (by omega) (by omega) H5.out).mono ?_
  rintro e w1 ⟨rfl, rfl⟩
  go_wp2_with (with_reducible show wpList _ _ _ (⟨some 19, _, _, _, _, _⟩ :: _) _ _; go_loud (refine Go.wpList_load_row rfl 38 (.tmp 2) rfl w.heap.size rfl 38 (rcs key n) (0, 0) _ (is_raw G0.out) Try.underlying38 rfl (by rw [RSZ.out]; kernel_rfl) ?_))
  refine (unhide AT1 _).mono ?_
  rintro e w4 ⟨rfl, hb⟩
  have J4 := Lib.hid (Is.new w4 36 #[.int .u8 0, .int .u8 0, .int .u8 0, .int .u8 0, .int .u8 0, .int .u8 0, .int .u8 0, .int .u8 0, .int .u8 0, .int .u8 0, .int .u8 0, .int .u8 0, .int .u8 0, .int .u8 0, .int .u8 0, .int .u8 0])
  have hz4 : w.heap.size ≤ w4.heap.size := Nat.le_trans HB0.out.size hb.size
  have K4 := Lib.hid (is_row (cs' := ks) J4.out)
  have HB4 := Lib.hid (below_setRow ((HB0.out.trans (hb.mono HB0.out.size)).alloc hz4 (.cells #[.int .u8 0, .int .u8 0, .int .u8 0, .int .u8 0, .int .u8 0, .int .u8 0, .int .u8 0, .int .u8 0, .int .u8 0, .int .u8 0, .int .u8 0, .int .u8 0, .int .u8 0, .int .u8 0, .int .u8 0, .int .u8 0] 36)) (g := w4.heap.size) hz4 ks)
  clear hb HB0 G0 hz4
  go_wp2_with (
    (with_reducible show wpList _ _ _ (⟨none, _, _, _, _, _⟩ :: _) _ _)
    go_loud (refine Go.wpList_store_row rfl 36 (.tmp 9) (.tmp 24) rfl w4.heap.size ks rfl rfl 36 #[.int .u8 0, .int .u8 0, .int .u8 0, .int .u8 0, .int .u8 0, .int .u8 0, .int .u8 0, .int .u8 0, .int .u8 0, .int .u8 0, .int .u8 0, .int .u8 0, .int .u8 0, .int .u8 0, .int .u8 0, .int .u8 0] (is_raw J4.out) (by rw [KSZ.out]; kernel_rfl) (by rw [KSZ.out]; simp) KONE.out ?_)
    generalize (w4.alloc (.cells #[.int .u8 0, .int .u8 0, .int .u8 0, .int .u8 0, .int .u8 0, .int .u8 0, .int .u8 0, .int .u8 0, .int .u8 0, .int .u8 0, .int .u8 0, .int .u8 0, .int .u8 0, .int .u8 0, .int .u8 0, .int .u8 0] 36)).setRow w4.heap.size ks = X at *
    generalize w4.heap.size = g9 at *)
  clear J4
  refine Lin.wp_region_lin Lin.keeps (n := 52)  (fun slotq => match slotq with | 26 => Lin.Spec.val (.bool true) | 27 => Lin.Spec.val (.bool false) | 28 => Lin.Spec.val (.bool false) | 29 => Lin.Spec.val (.agg ks) | 30 => Lin.Spec.val (.slice A 12 c) | 31 => Lin.Spec.val (.slice A 7 c) | 32 => Lin.Spec.sl tt 5 | 33 => Lin.Spec.val (.string (strOfNums tt)) | 34 => Lin.Spec.val (.slice A 12 c) | 35 => Lin.Spec.sl (L.drop 7) (12 - 7) | 36 => Lin.Spec.val (.string (strOfNums (L.drop 7))) | 37 => Lin.Spec.val (.bool true) | 38 => Lin.Spec.val (.bool true) | _ => Lin.Spec.any) (by kernel_rfl) rfl (by kernel_rfl) ⟨?_, ?_, ?_, ?_, ?_, ?_, ?_, ?_, ?_, ?_, ?_, ?_, ?_, trivial⟩ ?_
  · intro ρ wq hb ho hc hd
    have hC : ∀ v, ρ (.const v) = v := fun v => hc _ (by intro t e; cases e)
    have hF : ∀ f, ρ (.func f) = .func (.func f) #[] #[] := fun f => hc _ (by intro t e; cases e)
    have h10 : ρ (.tmp 10) = .bool true := ho 10 (by kernel_rfl)
    exact Lin.Runs.value Lin.keeps (Lin.exec_move rfl) h10
  · intro ρ wq hb ho hc hd
    have hC : ∀ v, ρ (.const v) = v := fun v => hc _ (by intro t e; cases e)
    have hF : ∀ f, ρ (.func f) = .func (.func f) #[] #[] := fun f => hc _ (by intro t e; cases e)
    have h26 : ρ (.tmp 26) = .bool true := hd 26 (by kernel_rfl)
    exact Lin.Runs.value Lin.keeps (v := .bool false) (by simp [execOp, go_sem, h26]) rfl
  · intro ρ wq hb ho hc hd
    have hC : ∀ v, ρ (.const v) = v := fun v => hc _ (by intro t e; cases e)
    have hF : ∀ f, ρ (.func f) = .func (.func f) #[] #[] := fun f => hc _ (by intro t e; cases e)
    have h27 : ρ (.tmp 27) = .bool false := hd 27 (by kernel_rfl)
    exact Lin.Runs.value Lin.keeps (v := .bool false) (by simp [execOp, go_sem, h27]) rfl
  · intro ρ wq hb ho hc hd
    have hC : ∀ v, ρ (.const v) = v := fun v => hc _ (by intro t e; cases e)
    have hF : ∀ f, ρ (.func f) = .func (.func f) #[] #[] := fun f => hc _ (by intro t e; cases e)
    intro t ht; cases (show some 28 = some t from ht)
    refine ⟨fun _ => ?_, fun hn => absurd (hd 28 (by kernel_rfl)) hn⟩
    have h9 : ρ (.tmp 9) = .pointer (some ⟨g9, 0, none⟩) := ho 9 (by kernel_rfl)
    exact Lin.Runs.load_row Lin.keeps 36 (.tmp 9) rfl g9 h9 36 ks (K4.out.below hb K4.out.lt) _ Try.underlying36 rfl (by rw [KSZ.out]; kernel_rfl) rfl
  · intro ρ wq hb ho hc hd
    have hC : ∀ v, ρ (.const v) = v := fun v => hc _ (by intro t e; cases e)
    have hF : ∀ f, ρ (.func f) = .func (.func f) #[] #[] := fun f => hc _ (by intro t e; cases e)
    intro t ht; cases (show some 28 = some t from ht)
    refine ⟨fun _ => ?_, fun hn => absurd (hd 28 (by kernel_rfl)) hn⟩
    have h1 : ρ (.tmp 1) = .slice A 12 c := ho 1 (by kernel_rfl)
    exact Lin.Runs.value Lin.keeps (Lin.exec_move rfl) h1
  · intro ρ wq hb ho hc hd
    have hC : ∀ v, ρ (.const v) = v := fun v => hc _ (by intro t e; cases e)
    have hF : ∀ f, ρ (.func f) = .func (.func f) #[] #[] := fun f => hc _ (by intro t e; cases e)
    intro t ht; cases (show some 28 = some t from ht)
    refine ⟨fun _ => ?_, fun hn => absurd (hd 28 (by kernel_rfl)) hn⟩
    have h30 : ρ (.tmp 30) = .slice A 12 c := hd 30 (by kernel_rfl)
    exact Lin.sl_to (k := 7) (.tmp 30) _ rfl h30 (hC _) ((HL.out.st HB4.out).st hb) (by omega) rfl
  · intro ρ wq hb ho hc hd
    have hC : ∀ v, ρ (.const v) = v := fun v => hc _ (by intro t e; cases e)
    have hF : ∀ f, ρ (.func f) = .func (.func f) #[] #[] := fun f => hc _ (by intro t e; cases e)
    intro t ht; cases (show some 28 = some t from ht)
    refine ⟨fun _ => ?_, fun hn => absurd (hd 28 (by kernel_rfl)) hn⟩
    have h29 : ρ (.tmp 29) = .agg ks := hd 29 (by kernel_rfl)
    have h31 : ρ (.tmp 31) = .slice A 7 c := hd 31 (by kernel_rfl)
    exact Lin.Runs.call Lin.keeps (f := 82) (args := #[.agg ks, .slice A 7 c]) (by simp [execOp, go_sem, hF, h29, h31]) ((unhide TT wq (IsB.take ((HL.out.st HB4.out).st hb) (by omega))).mono fun e w9 ⟨v9, h1, h2, h3⟩ => ⟨v9, h1, h2, h3.isb⟩)
  · intro ρ wq hb ho hc hd
    have hC : ∀ v, ρ (.const v) = v := fun v => hc _ (by intro t e; cases e)
    have hF : ∀ f, ρ (.func f) = .func (.func f) #[] #[] := fun f => hc _ (by intro t e; cases e)
    intro t ht; cases (show some 28 = some t from ht)
    refine ⟨fun _ => ?_, fun hn => absurd (hd 28 (by kernel_rfl)) hn⟩
    have h32 := hd 32 (by kernel_rfl)
    exact Lin.Runs.value Lin.keeps (Lin.exec_convert rfl h32.conv) rfl
  · intro ρ wq hb ho hc hd
    have hC : ∀ v, ρ (.const v) = v := fun v => hc _ (by intro t e; cases e)
    have hF : ∀ f, ρ (.func f) = .func (.func f) #[] #[] := fun f => hc _ (by intro t e; cases e)
    intro t ht; cases (show some 28 = some t from ht)
    refine ⟨fun _ => ?_, fun hn => absurd (hd 28 (by kernel_rfl)) hn⟩
    have h1 : ρ (.tmp 1) = .slice A 12 c := ho 1 (by kernel_rfl)
    exact Lin.Runs.value Lin.keeps (Lin.exec_move rfl) h1
  · intro ρ wq hb ho hc hd
    have hC : ∀ v, ρ (.const v) = v := fun v => hc _ (by intro t e; cases e)
    have hF : ∀ f, ρ (.func f) = .func (.func f) #[] #[] := fun f => hc _ (by intro t e; cases e)
    intro t ht; cases (show some 28 = some t from ht)
    refine ⟨fun _ => ?_, fun hn => absurd (hd 28 (by kernel_rfl)) hn⟩
    have h34 : ρ (.tmp 34) = .slice A 12 c := hd 34 (by kernel_rfl)
    exact Lin.sl_from (i := 7) (.tmp 34) _ rfl h34 (hC _) ((HL.out.st HB4.out).st hb) (by omega)
  · intro ρ wq hb ho hc hd
    have hC : ∀ v, ρ (.const v) = v := fun v => hc _ (by intro t e; cases e)
    have hF : ∀ f, ρ (.func f) = .func (.func f) #[] #[] := fun f => hc _ (by intro t e; cases e)
    intro t ht; cases (show some 28 = some t from ht)
    refine ⟨fun _ => ?_, fun hn => absurd (hd 28 (by kernel_rfl)) hn⟩
    have h35 := hd 35 (by kernel_rfl)
    exact Lin.Runs.value Lin.keeps (Lin.exec_convert rfl h35.conv) rfl
  · intro ρ wq hb ho hc hd
    have hC : ∀ v, ρ (.const v) = v := fun v => hc _ (by intro t e; cases e)
    have hF : ∀ f, ρ (.func f) = .func (.func f) #[] #[] := fun f => hc _ (by intro t e; cases e)
    intro t ht; cases (show some 28 = some t from ht)
    refine ⟨fun _ => ?_, fun hn => absurd (hd 28 (by kernel_rfl)) hn⟩
    have h33 : ρ (.tmp 33) = .string (strOfNums tt) := hd 33 (by kernel_rfl)
    have h36 : ρ (.tmp 36) = .string (strOfNums (L.drop 7)) := hd 36 (by kernel_rfl)
    have sne := SNE.out
    exact Lin.Runs.value Lin.keeps (v := .bool true) (by simp [execOp, go_sem, h33, h36, sne]) rfl
  · intro ρ wq hb ho hc hd
    have hC : ∀ v, ρ (.const v) = v := fun v => hc _ (by intro t e; cases e)
    have hF : ∀ f, ρ (.func f) = .func (.func f) #[] #[] := fun f => hc _ (by intro t e; cases e)
    have h28 : ρ (.tmp 28) = .bool false := hd 28 (by kernel_rfl)
    have h37 : ρ (.tmp 37) = .bool true := hd 37 (by kernel_rfl)
    exact Lin.Runs.value Lin.keeps (v := .bool true) (by simp [execOp, go_sem, hC, h28, h37]) rfl
  · intro vals w5 hb2 hv
    have ee : vals 38 = .bool true := hv 38 (by kernel_rfl)
    have HB5 := Lib.hid (HB4.out.trans (hb2.mono HB4.out.size))
    clear hb2 hv HB4 K4
    simp only [Lin.putAll, Option.getD_some]
    rw [ee]
    clear ee
    go_simp
    generalize vals = vq
    go_wp2_with fail
    refine bodyPost_ret (v := .tuple #[.int .i64 0, .int .i64 0, .int .u64 0, .int .i64 26]) (by simp [results, Try.results30, go_sem]) rfl ⟨rfl, HB5.out⟩
set_option maxHeartbeats 2000000 in
theorem rread_E (key : List Int) (hk : key.length = 16) (ho : Octets key) (n : Nat) (hn : n < 18446744073709551616) (L : List Int) (hlo : Octets L) (A : Option Addr) (c : Nat) (wd x on : Nat) (hwd : wd < 65536) (hw5 : nw L 5 2 = (wd : Int)) (hon : nw L 0 5 = (on : Int)) (hx : wd / 32768 = x) (kk : List Int) (hkk : kk.length = 16) (hko : Octets kk) (hat : atp key n (x : Int) = kk) (hok : ato n (x : Int) = true) (htg : tgc kk (L.take 7) = L.drop 7) (y : Nat) (hy : (wd ^^^ mkc kk (L.take 5)) % 32768 = y) (w : World) (hl : IsB L 12 (.slice A 12 c) w) :
    Calls Try.prog 30 #[.agg (rcs key n), .slice A 12 c] w fun e w' => e = .returned (.tuple #[.int .i64 ((y / 4096 : Nat) : Int), .int .i64 ((y % 4096 : Nat) : Int), .int .u64 (on : Int), .int .i64 0]) ∧ Below w.heap.size w w' := by
  have LEN := isbk_len hl
  have f0 : IntKind.u16.wrap (wd : Int) = (wd : Int) := by rw [IntKind.wrap_u16]; omega
  have f1 : (wd : Int) / 32768 = (x : Int) := by omega
  have f1' : (wd : Int).tdiv 32768 = (x : Int) := by rw [Int.tdiv_eq_ediv_of_nonneg (by omega)]; omega
  have f2 : IntKind.i64.wrap (x : Int) = (x : Int) := IntWalk.i64_in _ (by omega)
  have AT1 := hide (fun W => show Calls Try.prog 81 #[.agg (rcs key n), .int .i64 (x : Int)] W fun e w' => e = .returned (.tuple #[.agg (u8s kk).toArray, .bool true]) ∧ Below W.heap.size W w' from by have h := hrat_any key hk ho n hn (x : Int) W; rw [hat, hok] at h; exact h)
  obtain ⟨hc0, hc1⟩ := isbk_caps hl
  unfold maxLen at hc1
  have c5 : (5 : Int) ≤ (c : Int) := by omega
  have TT := hide (fun W h => rtag13 kk hkk hko (L.take 7) 6 c A (hlo.take 7) (by omega) W h)
  have HTE := hide htg
  generalize htt : tgc kk (L.take 7) = tt at HTE TT
  clear htt htg
  have hy2 : wd % 32768 ^^^ mkc kk (L.take 5) = y := by
    rw [← hy, show (32768 : Nat) = 2 ^ 15 from rfl, Nat.xor_mod_two_pow, Nat.mod_eq_of_lt (show mkc kk (L.take 5) < 2 ^ 15 from mkc_lt _ _)]
  have MT := hide (fun W h => show Calls Try.prog 83 #[.agg (u8s kk).toArray, .slice A 5 c, .int .u16 (wd : Int)] W fun e w' => e = .returned (.int .u16 (y : Int)) ∧ Below W.heap.size W w' from by have h2 := rhidden13 kk hkk hko (L.take 5) 4 c A (hlo.take 5) (by omega) wd hwd W h; rw [hy2] at h2; exact h2)
  have hyl : y < 32768 := by omega
  have f3 : IntKind.i64.wrap (y : Int) = (y : Int) := IntWalk.i64_in _ (by omega)
  have f5 : (y : Int).tdiv 4096 = ((y / 4096 : Nat) : Int) := by rw [Int.tdiv_eq_ediv_of_nonneg (by omega)]; omega
  have f6 : (y : Int).tmod 4096 = ((y % 4096 : Nat) : Int) := by rw [Int.tmod_eq_emod_of_nonneg (by omega)]; omega
  have f7 : (y : Int) / 4096 = ((y / 4096 : Nat) : Int) := by omega
  have f8 : (y : Int) % 4096 = ((y % 4096 : Nat) : Int) := by omega
  clear hy hy2
  generalize y / 4096 = ya at *
  generalize y % 4096 = yb at *
  have KSZ := Lib.hid (key_size hkk); have KONE := Lib.hid (one_u8s kk)
  have RSZ := Lib.hid (rcs_size hk n)
  have HL := Lib.hid hl; have HLO := Lib.hid hlo; have H5 := Lib.hid hw5; have H0 := Lib.hid hon; have LE := Lib.hid LEN
  generalize (u8s kk).toArray = ks at *
  have HB0 := Lib.hid (show Below w.heap.size w (w.alloc (.cells (rcs key n) 38)) from (Below.refl _ _).alloc (Nat.le_refl _) _)
  have G0 := Lib.hid (Is.new w 38 (rcs key n))
  clear hk ho hn hat hok hkk hko hl hlo hw5 hon LEN hx
  go_enter Try.func30, Try.ntmps30
  go_wp2_with fail
  generalize (w.alloc (.cells (rcs key n) 38)) = V at *
  refine (get_q 5 2 (wd : Int) (HL.out.st HB0.out) HLO.out (by omega) (by omega) H5.out).mono ?_
  rintro e w1 ⟨rfl, rfl⟩
  go_wp2_with (with_reducible show wpList _ _ _ (⟨some 19, _, _, _, _, _⟩ :: _) _ _; go_loud (refine Go.wpList_load_row rfl 38 (.tmp 2) rfl w.heap.size rfl 38 (rcs key n) (0, 0) _ (is_raw G0.out) Try.underlying38 rfl (by rw [RSZ.out]; kernel_rfl) ?_))
  refine (unhide AT1 _).mono ?_
  rintro e w4 ⟨rfl, hb⟩
  have J4 := Lib.hid (Is.new w4 36 #[.int .u8 0, .int .u8 0, .int .u8 0, .int .u8 0, .int .u8 0, .int .u8 0, .int .u8 0, .int .u8 0, .int .u8 0, .int .u8 0, .int .u8 0, .int .u8 0, .int .u8 0, .int .u8 0, .int .u8 0, .int .u8 0])
  have hz4 : w.heap.size ≤ w4.heap.size := Nat.le_trans HB0.out.size hb.size
  have K4 := Lib.hid (is_row (cs' := ks) J4.out)
  have HB4 := Lib.hid (below_setRow ((HB0.out.trans (hb.mono HB0.out.size)).alloc hz4 (.cells #[.int .u8 0, .int .u8 0, .int .u8 0, .int .u8 0, .int .u8 0, .int .u8 0, .int .u8 0, .int .u8 0, .int .u8 0, .int .u8 0, .int .u8 0, .int .u8 0, .int .u8 0, .int .u8 0, .int .u8 0, .int .u8 0] 36)) (g := w4.heap.size) hz4 ks)
  clear hb HB0 G0 hz4
  go_wp2_with (
    (with_reducible show wpList _ _ _ (⟨none, _, _, _, _, _⟩ :: _) _ _)
    go_loud (refine Go.wpList_store_row rfl 36 (.tmp 9) (.tmp 24) rfl w4.heap.size ks rfl rfl 36 #[.int .u8 0, .int .u8 0, .int .u8 0, .int .u8 0, .int .u8 0, .int .u8 0, .int .u8 0, .int .u8 0, .int .u8 0, .int .u8 0, .int .u8 0, .int .u8 0, .int .u8 0, .int .u8 0, .int .u8 0, .int .u8 0] (is_raw J4.out) (by rw [KSZ.out]; kernel_rfl) (by rw [KSZ.out]; simp) KONE.out ?_)
    generalize (w4.alloc (.cells #[.int .u8 0, .int .u8 0, .int .u8 0, .int .u8 0, .int .u8 0, .int .u8 0, .int .u8 0, .int .u8 0, .int .u8 0, .int .u8 0, .int .u8 0, .int .u8 0, .int .u8 0, .int .u8 0, .int .u8 0, .int .u8 0] 36)).setRow w4.heap.size ks = X at *
    generalize w4.heap.size = g9 at *)
  clear J4
  refine Lin.wp_region_lin Lin.keeps (n := 52)  (fun slotq => match slotq with | 26 => Lin.Spec.val (.bool true) | 27 => Lin.Spec.val (.bool false) | 28 => Lin.Spec.val (.bool false) | 29 => Lin.Spec.val (.agg ks) | 30 => Lin.Spec.val (.slice A 12 c) | 31 => Lin.Spec.val (.slice A 7 c) | 32 => Lin.Spec.sl tt 5 | 33 => Lin.Spec.val (.string (strOfNums tt)) | 34 => Lin.Spec.val (.slice A 12 c) | 35 => Lin.Spec.sl (L.drop 7) (12 - 7) | 36 => Lin.Spec.val (.string (strOfNums (L.drop 7))) | 37 => Lin.Spec.val (.bool false) | 38 => Lin.Spec.val (.bool false) | _ => Lin.Spec.any) (by kernel_rfl) rfl (by kernel_rfl) ⟨?_, ?_, ?_, ?_, ?_, ?_, ?_, ?_, ?_, ?_, ?_, ?_, ?_, trivial⟩ ?_
  · intro ρ wq hb ho hc hd
    have hC : ∀ v, ρ (.const v) = v := fun v => hc _ (by intro t e; cases e)
    have hF : ∀ f, ρ (.func f) = .func (.func f) #[] #[] := fun f => hc _ (by intro t e; cases e)
    have h10 : ρ (.tmp 10) = .bool true := ho 10 (by kernel_rfl)
    exact Lin.Runs.value Lin.keeps (Lin.exec_move rfl) h10
  · intro ρ wq hb ho hc hd
    have hC : ∀ v, ρ (.const v) = v := fun v => hc _ (by intro t e; cases e)
    have hF : ∀ f, ρ (.func f) = .func (.func f) #[] #[] := fun f => hc _ (by intro t e; cases e)
    have h26 : ρ (.tmp 26) = .bool true := hd 26 (by kernel_rfl)
    exact Lin.Runs.value Lin.keeps (v := .bool false) (by simp [execOp, go_sem, h26]) rfl
  · intro ρ wq hb ho hc hd
    have hC : ∀ v, ρ (.const v) = v := fun v => hc _ (by intro t e; cases e)
    have hF : ∀ f, ρ (.func f) = .func (.func f) #[] #[] := fun f => hc _ (by intro t e; cases e)
    have h27 : ρ (.tmp 27) = .bool false := hd 27 (by kernel_rfl)
    exact Lin.Runs.value Lin.keeps (v := .bool false) (by simp [execOp, go_sem, h27]) rfl
  · intro ρ wq hb ho hc hd
    have hC : ∀ v, ρ (.const v) = v := fun v => hc _ (by intro t e; cases e)
    have hF : ∀ f, ρ (.func f) = .func (.func f) #[] #[] := fun f => hc _ (by intro t e; cases e)
    intro t ht; cases (show some 28 = some t from ht)
    refine ⟨fun _ => ?_, fun hn => absurd (hd 28 (by kernel_rfl)) hn⟩
    have h9 : ρ (.tmp 9) = .pointer (some ⟨g9, 0, none⟩) := ho 9 (by kernel_rfl)
    exact Lin.Runs.load_row Lin.keeps 36 (.tmp 9) rfl g9 h9 36 ks (K4.out.below hb K4.out.lt) _ Try.underlying36 rfl (by rw [KSZ.out]; kernel_rfl) rfl
  · intro ρ wq hb ho hc hd
    have hC : ∀ v, ρ (.const v) = v := fun v => hc _ (by intro t e; cases e)
    have hF : ∀ f, ρ (.func f) = .func (.func f) #[] #[] := fun f => hc _ (by intro t e; cases e)
    intro t ht; cases (show some 28 = some t from ht)
    refine ⟨fun _ => ?_, fun hn => absurd (hd 28 (by kernel_rfl)) hn⟩
    have h1 : ρ (.tmp 1) = .slice A 12 c := ho 1 (by kernel_rfl)
    exact Lin.Runs.value Lin.keeps (Lin.exec_move rfl) h1
  · intro ρ wq hb ho hc hd
    have hC : ∀ v, ρ (.const v) = v := fun v => hc _ (by intro t e; cases e)
    have hF : ∀ f, ρ (.func f) = .func (.func f) #[] #[] := fun f => hc _ (by intro t e; cases e)
    intro t ht; cases (show some 28 = some t from ht)
    refine ⟨fun _ => ?_, fun hn => absurd (hd 28 (by kernel_rfl)) hn⟩
    have h30 : ρ (.tmp 30) = .slice A 12 c := hd 30 (by kernel_rfl)
    exact Lin.sl_to (k := 7) (.tmp 30) _ rfl h30 (hC _) ((HL.out.st HB4.out).st hb) (by omega) rfl
  · intro ρ wq hb ho hc hd
    have hC : ∀ v, ρ (.const v) = v := fun v => hc _ (by intro t e; cases e)
    have hF : ∀ f, ρ (.func f) = .func (.func f) #[] #[] := fun f => hc _ (by intro t e; cases e)
    intro t ht; cases (show some 28 = some t from ht)
    refine ⟨fun _ => ?_, fun hn => absurd (hd 28 (by kernel_rfl)) hn⟩
    have h29 : ρ (.tmp 29) = .agg ks := hd 29 (by kernel_rfl)
    have h31 : ρ (.tmp 31) = .slice A 7 c := hd 31 (by kernel_rfl)
    exact Lin.Runs.call Lin.keeps (f := 82) (args := #[.agg ks, .slice A 7 c]) (by simp [execOp, go_sem, hF, h29, h31]) ((unhide TT wq (IsB.take ((HL.out.st HB4.out).st hb) (by omega))).mono fun e w9 ⟨v9, h1, h2, h3⟩ => ⟨v9, h1, h2, h3.isb⟩)
  · intro ρ wq hb ho hc hd
    have hC : ∀ v, ρ (.const v) = v := fun v => hc _ (by intro t e; cases e)
    have hF : ∀ f, ρ (.func f) = .func (.func f) #[] #[] := fun f => hc _ (by intro t e; cases e)
    intro t ht; cases (show some 28 = some t from ht)
    refine ⟨fun _ => ?_, fun hn => absurd (hd 28 (by kernel_rfl)) hn⟩
    have h32 := hd 32 (by kernel_rfl)
    exact Lin.Runs.value Lin.keeps (Lin.exec_convert rfl h32.conv) rfl
  · intro ρ wq hb ho hc hd
    have hC : ∀ v, ρ (.const v) = v := fun v => hc _ (by intro t e; cases e)
    have hF : ∀ f, ρ (.func f) = .func (.func f) #[] #[] := fun f => hc _ (by intro t e; cases e)
    intro t ht; cases (show some 28 = some t from ht)
    refine ⟨fun _ => ?_, fun hn => absurd (hd 28 (by kernel_rfl)) hn⟩
    have h1 : ρ (.tmp 1) = .slice A 12 c := ho 1 (by kernel_rfl)
    exact Lin.Runs.value Lin.keeps (Lin.exec_move rfl) h1
  · intro ρ wq hb ho hc hd
    have hC : ∀ v, ρ (.const v) = v := fun v => hc _ (by intro t e; cases e)
    have hF : ∀ f, ρ (.func f) = .func (.func f) #[] #[] := fun f => hc _ (by intro t e; cases e)
    intro t ht; cases (show some 28 = some t from ht)
    refine ⟨fun _ => ?_, fun hn => absurd (hd 28 (by kernel_rfl)) hn⟩
    have h34 : ρ (.tmp 34) = .slice A 12 c := hd 34 (by kernel_rfl)
    exact Lin.sl_from (i := 7) (.tmp 34) _ rfl h34 (hC _) ((HL.out.st HB4.out).st hb) (by omega)
  · intro ρ wq hb ho hc hd
    have hC : ∀ v, ρ (.const v) = v := fun v => hc _ (by intro t e; cases e)
    have hF : ∀ f, ρ (.func f) = .func (.func f) #[] #[] := fun f => hc _ (by intro t e; cases e)
    intro t ht; cases (show some 28 = some t from ht)
    refine ⟨fun _ => ?_, fun hn => absurd (hd 28 (by kernel_rfl)) hn⟩
    have h35 := hd 35 (by kernel_rfl)
    exact Lin.Runs.value Lin.keeps (Lin.exec_convert rfl h35.conv) rfl
  · intro ρ wq hb ho hc hd
    have hC : ∀ v, ρ (.const v) = v := fun v => hc _ (by intro t e; cases e)
    have hF : ∀ f, ρ (.func f) = .func (.func f) #[] #[] := fun f => hc _ (by intro t e; cases e)
    intro t ht; cases (show some 28 = some t from ht)
    refine ⟨fun _ => ?_, fun hn => absurd (hd 28 (by kernel_rfl)) hn⟩
    have h33 : ρ (.tmp 33) = .string (strOfNums tt) := hd 33 (by kernel_rfl)
    have h36 : ρ (.tmp 36) = .string (strOfNums (L.drop 7)) := hd 36 (by kernel_rfl)
    rw [← HTE.out] at h36
    exact Lin.Runs.value Lin.keeps (v := .bool false) (by simp [execOp, go_sem, h33, h36]) rfl
  · intro ρ wq hb ho hc hd
    have hC : ∀ v, ρ (.const v) = v := fun v => hc _ (by intro t e; cases e)
    have hF : ∀ f, ρ (.func f) = .func (.func f) #[] #[] := fun f => hc _ (by intro t e; cases e)
    have h28 : ρ (.tmp 28) = .bool false := hd 28 (by kernel_rfl)
    have h37 : ρ (.tmp 37) = .bool false := hd 37 (by kernel_rfl)
    exact Lin.Runs.value Lin.keeps (v := .bool false) (by simp [execOp, go_sem, hC, h28, h37]) rfl
  · intro vals w5 hb2 hv
    have ee : vals 38 = .bool false := hv 38 (by kernel_rfl)
    have HB5 := Lib.hid (HB4.out.trans (hb2.mono HB4.out.size))
    have K5 := Lib.hid (K4.out.below hb2 K4.out.lt)
    clear hb2 hv HB4 K4
    simp only [Lin.putAll, Option.getD_some]
    rw [ee]
    clear ee
    go_simp
    generalize vals = vq
    go_wp2_with fail
    refine Lin.wp_region_lin Lin.keeps (n := 52)  (fun slotq => match slotq with | 39 => Lin.Spec.val (.agg ks) | 40 => Lin.Spec.val (.slice A 12 c) | 41 => Lin.Spec.val (.slice A 5 c) | 42 => Lin.Spec.val (.int .u16 (wd : Int)) | 43 => Lin.Spec.val (.int .u16 (y : Int)) | 44 => Lin.Spec.val (.int .i64 (y : Int)) | 11 => Lin.Spec.val (.int .i64 (y : Int)) | _ => Lin.Spec.any) (by kernel_rfl) rfl (by kernel_rfl) ⟨?_, ?_, ?_, ?_, ?_, ?_, ?_, trivial⟩ ?_
    · intro ρ wq hb ho hc hd
      have hC : ∀ v, ρ (.const v) = v := fun v => hc _ (by intro t e; cases e)
      have hF : ∀ f, ρ (.func f) = .func (.func f) #[] #[] := fun f => hc _ (by intro t e; cases e)
      have h9 : ρ (.tmp 9) = .pointer (some ⟨g9, 0, none⟩) := ho 9 (by kernel_rfl)
      exact Lin.Runs.load_row Lin.keeps 36 (.tmp 9) rfl g9 h9 36 ks (K5.out.below hb K5.out.lt) _ Try.underlying36 rfl (by rw [KSZ.out]; kernel_rfl) rfl
    · intro ρ wq hb ho hc hd
      have hC : ∀ v, ρ (.const v) = v := fun v => hc _ (by intro t e; cases e)
      have hF : ∀ f, ρ (.func f) = .func (.func f) #[] #[] := fun f => hc _ (by intro t e; cases e)
      have h1 : ρ (.tmp 1) = .slice A 12 c := ho 1 (by kernel_rfl)
      exact Lin.Runs.value Lin.keeps (Lin.exec_move rfl) h1
    · intro ρ wq hb ho hc hd
      have hC : ∀ v, ρ (.const v) = v := fun v => hc _ (by intro t e; cases e)
      have hF : ∀ f, ρ (.func f) = .func (.func f) #[] #[] := fun f => hc _ (by intro t e; cases e)
      have h40 : ρ (.tmp 40) = .slice A 12 c := hd 40 (by kernel_rfl)
      exact Lin.sl_to (k := 5) (.tmp 40) _ rfl h40 (hC _) ((HL.out.st HB5.out).st hb) (by omega) rfl
    · intro ρ wq hb ho hc hd
      have hC : ∀ v, ρ (.const v) = v := fun v => hc _ (by intro t e; cases e)
      have hF : ∀ f, ρ (.func f) = .func (.func f) #[] #[] := fun f => hc _ (by intro t e; cases e)
      have h8 : ρ (.tmp 8) = .int .u16 (wd : Int) := ho 8 (by kernel_rfl)
      exact Lin.Runs.value Lin.keeps (Lin.exec_move rfl) h8
    · intro ρ wq hb ho hc hd
      have hC : ∀ v, ρ (.const v) = v := fun v => hc _ (by intro t e; cases e)
      have hF : ∀ f, ρ (.func f) = .func (.func f) #[] #[] := fun f => hc _ (by intro t e; cases e)
      have h39 : ρ (.tmp 39) = .agg ks := hd 39 (by kernel_rfl)
      have h41 : ρ (.tmp 41) = .slice A 5 c := hd 41 (by kernel_rfl)
      have h42 : ρ (.tmp 42) = .int .u16 (wd : Int) := hd 42 (by kernel_rfl)
      exact Lin.Runs.call Lin.keeps (f := 83) (args := #[.agg ks, .slice A 5 c, .int .u16 (wd : Int)]) (by simp [execOp, go_sem, hF, h39, h41, h42]) ((unhide MT wq (IsB.take ((HL.out.st HB5.out).st hb) (by omega))).mono fun e w9 h => ⟨_, h.1, h.2, rfl⟩)
    · intro ρ wq hb ho hc hd
      have hC : ∀ v, ρ (.const v) = v := fun v => hc _ (by intro t e; cases e)
      have hF : ∀ f, ρ (.func f) = .func (.func f) #[] #[] := fun f => hc _ (by intro t e; cases e)
      have h43 : ρ (.tmp 43) = .int .u16 (y : Int) := hd 43 (by kernel_rfl)
      exact Lin.Runs.value Lin.keeps (v := .int .i64 (y : Int)) (by simp [execOp, go_sem, h43, f3]) rfl
    · intro ρ wq hb ho hc hd
      have hC : ∀ v, ρ (.const v) = v := fun v => hc _ (by intro t e; cases e)
      have hF : ∀ f, ρ (.func f) = .func (.func f) #[] #[] := fun f => hc _ (by intro t e; cases e)
      have h44 : ρ (.tmp 44) = .int .i64 (y : Int) := hd 44 (by kernel_rfl)
      exact Lin.Runs.value Lin.keeps (Lin.exec_assign rfl) h44
    · intro vals w7 hb2 hv
      have ee : vals 11 = .int .i64 (y : Int) := hv 11 (by kernel_rfl)
      have HB7 := Lib.hid (HB5.out.trans (hb2.mono HB5.out.size))
      clear hb2 hv K5
      simp only [Lin.putAll, Option.getD_some]
      rw [ee]
      clear ee
      go_simp
      generalize vals = vw
      go_wp2_with fail
      refine (rnum_p (IsB.take (k := 5) (HL.out.st HB7.out) (by omega)) (HLO.out.take 5) (by rw [List.length_take, LE.out]; omega)).mono ?_
      rintro e w8 ⟨rfl, rfl⟩
      rw [show numW (L.take 5) = (on : Int) from H0.out]
      go_wp2_with fail
      refine bodyPost_ret (v := .tuple #[.int .i64 (ya : Int), .int .i64 (yb : Int), .int .u64 (on : Int), .int .i64 0]) (by simp [results, Try.results30, go_sem]) rfl ⟨rfl, HB7.out⟩
end Go.Proofs.Ythjkjohmaemmiaa
