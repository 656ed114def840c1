/-
  Read of package cid. Helper of the claims of layer 13. No condition.
-/
import Derived.Test.YthjkjohmaemmiaaCd2
import Derived.Test.YthjkjohmaemmiaaRh3
namespace Go.Proofs.Ythjkjohmaemmiaa
open Go.ChangeShapes Go.WideShapes Go.ChangeAt Go.RowKit
set_option linter.unusedSimpArgs false
set_option linter.unusedVariables false
set_option maxRecDepth 100000
def specGk (t : TypeId) (B : Nat) (Z N : Array Value) (g : Nat) : Lin.Spec (TRk t B Z N) := ⟨fun _ w => Is w g t N, fun hp h => turnK_new h hp⟩
theorem turnK_other {t t' : TypeId} {B p : Nat} {Z N cs : Array Value} {w w' : World} (h : TRk t B Z N w w') (hp : Is w p t' cs) (hne : t ≠ t') : Is w' p t' cs := by
  rcases h.2.2.2.2 p hp.lt with e | ⟨_, e⟩
  · exact e.trans hp
  · exfalso
    have e2 := hp.symm.trans e.1
    injection e2 with e2; injection e2 with _ ht; exact hne ht.symm
set_option maxHeartbeats 400000 in
theorem read_short (key : List Int) (n : Nat) (A : Option Addr) (k c : Nat) (hk : k ≠ 12) (w : World) : Calls Try.prog 29 #[.agg (rcs key n), .slice A k c] w fun e w' => e = .returned (.tuple #[.agg #[.int .i64 0, .int .i64 0], .int .u64 0, .int .i64 20]) ∧ Below w.heap.size w w' := by
  have g1 : ((k : Int) == 12) = false := by rw [beq_eq_false_iff_ne]; omega
  have g2 : ((k : Int) != 12) = true := by simp; omega
  have HB0 := Lib.hid (show Below w.heap.size w ((w.alloc (.cells (rcs key n) 45)).alloc (.cells #[.int .i64 0, .int .i64 0] 41)) from ((Below.refl _ _).alloc (Nat.le_refl _) _).alloc (by simp) _)
  generalize (rcs key n) = rs at *
  go_enter Try.func29, Try.ntmps29
  go_wp2_with fail
  refine bodyPost_ret (v := .tuple #[.agg #[.int .i64 0, .int .i64 0], .int .u64 0, .int .i64 20]) (by simp [results, Try.results29, go_sem]) rfl ⟨rfl, ?_⟩
  repeat' first | with_reducible exact HB0.out | with_reducible apply Below.set1
  all_goals simp
set_option maxHeartbeats 2000000 in
theorem read_C (key : List Int) (hk : key.length = 16) (ho : Octets key) (n : Nat) (hn : n < 18446744073709551616) (L : List Int) (hlo : Octets L) (A : Option Addr) (c : Nat) (wd x on : Nat) (hwd : wd < 65536) (hw5 : nw L 5 2 = (wd : Int)) (hon : nw L 0 5 = (on : Int)) (hx : wd / 32768 = x) (kk : List Int) (hkk : kk.length = 16) (hko : Octets kk) (hat : atp key n (x : Int) = kk) (hok : ato n (x : Int) = false) (w : World) (hl : IsB L 12 (.slice A 12 c) w) :
    Calls Try.prog 29 #[.agg (rcs key n), .slice A 12 c] w fun e w' => e = .returned (.tuple #[.agg #[.int .i64 0, .int .i64 0], .int .u64 0, .int .i64 26]) ∧ Below w.heap.size w w' := by
  have LEN := isbk_len hl
  have f1 : (wd : Int) / 32768 = (x : Int) := by omega
  have f2 : IntKind.i64.wrap (x : Int) = (x : Int) := IntWalk.i64_in _ (by omega)
  have AT1 := hide (fun W => show Calls Try.prog 71 #[.agg (rcs key n), .int .i64 (x : Int)] W fun e w' => e = .returned (.tuple #[.agg (u8s kk).toArray, .bool false]) ∧ Below W.heap.size W w' from by have h := hat_any key hk ho n hn (x : Int) W; rw [hat, hok] at h; exact h)
  have EQB := Lib.hid (rfl : true = true)
  have TT := EQB
  have KSZ := Lib.hid (key_size hkk); have KONE := Lib.hid (one_u8s kk)
  have RSZ := Lib.hid (rcs_size hk n)
  have HL := Lib.hid hl; have HLO := Lib.hid hlo; have H5 := Lib.hid hw5; have H0 := Lib.hid hon; have LE := Lib.hid LEN
  generalize (u8s kk).toArray = ks at *
  have HB0 := Lib.hid (show Below w.heap.size w ((w.alloc (.cells (rcs key n) 45)).alloc (.cells #[.int .i64 0, .int .i64 0] 41)) from ((Below.refl _ _).alloc (Nat.le_refl _) _).alloc (by simp) _)
  have G0 := Lib.hid ((Is.new w 45 (rcs key n)).alloc (.cells #[.int .i64 0, .int .i64 0] 41))
  have Z0 := Lib.hid (Is.new (w.alloc (.cells (rcs key n) 45)) 41 #[.int .i64 0, .int .i64 0])
  rw [show (w.alloc (.cells (rcs key n) 45)).heap.size = w.heap.size + 1 from by simp] at Z0
  clear hk ho hn hat hok hkk hko hl hlo hw5 hon LEN hx
  go_enter Try.func29, Try.ntmps29
  go_wp2_with fail
  generalize ((w.alloc (.cells (rcs key n) 45)).alloc (.cells #[.int .i64 0, .int .i64 0] 41)) = V at *
  generalize hg4 : w.heap.size + 1 = g4 at *
  have HG4 := Lib.hid hg4
  clear hg4
  refine (read_q (HL.out.st HB0.out) (by omega)).mono ?_
  rintro e w1 ⟨g, rfl, hrs⟩
  have HRS := Lib.hid hrs
  clear hrs
  go_wp2_with fail
  refine (num_q 5 5 (on : Int) HRS.out HLO.out rfl (by rw [LE.out]; omega) (by omega) H0.out).mono ?_
  rintro e w2 ⟨rfl, hrs, _⟩
  have HRS := Lib.hid hrs
  clear hrs
  go_wp2_with fail
  refine (word_q 7 (wd : Int) HRS.out HLO.out rfl (by rw [LE.out]; omega) H5.out).mono ?_
  rintro e w3 ⟨rfl, hrs, _⟩
  have HB3 := Lib.hid (HB0.out.trans (hrs.bel.mono HB0.out.size)); have G3 := Lib.hid (G0.out.below hrs.bel G0.out.lt); have Z3 := Lib.hid (Z0.out.below hrs.bel Z0.out.lt)
  clear hrs HRS HB0 G0 Z0
  go_wp2_with (with_reducible show wpList _ _ _ (⟨some 23, _, _, _, _, _⟩ :: _) _ _; go_loud (refine Go.wpList_load_row rfl 45 (.tmp 2) rfl w.heap.size rfl 45 (rcs key n) (0, 0) _ (is_raw G3.out) Try.underlying45 rfl (by rw [RSZ.out]; kernel_rfl) ?_))
  refine (unhide AT1 _).mono ?_
  rintro e w4 ⟨rfl, hb⟩
  have J4 := Lib.hid (Is.new w4 43 #[.int .u8 0, .int .u8 0, .int .u8 0, .int .u8 0, .int .u8 0, .int .u8 0, .int .u8 0, .int .u8 0, .int .u8 0, .int .u8 0, .int .u8 0, .int .u8 0, .int .u8 0, .int .u8 0, .int .u8 0, .int .u8 0])
  have hz4 : w.heap.size ≤ w4.heap.size := Nat.le_trans HB3.out.size hb.size
  have e1 := (Z3.out.below hb Z3.out.lt)
  have K4 := Lib.hid (is_row (cs' := ks) J4.out)
  have Z4 := Lib.hid (show Is ((w4.alloc (.cells #[.int .u8 0, .int .u8 0, .int .u8 0, .int .u8 0, .int .u8 0, .int .u8 0, .int .u8 0, .int .u8 0, .int .u8 0, .int .u8 0, .int .u8 0, .int .u8 0, .int .u8 0, .int .u8 0, .int .u8 0, .int .u8 0] 43)).setRow w4.heap.size ks) g4 41 #[.int .i64 0, .int .i64 0] from (setRow_other _ _ _ _ (by have := e1.lt; omega)).trans (e1.alloc _))
  have HB4 := Lib.hid (below_setRow ((HB3.out.trans (hb.mono HB3.out.size)).alloc hz4 (.cells #[.int .u8 0, .int .u8 0, .int .u8 0, .int .u8 0, .int .u8 0, .int .u8 0, .int .u8 0, .int .u8 0, .int .u8 0, .int .u8 0, .int .u8 0, .int .u8 0, .int .u8 0, .int .u8 0, .int .u8 0, .int .u8 0] 43)) (g := w4.heap.size) hz4 ks)
  clear hb e1 HB3 G3 Z3 hz4
  go_wp2_with (
    (with_reducible show wpList _ _ _ (⟨none, _, _, _, _, _⟩ :: _) _ _)
    go_loud (refine Go.wpList_store_row rfl 43 (.tmp 10) (.tmp 28) rfl w4.heap.size ks rfl rfl 43 #[.int .u8 0, .int .u8 0, .int .u8 0, .int .u8 0, .int .u8 0, .int .u8 0, .int .u8 0, .int .u8 0, .int .u8 0, .int .u8 0, .int .u8 0, .int .u8 0, .int .u8 0, .int .u8 0, .int .u8 0, .int .u8 0] (is_raw J4.out) (by rw [KSZ.out]; kernel_rfl) (by rw [KSZ.out]; simp) KONE.out ?_)
    generalize (w4.alloc (.cells #[.int .u8 0, .int .u8 0, .int .u8 0, .int .u8 0, .int .u8 0, .int .u8 0, .int .u8 0, .int .u8 0, .int .u8 0, .int .u8 0, .int .u8 0, .int .u8 0, .int .u8 0, .int .u8 0, .int .u8 0, .int .u8 0] 43)).setRow w4.heap.size ks = X at *
    generalize w4.heap.size = g10 at *)
  clear J4
  refine Lin.wp_region_lin Lin.keeps (n := 51)  (fun slotq => match slotq with | 30 => Lin.Spec.val (.bool false) | 31 => Lin.Spec.val (.bool true) | 32 => Lin.Spec.val (.bool true) | 33 => Lin.Spec.val (undef) | 34 => Lin.Spec.val (undef) | 35 => Lin.Spec.val (undef) | 36 => Lin.Spec.val (undef) | 37 => Lin.Spec.val (undef) | 38 => Lin.Spec.val (undef) | 39 => Lin.Spec.val (undef) | 40 => Lin.Spec.val (undef) | 41 => Lin.Spec.val (.bool true) | _ => Lin.Spec.any) (by kernel_rfl) rfl (by kernel_rfl) ⟨?_, ?_, ?_, ?_, ?_, ?_, ?_, ?_, ?_, ?_, ?_, ?_, trivial⟩ ?_
  · intro ρ wq hb ho hc hd
    have hC : ∀ v, ρ (.const v) = v := fun v => hc _ (by intro t e; cases e)
    have hF : ∀ f, ρ (.func f) = .func (.func f) #[] #[] := fun f => hc _ (by intro t e; cases e)
    have h11 : ρ (.tmp 11) = .bool false := ho 11 (by kernel_rfl)
    exact Lin.Runs.value Lin.keeps (Lin.exec_move rfl) h11
  · intro ρ wq hb ho hc hd
    have hC : ∀ v, ρ (.const v) = v := fun v => hc _ (by intro t e; cases e)
    have hF : ∀ f, ρ (.func f) = .func (.func f) #[] #[] := fun f => hc _ (by intro t e; cases e)
    have h30 : ρ (.tmp 30) = .bool false := hd 30 (by kernel_rfl)
    exact Lin.Runs.value Lin.keeps (v := .bool true) (by simp [execOp, go_sem, h30]) rfl
  · intro ρ wq hb ho hc hd
    have hC : ∀ v, ρ (.const v) = v := fun v => hc _ (by intro t e; cases e)
    have hF : ∀ f, ρ (.func f) = .func (.func f) #[] #[] := fun f => hc _ (by intro t e; cases e)
    have h31 : ρ (.tmp 31) = .bool true := hd 31 (by kernel_rfl)
    exact Lin.Runs.value Lin.keeps (v := .bool true) (by simp [execOp, go_sem, h31]) rfl
  · intro ρ wq hb ho hc hd
    have hC : ∀ v, ρ (.const v) = v := fun v => hc _ (by intro t e; cases e)
    have hF : ∀ f, ρ (.func f) = .func (.func f) #[] #[] := fun f => hc _ (by intro t e; cases e)
    intro t ht; cases (show some 32 = some t from ht)
    exact ⟨fun he => absurd (he.symm.trans (hd 32 (by kernel_rfl))) (by first | simp | (intro h; cases h)), fun _ => rfl⟩
  · intro ρ wq hb ho hc hd
    have hC : ∀ v, ρ (.const v) = v := fun v => hc _ (by intro t e; cases e)
    have hF : ∀ f, ρ (.func f) = .func (.func f) #[] #[] := fun f => hc _ (by intro t e; cases e)
    intro t ht; cases (show some 32 = some t from ht)
    exact ⟨fun he => absurd (he.symm.trans (hd 32 (by kernel_rfl))) (by first | simp | (intro h; cases h)), fun _ => rfl⟩
  · intro ρ wq hb ho hc hd
    have hC : ∀ v, ρ (.const v) = v := fun v => hc _ (by intro t e; cases e)
    have hF : ∀ f, ρ (.func f) = .func (.func f) #[] #[] := fun f => hc _ (by intro t e; cases e)
    intro t ht; cases (show some 32 = some t from ht)
    exact ⟨fun he => absurd (he.symm.trans (hd 32 (by kernel_rfl))) (by first | simp | (intro h; cases h)), fun _ => rfl⟩
  · intro ρ wq hb ho hc hd
    have hC : ∀ v, ρ (.const v) = v := fun v => hc _ (by intro t e; cases e)
    have hF : ∀ f, ρ (.func f) = .func (.func f) #[] #[] := fun f => hc _ (by intro t e; cases e)
    intro t ht; cases (show some 32 = some t from ht)
    exact ⟨fun he => absurd (he.symm.trans (hd 32 (by kernel_rfl))) (by first | simp | (intro h; cases h)), fun _ => rfl⟩
  · intro ρ wq hb ho hc hd
    have hC : ∀ v, ρ (.const v) = v := fun v => hc _ (by intro t e; cases e)
    have hF : ∀ f, ρ (.func f) = .func (.func f) #[] #[] := fun f => hc _ (by intro t e; cases e)
    intro t ht; cases (show some 32 = some t from ht)
    exact ⟨fun he => absurd (he.symm.trans (hd 32 (by kernel_rfl))) (by first | simp | (intro h; cases h)), fun _ => rfl⟩
  · intro ρ wq hb ho hc hd
    have hC : ∀ v, ρ (.const v) = v := fun v => hc _ (by intro t e; cases e)
    have hF : ∀ f, ρ (.func f) = .func (.func f) #[] #[] := fun f => hc _ (by intro t e; cases e)
    intro t ht; cases (show some 32 = some t from ht)
    exact ⟨fun he => absurd (he.symm.trans (hd 32 (by kernel_rfl))) (by first | simp | (intro h; cases h)), fun _ => rfl⟩
  · intro ρ wq hb ho hc hd
    have hC : ∀ v, ρ (.const v) = v := fun v => hc _ (by intro t e; cases e)
    have hF : ∀ f, ρ (.func f) = .func (.func f) #[] #[] := fun f => hc _ (by intro t e; cases e)
    intro t ht; cases (show some 32 = some t from ht)
    exact ⟨fun he => absurd (he.symm.trans (hd 32 (by kernel_rfl))) (by first | simp | (intro h; cases h)), fun _ => rfl⟩
  · intro ρ wq hb ho hc hd
    have hC : ∀ v, ρ (.const v) = v := fun v => hc _ (by intro t e; cases e)
    have hF : ∀ f, ρ (.func f) = .func (.func f) #[] #[] := fun f => hc _ (by intro t e; cases e)
    intro t ht; cases (show some 32 = some t from ht)
    exact ⟨fun he => absurd (he.symm.trans (hd 32 (by kernel_rfl))) (by first | simp | (intro h; cases h)), fun _ => rfl⟩
  · intro ρ wq hb ho hc hd
    have hC : ∀ v, ρ (.const v) = v := fun v => hc _ (by intro t e; cases e)
    have hF : ∀ f, ρ (.func f) = .func (.func f) #[] #[] := fun f => hc _ (by intro t e; cases e)
    have h32 : ρ (.tmp 32) = .bool true := hd 32 (by kernel_rfl)
    have h40 : ρ (.tmp 40) = undef := hd 40 (by kernel_rfl)
    exact Lin.Runs.value Lin.keeps (v := .bool true) (by simp [execOp, go_sem, hC, h32, h40]) rfl
  · intro vals w5 hb2 hv
    have ee : vals 41 = .bool true := hv 41 (by kernel_rfl)
    have HB5 := Lib.hid (HB4.out.trans (hb2.mono HB4.out.size))
    have Z5 := Lib.hid (Z4.out.below hb2 Z4.out.lt)
    clear hb2 hv HB4 Z4 K4
    simp only [Lin.putAll, Option.getD_some]
    rw [ee]
    clear ee
    go_simp
    generalize vals = vq
    have z0 := Z5.out.cell 0; have z1 := Z5.out.cell 1; have y0 := Z5.out.free 0; have y1 := Z5.out.free 1
    simp at z0 z1
    go_wp2_with fail
    refine bodyPost_ret (v := .tuple #[.agg #[.int .i64 0, .int .i64 0], .int .u64 0, .int .i64 26]) (by simp [results, Try.results29, go_sem, z0, z1]) rfl ⟨rfl, ?_⟩
    repeat' first | with_reducible exact HB5.out | with_reducible apply Below.set1
    all_goals have := HG4.out; omega
set_option maxHeartbeats 2000000 in
theorem read_D (key : List Int) (hk : key.length = 16) (ho : Octets key) (n : Nat) (hn : n < 18446744073709551616) (L : List Int) (hlo : Octets L) (A : Option Addr) (c : Nat) (wd x on : Nat) (hwd : wd < 65536) (hw5 : nw L 5 2 = (wd : Int)) (hon : nw L 0 5 = (on : Int)) (hx : wd / 32768 = x) (kk : List Int) (hkk : kk.length = 16) (hko : Octets kk) (hat : atp key n (x : Int) = kk) (hok : ato n (x : Int) = true) (htg : tgc kk (L.take 7) ≠ L.drop 7) (w : World) (hl : IsB L 12 (.slice A 12 c) w) :
    Calls Try.prog 29 #[.agg (rcs key n), .slice A 12 c] w fun e w' => e = .returned (.tuple #[.agg #[.int .i64 0, .int .i64 0], .int .u64 0, .int .i64 26]) ∧ Below w.heap.size w w' := by
  have LEN := isbk_len hl
  have f1 : (wd : Int) / 32768 = (x : Int) := by omega
  have f2 : IntKind.i64.wrap (x : Int) = (x : Int) := IntWalk.i64_in _ (by omega)
  have AT1 := hide (fun W => show Calls Try.prog 71 #[.agg (rcs key n), .int .i64 (x : Int)] W fun e w' => e = .returned (.tuple #[.agg (u8s kk).toArray, .bool true]) ∧ Below W.heap.size W w' from by have h := hat_any key hk ho n hn (x : Int) W; rw [hat, hok] at h; exact h)
  have EQB := hide (show ((strOfNums (tgc kk (L.take 7))).toList == (strOfNums (L.drop 7)).toList) = false from by rw [eqb_of (tgc_ok _ _) (hlo.drop 7)]; simp [htg])
  have TT := hide (fun W h => ctag13 kk hkk hko (L.take 7) 6 c A (hlo.take 7) (by omega) W h)
  generalize htt : tgc kk (L.take 7) = tt at EQB TT
  clear htt htg
  have KSZ := Lib.hid (key_size hkk); have KONE := Lib.hid (one_u8s kk)
  have RSZ := Lib.hid (rcs_size hk n)
  have HL := Lib.hid hl; have HLO := Lib.hid hlo; have H5 := Lib.hid hw5; have H0 := Lib.hid hon; have LE := Lib.hid LEN
  generalize (u8s kk).toArray = ks at *
  have HB0 := Lib.hid (show Below w.heap.size w ((w.alloc (.cells (rcs key n) 45)).alloc (.cells #[.int .i64 0, .int .i64 0] 41)) from ((Below.refl _ _).alloc (Nat.le_refl _) _).alloc (by simp) _)
  have G0 := Lib.hid ((Is.new w 45 (rcs key n)).alloc (.cells #[.int .i64 0, .int .i64 0] 41))
  have Z0 := Lib.hid (Is.new (w.alloc (.cells (rcs key n) 45)) 41 #[.int .i64 0, .int .i64 0])
  rw [show (w.alloc (.cells (rcs key n) 45)).heap.size = w.heap.size + 1 from by simp] at Z0
  clear hk ho hn hat hok hkk hko hl hlo hw5 hon LEN hx
  go_enter Try.func29, Try.ntmps29
  go_wp2_with fail
  generalize ((w.alloc (.cells (rcs key n) 45)).alloc (.cells #[.int .i64 0, .int .i64 0] 41)) = V at *
  generalize hg4 : w.heap.size + 1 = g4 at *
  have HG4 := Lib.hid hg4
  clear hg4
  refine (read_q (HL.out.st HB0.out) (by omega)).mono ?_
  rintro e w1 ⟨g, rfl, hrs⟩
  have HRS := Lib.hid hrs
  clear hrs
  go_wp2_with fail
  refine (num_q 5 5 (on : Int) HRS.out HLO.out rfl (by rw [LE.out]; omega) (by omega) H0.out).mono ?_
  rintro e w2 ⟨rfl, hrs, _⟩
  have HRS := Lib.hid hrs
  clear hrs
  go_wp2_with fail
  refine (word_q 7 (wd : Int) HRS.out HLO.out rfl (by rw [LE.out]; omega) H5.out).mono ?_
  rintro e w3 ⟨rfl, hrs, _⟩
  have HB3 := Lib.hid (HB0.out.trans (hrs.bel.mono HB0.out.size)); have G3 := Lib.hid (G0.out.below hrs.bel G0.out.lt); have Z3 := Lib.hid (Z0.out.below hrs.bel Z0.out.lt)
  clear hrs HRS HB0 G0 Z0
  go_wp2_with (with_reducible show wpList _ _ _ (⟨some 23, _, _, _, _, _⟩ :: _) _ _; go_loud (refine Go.wpList_load_row rfl 45 (.tmp 2) rfl w.heap.size rfl 45 (rcs key n) (0, 0) _ (is_raw G3.out) Try.underlying45 rfl (by rw [RSZ.out]; kernel_rfl) ?_))
  refine (unhide AT1 _).mono ?_
  rintro e w4 ⟨rfl, hb⟩
  have J4 := Lib.hid (Is.new w4 43 #[.int .u8 0, .int .u8 0, .int .u8 0, .int .u8 0, .int .u8 0, .int .u8 0, .int .u8 0, .int .u8 0, .int .u8 0, .int .u8 0, .int .u8 0, .int .u8 0, .int .u8 0, .int .u8 0, .int .u8 0, .int .u8 0])
  have hz4 : w.heap.size ≤ w4.heap.size := Nat.le_trans HB3.out.size hb.size
  have e1 := (Z3.out.below hb Z3.out.lt)
  have K4 := Lib.hid (is_row (cs' := ks) J4.out)
  have Z4 := Lib.hid (show Is ((w4.alloc (.cells #[.int .u8 0, .int .u8 0, .int .u8 0, .int .u8 0, .int .u8 0, .int .u8 0, .int .u8 0, .int .u8 0, .int .u8 0, .int .u8 0, .int .u8 0, .int .u8 0, .int .u8 0, .int .u8 0, .int .u8 0, .int .u8 0] 43)).setRow w4.heap.size ks) g4 41 #[.int .i64 0, .int .i64 0] from (setRow_other _ _ _ _ (by have := e1.lt; omega)).trans (e1.alloc _))
  have HB4 := Lib.hid (below_setRow ((HB3.out.trans (hb.mono HB3.out.size)).alloc hz4 (.cells #[.int .u8 0, .int .u8 0, .int .u8 0, .int .u8 0, .int .u8 0, .int .u8 0, .int .u8 0, .int .u8 0, .int .u8 0, .int .u8 0, .int .u8 0, .int .u8 0, .int .u8 0, .int .u8 0, .int .u8 0, .int .u8 0] 43)) (g := w4.heap.size) hz4 ks)
  clear hb e1 HB3 G3 Z3 hz4
  go_wp2_with (
    (with_reducible show wpList _ _ _ (⟨none, _, _, _, _, _⟩ :: _) _ _)
    go_loud (refine Go.wpList_store_row rfl 43 (.tmp 10) (.tmp 28) rfl w4.heap.size ks rfl rfl 43 #[.int .u8 0, .int .u8 0, .int .u8 0, .int .u8 0, .int .u8 0, .int .u8 0, .int .u8 0, .int .u8 0, .int .u8 0, .int .u8 0, .int .u8 0, .int .u8 0, .int .u8 0, .int .u8 0, .int .u8 0, .int .u8 0] (is_raw J4.out) (by rw [KSZ.out]; kernel_rfl) (by rw [KSZ.out]; simp) KONE.out ?_)
    generalize (w4.alloc (.cells #[.int .u8 0, .int .u8 0, .int .u8 0, .int .u8 0, .int .u8 0, .int .u8 0, .int .u8 0, .int .u8 0, .int .u8 0, .int .u8 0, .int .u8 0, .int .u8 0, .int .u8 0, .int .u8 0, .int .u8 0, .int .u8 0] 43)).setRow w4.heap.size ks = X at *
    generalize w4.heap.size = g10 at *)
  clear J4
  refine Lin.wp_region_lin Lin.keeps (n := 51)  (fun slotq => match slotq with | 30 => Lin.Spec.val (.bool true) | 31 => Lin.Spec.val (.bool false) | 32 => Lin.Spec.val (.bool false) | 33 => Lin.Spec.val (.agg ks) | 34 => Lin.Spec.val (.slice A 12 c) | 35 => Lin.Spec.val (.slice A 7 c) | 36 => Lin.Spec.sl tt 5 | 37 => Lin.Spec.val (.slice A 12 c) | 38 => Lin.Spec.sl (L.drop 7) (12 - 7) | 39 => Lin.Spec.val (.bool false) | 40 => Lin.Spec.val (.bool true) | 41 => Lin.Spec.val (.bool true) | _ => Lin.Spec.any) (by kernel_rfl) rfl (by kernel_rfl) ⟨?_, ?_, ?_, ?_, ?_, ?_, ?_, ?_, ?_, ?_, ?_, ?_, trivial⟩ ?_
  · intro ρ wq hb ho hc hd
    have hC : ∀ v, ρ (.const v) = v := fun v => hc _ (by intro t e; cases e)
    have hF : ∀ f, ρ (.func f) = .func (.func f) #[] #[] := fun f => hc _ (by intro t e; cases e)
    have h11 : ρ (.tmp 11) = .bool true := ho 11 (by kernel_rfl)
    exact Lin.Runs.value Lin.keeps (Lin.exec_move rfl) h11
  · intro ρ wq hb ho hc hd
    have hC : ∀ v, ρ (.const v) = v := fun v => hc _ (by intro t e; cases e)
    have hF : ∀ f, ρ (.func f) = .func (.func f) #[] #[] := fun f => hc _ (by intro t e; cases e)
    have h30 : ρ (.tmp 30) = .bool true := hd 30 (by kernel_rfl)
    exact Lin.Runs.value Lin.keeps (v := .bool false) (by simp [execOp, go_sem, h30]) rfl
  · intro ρ wq hb ho hc hd
    have hC : ∀ v, ρ (.const v) = v := fun v => hc _ (by intro t e; cases e)
    have hF : ∀ f, ρ (.func f) = .func (.func f) #[] #[] := fun f => hc _ (by intro t e; cases e)
    have h31 : ρ (.tmp 31) = .bool false := hd 31 (by kernel_rfl)
    exact Lin.Runs.value Lin.keeps (v := .bool false) (by simp [execOp, go_sem, h31]) rfl
  · intro ρ wq hb ho hc hd
    have hC : ∀ v, ρ (.const v) = v := fun v => hc _ (by intro t e; cases e)
    have hF : ∀ f, ρ (.func f) = .func (.func f) #[] #[] := fun f => hc _ (by intro t e; cases e)
    intro t ht; cases (show some 32 = some t from ht)
    refine ⟨fun _ => ?_, fun hn => absurd (hd 32 (by kernel_rfl)) hn⟩
    have h10 : ρ (.tmp 10) = .pointer (some ⟨g10, 0, none⟩) := ho 10 (by kernel_rfl)
    exact Lin.Runs.load_row Lin.keeps 43 (.tmp 10) rfl g10 h10 43 ks (K4.out.below hb K4.out.lt) _ Try.underlying43 rfl (by rw [KSZ.out]; kernel_rfl) rfl
  · intro ρ wq hb ho hc hd
    have hC : ∀ v, ρ (.const v) = v := fun v => hc _ (by intro t e; cases e)
    have hF : ∀ f, ρ (.func f) = .func (.func f) #[] #[] := fun f => hc _ (by intro t e; cases e)
    intro t ht; cases (show some 32 = some t from ht)
    refine ⟨fun _ => ?_, fun hn => absurd (hd 32 (by kernel_rfl)) hn⟩
    have h1 : ρ (.tmp 1) = .slice A 12 c := ho 1 (by kernel_rfl)
    exact Lin.Runs.value Lin.keeps (Lin.exec_move rfl) h1
  · intro ρ wq hb ho hc hd
    have hC : ∀ v, ρ (.const v) = v := fun v => hc _ (by intro t e; cases e)
    have hF : ∀ f, ρ (.func f) = .func (.func f) #[] #[] := fun f => hc _ (by intro t e; cases e)
    intro t ht; cases (show some 32 = some t from ht)
    refine ⟨fun _ => ?_, fun hn => absurd (hd 32 (by kernel_rfl)) hn⟩
    have h34 : ρ (.tmp 34) = .slice A 12 c := hd 34 (by kernel_rfl)
    exact Lin.sl_to (k := 7) (.tmp 34) _ rfl h34 (hC _) ((HL.out.st HB4.out).st hb) (by omega) rfl
  · intro ρ wq hb ho hc hd
    have hC : ∀ v, ρ (.const v) = v := fun v => hc _ (by intro t e; cases e)
    have hF : ∀ f, ρ (.func f) = .func (.func f) #[] #[] := fun f => hc _ (by intro t e; cases e)
    intro t ht; cases (show some 32 = some t from ht)
    refine ⟨fun _ => ?_, fun hn => absurd (hd 32 (by kernel_rfl)) hn⟩
    have h33 : ρ (.tmp 33) = .agg ks := hd 33 (by kernel_rfl)
    have h35 : ρ (.tmp 35) = .slice A 7 c := hd 35 (by kernel_rfl)
    exact Lin.Runs.call Lin.keeps (f := 78) (args := #[.agg ks, .slice A 7 c]) (by simp [execOp, go_sem, hF, h33, h35]) ((unhide TT wq (IsB.take ((HL.out.st HB4.out).st hb) (by omega))).mono fun e w9 ⟨v9, h1, h2, h3⟩ => ⟨v9, h1, h2, h3.isb⟩)
  · intro ρ wq hb ho hc hd
    have hC : ∀ v, ρ (.const v) = v := fun v => hc _ (by intro t e; cases e)
    have hF : ∀ f, ρ (.func f) = .func (.func f) #[] #[] := fun f => hc _ (by intro t e; cases e)
    intro t ht; cases (show some 32 = some t from ht)
    refine ⟨fun _ => ?_, fun hn => absurd (hd 32 (by kernel_rfl)) hn⟩
    have h1 : ρ (.tmp 1) = .slice A 12 c := ho 1 (by kernel_rfl)
    exact Lin.Runs.value Lin.keeps (Lin.exec_move rfl) h1
  · intro ρ wq hb ho hc hd
    have hC : ∀ v, ρ (.const v) = v := fun v => hc _ (by intro t e; cases e)
    have hF : ∀ f, ρ (.func f) = .func (.func f) #[] #[] := fun f => hc _ (by intro t e; cases e)
    intro t ht; cases (show some 32 = some t from ht)
    refine ⟨fun _ => ?_, fun hn => absurd (hd 32 (by kernel_rfl)) hn⟩
    have h37 : ρ (.tmp 37) = .slice A 12 c := hd 37 (by kernel_rfl)
    exact Lin.sl_from (i := 7) (.tmp 37) _ rfl h37 (hC _) ((HL.out.st HB4.out).st hb) (by omega)
  · intro ρ wq hb ho hc hd
    have hC : ∀ v, ρ (.const v) = v := fun v => hc _ (by intro t e; cases e)
    have hF : ∀ f, ρ (.func f) = .func (.func f) #[] #[] := fun f => hc _ (by intro t e; cases e)
    intro t ht; cases (show some 32 = some t from ht)
    refine ⟨fun _ => ?_, fun hn => absurd (hd 32 (by kernel_rfl)) hn⟩
    have h36 := hd 36 (by kernel_rfl)
    have h38 := hd 38 (by kernel_rfl)
    obtain ⟨A36, c36, e36⟩ := IsB.shape h36
    obtain ⟨A38, c38, e38⟩ := IsB.shape h38
    refine Lin.Runs.call Lin.keeps (f := 77) (args := #[.slice A36 5 c36, .slice A38 (12 - 7) c38]) (by simp [execOp, go_sem, hF, e36, e38]) ?_
    rw [e36] at h36
    rw [e38] at h38
    exact (equal_p h36 h38).mono fun e w9 ⟨r, h1, h2, h3⟩ => ⟨r, h1, h2, h3.trans (by rw [EQB.out])⟩
  · intro ρ wq hb ho hc hd
    have hC : ∀ v, ρ (.const v) = v := fun v => hc _ (by intro t e; cases e)
    have hF : ∀ f, ρ (.func f) = .func (.func f) #[] #[] := fun f => hc _ (by intro t e; cases e)
    intro t ht; cases (show some 32 = some t from ht)
    refine ⟨fun _ => ?_, fun hn => absurd (hd 32 (by kernel_rfl)) hn⟩
    have h39 : ρ (.tmp 39) = .bool false := hd 39 (by kernel_rfl)
    exact Lin.Runs.value Lin.keeps (v := .bool true) (by simp [execOp, go_sem, h39]) rfl
  · intro ρ wq hb ho hc hd
    have hC : ∀ v, ρ (.const v) = v := fun v => hc _ (by intro t e; cases e)
    have hF : ∀ f, ρ (.func f) = .func (.func f) #[] #[] := fun f => hc _ (by intro t e; cases e)
    have h32 : ρ (.tmp 32) = .bool false := hd 32 (by kernel_rfl)
    have h40 : ρ (.tmp 40) = .bool true := hd 40 (by kernel_rfl)
    exact Lin.Runs.value Lin.keeps (v := .bool true) (by simp [execOp, go_sem, hC, h32, h40]) rfl
  · intro vals w5 hb2 hv
    have ee : vals 41 = .bool true := hv 41 (by kernel_rfl)
    have HB5 := Lib.hid (HB4.out.trans (hb2.mono HB4.out.size))
    have Z5 := Lib.hid (Z4.out.below hb2 Z4.out.lt)
    clear hb2 hv HB4 Z4 K4
    simp only [Lin.putAll, Option.getD_some]
    rw [ee]
    clear ee
    go_simp
    generalize vals = vq
    have z0 := Z5.out.cell 0; have z1 := Z5.out.cell 1; have y0 := Z5.out.free 0; have y1 := Z5.out.free 1
    simp at z0 z1
    go_wp2_with fail
    refine bodyPost_ret (v := .tuple #[.agg #[.int .i64 0, .int .i64 0], .int .u64 0, .int .i64 26]) (by simp [results, Try.results29, go_sem, z0, z1]) rfl ⟨rfl, ?_⟩
    repeat' first | with_reducible exact HB5.out | with_reducible apply Below.set1
    all_goals have := HG4.out; omega
set_option maxHeartbeats 2000000 in
theorem read_E (key : List Int) (hk : key.length = 16) (ho : Octets key) (n : Nat) (hn : n < 18446744073709551616) (L : List Int) (hlo : Octets L) (A : Option Addr) (c : Nat) (wd x on : Nat) (hwd : wd < 65536) (hw5 : nw L 5 2 = (wd : Int)) (hon : nw L 0 5 = (on : Int)) (hx : wd / 32768 = x) (kk : List Int) (hkk : kk.length = 16) (hko : Octets kk) (hat : atp key n (x : Int) = kk) (hok : ato n (x : Int) = true) (htg : tgc kk (L.take 7) = L.drop 7) (y : Nat) (hy : (wd ^^^ mkc kk (L.take 5)) % 32768 = y) (w : World) (hl : IsB L 12 (.slice A 12 c) w) :
    Calls Try.prog 29 #[.agg (rcs key n), .slice A 12 c] w fun e w' => e = .returned (.tuple #[.agg #[.int .i64 ((y / 4096 : Nat) : Int), .int .i64 ((y % 4096 : Nat) : Int)], .int .u64 (on : Int), .int .i64 0]) ∧ Below w.heap.size w w' := by
  have LEN := isbk_len hl
  have f1 : (wd : Int) / 32768 = (x : Int) := by omega
  have f2 : IntKind.i64.wrap (x : Int) = (x : Int) := IntWalk.i64_in _ (by omega)
  have AT1 := hide (fun W => show Calls Try.prog 71 #[.agg (rcs key n), .int .i64 (x : Int)] W fun e w' => e = .returned (.tuple #[.agg (u8s kk).toArray, .bool true]) ∧ Below W.heap.size W w' from by have h := hat_any key hk ho n hn (x : Int) W; rw [hat, hok] at h; exact h)
  have EQB := hide (show ((strOfNums (tgc kk (L.take 7))).toList == (strOfNums (L.drop 7)).toList) = true from by rw [eqb_of (tgc_ok _ _) (hlo.drop 7)]; simp [htg])
  have TT := hide (fun W h => ctag13 kk hkk hko (L.take 7) 6 c A (hlo.take 7) (by omega) W h)
  generalize htt : tgc kk (L.take 7) = tt at EQB TT
  clear htt htg
  obtain ⟨mm, hm⟩ : ∃ m, mkc kk (L.take 5) = m := ⟨_, rfl⟩
  have hml : mm < 32768 := by rw [← hm]; exact mkc_lt _ _
  rw [hm] at hy
  have hzl : wd ^^^ mm < 2 ^ 16 := Nat.xor_lt_two_pow hwd (by omega)
  have q6 : bits .xor .u16 (wd : Int) (mm : Int) = ((wd ^^^ mm : Nat) : Int) := by
    have e := u16_xor (wd : Int) (mm : Int) (by omega) (by omega) (by omega) (by omega)
    rw [e, Int.toNat_natCast, Int.toNat_natCast]
  generalize wd ^^^ mm = z at *
  have MT := hide (fun W h => show Calls Try.prog 79 #[.agg (u8s kk).toArray, .slice A 5 c] W fun e w' => e = .returned (.int .u16 (mm : Int)) ∧ Below W.heap.size W w' from by have h2 := cmask13 kk hkk hko (L.take 5) 4 c A (hlo.take 5) (by omega) W h; rw [hm] at h2; exact h2)
  have OT := hide (fun W => show Calls Try.prog 21 #[.int .u16 (z : Int)] W fun e w' => e = .returned (.agg #[.int .i64 ((y / 4096 : Nat) : Int), .int .i64 ((y % 4096 : Nat) : Int)]) ∧ Below W.heap.size W w' from by have h := cof z (by omega) W; rw [hy] at h; exact h)
  clear hm hy hzl hml
  generalize y / 4096 = ya at *
  generalize y % 4096 = yb at *
  have KSZ := Lib.hid (key_size hkk); have KONE := Lib.hid (one_u8s kk)
  have RSZ := Lib.hid (rcs_size hk n)
  have HL := Lib.hid hl; have HLO := Lib.hid hlo; have H5 := Lib.hid hw5; have H0 := Lib.hid hon; have LE := Lib.hid LEN
  generalize (u8s kk).toArray = ks at *
  have HB0 := Lib.hid (show Below w.heap.size w ((w.alloc (.cells (rcs key n) 45)).alloc (.cells #[.int .i64 0, .int .i64 0] 41)) from ((Below.refl _ _).alloc (Nat.le_refl _) _).alloc (by simp) _)
  have G0 := Lib.hid ((Is.new w 45 (rcs key n)).alloc (.cells #[.int .i64 0, .int .i64 0] 41))
  have Z0 := Lib.hid (Is.new (w.alloc (.cells (rcs key n) 45)) 41 #[.int .i64 0, .int .i64 0])
  rw [show (w.alloc (.cells (rcs key n) 45)).heap.size = w.heap.size + 1 from by simp] at Z0
  clear hk ho hn hat hok hkk hko hl hlo hw5 hon LEN hx
  go_enter Try.func29, Try.ntmps29
  go_wp2_with fail
  generalize ((w.alloc (.cells (rcs key n) 45)).alloc (.cells #[.int .i64 0, .int .i64 0] 41)) = V at *
  generalize hg4 : w.heap.size + 1 = g4 at *
  have HG4 := Lib.hid hg4
  clear hg4
  refine (read_q (HL.out.st HB0.out) (by omega)).mono ?_
  rintro e w1 ⟨g, rfl, hrs⟩
  have HRS := Lib.hid hrs
  clear hrs
  go_wp2_with fail
  refine (num_q 5 5 (on : Int) HRS.out HLO.out rfl (by rw [LE.out]; omega) (by omega) H0.out).mono ?_
  rintro e w2 ⟨rfl, hrs, _⟩
  have HRS := Lib.hid hrs
  clear hrs
  go_wp2_with fail
  refine (word_q 7 (wd : Int) HRS.out HLO.out rfl (by rw [LE.out]; omega) H5.out).mono ?_
  rintro e w3 ⟨rfl, hrs, _⟩
  have HB3 := Lib.hid (HB0.out.trans (hrs.bel.mono HB0.out.size)); have G3 := Lib.hid (G0.out.below hrs.bel G0.out.lt); have Z3 := Lib.hid (Z0.out.below hrs.bel Z0.out.lt)
  clear hrs HRS HB0 G0 Z0
  go_wp2_with (with_reducible show wpList _ _ _ (⟨some 23, _, _, _, _, _⟩ :: _) _ _; go_loud (refine Go.wpList_load_row rfl 45 (.tmp 2) rfl w.heap.size rfl 45 (rcs key n) (0, 0) _ (is_raw G3.out) Try.underlying45 rfl (by rw [RSZ.out]; kernel_rfl) ?_))
  refine (unhide AT1 _).mono ?_
  rintro e w4 ⟨rfl, hb⟩
  have J4 := Lib.hid (Is.new w4 43 #[.int .u8 0, .int .u8 0, .int .u8 0, .int .u8 0, .int .u8 0, .int .u8 0, .int .u8 0, .int .u8 0, .int .u8 0, .int .u8 0, .int .u8 0, .int .u8 0, .int .u8 0, .int .u8 0, .int .u8 0, .int .u8 0])
  have hz4 : w.heap.size ≤ w4.heap.size := Nat.le_trans HB3.out.size hb.size
  have e1 := (Z3.out.below hb Z3.out.lt)
  have K4 := Lib.hid (is_row (cs' := ks) J4.out)
  have Z4 := Lib.hid (show Is ((w4.alloc (.cells #[.int .u8 0, .int .u8 0, .int .u8 0, .int .u8 0, .int .u8 0, .int .u8 0, .int .u8 0, .int .u8 0, .int .u8 0, .int .u8 0, .int .u8 0, .int .u8 0, .int .u8 0, .int .u8 0, .int .u8 0, .int .u8 0] 43)).setRow w4.heap.size ks) g4 41 #[.int .i64 0, .int .i64 0] from (setRow_other _ _ _ _ (by have := e1.lt; omega)).trans (e1.alloc _))
  have HB4 := Lib.hid (below_setRow ((HB3.out.trans (hb.mono HB3.out.size)).alloc hz4 (.cells #[.int .u8 0, .int .u8 0, .int .u8 0, .int .u8 0, .int .u8 0, .int .u8 0, .int .u8 0, .int .u8 0, .int .u8 0, .int .u8 0, .int .u8 0, .int .u8 0, .int .u8 0, .int .u8 0, .int .u8 0, .int .u8 0] 43)) (g := w4.heap.size) hz4 ks)
  clear hb e1 HB3 G3 Z3 hz4
  go_wp2_with (
    (with_reducible show wpList _ _ _ (⟨none, _, _, _, _, _⟩ :: _) _ _)
    go_loud (refine Go.wpList_store_row rfl 43 (.tmp 10) (.tmp 28) rfl w4.heap.size ks rfl rfl 43 #[.int .u8 0, .int .u8 0, .int .u8 0, .int .u8 0, .int .u8 0, .int .u8 0, .int .u8 0, .int .u8 0, .int .u8 0, .int .u8 0, .int .u8 0, .int .u8 0, .int .u8 0, .int .u8 0, .int .u8 0, .int .u8 0] (is_raw J4.out) (by rw [KSZ.out]; kernel_rfl) (by rw [KSZ.out]; simp) KONE.out ?_)
    generalize (w4.alloc (.cells #[.int .u8 0, .int .u8 0, .int .u8 0, .int .u8 0, .int .u8 0, .int .u8 0, .int .u8 0, .int .u8 0, .int .u8 0, .int .u8 0, .int .u8 0, .int .u8 0, .int .u8 0, .int .u8 0, .int .u8 0, .int .u8 0] 43)).setRow w4.heap.size ks = X at *
    generalize w4.heap.size = g10 at *)
  clear J4
  refine Lin.wp_region_lin Lin.keeps (n := 51)  (fun slotq => match slotq with | 30 => Lin.Spec.val (.bool true) | 31 => Lin.Spec.val (.bool false) | 32 => Lin.Spec.val (.bool false) | 33 => Lin.Spec.val (.agg ks) | 34 => Lin.Spec.val (.slice A 12 c) | 35 => Lin.Spec.val (.slice A 7 c) | 36 => Lin.Spec.sl tt 5 | 37 => Lin.Spec.val (.slice A 12 c) | 38 => Lin.Spec.sl (L.drop 7) (12 - 7) | 39 => Lin.Spec.val (.bool true) | 40 => Lin.Spec.val (.bool false) | 41 => Lin.Spec.val (.bool false) | _ => Lin.Spec.any) (by kernel_rfl) rfl (by kernel_rfl) ⟨?_, ?_, ?_, ?_, ?_, ?_, ?_, ?_, ?_, ?_, ?_, ?_, trivial⟩ ?_
  · intro ρ wq hb ho hc hd
    have hC : ∀ v, ρ (.const v) = v := fun v => hc _ (by intro t e; cases e)
    have hF : ∀ f, ρ (.func f) = .func (.func f) #[] #[] := fun f => hc _ (by intro t e; cases e)
    have h11 : ρ (.tmp 11) = .bool true := ho 11 (by kernel_rfl)
    exact Lin.Runs.value Lin.keeps (Lin.exec_move rfl) h11
  · intro ρ wq hb ho hc hd
    have hC : ∀ v, ρ (.const v) = v := fun v => hc _ (by intro t e; cases e)
    have hF : ∀ f, ρ (.func f) = .func (.func f) #[] #[] := fun f => hc _ (by intro t e; cases e)
    have h30 : ρ (.tmp 30) = .bool true := hd 30 (by kernel_rfl)
    exact Lin.Runs.value Lin.keeps (v := .bool false) (by simp [execOp, go_sem, h30]) rfl
  · intro ρ wq hb ho hc hd
    have hC : ∀ v, ρ (.const v) = v := fun v => hc _ (by intro t e; cases e)
    have hF : ∀ f, ρ (.func f) = .func (.func f) #[] #[] := fun f => hc _ (by intro t e; cases e)
    have h31 : ρ (.tmp 31) = .bool false := hd 31 (by kernel_rfl)
    exact Lin.Runs.value Lin.keeps (v := .bool false) (by simp [execOp, go_sem, h31]) rfl
  · intro ρ wq hb ho hc hd
    have hC : ∀ v, ρ (.const v) = v := fun v => hc _ (by intro t e; cases e)
    have hF : ∀ f, ρ (.func f) = .func (.func f) #[] #[] := fun f => hc _ (by intro t e; cases e)
    intro t ht; cases (show some 32 = some t from ht)
    refine ⟨fun _ => ?_, fun hn => absurd (hd 32 (by kernel_rfl)) hn⟩
    have h10 : ρ (.tmp 10) = .pointer (some ⟨g10, 0, none⟩) := ho 10 (by kernel_rfl)
    exact Lin.Runs.load_row Lin.keeps 43 (.tmp 10) rfl g10 h10 43 ks (K4.out.below hb K4.out.lt) _ Try.underlying43 rfl (by rw [KSZ.out]; kernel_rfl) rfl
  · intro ρ wq hb ho hc hd
    have hC : ∀ v, ρ (.const v) = v := fun v => hc _ (by intro t e; cases e)
    have hF : ∀ f, ρ (.func f) = .func (.func f) #[] #[] := fun f => hc _ (by intro t e; cases e)
    intro t ht; cases (show some 32 = some t from ht)
    refine ⟨fun _ => ?_, fun hn => absurd (hd 32 (by kernel_rfl)) hn⟩
    have h1 : ρ (.tmp 1) = .slice A 12 c := ho 1 (by kernel_rfl)
    exact Lin.Runs.value Lin.keeps (Lin.exec_move rfl) h1
  · intro ρ wq hb ho hc hd
    have hC : ∀ v, ρ (.const v) = v := fun v => hc _ (by intro t e; cases e)
    have hF : ∀ f, ρ (.func f) = .func (.func f) #[] #[] := fun f => hc _ (by intro t e; cases e)
    intro t ht; cases (show some 32 = some t from ht)
    refine ⟨fun _ => ?_, fun hn => absurd (hd 32 (by kernel_rfl)) hn⟩
    have h34 : ρ (.tmp 34) = .slice A 12 c := hd 34 (by kernel_rfl)
    exact Lin.sl_to (k := 7) (.tmp 34) _ rfl h34 (hC _) ((HL.out.st HB4.out).st hb) (by omega) rfl
  · intro ρ wq hb ho hc hd
    have hC : ∀ v, ρ (.const v) = v := fun v => hc _ (by intro t e; cases e)
    have hF : ∀ f, ρ (.func f) = .func (.func f) #[] #[] := fun f => hc _ (by intro t e; cases e)
    intro t ht; cases (show some 32 = some t from ht)
    refine ⟨fun _ => ?_, fun hn => absurd (hd 32 (by kernel_rfl)) hn⟩
    have h33 : ρ (.tmp 33) = .agg ks := hd 33 (by kernel_rfl)
    have h35 : ρ (.tmp 35) = .slice A 7 c := hd 35 (by kernel_rfl)
    exact Lin.Runs.call Lin.keeps (f := 78) (args := #[.agg ks, .slice A 7 c]) (by simp [execOp, go_sem, hF, h33, h35]) ((unhide TT wq (IsB.take ((HL.out.st HB4.out).st hb) (by omega))).mono fun e w9 ⟨v9, h1, h2, h3⟩ => ⟨v9, h1, h2, h3.isb⟩)
  · intro ρ wq hb ho hc hd
    have hC : ∀ v, ρ (.const v) = v := fun v => hc _ (by intro t e; cases e)
    have hF : ∀ f, ρ (.func f) = .func (.func f) #[] #[] := fun f => hc _ (by intro t e; cases e)
    intro t ht; cases (show some 32 = some t from ht)
    refine ⟨fun _ => ?_, fun hn => absurd (hd 32 (by kernel_rfl)) hn⟩
    have h1 : ρ (.tmp 1) = .slice A 12 c := ho 1 (by kernel_rfl)
    exact Lin.Runs.value Lin.keeps (Lin.exec_move rfl) h1
  · intro ρ wq hb ho hc hd
    have hC : ∀ v, ρ (.const v) = v := fun v => hc _ (by intro t e; cases e)
    have hF : ∀ f, ρ (.func f) = .func (.func f) #[] #[] := fun f => hc _ (by intro t e; cases e)
    intro t ht; cases (show some 32 = some t from ht)
    refine ⟨fun _ => ?_, fun hn => absurd (hd 32 (by kernel_rfl)) hn⟩
    have h37 : ρ (.tmp 37) = .slice A 12 c := hd 37 (by kernel_rfl)
    exact Lin.sl_from (i := 7) (.tmp 37) _ rfl h37 (hC _) ((HL.out.st HB4.out).st hb) (by omega)
  · intro ρ wq hb ho hc hd
    have hC : ∀ v, ρ (.const v) = v := fun v => hc _ (by intro t e; cases e)
    have hF : ∀ f, ρ (.func f) = .func (.func f) #[] #[] := fun f => hc _ (by intro t e; cases e)
    intro t ht; cases (show some 32 = some t from ht)
    refine ⟨fun _ => ?_, fun hn => absurd (hd 32 (by kernel_rfl)) hn⟩
    have h36 := hd 36 (by kernel_rfl)
    have h38 := hd 38 (by kernel_rfl)
    obtain ⟨A36, c36, e36⟩ := IsB.shape h36
    obtain ⟨A38, c38, e38⟩ := IsB.shape h38
    refine Lin.Runs.call Lin.keeps (f := 77) (args := #[.slice A36 5 c36, .slice A38 (12 - 7) c38]) (by simp [execOp, go_sem, hF, e36, e38]) ?_
    rw [e36] at h36
    rw [e38] at h38
    exact (equal_p h36 h38).mono fun e w9 ⟨r, h1, h2, h3⟩ => ⟨r, h1, h2, h3.trans (by rw [EQB.out])⟩
  · intro ρ wq hb ho hc hd
    have hC : ∀ v, ρ (.const v) = v := fun v => hc _ (by intro t e; cases e)
    have hF : ∀ f, ρ (.func f) = .func (.func f) #[] #[] := fun f => hc _ (by intro t e; cases e)
    intro t ht; cases (show some 32 = some t from ht)
    refine ⟨fun _ => ?_, fun hn => absurd (hd 32 (by kernel_rfl)) hn⟩
    have h39 : ρ (.tmp 39) = .bool true := hd 39 (by kernel_rfl)
    exact Lin.Runs.value Lin.keeps (v := .bool false) (by simp [execOp, go_sem, h39]) rfl
  · intro ρ wq hb ho hc hd
    have hC : ∀ v, ρ (.const v) = v := fun v => hc _ (by intro t e; cases e)
    have hF : ∀ f, ρ (.func f) = .func (.func f) #[] #[] := fun f => hc _ (by intro t e; cases e)
    have h32 : ρ (.tmp 32) = .bool false := hd 32 (by kernel_rfl)
    have h40 : ρ (.tmp 40) = .bool false := hd 40 (by kernel_rfl)
    exact Lin.Runs.value Lin.keeps (v := .bool false) (by simp [execOp, go_sem, hC, h32, h40]) rfl
  · intro vals w5 hb2 hv
    have ee : vals 41 = .bool false := hv 41 (by kernel_rfl)
    have HB5 := Lib.hid (HB4.out.trans (hb2.mono HB4.out.size))
    have Z5 := Lib.hid (Z4.out.below hb2 Z4.out.lt)
    have K5 := Lib.hid (K4.out.below hb2 K4.out.lt)
    clear hb2 hv HB4 Z4 K4
    simp only [Lin.putAll, Option.getD_some]
    rw [ee]
    clear ee
    go_simp
    generalize vals = vq
    go_wp2_with fail
    refine Lin.wp_region_lin2 (turnsK w.heap.size 41 #[.int .i64 0, .int .i64 0] #[.int .i64 (ya : Int), .int .i64 (yb : Int)]) (n := 51) (fun slotq => match slotq with | 43 => Lin.Spec.val (.int .u16 (wd : Int)) | 44 => Lin.Spec.val (.agg ks) | 45 => Lin.Spec.val (.slice A 12 c) | 46 => Lin.Spec.val (.slice A 5 c) | 47 => Lin.Spec.val (.int .u16 (mm : Int)) | 48 => Lin.Spec.val (.int .u16 (z : Int)) | 49 => Lin.Spec.val (.agg #[.int .i64 (ya : Int), .int .i64 (yb : Int)]) | 50 => Lin.Spec.val (.int .u64 (on : Int)) | 5 => Lin.Spec.val (.int .u64 (on : Int)) | 6 => Lin.Spec.val (.int .i64 0) | _ => Lin.Spec.any) (fun iq => match iq with | 8 => 49 | _ => 0) (fun iq => match iq with | 8 => (specGk 41 w.heap.size #[.int .i64 0, .int .i64 0] #[.int .i64 (ya : Int), .int .i64 (yb : Int)] g4) | _ => Lin.Spec.any) (by kernel_rfl) rfl (by kernel_rfl) ⟨?_, ?_, ?_, ?_, ?_, ?_, ?_, ?_, ?_, ?_, ?_, trivial⟩ ?_
    · intro ρ wq hb ho hc hd
      have hC : ∀ v, ρ (.const v) = v := fun v => hc _ (by intro t e; cases e)
      have hF : ∀ f, ρ (.func f) = .func (.func f) #[] #[] := fun f => hc _ (by intro t e; cases e)
      have h9 : ρ (.tmp 9) = .int .u16 (wd : Int) := ho 9 (by kernel_rfl)
      exact Lin.Runs.value (turnsK w.heap.size 41 #[.int .i64 0, .int .i64 0] #[.int .i64 (ya : Int), .int .i64 (yb : Int)]) (Lin.exec_move rfl) h9
    · intro ρ wq hb ho hc hd
      have hC : ∀ v, ρ (.const v) = v := fun v => hc _ (by intro t e; cases e)
      have hF : ∀ f, ρ (.func f) = .func (.func f) #[] #[] := fun f => hc _ (by intro t e; cases e)
      have h10 : ρ (.tmp 10) = .pointer (some ⟨g10, 0, none⟩) := ho 10 (by kernel_rfl)
      exact Lin.Runs.load_row (turnsK w.heap.size 41 #[.int .i64 0, .int .i64 0] #[.int .i64 (ya : Int), .int .i64 (yb : Int)]) 43 (.tmp 10) rfl g10 h10 43 ks (turnK_other hb K5.out (by decide)) _ Try.underlying43 rfl (by rw [KSZ.out]; kernel_rfl) rfl
    · intro ρ wq hb ho hc hd
      have hC : ∀ v, ρ (.const v) = v := fun v => hc _ (by intro t e; cases e)
      have hF : ∀ f, ρ (.func f) = .func (.func f) #[] #[] := fun f => hc _ (by intro t e; cases e)
      have h1 : ρ (.tmp 1) = .slice A 12 c := ho 1 (by kernel_rfl)
      exact Lin.Runs.value (turnsK w.heap.size 41 #[.int .i64 0, .int .i64 0] #[.int .i64 (ya : Int), .int .i64 (yb : Int)]) (Lin.exec_move rfl) h1
    · intro ρ wq hb ho hc hd
      have hC : ∀ v, ρ (.const v) = v := fun v => hc _ (by intro t e; cases e)
      have hF : ∀ f, ρ (.func f) = .func (.func f) #[] #[] := fun f => hc _ (by intro t e; cases e)
      have h45 : ρ (.tmp 45) = .slice A 12 c := hd 45 (by kernel_rfl)
      have hbq := HB5.out.trans (Lin.Turns.below hb HB5.out.size)
      obtain ⟨q1, q2⟩ := isbk_caps (HL.out.st hbq)
      exact Lin.Runs.value (turnsK w.heap.size 41 #[.int .i64 0, .int .i64 0] #[.int .i64 (ya : Int), .int .i64 (yb : Int)]) (run_slto _ ρ wq (.tmp 45) _ rfl h45 (show ρ (.const (.int .i64 (5 : Nat))) = _ from hc _ (by intro t e; cases e)) (by omega) q1 q2) rfl
    · intro ρ wq hb ho hc hd
      have hC : ∀ v, ρ (.const v) = v := fun v => hc _ (by intro t e; cases e)
      have hF : ∀ f, ρ (.func f) = .func (.func f) #[] #[] := fun f => hc _ (by intro t e; cases e)
      have h44 : ρ (.tmp 44) = .agg ks := hd 44 (by kernel_rfl)
      have h46 : ρ (.tmp 46) = .slice A 5 c := hd 46 (by kernel_rfl)
      have hbq := HB5.out.trans (Lin.Turns.below hb HB5.out.size)
      exact Lin.Runs.call (turnsK w.heap.size 41 #[.int .i64 0, .int .i64 0] #[.int .i64 (ya : Int), .int .i64 (yb : Int)]) (f := 79) (args := #[.agg ks, .slice A 5 c]) (by simp [execOp, go_sem, hF, h44, h46]) ((unhide MT wq (IsB.take (HL.out.st hbq) (by omega))).mono fun e w9 h => ⟨_, h.1, Lin.Turns.keeps h.2, rfl⟩)
    · intro ρ wq hb ho hc hd
      have hC : ∀ v, ρ (.const v) = v := fun v => hc _ (by intro t e; cases e)
      have hF : ∀ f, ρ (.func f) = .func (.func f) #[] #[] := fun f => hc _ (by intro t e; cases e)
      have h43 : ρ (.tmp 43) = .int .u16 (wd : Int) := hd 43 (by kernel_rfl)
      have h47 : ρ (.tmp 47) = .int .u16 (mm : Int) := hd 47 (by kernel_rfl)
      exact Lin.Runs.value (turnsK w.heap.size 41 #[.int .i64 0, .int .i64 0] #[.int .i64 (ya : Int), .int .i64 (yb : Int)]) (v := .int .u16 (z : Int)) (by simp [execOp, go_sem, h43, h47, q6]) rfl
    · intro ρ wq hb ho hc hd
      have hC : ∀ v, ρ (.const v) = v := fun v => hc _ (by intro t e; cases e)
      have hF : ∀ f, ρ (.func f) = .func (.func f) #[] #[] := fun f => hc _ (by intro t e; cases e)
      have h48 : ρ (.tmp 48) = .int .u16 (z : Int) := hd 48 (by kernel_rfl)
      exact Lin.Runs.call (turnsK w.heap.size 41 #[.int .i64 0, .int .i64 0] #[.int .i64 (ya : Int), .int .i64 (yb : Int)]) (f := 21) (args := #[.int .u16 (z : Int)]) (by simp [execOp, go_sem, hF, h48]) ((unhide OT wq).mono fun e w9 h => ⟨_, h.1, Lin.Turns.keeps h.2, rfl⟩)
    · intro ρ wq hb ho hc hd
      have hC : ∀ v, ρ (.const v) = v := fun v => hc _ (by intro t e; cases e)
      have hF : ∀ f, ρ (.func f) = .func (.func f) #[] #[] := fun f => hc _ (by intro t e; cases e)
      have h8 : ρ (.tmp 8) = .int .u64 (on : Int) := ho 8 (by kernel_rfl)
      exact Lin.Runs.value (turnsK w.heap.size 41 #[.int .i64 0, .int .i64 0] #[.int .i64 (ya : Int), .int .i64 (yb : Int)]) (Lin.exec_move rfl) h8
    · intro ρ wq hb ho hc hd
      have hC : ∀ v, ρ (.const v) = v := fun v => hc _ (by intro t e; cases e)
      have hks : ρ (.tmp 49) = .agg #[.int .i64 (ya : Int), .int .i64 (yb : Int)] := hd 49 (by kernel_rfl)
      have e4 : ρ (.tmp 4) = .pointer (some ⟨g4, 0, none⟩) := ho 4 (by kernel_rfl)
      show Lin.RunsW Try.prog _ (specGk 41 w.heap.size #[.int .i64 0, .int .i64 0] #[.int .i64 (ya : Int), .int .i64 (yb : Int)] g4) (ρ (.tmp 49)) ρ wq
      have hp : Is wq g4 41 #[.int .i64 0, .int .i64 0] ∨ Is wq g4 41 #[.int .i64 (ya : Int), .int .i64 (yb : Int)] := turnK_is hb (.inl Z5.out)
      have hcs : ∃ old, Is wq g4 41 old ∧ old.size = 2 := by rcases hp with hp | hp; exact ⟨_, hp, rfl⟩; exact ⟨_, hp, rfl⟩
      obtain ⟨old, hcs, hos⟩ := hcs
      refine Lin.RunsW.mk (w' := wq.setRow g4 #[.int .i64 (ya : Int), .int .i64 (yb : Int)]) (exec_store_rowk 41 (.tmp 4) (.tmp 49) rfl g4 #[.int .i64 (ya : Int), .int .i64 (yb : Int)] e4 hks 41 old hcs (by kernel_rfl) (by rw [hos]; rfl) (by simp [Value.oneCell'])) (turnsK_store (by have := HG4.out; omega) hp) (is_row hcs)
    · intro ρ wq hb ho hc hd
      have hC : ∀ v, ρ (.const v) = v := fun v => hc _ (by intro t e; cases e)
      have hF : ∀ f, ρ (.func f) = .func (.func f) #[] #[] := fun f => hc _ (by intro t e; cases e)
      have h50 : ρ (.tmp 50) = .int .u64 (on : Int) := hd 50 (by kernel_rfl)
      exact Lin.Runs.value (turnsK w.heap.size 41 #[.int .i64 0, .int .i64 0] #[.int .i64 (ya : Int), .int .i64 (yb : Int)]) (Lin.exec_assign rfl) h50
    · intro ρ wq hb ho hc hd
      have hC : ∀ v, ρ (.const v) = v := fun v => hc _ (by intro t e; cases e)
      have hF : ∀ f, ρ (.func f) = .func (.func f) #[] #[] := fun f => hc _ (by intro t e; cases e)
      exact Lin.Runs.value (turnsK w.heap.size 41 #[.int .i64 0, .int .i64 0] #[.int .i64 (ya : Int), .int .i64 (yb : Int)]) (Lin.exec_assign rfl) (hc _ (by intro t e; cases e))
    · intro vals w7 hr2 hv hw2
      have his : Is w7 g4 41 #[.int .i64 (ya : Int), .int .i64 (yb : Int)] := hw2 8 _ rfl rfl
      have hb2 := Lin.Turns.below hr2 HB5.out.size
      have HB7 := Lib.hid (HB5.out.trans hb2)
      have e5 : vals 5 = .int .u64 (on : Int) := hv 5 (by kernel_rfl)
      have e6 : vals 6 = .int .i64 0 := hv 6 (by kernel_rfl)
      simp only [Lin.putAll, Option.getD_some]
      rw [e5, e6]
      have z0 := his.cell 0; have z1 := his.cell 1
      simp at z0 z1
      clear hv hw2 hr2 hb2 e5 e6 his
      go_simp
      generalize vals = vw
      go_wp2_with fail
      refine bodyPost_ret (v := .tuple #[.agg #[.int .i64 (ya : Int), .int .i64 (yb : Int)], .int .u64 (on : Int), .int .i64 0]) (by simp [results, Try.results29, go_sem, z0, z1]) rfl ⟨rfl, HB7.out⟩
end Go.Proofs.Ythjkjohmaemmiaa
