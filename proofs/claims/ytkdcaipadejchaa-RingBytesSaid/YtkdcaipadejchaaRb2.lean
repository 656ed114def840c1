/-
  Parse of package ring. Helper of the claim RingBytes. No condition.
-/
import Derived.Test.YtkdcaipadejchaaRb1
namespace Go.Proofs.Ytkdcaipadejchaa
open Go.ChangeShapes Go.WideShapes Go.ChangeAt Go.RowKit
set_option linter.unusedSimpArgs false
set_option linter.unusedVariables false
set_option maxRecDepth 100000
/-- Blocks g and h may have changed, h only as a row of its type. -/
structure TwoR (g h : Nat) (t : TypeId) (w w' : World) : Prop where
  os : w'.os = w.os
  tape : w'.tape = w.tape
  output : w'.output = w.output
  size : w.heap.size ≤ w'.heap.size
  block : ∀ i, i < w.heap.size → i ≠ g → i ≠ h → w'.heap[i]? = w.heap[i]?
  row : ∀ cs, Is w h t cs → ∃ cs', Is w' h t cs' ∧ cs'.size = cs.size
theorem two_rel (g h : Nat) (t : TypeId) : Lin.Rel (TwoR g h t) := ⟨fun w => ⟨rfl, rfl, rfl, Nat.le_refl _, fun _ _ _ _ => rfl, fun cs hc => ⟨cs, hc, rfl⟩⟩,
  fun {a b c} h k => ⟨k.os.trans h.os, k.tape.trans h.tape, k.output.trans h.output, Nat.le_trans h.size k.size, fun i hi h1 h2 => (k.block i (Nat.lt_of_lt_of_le hi h.size) h1 h2).trans (h.block i hi h1 h2), fun cs hc => by
    obtain ⟨c1, h1, e1⟩ := h.row cs hc
    obtain ⟨c2, h2, e2⟩ := k.row c1 h1
    exact ⟨c2, h2, e2.trans e1⟩⟩,
  fun w => ⟨rfl, rfl, rfl, Nat.le_refl _, fun _ _ _ _ => rfl, fun cs hc => ⟨cs, hc, rfl⟩⟩⟩
theorem two_keeps {g h : Nat} {t : TypeId} {w w' : World} (k : Below w.heap.size w w') : TwoR g h t w w' := ⟨k.os, k.tape, k.output, k.size, fun i hi _ _ => k.block i hi, fun cs hc => ⟨cs, hc.below k hc.lt, rfl⟩⟩
theorem two_only {g h : Nat} {t : TypeId} {w w' : World} (k : w.grownBy w' (some g)) (hne : g ≠ h) : TwoR g h t w w' :=
  ⟨k.os, k.tape, k.output, k.size, fun i hi h1 _ => k.block i hi (by intro e; injection e with e; exact h1 e), fun cs hc => ⟨cs, hc.only k (by intro e; injection e with e; exact hne e.symm), rfl⟩⟩
theorem two_row {g h : Nat} {t : TypeId} {w : World} {old cs' : Array Value} (hc : Is w h t old) (hs : cs'.size = old.size) : TwoR g h t w (w.setRow h cs') :=
  ⟨rfl, rfl, rfl, by simp [World.setRow], fun i _ _ h2 => setRow_other w h i cs' h2, fun cs hcs => ⟨cs', is_row hcs, by
    have e := hc.symm.trans hcs
    injection e with e; injection e with e; rw [hs, e]⟩⟩
theorem two_below {g h B : Nat} {t : TypeId} {w w' : World} (k : TwoR g h t w w') (hB : B ≤ w.heap.size) (hg : B ≤ g) (hh : B ≤ h) : Below B w w' :=
  ⟨k.os, k.tape, k.output, k.size, fun i hi => k.block i (by omega) (by omega) (by omega)⟩
theorem two_is {g h p : Nat} {t t' : TypeId} {cs : Array Value} {w w' : World} (k : TwoR g h t w w') (hp : Is w p t' cs) (h1 : p ≠ g) (h2 : p ≠ h) : Is w' p t' cs := (k.block p hp.lt h1 h2).trans hp
theorem rh_ring (w : World) (g : Nat) (cs : Array Value) (hg : Is w g 89 cs) (hs : cs.size = 17) : (loadVar 89 ⟨g, 0, none⟩).run Try.prog w = .ok (.agg cs) w :=
  run_loadVar_row w g 89 89 cs (0, 0) _ (is_raw hg) Try.underlying89 rfl (by rw [hs]; kernel_rfl)
theorem rh_rring (w : World) (g : Nat) (cs : Array Value) (hg : Is w g 87 cs) (hs : cs.size = 17) : (loadVar 87 ⟨g, 0, none⟩).run Try.prog w = .ok (.agg cs) w :=
  run_loadVar_row w g 87 87 cs (0, 0) _ (is_raw hg) Try.underlying87 rfl (by rw [hs]; kernel_rfl)
set_option maxHeartbeats 400000 in
theorem pparse_short (A : Option Addr) (k c : Nat) (hk : k ≠ 24) (w : World) : Calls Try.prog 58 #[.slice A k c] w fun e w' => e = .returned (.tuple #[.agg #[.int .u8 0, .int .u8 0, .int .u8 0, .int .u8 0, .int .u8 0, .int .u8 0, .int .u8 0, .int .u8 0, .int .u8 0, .int .u8 0, .int .u8 0, .int .u8 0, .int .u8 0, .int .u8 0, .int .u8 0, .int .u8 0, .int .u64 0], .int .i64 20]) ∧ Below w.heap.size w w' := by
  have g1 : ((k : Int) == 24) = false := by rw [beq_eq_false_iff_ne]; omega
  have g2 : ((k : Int) != 24) = true := by simp; omega
  have HB0 := Lib.hid (show Below w.heap.size w (w.alloc (.cells #[.int .u8 0, .int .u8 0, .int .u8 0, .int .u8 0, .int .u8 0, .int .u8 0, .int .u8 0, .int .u8 0, .int .u8 0, .int .u8 0, .int .u8 0, .int .u8 0, .int .u8 0, .int .u8 0, .int .u8 0, .int .u8 0, .int .u64 0] 89)) from (Below.refl _ _).alloc (Nat.le_refl _) _)
  have J0 := Lib.hid (Is.new w 89 #[.int .u8 0, .int .u8 0, .int .u8 0, .int .u8 0, .int .u8 0, .int .u8 0, .int .u8 0, .int .u8 0, .int .u8 0, .int .u8 0, .int .u8 0, .int .u8 0, .int .u8 0, .int .u8 0, .int .u8 0, .int .u8 0, .int .u64 0])
  go_enter Try.func58, Try.ntmps58
  go_wp2_with (with_reducible show wpList _ _ _ (⟨none, _, _, _, _, _⟩ :: _) _ _; go_loud (refine Go.wpList_store_row rfl 89 (.tmp 2) (.tmp 10) rfl w.heap.size #[.int .u8 0, .int .u8 0, .int .u8 0, .int .u8 0, .int .u8 0, .int .u8 0, .int .u8 0, .int .u8 0, .int .u8 0, .int .u8 0, .int .u8 0, .int .u8 0, .int .u8 0, .int .u8 0, .int .u8 0, .int .u8 0, .int .u64 0] rfl rfl 89 #[.int .u8 0, .int .u8 0, .int .u8 0, .int .u8 0, .int .u8 0, .int .u8 0, .int .u8 0, .int .u8 0, .int .u8 0, .int .u8 0, .int .u8 0, .int .u8 0, .int .u8 0, .int .u8 0, .int .u8 0, .int .u8 0, .int .u64 0] (is_raw J0.out) (by kernel_rfl) (by simp) (by simp [Value.oneCell']) ?_))
  have RK := rh_ring _ w.heap.size #[.int .u8 0, .int .u8 0, .int .u8 0, .int .u8 0, .int .u8 0, .int .u8 0, .int .u8 0, .int .u8 0, .int .u8 0, .int .u8 0, .int .u8 0, .int .u8 0, .int .u8 0, .int .u8 0, .int .u8 0, .int .u8 0, .int .u64 0] (is_row J0.out) rfl
  refine bodyPost_ret (v := .tuple #[.agg #[.int .u8 0, .int .u8 0, .int .u8 0, .int .u8 0, .int .u8 0, .int .u8 0, .int .u8 0, .int .u8 0, .int .u8 0, .int .u8 0, .int .u8 0, .int .u8 0, .int .u8 0, .int .u8 0, .int .u8 0, .int .u8 0, .int .u64 0], .int .i64 20]) (by simp [results, Try.results58, asAddr, RK]) rfl ⟨rfl, below_setRow HB0.out (Nat.le_refl _) _⟩
set_option maxHeartbeats 400000 in
theorem rparse_short (A : Option Addr) (k c : Nat) (hk : k ≠ 24) (w : World) : Calls Try.prog 59 #[.slice A k c] w fun e w' => e = .returned (.tuple #[.agg #[.int .u8 0, .int .u8 0, .int .u8 0, .int .u8 0, .int .u8 0, .int .u8 0, .int .u8 0, .int .u8 0, .int .u8 0, .int .u8 0, .int .u8 0, .int .u8 0, .int .u8 0, .int .u8 0, .int .u8 0, .int .u8 0, .int .u64 0], .bool false]) ∧ Below w.heap.size w w' := by
  have g1 : ((k : Int) == 24) = false := by rw [beq_eq_false_iff_ne]; omega
  have g2 : ((k : Int) != 24) = true := by simp; omega
  have HB0 := Lib.hid (show Below w.heap.size w (w.alloc (.cells #[.int .u8 0, .int .u8 0, .int .u8 0, .int .u8 0, .int .u8 0, .int .u8 0, .int .u8 0, .int .u8 0, .int .u8 0, .int .u8 0, .int .u8 0, .int .u8 0, .int .u8 0, .int .u8 0, .int .u8 0, .int .u8 0, .int .u64 0] 87)) from (Below.refl _ _).alloc (Nat.le_refl _) _)
  have J0 := Lib.hid (Is.new w 87 #[.int .u8 0, .int .u8 0, .int .u8 0, .int .u8 0, .int .u8 0, .int .u8 0, .int .u8 0, .int .u8 0, .int .u8 0, .int .u8 0, .int .u8 0, .int .u8 0, .int .u8 0, .int .u8 0, .int .u8 0, .int .u8 0, .int .u64 0])
  go_enter Try.func59, Try.ntmps59
  go_wp2_with (with_reducible show wpList _ _ _ (⟨none, _, _, _, _, _⟩ :: _) _ _; go_loud (refine Go.wpList_store_row rfl 87 (.tmp 2) (.tmp 7) rfl w.heap.size #[.int .u8 0, .int .u8 0, .int .u8 0, .int .u8 0, .int .u8 0, .int .u8 0, .int .u8 0, .int .u8 0, .int .u8 0, .int .u8 0, .int .u8 0, .int .u8 0, .int .u8 0, .int .u8 0, .int .u8 0, .int .u8 0, .int .u64 0] rfl rfl 87 #[.int .u8 0, .int .u8 0, .int .u8 0, .int .u8 0, .int .u8 0, .int .u8 0, .int .u8 0, .int .u8 0, .int .u8 0, .int .u8 0, .int .u8 0, .int .u8 0, .int .u8 0, .int .u8 0, .int .u8 0, .int .u8 0, .int .u64 0] (is_raw J0.out) (by kernel_rfl) (by simp) (by simp [Value.oneCell']) ?_))
  have RK := rh_rring _ w.heap.size #[.int .u8 0, .int .u8 0, .int .u8 0, .int .u8 0, .int .u8 0, .int .u8 0, .int .u8 0, .int .u8 0, .int .u8 0, .int .u8 0, .int .u8 0, .int .u8 0, .int .u8 0, .int .u8 0, .int .u8 0, .int .u8 0, .int .u64 0] (is_row J0.out) rfl
  refine bodyPost_ret (v := .tuple #[.agg #[.int .u8 0, .int .u8 0, .int .u8 0, .int .u8 0, .int .u8 0, .int .u8 0, .int .u8 0, .int .u8 0, .int .u8 0, .int .u8 0, .int .u8 0, .int .u8 0, .int .u8 0, .int .u8 0, .int .u8 0, .int .u8 0, .int .u64 0], .bool false]) (by simp [results, Try.results59, asAddr, RK]) rfl ⟨rfl, below_setRow HB0.out (Nat.le_refl _) _⟩
set_option maxHeartbeats 2000000 in
theorem pparse_ok (L : List Int) (hlo : Octets L) (A : Option Addr) (c hi lo now : Nat) (n1 : nw L 0 8 = (hi : Int)) (n2 : nw L 8 8 = (lo : Int)) (n3 : nw L 16 8 = (now : Int)) (hhi : hi < 18446744073709551616) (hlw : lo < 18446744073709551616) (w : World) (hl : IsB L 24 (.slice A 24 c) w) :
    Calls Try.prog 58 #[.slice A 24 c] w fun e w' => e = .returned (.tuple #[.agg (rcs (kof hi lo) now), .int .i64 0]) ∧ Below w.heap.size w w' := by
  have LE := Lib.hid (rbk_len hl); have HL := Lib.hid hl; have HLO := Lib.hid hlo; have N1 := Lib.hid n1; have N2 := Lib.hid n2; have N3 := Lib.hid n3
  have OT := hide (fun W => of_any hi lo W hhi hlw)
  have NT := hide (fun W => hnew (kof hi lo) (kof_len hi lo) now W)
  have KSZ := Lib.hid (key_size (kof_len hi lo)); have KONE := Lib.hid (one_u8s (kof hi lo)); have RSZ := Lib.hid (rcs_size (kof_len hi lo) now); have RONE := Lib.hid (rcs_one (kof hi lo) now)
  generalize (u8s (kof hi lo)).toArray = ks at *
  generalize (rcs (kof hi lo) now) = rx at *
  have HB0 := Lib.hid (show Below w.heap.size w (w.alloc (.cells #[.int .u8 0, .int .u8 0, .int .u8 0, .int .u8 0, .int .u8 0, .int .u8 0, .int .u8 0, .int .u8 0, .int .u8 0, .int .u8 0, .int .u8 0, .int .u8 0, .int .u8 0, .int .u8 0, .int .u8 0, .int .u8 0, .int .u64 0] 89)) from (Below.refl _ _).alloc (Nat.le_refl _) _)
  have Z0 := Lib.hid (Is.new w 89 #[.int .u8 0, .int .u8 0, .int .u8 0, .int .u8 0, .int .u8 0, .int .u8 0, .int .u8 0, .int .u8 0, .int .u8 0, .int .u8 0, .int .u8 0, .int .u8 0, .int .u8 0, .int .u8 0, .int .u8 0, .int .u8 0, .int .u64 0])
  have HS0 := Lib.hid (show (w.alloc (.cells #[.int .u8 0, .int .u8 0, .int .u8 0, .int .u8 0, .int .u8 0, .int .u8 0, .int .u8 0, .int .u8 0, .int .u8 0, .int .u8 0, .int .u8 0, .int .u8 0, .int .u8 0, .int .u8 0, .int .u8 0, .int .u8 0, .int .u64 0] 89)).heap.size = w.heap.size + 1 from by simp)
  clear hl hlo n1 n2 n3
  go_enter Try.func58, Try.ntmps58
  go_wp2_with fail
  generalize w.alloc (.cells #[.int .u8 0, .int .u8 0, .int .u8 0, .int .u8 0, .int .u8 0, .int .u8 0, .int .u8 0, .int .u8 0, .int .u8 0, .int .u8 0, .int .u8 0, .int .u8 0, .int .u8 0, .int .u8 0, .int .u8 0, .int .u8 0, .int .u64 0] 89) = V at *
  refine (read_q (HL.out.st HB0.out) (by omega)).mono ?_
  rintro e w1 ⟨g, rfl, hrs⟩
  have HRS := Lib.hid hrs
  clear hrs
  go_wp2_with fail
  refine (num_q 8 8 (hi : Int) HRS.out HLO.out rfl (by rw [LE.out]; omega) (by omega) N1.out).mono ?_
  rintro e w2 ⟨rfl, hrs, _⟩
  have HRS := Lib.hid hrs
  clear hrs
  go_wp2_with fail
  refine (num_q 8 16 (lo : Int) HRS.out HLO.out rfl (by rw [LE.out]; omega) (by omega) N2.out).mono ?_
  rintro e w3 ⟨rfl, hrs, _⟩
  have HRS := Lib.hid hrs
  clear hrs
  go_wp2_with fail
  refine (unhide OT _).mono ?_
  rintro e w4 ⟨rfl, hb⟩
  have J4 := Lib.hid (Is.new w4 78 #[.int .u8 0, .int .u8 0, .int .u8 0, .int .u8 0, .int .u8 0, .int .u8 0, .int .u8 0, .int .u8 0, .int .u8 0, .int .u8 0, .int .u8 0, .int .u8 0, .int .u8 0, .int .u8 0, .int .u8 0, .int .u8 0])
  have hr4 := HRS.out.kept hb
  have hbx : Below w4.heap.size w4 ((w4.alloc (.cells #[.int .u8 0, .int .u8 0, .int .u8 0, .int .u8 0, .int .u8 0, .int .u8 0, .int .u8 0, .int .u8 0, .int .u8 0, .int .u8 0, .int .u8 0, .int .u8 0, .int .u8 0, .int .u8 0, .int .u8 0, .int .u8 0] 78)).setRow w4.heap.size ks) := below_setRow ((Below.refl _ _).alloc (Nat.le_refl _) (.cells #[.int .u8 0, .int .u8 0, .int .u8 0, .int .u8 0, .int .u8 0, .int .u8 0, .int .u8 0, .int .u8 0, .int .u8 0, .int .u8 0, .int .u8 0, .int .u8 0, .int .u8 0, .int .u8 0, .int .u8 0, .int .u8 0] 78)) (g := w4.heap.size) (Nat.le_refl _) ks
  have hb4 := HB0.out.trans (hr4.bel.mono HB0.out.size)
  have GG := Lib.hid (show w.heap.size < g ∧ g < w4.heap.size from ⟨by have h1 := hr4.2.2; have h2 := HS0.out; omega, hr4.1.lt⟩)
  have HB5 := Lib.hid (hb4.trans (hbx.mono hb4.size))
  have Z5 := Lib.hid ((Z0.out.below hr4.bel Z0.out.lt).below hbx (Nat.lt_of_lt_of_le (by have := Z0.out.lt; exact this) hr4.bel.size))
  have HRX := Lib.hid (hr4.kept hbx)
  have K5 := Lib.hid (is_row (cs' := ks) J4.out)
  clear hb hr4 hbx hb4 HB0 Z0 HRS
  go_wp2_with (
    (with_reducible show wpList _ _ _ (⟨none, _, _, _, _, _⟩ :: _) _ _)
    go_loud (refine Go.wpList_store_row rfl 78 (.tmp 6) (.tmp 18) rfl w4.heap.size ks rfl rfl 78 #[.int .u8 0, .int .u8 0, .int .u8 0, .int .u8 0, .int .u8 0, .int .u8 0, .int .u8 0, .int .u8 0, .int .u8 0, .int .u8 0, .int .u8 0, .int .u8 0, .int .u8 0, .int .u8 0, .int .u8 0, .int .u8 0] (is_raw J4.out) (by rw [KSZ.out]; kernel_rfl) (by rw [KSZ.out]; simp) KONE.out ?_)
    generalize ((w4.alloc (.cells #[.int .u8 0, .int .u8 0, .int .u8 0, .int .u8 0, .int .u8 0, .int .u8 0, .int .u8 0, .int .u8 0, .int .u8 0, .int .u8 0, .int .u8 0, .int .u8 0, .int .u8 0, .int .u8 0, .int .u8 0, .int .u8 0] 78)).setRow w4.heap.size ks) = Y at *
    generalize w4.heap.size = gk at *)
  have HRS := HRX
  clear J4 HRX HS0
  refine Lin5.wp_region_lin4 (n := 23) (fun slotq => match slotq with | 19 => Lin.Spec.val (.agg ks) | 20 => Lin.Spec.val (.pointer (some ⟨g, 0, none⟩)) | 21 => Lin.Spec.val (.int .u64 (now : Int)) | 22 => Lin.Spec.val (.agg rx) | 1004 => (⟨fun _ wx => Is wx w.heap.size 89 rx, fun h hb => Is.below h hb h.lt⟩ : Lin.Spec Lin.Keeps) | 3 => Lin.Spec.val (.int .i64 0) | _ => Lin.Spec.any) (TwoR g w.heap.size 89) [(2, []), (4, [])] (by kernel_rfl) rfl (by kernel_rfl) (by kernel_rfl) (two_rel _ _ _) (fun {a b} _ k => two_keeps k) ⟨.inr (Lin5.firm_val _ _), .inr (Lin5.firm_val _ _), .inr (Lin5.firm_val _ _), .inr (Lin5.firm_val _ _), .inl (by kernel_rfl), .inr (Lin5.firm_val _ _), trivial⟩ ⟨?_, ?_, ?_, ?_, ?_, ?_, trivial⟩ ?_
  · refine Lin5.stepR (by kernel_rfl) ?_
    intro ρ wq hb hk ho hc hd hs
    have hC : ∀ v, ρ (.const v) = v := fun v => hc _ (by intro t e; cases e)
    have hF : ∀ f, ρ (.func f) = .func (.func f) #[] #[] := fun f => hc _ (by intro t e; cases e)
    have h6 : ρ (.tmp 6) = .pointer (some ⟨gk, 0, none⟩) := ho 6 (by kernel_rfl)
    exact Lin.Runs.load_row Lin.keeps 78 (.tmp 6) rfl gk h6 78 ks (two_is hb K5.out (by have := GG.out; omega) (by have := GG.out; omega)) _ Try.underlying78 rfl (by rw [KSZ.out]; kernel_rfl) rfl
  · refine Lin5.stepR (by kernel_rfl) ?_
    intro ρ wq hb hk ho hc hd hs
    have hC : ∀ v, ρ (.const v) = v := fun v => hc _ (by intro t e; cases e)
    have hF : ∀ f, ρ (.func f) = .func (.func f) #[] #[] := fun f => hc _ (by intro t e; cases e)
    have h4 : ρ (.tmp 4) = .pointer (some ⟨g, 0, none⟩) := ho 4 (by kernel_rfl)
    exact Lin.Runs.value Lin.keeps (Lin.exec_move rfl) h4
  · refine Lin5.stepW (by kernel_rfl) ?_
    intro ρ wq hb hk ho hc hd hs
    have hC : ∀ v, ρ (.const v) = v := fun v => hc _ (by intro t e; cases e)
    have hF : ∀ f, ρ (.func f) = .func (.func f) #[] #[] := fun f => hc _ (by intro t e; cases e)
    have h20 : ρ (.tmp 20) = .pointer (some ⟨g, 0, none⟩) := hd 20 (by kernel_rfl)
    refine Lin5.RunsB.call (two_rel _ _ _) (f := 23) (args := #[.pointer (some ⟨g, 0, none⟩), .int .i64 8]) (by simp [execOp, go_sem, hC, hF, h20]) ?_
    exact (num_q 8 24 (now : Int) (HRS.out.kept (hk (by kernel_rfl))) HLO.out rfl (by rw [LE.out]; omega) (by omega) N3.out).mono fun e w9 ⟨h1, h2, h3⟩ => ⟨_, h1, two_only h3 (by have := GG.out; omega), rfl⟩
  · refine Lin5.stepR (by kernel_rfl) ?_
    intro ρ wq hb hk ho hc hd hs
    have hC : ∀ v, ρ (.const v) = v := fun v => hc _ (by intro t e; cases e)
    have hF : ∀ f, ρ (.func f) = .func (.func f) #[] #[] := fun f => hc _ (by intro t e; cases e)
    have h19 : ρ (.tmp 19) = .agg ks := hd 19 (by kernel_rfl)
    have h21 : ρ (.tmp 21) = .int .u64 (now : Int) := hd 21 (by kernel_rfl)
    exact Lin.Runs.call Lin.keeps (f := 51) (args := #[.agg ks, .int .u64 (now : Int)]) (by simp [execOp, go_sem, hF, h19, h21]) ((unhide NT wq).mono fun e w9 h => ⟨_, h.1, h.2, rfl⟩)
  · refine Lin5.stepW (by kernel_rfl) ?_
    intro ρ wq hb hk ho hc hd hs
    have hC : ∀ v, ρ (.const v) = v := fun v => hc _ (by intro t e; cases e)
    have hF : ∀ f, ρ (.func f) = .func (.func f) #[] #[] := fun f => hc _ (by intro t e; cases e)
    have h2 : ρ (.tmp 2) = .pointer (some ⟨w.heap.size, 0, none⟩) := ho 2 (by kernel_rfl)
    have h22 : ρ (.tmp 22) = .agg rx := hd 22 (by kernel_rfl)
    obtain ⟨old, hold, hos⟩ := hb.row _ Z5.out
    exact Lin5.RunsB.store (exec_store_rowk 89 (.tmp 2) (.tmp 22) rfl w.heap.size rx h2 h22 89 old hold (by rw [RSZ.out]; kernel_rfl) (by rw [hos, RSZ.out]; rfl) RONE.out) (two_row hold (by rw [hos, RSZ.out]; rfl)) (is_row hold)
  · refine Lin5.stepR (by kernel_rfl) ?_
    intro ρ wq hb hk ho hc hd hs
    have hC : ∀ v, ρ (.const v) = v := fun v => hc _ (by intro t e; cases e)
    have hF : ∀ f, ρ (.func f) = .func (.func f) #[] #[] := fun f => hc _ (by intro t e; cases e)
    exact Lin.Runs.value Lin.keeps (Lin.exec_assign rfl) (hc _ (by intro t e; cases e))
  · intro vals w9 hb2 hv hs
    have hr9 : Is w9 w.heap.size 89 rx := hs 4 _ rfl rfl (by kernel_rfl)
    have h3 : vals 3 = .int .i64 0 := hv 3 (by kernel_rfl) (by kernel_rfl)
    have HB9 := Lib.hid (HB5.out.trans (two_below hb2 HB5.out.size (by have := GG.out; omega) (Nat.le_refl _)))
    have RK := rh_ring _ w.heap.size rx hr9 RSZ.out
    clear hv hs hb2 hr9
    simp only [Lin.putAll, Option.getD_some]
    rw [h3]
    clear h3
    go_simp
    generalize vals = vv
    go_wp2_with fail
    refine bodyPost_ret (v := .tuple #[.agg rx, .int .i64 0]) (by simp [results, Try.results58, asAddr, RK]) rfl ⟨rfl, HB9.out⟩
end Go.Proofs.Ytkdcaipadejchaa
