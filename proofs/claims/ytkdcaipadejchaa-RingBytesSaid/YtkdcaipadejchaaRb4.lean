/-
  The law RingBytes, walked. Helper of the claim RingBytes. No condition.
-/
import Derived.Test.YtkdcaipadejchaaRb3
namespace Go.Proofs.Ytkdcaipadejchaa
open Go.ChangeShapes Go.WideShapes Go.ChangeAt Go.RowKit
set_option linter.unusedSimpArgs false
set_option linter.unusedVariables false
set_option maxRecDepth 100000
theorem be_snoc (n : Nat) : ∀ s : Nat, be n (s + 1) = be (n / 256) s ++ [((n % 256 : Nat) : Int)]
  | 0 => by simp [be]
  | s + 1 => by
    rw [be, be_snoc n s]
    rw [show be (n / 256) (s + 1) = ((n / 256 / 256 ^ s % 256 : Nat) : Int) :: be (n / 256) s from rfl, Nat.div_div_eq_div_mul, ← Nat.pow_succ', List.cons_append]
theorem num_be {l : List Int} (ho : Octets l) (h8 : l.length ≤ 8) : ∀ k : Nat, k ≤ l.length → ∃ v : Nat, numW (l.take k) = (v : Int) ∧ v < 256 ^ k ∧ be v k = l.take k := by
  intro k
  induction k with
  | zero => intro _; exact ⟨0, by simp [numW], by simp, by simp [be]⟩
  | succ k ih =>
    intro hk
    obtain ⟨v, h1, h2, h3⟩ := ih (by omega)
    obtain ⟨x0, x1⟩ := ho k
    obtain ⟨x, hx⟩ : ∃ x : Nat, at0 l k = (x : Int) := ⟨(at0 l k).toNat, by omega⟩
    have hp : 256 ^ (k + 1) = 256 ^ k * 256 := Nat.pow_succ _ _
    have hle : 256 ^ (k + 1) ≤ 18446744073709551616 := by
      have : 256 ^ (k + 1) ≤ 256 ^ 8 := Nat.pow_le_pow_right (by omega) (by omega)
      simpa using this
    refine ⟨v * 256 + x, ?_, by rw [hp]; omega, ?_⟩
    · rw [numW_take l k (by omega), h1, hx]
      have hv : v * 256 + x < 18446744073709551616 := by rw [hp] at hle; omega
      omega
    · rw [be_snoc, show (v * 256 + x) / 256 = v from by omega, show (v * 256 + x) % 256 = x from by omega, h3, take_at0 (by omega), hx]
theorem num_uniq : ∀ (m n : Nat), m < 256 ^ 8 → n < 18446744073709551616 → be m 8 = be n 8 → m = n := by
  intro m n hm hn h
  simp [be] at h
  omega
/-- The bytes of a ring read as that ring. -/
theorem back_ring {key : List Int} (hk : key.length = 16) (ho : Octets key) (n : Nat) (hn : n < 18446744073709551616) : ∃ hi lo : Nat, nw (key ++ be n 8) 0 8 = (hi : Int) ∧ nw (key ++ be n 8) 8 8 = (lo : Int) ∧ nw (key ++ be n 8) 16 8 = (n : Int) ∧ hi < 18446744073709551616 ∧ lo < 18446744073709551616 ∧ kof hi lo = key := by
  obtain ⟨hi, h1, h2, h3⟩ := num_be (ho.take 8) (by rw [List.length_take]; omega) 8 (by rw [List.length_take]; omega)
  obtain ⟨lo, l1, l2, l3⟩ := num_be (ho.drop 8) (by simp; omega) 8 (by simp; omega)
  obtain ⟨m, m1, m2, m3⟩ := num_be (be_ok n 8) (by rw [be_len]; omega) 8 (by rw [be_len]; omega)
  have e1 : (key.take 8).take 8 = key.take 8 := List.take_of_length_le (by rw [List.length_take]; omega)
  have e2 : (key.drop 8).take 8 = key.drop 8 := List.take_of_length_le (by simp; omega)
  have e3 : (be n 8).take 8 = be n 8 := List.take_of_length_le (by rw [be_len]; omega)
  rw [e1] at h1 h3
  rw [e2] at l1 l3
  rw [e3] at m1 m3
  have hmn : m = n := by
    have := num_uniq m n m2 hn m3
    exact this
  refine ⟨hi, lo, ?_, ?_, ?_, by simpa using h2, by simpa using l2, ?_⟩
  · unfold nw; rw [List.drop_zero, List.take_append_of_le_length (by omega)]; exact h1
  · unfold nw; rw [List.drop_append_of_le_length (by omega), List.take_append_of_le_length (by rw [List.length_drop]; omega), e2]; exact l1
  · unfold nw; rw [List.drop_left' hk, e3, m1, hmn]
  · unfold kof; rw [h3, l3, List.take_append_drop]
theorem Lin.Runs.load_midk {o : Oper} {s : Lin.Spec Lin.Keeps} {ρ : Operand → Value} {w : World} (ty : TypeId) (x : Operand) (ho : o.op = .load ty x) (g off : Nat) (hx : ρ x = .pointer (some ⟨g, off, none⟩)) (cs : List Value) (d : TypeDesc) (hc : w.rangeAt g off cs)
    (hu : Try.prog.underlying ty = some d) (hd : d.isRow = true) (hi : (Try.prog.info? ty).map (·.size) = some cs.length) (hs : s.p (.agg cs.toArray) w) : Lin.Runs Try.prog o s ρ w := by
  refine Lin.Runs.value Lin.keeps (v := .agg cs.toArray) ?_ hs
  unfold execOp
  simp only [ho, hx, Sem.run_bind, Sem.run_pure, Result.andThen_ok, run_loadAt_mid w g off ty cs d hc hu hd hi]
set_option maxHeartbeats 2000000 in
theorem rbytes_ok (key : List Int) (hk : key.length = 16) (ho : Octets key) (n : Nat) (hn : n < 18446744073709551616) (A : Option Addr) (k c : Nat) (l : List Int) (hkk : k ≤ 100) (kx : List Int) (hkx : kx.length = 16) (hox : Octets kx) (nx : Nat)
    (PP : Hid (∀ W : World, IsB l k (.slice A k c) W → Calls Try.prog 58 #[.slice A k c] W fun e w' => e = .returned (.tuple #[.agg (rcs kx nx), .int .i64 0]) ∧ Below W.heap.size W w'))
    (RPP : Hid (∀ W : World, IsB l k (.slice A k c) W → Calls Try.prog 59 #[.slice A k c] W fun e w' => e = .returned (.tuple #[.agg (rcs kx nx), .bool true]) ∧ Below W.heap.size W w')) (w : World) (hl : IsB l k (.slice A k c) w) :
    Calls Try.prog 13 #[.agg (rcs key n), .slice A k c] w fun e w' => e = .returned (.bool true) ∧ Below w.heap.size w w' := by
  have g100 : ¬ (100 : Int) < (k : Int) := by omega
  obtain ⟨hi, lo, b1, b2, b3, b4, b5, b6⟩ := back_ring hk ho n hn
  have BT := hide (fun W => pbytes key hk n hn W); have RBT := hide (fun W => rbytes11 key hk n hn W)
  have BPT := hide (fun W A2 c2 h => show Calls Try.prog 58 #[.slice A2 24 c2] W fun e w' => e = .returned (.tuple #[.agg (rcs key n), .int .i64 0]) ∧ Below W.heap.size W w' from by have h2 := pparse_ok (key ++ be n 8) (ho.app (be_ok _ _)) A2 c2 hi lo n b1 b2 b3 b4 b5 W h; rw [b6] at h2; exact h2)
  have EQR := hide (fun W => ring_eq key hk ho n W); have EQX := hide (fun W => ring_eq kx hkx hox nx W)
  have NTX := hide (fun W => hnew kx hkx nx W)
  have RNG := hide (fun (W : World) (g : Nat) (h : Is W g 87 (rcs kx nx)) => ring_range hkx h)
  have NWX := hide (fun (W : World) (g : Nat) (h : Is W g 87 (rcs kx nx)) => ring_now hkx h)
  generalize key ++ be n 8 = L2 at *
  have XSZ := Lib.hid (rcs_size hkx nx); have XONE := Lib.hid (rcs_one kx nx); have HKX := Lib.hid hkx
  have HK := Lib.hid hk; have RSZ := Lib.hid (rcs_size hk n); have RONE := Lib.hid (rcs_one key n)
  have HL := Lib.hid hl
  clear hk ho hn hl hkx hox b1 b2 b3 b4 b5 b6
  have HB0 := Lib.hid (show Below w.heap.size w (w.alloc (.cells (rcs key n) 87)) from (Below.refl _ _).alloc (Nat.le_refl _) _)
  have R0 := Lib.hid (Is.new w 87 (rcs key n))
  go_enter Try.func13, Try.ntmps13
  go_wp2_with fail
  generalize w.alloc (.cells (rcs key n) 87) = V at *
  refine (unhide PP _ (HL.out.st HB0.out)).mono ?_
  generalize hrx : (rcs kx nx) = rx at *
  clear hrx
  rintro e w1 ⟨rfl, hb⟩
  have R1 := Lib.hid (R0.out.below hb R0.out.lt)
  have HB1 := Lib.hid (HB0.out.trans (hb.mono HB0.out.size))
  clear hb R0 HB0
  have J2 := Lib.hid (Is.new w1 89 #[.int .u8 0, .int .u8 0, .int .u8 0, .int .u8 0, .int .u8 0, .int .u8 0, .int .u8 0, .int .u8 0, .int .u8 0, .int .u8 0, .int .u8 0, .int .u8 0, .int .u8 0, .int .u8 0, .int .u8 0, .int .u8 0, .int .u64 0])
  have hz2 : w.heap.size ≤ w1.heap.size := HB1.out.size
  have R2 := Lib.hid (show Is ((w1.alloc (.cells #[.int .u8 0, .int .u8 0, .int .u8 0, .int .u8 0, .int .u8 0, .int .u8 0, .int .u8 0, .int .u8 0, .int .u8 0, .int .u8 0, .int .u8 0, .int .u8 0, .int .u8 0, .int .u8 0, .int .u8 0, .int .u8 0, .int .u64 0] 89)).setRow w1.heap.size rx) w.heap.size 87 (rcs key n) from (setRow_other _ _ _ _ (by have := R1.out.lt; omega)).trans (R1.out.alloc _))
  have HB2 := Lib.hid (below_setRow (HB1.out.alloc hz2 (.cells #[.int .u8 0, .int .u8 0, .int .u8 0, .int .u8 0, .int .u8 0, .int .u8 0, .int .u8 0, .int .u8 0, .int .u8 0, .int .u8 0, .int .u8 0, .int .u8 0, .int .u8 0, .int .u8 0, .int .u8 0, .int .u8 0, .int .u64 0] 89)) (g := w1.heap.size) hz2 rx)
  have X2 := Lib.hid (is_row (cs' := rx) J2.out)
  clear R1 HB1
  go_wp2_with (
    (with_reducible show wpList _ _ _ (⟨none, _, _, _, _, _⟩ :: _) _ _)
    go_loud (refine Go.wpList_store_row rfl 89 (.tmp 5) (.tmp 19) rfl w1.heap.size rx rfl rfl 89 #[.int .u8 0, .int .u8 0, .int .u8 0, .int .u8 0, .int .u8 0, .int .u8 0, .int .u8 0, .int .u8 0, .int .u8 0, .int .u8 0, .int .u8 0, .int .u8 0, .int .u8 0, .int .u8 0, .int .u8 0, .int .u8 0, .int .u64 0] (is_raw J2.out) (by rw [XSZ.out]; kernel_rfl) (by rw [XSZ.out]; simp) XONE.out ?_)
    generalize (w1.alloc (.cells #[.int .u8 0, .int .u8 0, .int .u8 0, .int .u8 0, .int .u8 0, .int .u8 0, .int .u8 0, .int .u8 0, .int .u8 0, .int .u8 0, .int .u8 0, .int .u8 0, .int .u8 0, .int .u8 0, .int .u8 0, .int .u8 0, .int .u64 0] 89)).setRow w1.heap.size rx = g5W at *
    generalize w1.heap.size = g5 at *)
  clear J2 hz2
  refine (unhide RPP _ (HL.out.st HB2.out)).mono ?_
  rintro e w2 ⟨rfl, hb⟩
  have R3 := Lib.hid (R2.out.below hb R2.out.lt)
  have X3 := Lib.hid (X2.out.below hb X2.out.lt)
  have HB3 := Lib.hid (HB2.out.trans (hb.mono HB2.out.size))
  clear hb R2 X2 HB2
  have J4 := Lib.hid (Is.new w2 87 #[.int .u8 0, .int .u8 0, .int .u8 0, .int .u8 0, .int .u8 0, .int .u8 0, .int .u8 0, .int .u8 0, .int .u8 0, .int .u8 0, .int .u8 0, .int .u8 0, .int .u8 0, .int .u8 0, .int .u8 0, .int .u8 0, .int .u64 0])
  have hz4 : w.heap.size ≤ w2.heap.size := HB3.out.size
  have R4 := Lib.hid (show Is ((w2.alloc (.cells #[.int .u8 0, .int .u8 0, .int .u8 0, .int .u8 0, .int .u8 0, .int .u8 0, .int .u8 0, .int .u8 0, .int .u8 0, .int .u8 0, .int .u8 0, .int .u8 0, .int .u8 0, .int .u8 0, .int .u8 0, .int .u8 0, .int .u64 0] 87)).setRow w2.heap.size rx) w.heap.size 87 (rcs key n) from (setRow_other _ _ _ _ (by have := R3.out.lt; omega)).trans (R3.out.alloc _))
  have X4 := Lib.hid (show Is ((w2.alloc (.cells #[.int .u8 0, .int .u8 0, .int .u8 0, .int .u8 0, .int .u8 0, .int .u8 0, .int .u8 0, .int .u8 0, .int .u8 0, .int .u8 0, .int .u8 0, .int .u8 0, .int .u8 0, .int .u8 0, .int .u8 0, .int .u8 0, .int .u64 0] 87)).setRow w2.heap.size rx) g5 89 rx from (setRow_other _ _ _ _ (by have := X3.out.lt; omega)).trans (X3.out.alloc _))
  have HB4 := Lib.hid (below_setRow (HB3.out.alloc hz4 (.cells #[.int .u8 0, .int .u8 0, .int .u8 0, .int .u8 0, .int .u8 0, .int .u8 0, .int .u8 0, .int .u8 0, .int .u8 0, .int .u8 0, .int .u8 0, .int .u8 0, .int .u8 0, .int .u8 0, .int .u8 0, .int .u8 0, .int .u64 0] 87)) (g := w2.heap.size) hz4 rx)
  have Y4 := Lib.hid (is_row (cs' := rx) J4.out)
  clear R3 X3 HB3
  go_wp2_with (
    (with_reducible show wpList _ _ _ (⟨none, _, _, _, _, _⟩ :: _) _ _)
    go_loud (refine Go.wpList_store_row rfl 87 (.tmp 7) (.tmp 24) rfl w2.heap.size rx rfl rfl 87 #[.int .u8 0, .int .u8 0, .int .u8 0, .int .u8 0, .int .u8 0, .int .u8 0, .int .u8 0, .int .u8 0, .int .u8 0, .int .u8 0, .int .u8 0, .int .u8 0, .int .u8 0, .int .u8 0, .int .u8 0, .int .u8 0, .int .u64 0] (is_raw J4.out) (by rw [XSZ.out]; kernel_rfl) (by rw [XSZ.out]; simp) XONE.out ?_)
    generalize (w2.alloc (.cells #[.int .u8 0, .int .u8 0, .int .u8 0, .int .u8 0, .int .u8 0, .int .u8 0, .int .u8 0, .int .u8 0, .int .u8 0, .int .u8 0, .int .u8 0, .int .u8 0, .int .u8 0, .int .u8 0, .int .u8 0, .int .u8 0, .int .u64 0] 87)).setRow w2.heap.size rx = g7W at *
    generalize w2.heap.size = g7 at *)
  clear J4 hz4
  refine Lin.wp_region_lin Lin.keeps (n := 77)  (fun slotq => match slotq with | 26 => Lin.Spec.val (.agg rx) | 27 => Lin.Spec.val (.pointer (some ⟨g7, 0, none⟩)) | 28 => Lin.Spec.val (.agg (u8s kx).toArray) | 29 => Lin.Spec.val (.pointer (some ⟨g7, 16, none⟩)) | 30 => Lin.Spec.val (.int .u64 (nx : Int)) | 31 => Lin.Spec.val (.agg rx) | 32 => Lin.Spec.val (.bool false) | 33 => Lin.Spec.val (.bool false) | 34 => Lin.Spec.val (.int .i64 0) | 35 => Lin.Spec.val (.bool true) | 36 => Lin.Spec.val (.bool true) | 37 => Lin.Spec.val (.bool false) | 38 => Lin.Spec.val (.bool false) | 39 => Lin.Spec.val (.bool false) | 40 => Lin.Spec.val (.bool true) | 41 => Lin.Spec.val (.bool false) | 42 => Lin.Spec.val (.bool false) | 43 => Lin.Spec.val (undef) | 44 => Lin.Spec.val (undef) | 45 => Lin.Spec.val (.bool false) | 46 => Lin.Spec.val (.bool false) | _ => Lin.Spec.any) (by kernel_rfl) rfl (by kernel_rfl) ⟨?_, ?_, ?_, ?_, ?_, ?_, ?_, ?_, ?_, ?_, ?_, ?_, ?_, ?_, ?_, ?_, ?_, ?_, ?_, ?_, ?_, trivial⟩ ?_
  · intro ρ wq hb ho hc hd
    have hC : ∀ v, ρ (.const v) = v := fun v => hc _ (by intro t e; cases e)
    have hF : ∀ f, ρ (.func f) = .func (.func f) #[] #[] := fun f => hc _ (by intro t e; cases e)
    have h5 : ρ (.tmp 5) = .pointer (some ⟨g5, 0, none⟩) := ho 5 (by kernel_rfl)
    exact Lin.Runs.load_row Lin.keeps 89 (.tmp 5) rfl g5 h5 89 rx (X4.out.below hb X4.out.lt) _ Try.underlying89 rfl (by rw [XSZ.out]; kernel_rfl) rfl
  · intro ρ wq hb ho hc hd
    have hC : ∀ v, ρ (.const v) = v := fun v => hc _ (by intro t e; cases e)
    have hF : ∀ f, ρ (.func f) = .func (.func f) #[] #[] := fun f => hc _ (by intro t e; cases e)
    have h7 : ρ (.tmp 7) = .pointer (some ⟨g7, 0, none⟩) := ho 7 (by kernel_rfl)
    exact Lin.Runs.value Lin.keeps (v := .pointer (some ⟨g7, 0, none⟩)) (by simp [execOp, go_sem, h7]) rfl
  · intro ρ wq hb ho hc hd
    have hC : ∀ v, ρ (.const v) = v := fun v => hc _ (by intro t e; cases e)
    have hF : ∀ f, ρ (.func f) = .func (.func f) #[] #[] := fun f => hc _ (by intro t e; cases e)
    have h27 : ρ (.tmp 27) = .pointer (some ⟨g7, 0, none⟩) := hd 27 (by kernel_rfl)
    exact Lin.Runs.load_midk 74 (.tmp 27) rfl g7 0 h27 (u8s kx) _ ((unhide RNG) _ _ (Y4.out.below hb Y4.out.lt)) Try.underlying74 rfl (by rw [show (u8s kx).length = 16 from by simp [u8s, HKX.out]]; kernel_rfl) rfl
  · intro ρ wq hb ho hc hd
    have hC : ∀ v, ρ (.const v) = v := fun v => hc _ (by intro t e; cases e)
    have hF : ∀ f, ρ (.func f) = .func (.func f) #[] #[] := fun f => hc _ (by intro t e; cases e)
    have h7 : ρ (.tmp 7) = .pointer (some ⟨g7, 0, none⟩) := ho 7 (by kernel_rfl)
    exact Lin.Runs.value Lin.keeps (v := .pointer (some ⟨g7, 16, none⟩)) (by simp [execOp, go_sem, h7]) rfl
  · intro ρ wq hb ho hc hd
    have hC : ∀ v, ρ (.const v) = v := fun v => hc _ (by intro t e; cases e)
    have hF : ∀ f, ρ (.func f) = .func (.func f) #[] #[] := fun f => hc _ (by intro t e; cases e)
    have h29 : ρ (.tmp 29) = .pointer (some ⟨g7, 16, none⟩) := hd 29 (by kernel_rfl)
    have m16 := (unhide NWX) _ _ (Y4.out.below hb Y4.out.lt)
    exact Lin.Runs.value Lin.keeps (v := .int .u64 (nx : Int)) (by simp [execOp, go_sem, h29, m16]) rfl
  · intro ρ wq hb ho hc hd
    have hC : ∀ v, ρ (.const v) = v := fun v => hc _ (by intro t e; cases e)
    have hF : ∀ f, ρ (.func f) = .func (.func f) #[] #[] := fun f => hc _ (by intro t e; cases e)
    have h28 : ρ (.tmp 28) = .agg (u8s kx).toArray := hd 28 (by kernel_rfl)
    have h30 : ρ (.tmp 30) = .int .u64 (nx : Int) := hd 30 (by kernel_rfl)
    exact Lin.Runs.call Lin.keeps (f := 51) (args := #[.agg (u8s kx).toArray, .int .u64 (nx : Int)]) (by simp [execOp, go_sem, hF, h28, h30]) ((unhide NTX wq).mono fun e w9 h => ⟨_, h.1, h.2, rfl⟩)
  · intro ρ wq hb ho hc hd
    have hC : ∀ v, ρ (.const v) = v := fun v => hc _ (by intro t e; cases e)
    have hF : ∀ f, ρ (.func f) = .func (.func f) #[] #[] := fun f => hc _ (by intro t e; cases e)
    have h26 : ρ (.tmp 26) = .agg rx := hd 26 (by kernel_rfl)
    have h31 : ρ (.tmp 31) = .agg rx := hd 31 (by kernel_rfl)
    exact Lin.Runs.value Lin.keeps (Lin.exec_ringne rfl h26 h31 (unhide EQX wq).2) rfl
  · intro ρ wq hb ho hc hd
    have hC : ∀ v, ρ (.const v) = v := fun v => hc _ (by intro t e; cases e)
    have hF : ∀ f, ρ (.func f) = .func (.func f) #[] #[] := fun f => hc _ (by intro t e; cases e)
    have h32 : ρ (.tmp 32) = .bool false := hd 32 (by kernel_rfl)
    exact Lin.Runs.value Lin.keeps (Lin.exec_move rfl) h32
  · intro ρ wq hb ho hc hd
    have hC : ∀ v, ρ (.const v) = v := fun v => hc _ (by intro t e; cases e)
    have hF : ∀ f, ρ (.func f) = .func (.func f) #[] #[] := fun f => hc _ (by intro t e; cases e)
    intro t ht; cases (show some 33 = some t from ht)
    refine ⟨fun _ => ?_, fun hn => absurd (hd 33 (by kernel_rfl)) hn⟩
    have h6 : ρ (.tmp 6) = .int .i64 0 := ho 6 (by kernel_rfl)
    exact Lin.Runs.value Lin.keeps (Lin.exec_move rfl) h6
  · intro ρ wq hb ho hc hd
    have hC : ∀ v, ρ (.const v) = v := fun v => hc _ (by intro t e; cases e)
    have hF : ∀ f, ρ (.func f) = .func (.func f) #[] #[] := fun f => hc _ (by intro t e; cases e)
    intro t ht; cases (show some 33 = some t from ht)
    refine ⟨fun _ => ?_, fun hn => absurd (hd 33 (by kernel_rfl)) hn⟩
    have h34 : ρ (.tmp 34) = .int .i64 0 := hd 34 (by kernel_rfl)
    exact Lin.Runs.value Lin.keeps (v := .bool true) (by simp [execOp, go_sem, hC, h34]) rfl
  · intro ρ wq hb ho hc hd
    have hC : ∀ v, ρ (.const v) = v := fun v => hc _ (by intro t e; cases e)
    have hF : ∀ f, ρ (.func f) = .func (.func f) #[] #[] := fun f => hc _ (by intro t e; cases e)
    intro t ht; cases (show some 33 = some t from ht)
    refine ⟨fun _ => ?_, fun hn => absurd (hd 33 (by kernel_rfl)) hn⟩
    have h8 : ρ (.tmp 8) = .bool true := ho 8 (by kernel_rfl)
    exact Lin.Runs.value Lin.keeps (Lin.exec_move rfl) h8
  · intro ρ wq hb ho hc hd
    have hC : ∀ v, ρ (.const v) = v := fun v => hc _ (by intro t e; cases e)
    have hF : ∀ f, ρ (.func f) = .func (.func f) #[] #[] := fun f => hc _ (by intro t e; cases e)
    intro t ht; cases (show some 33 = some t from ht)
    refine ⟨fun _ => ?_, fun hn => absurd (hd 33 (by kernel_rfl)) hn⟩
    have h35 : ρ (.tmp 35) = .bool true := hd 35 (by kernel_rfl)
    have h36 : ρ (.tmp 36) = .bool true := hd 36 (by kernel_rfl)
    exact Lin.Runs.value Lin.keeps (v := .bool false) (by simp [execOp, go_sem, h35, h36]) rfl
  · intro ρ wq hb ho hc hd
    have hC : ∀ v, ρ (.const v) = v := fun v => hc _ (by intro t e; cases e)
    have hF : ∀ f, ρ (.func f) = .func (.func f) #[] #[] := fun f => hc _ (by intro t e; cases e)
    have h33 : ρ (.tmp 33) = .bool false := hd 33 (by kernel_rfl)
    have h37 : ρ (.tmp 37) = .bool false := hd 37 (by kernel_rfl)
    exact Lin.Runs.value Lin.keeps (v := .bool false) (by simp [execOp, go_sem, hC, h33, h37]) rfl
  · intro ρ wq hb ho hc hd
    have hC : ∀ v, ρ (.const v) = v := fun v => hc _ (by intro t e; cases e)
    have hF : ∀ f, ρ (.func f) = .func (.func f) #[] #[] := fun f => hc _ (by intro t e; cases e)
    have h38 : ρ (.tmp 38) = .bool false := hd 38 (by kernel_rfl)
    exact Lin.Runs.value Lin.keeps (Lin.exec_move rfl) h38
  · intro ρ wq hb ho hc hd
    have hC : ∀ v, ρ (.const v) = v := fun v => hc _ (by intro t e; cases e)
    have hF : ∀ f, ρ (.func f) = .func (.func f) #[] #[] := fun f => hc _ (by intro t e; cases e)
    intro t ht; cases (show some 39 = some t from ht)
    refine ⟨fun _ => ?_, fun hn => absurd (hd 39 (by kernel_rfl)) hn⟩
    have h8 : ρ (.tmp 8) = .bool true := ho 8 (by kernel_rfl)
    exact Lin.Runs.value Lin.keeps (Lin.exec_move rfl) h8
  · intro ρ wq hb ho hc hd
    have hC : ∀ v, ρ (.const v) = v := fun v => hc _ (by intro t e; cases e)
    have hF : ∀ f, ρ (.func f) = .func (.func f) #[] #[] := fun f => hc _ (by intro t e; cases e)
    intro t ht; cases (show some 39 = some t from ht)
    refine ⟨fun _ => ?_, fun hn => absurd (hd 39 (by kernel_rfl)) hn⟩
    have h40 : ρ (.tmp 40) = .bool true := hd 40 (by kernel_rfl)
    exact Lin.Runs.value Lin.keeps (v := .bool false) (by simp [execOp, go_sem, h40]) rfl
  · intro ρ wq hb ho hc hd
    have hC : ∀ v, ρ (.const v) = v := fun v => hc _ (by intro t e; cases e)
    have hF : ∀ f, ρ (.func f) = .func (.func f) #[] #[] := fun f => hc _ (by intro t e; cases e)
    intro t ht; cases (show some 39 = some t from ht)
    refine ⟨fun _ => ?_, fun hn => absurd (hd 39 (by kernel_rfl)) hn⟩
    have h41 : ρ (.tmp 41) = .bool false := hd 41 (by kernel_rfl)
    exact Lin.Runs.value Lin.keeps (Lin.exec_move rfl) h41
  · intro ρ wq hb ho hc hd
    have hC : ∀ v, ρ (.const v) = v := fun v => hc _ (by intro t e; cases e)
    have hF : ∀ f, ρ (.func f) = .func (.func f) #[] #[] := fun f => hc _ (by intro t e; cases e)
    intro t ht; cases (show some 42 = some t from ht)
    exact ⟨fun he => absurd (he.symm.trans (hd 42 (by kernel_rfl))) (by first | simp | (intro h; cases h)), fun _ => rfl⟩
  · intro ρ wq hb ho hc hd
    have hC : ∀ v, ρ (.const v) = v := fun v => hc _ (by intro t e; cases e)
    have hF : ∀ f, ρ (.func f) = .func (.func f) #[] #[] := fun f => hc _ (by intro t e; cases e)
    intro t ht; cases (show some 42 = some t from ht)
    exact ⟨fun he => absurd (he.symm.trans (hd 42 (by kernel_rfl))) (by first | simp | (intro h; cases h)), fun _ => rfl⟩
  · intro ρ wq hb ho hc hd
    have hC : ∀ v, ρ (.const v) = v := fun v => hc _ (by intro t e; cases e)
    have hF : ∀ f, ρ (.func f) = .func (.func f) #[] #[] := fun f => hc _ (by intro t e; cases e)
    intro t ht; cases (show some 39 = some t from ht)
    refine ⟨fun _ => ?_, fun hn => absurd (hd 39 (by kernel_rfl)) hn⟩
    have h42 : ρ (.tmp 42) = .bool false := hd 42 (by kernel_rfl)
    have h44 : ρ (.tmp 44) = undef := hd 44 (by kernel_rfl)
    exact Lin.Runs.value Lin.keeps (v := .bool false) (by simp [execOp, go_sem, hC, h42, h44]) rfl
  · intro ρ wq hb ho hc hd
    have hC : ∀ v, ρ (.const v) = v := fun v => hc _ (by intro t e; cases e)
    have hF : ∀ f, ρ (.func f) = .func (.func f) #[] #[] := fun f => hc _ (by intro t e; cases e)
    have h39 : ρ (.tmp 39) = .bool false := hd 39 (by kernel_rfl)
    have h45 : ρ (.tmp 45) = .bool false := hd 45 (by kernel_rfl)
    exact Lin.Runs.value Lin.keeps (v := .bool false) (by simp [execOp, go_sem, hC, h39, h45]) rfl
  · intro vals w3 hb hv
    have ee : vals 46 = .bool false := hv 46 (by kernel_rfl)
    clear hv
    have R5 := Lib.hid (R4.out.below hb R4.out.lt)
    have HB5 := Lib.hid (HB4.out.trans (hb.mono HB4.out.size))
    clear hb R4 HB4
    clear X4 Y4
    simp only [Lin.putAll, Option.getD_some]
    rw [ee]
    clear ee
    have m16 := ring_now HK.out R5.out
    go_simp
    generalize vals = vw
    go_wp2_with (with_reducible show wpList _ _ _ (⟨some 48, _, _, _, _, _⟩ :: _) _ _; go_loud (refine wpList_load_mid rfl 74 (.tmp 47) rfl w.heap.size 0 rfl (u8s key) _ (ring_range HK.out R5.out) Try.underlying74 rfl (by rw [show (u8s key).length = 16 from by simp [u8s, HK.out]]; kernel_rfl) ?_))
    clear m16
    refine (hnew key HK.out n _).mono ?_
    rintro e w4 ⟨rfl, hb⟩
    have R6 := Lib.hid (R5.out.below hb R5.out.lt)
    have HB6 := Lib.hid (HB5.out.trans (hb.mono HB5.out.size))
    clear hb R5 HB5
    have J7 := Lib.hid (Is.new w4 89 #[.int .u8 0, .int .u8 0, .int .u8 0, .int .u8 0, .int .u8 0, .int .u8 0, .int .u8 0, .int .u8 0, .int .u8 0, .int .u8 0, .int .u8 0, .int .u8 0, .int .u8 0, .int .u8 0, .int .u8 0, .int .u8 0, .int .u64 0])
    have hz7 : w.heap.size ≤ w4.heap.size := HB6.out.size
    have R7 := Lib.hid (show Is ((w4.alloc (.cells #[.int .u8 0, .int .u8 0, .int .u8 0, .int .u8 0, .int .u8 0, .int .u8 0, .int .u8 0, .int .u8 0, .int .u8 0, .int .u8 0, .int .u8 0, .int .u8 0, .int .u8 0, .int .u8 0, .int .u8 0, .int .u8 0, .int .u64 0] 89)).setRow w4.heap.size (rcs key n)) w.heap.size 87 (rcs key n) from (setRow_other _ _ _ _ (by have := R6.out.lt; omega)).trans (R6.out.alloc _))
    have HB7 := Lib.hid (below_setRow (HB6.out.alloc hz7 (.cells #[.int .u8 0, .int .u8 0, .int .u8 0, .int .u8 0, .int .u8 0, .int .u8 0, .int .u8 0, .int .u8 0, .int .u8 0, .int .u8 0, .int .u8 0, .int .u8 0, .int .u8 0, .int .u8 0, .int .u8 0, .int .u8 0, .int .u64 0] 89)) (g := w4.heap.size) hz7 (rcs key n))
    have G7 := Lib.hid (is_row (cs' := (rcs key n)) J7.out)
    clear R6 HB6
    go_wp2_with (first
      | ((with_reducible show wpList _ _ _ (⟨none, _, _, _, _, _⟩ :: _) _ _)
         go_loud (refine Go.wpList_store_row rfl 89 (.tmp 9) (.tmp 51) rfl w4.heap.size (rcs key n) rfl rfl 89 #[.int .u8 0, .int .u8 0, .int .u8 0, .int .u8 0, .int .u8 0, .int .u8 0, .int .u8 0, .int .u8 0, .int .u8 0, .int .u8 0, .int .u8 0, .int .u8 0, .int .u8 0, .int .u8 0, .int .u8 0, .int .u8 0, .int .u64 0] (is_raw J7.out) (by rw [RSZ.out]; kernel_rfl) (by rw [RSZ.out]; simp) RONE.out ?_)
         generalize (w4.alloc (.cells #[.int .u8 0, .int .u8 0, .int .u8 0, .int .u8 0, .int .u8 0, .int .u8 0, .int .u8 0, .int .u8 0, .int .u8 0, .int .u8 0, .int .u8 0, .int .u8 0, .int .u8 0, .int .u8 0, .int .u8 0, .int .u8 0, .int .u64 0] 89)).setRow w4.heap.size (rcs key n) = g9W at *
         generalize w4.heap.size = g9 at *)
      | (with_reducible show wpList _ _ _ (⟨some 53, _, _, _, _, _⟩ :: _) _ _; go_loud (refine Go.wpList_load_row rfl 89 (.tmp 9) rfl g9 rfl 89 (rcs key n) (0, 0) _ (is_raw G7.out) Try.underlying89 rfl (by rw [RSZ.out]; kernel_rfl) ?_)))
    clear J7 hz7
    refine (unhide BT _).mono ?_
    rintro e w5 ⟨v5, rfl, hb, hv5⟩
    obtain ⟨A5, c5, rfl⟩ := hv5.shape
    have I5 := hide hv5
    clear hv5
    have R7a := Lib.hid (R7.out.below hb R7.out.lt)
    have G7a := Lib.hid (G7.out.below hb G7.out.lt)
    have HB7a := Lib.hid (HB7.out.trans (hb.mono HB7.out.size))
    clear hb R7 G7 HB7
    go_wp2_with fail
    refine (unhide BPT _ _ _ I5.out).mono ?_
    rintro e w6 ⟨rfl, hb⟩
    clear I5
    have R7b := Lib.hid (R7a.out.below hb R7a.out.lt)
    have G7b := Lib.hid (G7a.out.below hb G7a.out.lt)
    have HB7b := Lib.hid (HB7a.out.trans (hb.mono HB7a.out.size))
    clear hb R7a G7a HB7a
    have J8 := Lib.hid (Is.new w6 89 #[.int .u8 0, .int .u8 0, .int .u8 0, .int .u8 0, .int .u8 0, .int .u8 0, .int .u8 0, .int .u8 0, .int .u8 0, .int .u8 0, .int .u8 0, .int .u8 0, .int .u8 0, .int .u8 0, .int .u8 0, .int .u8 0, .int .u64 0])
    have hz8 : w.heap.size ≤ w6.heap.size := HB7b.out.size
    have R8 := Lib.hid (show Is ((w6.alloc (.cells #[.int .u8 0, .int .u8 0, .int .u8 0, .int .u8 0, .int .u8 0, .int .u8 0, .int .u8 0, .int .u8 0, .int .u8 0, .int .u8 0, .int .u8 0, .int .u8 0, .int .u8 0, .int .u8 0, .int .u8 0, .int .u8 0, .int .u64 0] 89)).setRow w6.heap.size (rcs key n)) w.heap.size 87 (rcs key n) from (setRow_other _ _ _ _ (by have := R7b.out.lt; omega)).trans (R7b.out.alloc _))
    have G8 := Lib.hid (show Is ((w6.alloc (.cells #[.int .u8 0, .int .u8 0, .int .u8 0, .int .u8 0, .int .u8 0, .int .u8 0, .int .u8 0, .int .u8 0, .int .u8 0, .int .u8 0, .int .u8 0, .int .u8 0, .int .u8 0, .int .u8 0, .int .u8 0, .int .u8 0, .int .u64 0] 89)).setRow w6.heap.size (rcs key n)) g9 89 (rcs key n) from (setRow_other _ _ _ _ (by have := G7b.out.lt; omega)).trans (G7b.out.alloc _))
    have HB8 := Lib.hid (below_setRow (HB7b.out.alloc hz8 (.cells #[.int .u8 0, .int .u8 0, .int .u8 0, .int .u8 0, .int .u8 0, .int .u8 0, .int .u8 0, .int .u8 0, .int .u8 0, .int .u8 0, .int .u8 0, .int .u8 0, .int .u8 0, .int .u8 0, .int .u8 0, .int .u8 0, .int .u64 0] 89)) (g := w6.heap.size) hz8 (rcs key n))
    have T8 := Lib.hid (is_row (cs' := (rcs key n)) J8.out)
    clear R7b G7b HB7b
    go_wp2_with (
      (with_reducible show wpList _ _ _ (⟨none, _, _, _, _, _⟩ :: _) _ _)
      go_loud (refine Go.wpList_store_row rfl 89 (.tmp 10) (.tmp 56) rfl w6.heap.size (rcs key n) rfl rfl 89 #[.int .u8 0, .int .u8 0, .int .u8 0, .int .u8 0, .int .u8 0, .int .u8 0, .int .u8 0, .int .u8 0, .int .u8 0, .int .u8 0, .int .u8 0, .int .u8 0, .int .u8 0, .int .u8 0, .int .u8 0, .int .u8 0, .int .u64 0] (is_raw J8.out) (by rw [RSZ.out]; kernel_rfl) (by rw [RSZ.out]; simp) RONE.out ?_)
      generalize (w6.alloc (.cells #[.int .u8 0, .int .u8 0, .int .u8 0, .int .u8 0, .int .u8 0, .int .u8 0, .int .u8 0, .int .u8 0, .int .u8 0, .int .u8 0, .int .u8 0, .int .u8 0, .int .u8 0, .int .u8 0, .int .u8 0, .int .u8 0, .int .u64 0] 89)).setRow w6.heap.size (rcs key n) = g10W at *
      generalize w6.heap.size = g10 at *)
    clear J8 hz8
    refine Lin.wp_region_lin Lin.keeps (n := 77)  (fun slotq => match slotq with | 58 => Lin.Spec.val (.agg (rcs key n)) | 59 => Lin.Spec.sl L2 24 | 60 => Lin.Spec.val (.string (strOfNums L2)) | 61 => Lin.Spec.val (.agg (rcs key n)) | 62 => Lin.Spec.sl L2 24 | 63 => Lin.Spec.val (.string (strOfNums L2)) | 64 => Lin.Spec.val (.bool true) | 65 => Lin.Spec.val (.bool true) | 66 => Lin.Spec.val (.agg (rcs key n)) | 67 => Lin.Spec.val (.agg (rcs key n)) | 68 => Lin.Spec.val (.bool true) | 69 => Lin.Spec.val (.bool true) | 70 => Lin.Spec.val (.bool true) | 71 => Lin.Spec.val (.int .i64 0) | 72 => Lin.Spec.val (.bool true) | 73 => Lin.Spec.val (.bool true) | 74 => Lin.Spec.val (.bool true) | 75 => Lin.Spec.val (.bool true) | 76 => Lin.Spec.val (.bool true) | 4 => Lin.Spec.val (.bool true) | _ => Lin.Spec.any) (by kernel_rfl) rfl (by kernel_rfl) ⟨?_, ?_, ?_, ?_, ?_, ?_, ?_, ?_, ?_, ?_, ?_, ?_, ?_, ?_, ?_, ?_, ?_, ?_, ?_, ?_, trivial⟩ ?_
    · intro ρ wq hb ho hc hd
      have hC : ∀ v, ρ (.const v) = v := fun v => hc _ (by intro t e; cases e)
      have hF : ∀ f, ρ (.func f) = .func (.func f) #[] #[] := fun f => hc _ (by intro t e; cases e)
      have h9 : ρ (.tmp 9) = .pointer (some ⟨g9, 0, none⟩) := ho 9 (by kernel_rfl)
      exact Lin.Runs.load_row Lin.keeps 89 (.tmp 9) rfl g9 h9 89 (rcs key n) (G8.out.below hb G8.out.lt) _ Try.underlying89 rfl (by rw [RSZ.out]; kernel_rfl) rfl
    · intro ρ wq hb ho hc hd
      have hC : ∀ v, ρ (.const v) = v := fun v => hc _ (by intro t e; cases e)
      have hF : ∀ f, ρ (.func f) = .func (.func f) #[] #[] := fun f => hc _ (by intro t e; cases e)
      have h58 : ρ (.tmp 58) = .agg (rcs key n) := hd 58 (by kernel_rfl)
      exact Lin.Runs.call Lin.keeps (f := 60) (args := #[.agg (rcs key n)]) (by simp [execOp, go_sem, hF, h58]) ((unhide BT wq).mono fun e w9 ⟨v9, h1, h2, h3⟩ => ⟨v9, h1, h2, h3⟩)
    · intro ρ wq hb ho hc hd
      have hC : ∀ v, ρ (.const v) = v := fun v => hc _ (by intro t e; cases e)
      have hF : ∀ f, ρ (.func f) = .func (.func f) #[] #[] := fun f => hc _ (by intro t e; cases e)
      have h59 := hd 59 (by kernel_rfl)
      exact Lin.Runs.value Lin.keeps (Lin.exec_convert rfl h59.conv) rfl
    · intro ρ wq hb ho hc hd
      have hC : ∀ v, ρ (.const v) = v := fun v => hc _ (by intro t e; cases e)
      have hF : ∀ f, ρ (.func f) = .func (.func f) #[] #[] := fun f => hc _ (by intro t e; cases e)
      have h2 : ρ (.tmp 2) = .pointer (some ⟨w.heap.size, 0, none⟩) := ho 2 (by kernel_rfl)
      exact Lin.Runs.load_row Lin.keeps 87 (.tmp 2) rfl w.heap.size h2 87 (rcs key n) (R8.out.below hb R8.out.lt) _ Try.underlying87 rfl (by rw [RSZ.out]; kernel_rfl) rfl
    · intro ρ wq hb ho hc hd
      have hC : ∀ v, ρ (.const v) = v := fun v => hc _ (by intro t e; cases e)
      have hF : ∀ f, ρ (.func f) = .func (.func f) #[] #[] := fun f => hc _ (by intro t e; cases e)
      have h61 : ρ (.tmp 61) = .agg (rcs key n) := hd 61 (by kernel_rfl)
      exact Lin.Runs.call Lin.keeps (f := 61) (args := #[.agg (rcs key n)]) (by simp [execOp, go_sem, hF, h61]) ((unhide RBT wq).mono fun e w9 ⟨v9, h1, h2, h3⟩ => ⟨v9, h1, h2, h3⟩)
    · intro ρ wq hb ho hc hd
      have hC : ∀ v, ρ (.const v) = v := fun v => hc _ (by intro t e; cases e)
      have hF : ∀ f, ρ (.func f) = .func (.func f) #[] #[] := fun f => hc _ (by intro t e; cases e)
      have h62 := hd 62 (by kernel_rfl)
      exact Lin.Runs.value Lin.keeps (Lin.exec_convert rfl h62.conv) rfl
    · intro ρ wq hb ho hc hd
      have hC : ∀ v, ρ (.const v) = v := fun v => hc _ (by intro t e; cases e)
      have hF : ∀ f, ρ (.func f) = .func (.func f) #[] #[] := fun f => hc _ (by intro t e; cases e)
      have h60 : ρ (.tmp 60) = .string (strOfNums L2) := hd 60 (by kernel_rfl)
      have h63 : ρ (.tmp 63) = .string (strOfNums L2) := hd 63 (by kernel_rfl)
      exact Lin.Runs.value Lin.keeps (v := .bool true) (by simp [execOp, go_sem, h60, h63]) rfl
    · intro ρ wq hb ho hc hd
      have hC : ∀ v, ρ (.const v) = v := fun v => hc _ (by intro t e; cases e)
      have hF : ∀ f, ρ (.func f) = .func (.func f) #[] #[] := fun f => hc _ (by intro t e; cases e)
      have h64 : ρ (.tmp 64) = .bool true := hd 64 (by kernel_rfl)
      exact Lin.Runs.value Lin.keeps (Lin.exec_move rfl) h64
    · intro ρ wq hb ho hc hd
      have hC : ∀ v, ρ (.const v) = v := fun v => hc _ (by intro t e; cases e)
      have hF : ∀ f, ρ (.func f) = .func (.func f) #[] #[] := fun f => hc _ (by intro t e; cases e)
      intro t ht; cases (show some 65 = some t from ht)
      refine ⟨fun _ => ?_, fun hn => absurd (hd 65 (by kernel_rfl)) hn⟩
      have h10 : ρ (.tmp 10) = .pointer (some ⟨g10, 0, none⟩) := ho 10 (by kernel_rfl)
      exact Lin.Runs.load_row Lin.keeps 89 (.tmp 10) rfl g10 h10 89 (rcs key n) (T8.out.below hb T8.out.lt) _ Try.underlying89 rfl (by rw [RSZ.out]; kernel_rfl) rfl
    · intro ρ wq hb ho hc hd
      have hC : ∀ v, ρ (.const v) = v := fun v => hc _ (by intro t e; cases e)
      have hF : ∀ f, ρ (.func f) = .func (.func f) #[] #[] := fun f => hc _ (by intro t e; cases e)
      intro t ht; cases (show some 65 = some t from ht)
      refine ⟨fun _ => ?_, fun hn => absurd (hd 65 (by kernel_rfl)) hn⟩
      have h9 : ρ (.tmp 9) = .pointer (some ⟨g9, 0, none⟩) := ho 9 (by kernel_rfl)
      exact Lin.Runs.load_row Lin.keeps 89 (.tmp 9) rfl g9 h9 89 (rcs key n) (G8.out.below hb G8.out.lt) _ Try.underlying89 rfl (by rw [RSZ.out]; kernel_rfl) rfl
    · intro ρ wq hb ho hc hd
      have hC : ∀ v, ρ (.const v) = v := fun v => hc _ (by intro t e; cases e)
      have hF : ∀ f, ρ (.func f) = .func (.func f) #[] #[] := fun f => hc _ (by intro t e; cases e)
      intro t ht; cases (show some 65 = some t from ht)
      refine ⟨fun _ => ?_, fun hn => absurd (hd 65 (by kernel_rfl)) hn⟩
      have h66 : ρ (.tmp 66) = .agg (rcs key n) := hd 66 (by kernel_rfl)
      have h67 : ρ (.tmp 67) = .agg (rcs key n) := hd 67 (by kernel_rfl)
      exact Lin.Runs.value Lin.keeps (Lin.exec_ringeq rfl h66 h67 (unhide EQR wq).1) rfl
    · intro ρ wq hb ho hc hd
      have hC : ∀ v, ρ (.const v) = v := fun v => hc _ (by intro t e; cases e)
      have hF : ∀ f, ρ (.func f) = .func (.func f) #[] #[] := fun f => hc _ (by intro t e; cases e)
      have h65 : ρ (.tmp 65) = .bool true := hd 65 (by kernel_rfl)
      have h68 : ρ (.tmp 68) = .bool true := hd 68 (by kernel_rfl)
      exact Lin.Runs.value Lin.keeps (v := .bool true) (by simp [execOp, go_sem, hC, h65, h68]) rfl
    · intro ρ wq hb ho hc hd
      have hC : ∀ v, ρ (.const v) = v := fun v => hc _ (by intro t e; cases e)
      have hF : ∀ f, ρ (.func f) = .func (.func f) #[] #[] := fun f => hc _ (by intro t e; cases e)
      have h69 : ρ (.tmp 69) = .bool true := hd 69 (by kernel_rfl)
      exact Lin.Runs.value Lin.keeps (Lin.exec_move rfl) h69
    · intro ρ wq hb ho hc hd
      have hC : ∀ v, ρ (.const v) = v := fun v => hc _ (by intro t e; cases e)
      have hF : ∀ f, ρ (.func f) = .func (.func f) #[] #[] := fun f => hc _ (by intro t e; cases e)
      intro t ht; cases (show some 70 = some t from ht)
      refine ⟨fun _ => ?_, fun hn => absurd (hd 70 (by kernel_rfl)) hn⟩
      have h11 : ρ (.tmp 11) = .int .i64 0 := ho 11 (by kernel_rfl)
      exact Lin.Runs.value Lin.keeps (Lin.exec_move rfl) h11
    · intro ρ wq hb ho hc hd
      have hC : ∀ v, ρ (.const v) = v := fun v => hc _ (by intro t e; cases e)
      have hF : ∀ f, ρ (.func f) = .func (.func f) #[] #[] := fun f => hc _ (by intro t e; cases e)
      intro t ht; cases (show some 70 = some t from ht)
      refine ⟨fun _ => ?_, fun hn => absurd (hd 70 (by kernel_rfl)) hn⟩
      have h71 : ρ (.tmp 71) = .int .i64 0 := hd 71 (by kernel_rfl)
      exact Lin.Runs.value Lin.keeps (v := .bool true) (by simp [execOp, go_sem, hC, h71]) rfl
    · intro ρ wq hb ho hc hd
      have hC : ∀ v, ρ (.const v) = v := fun v => hc _ (by intro t e; cases e)
      have hF : ∀ f, ρ (.func f) = .func (.func f) #[] #[] := fun f => hc _ (by intro t e; cases e)
      have h70 : ρ (.tmp 70) = .bool true := hd 70 (by kernel_rfl)
      have h72 : ρ (.tmp 72) = .bool true := hd 72 (by kernel_rfl)
      exact Lin.Runs.value Lin.keeps (v := .bool true) (by simp [execOp, go_sem, hC, h70, h72]) rfl
    · intro ρ wq hb ho hc hd
      have hC : ∀ v, ρ (.const v) = v := fun v => hc _ (by intro t e; cases e)
      have hF : ∀ f, ρ (.func f) = .func (.func f) #[] #[] := fun f => hc _ (by intro t e; cases e)
      have h73 : ρ (.tmp 73) = .bool true := hd 73 (by kernel_rfl)
      exact Lin.Runs.value Lin.keeps (Lin.exec_move rfl) h73
    · intro ρ wq hb ho hc hd
      have hC : ∀ v, ρ (.const v) = v := fun v => hc _ (by intro t e; cases e)
      have hF : ∀ f, ρ (.func f) = .func (.func f) #[] #[] := fun f => hc _ (by intro t e; cases e)
      intro t ht; cases (show some 74 = some t from ht)
      refine ⟨fun _ => ?_, fun hn => absurd (hd 74 (by kernel_rfl)) hn⟩
      exact Lin.Runs.call Lin.keeps (f := 57) (args := #[]) (by simp [execOp, go_sem, hF]) ((awake11 wq).mono fun e w9 h => ⟨_, h.1, h.2, rfl⟩)
    · intro ρ wq hb ho hc hd
      have hC : ∀ v, ρ (.const v) = v := fun v => hc _ (by intro t e; cases e)
      have hF : ∀ f, ρ (.func f) = .func (.func f) #[] #[] := fun f => hc _ (by intro t e; cases e)
      have h74 : ρ (.tmp 74) = .bool true := hd 74 (by kernel_rfl)
      have h75 : ρ (.tmp 75) = .bool true := hd 75 (by kernel_rfl)
      exact Lin.Runs.value Lin.keeps (v := .bool true) (by simp [execOp, go_sem, hC, h74, h75]) rfl
    · intro ρ wq hb ho hc hd
      have hC : ∀ v, ρ (.const v) = v := fun v => hc _ (by intro t e; cases e)
      have hF : ∀ f, ρ (.func f) = .func (.func f) #[] #[] := fun f => hc _ (by intro t e; cases e)
      have h76 : ρ (.tmp 76) = .bool true := hd 76 (by kernel_rfl)
      exact Lin.Runs.value Lin.keeps (Lin.exec_assign rfl) h76
    · intro vals wz hb2 hv
      have ee : vals 4 = .bool true := hv 4 (by kernel_rfl)
      have HBZ := Lib.hid (HB8.out.trans (hb2.mono HB8.out.size))
      clear hb2 hv
      simp only [Lin.putAll, Option.getD_some]
      rw [ee]
      clear ee
      go_simp
      generalize vals = vq
      go_wp2_with fail
      go_ret
      exact ⟨rfl, HBZ.out⟩
set_option maxHeartbeats 2000000 in
theorem rbytes_short (key : List Int) (hk : key.length = 16) (ho : Octets key) (n : Nat) (hn : n < 18446744073709551616) (A : Option Addr) (k c : Nat) (l : List Int) (hkk : k ≤ 100) (kx : List Int) (hkx : kx.length = 16) (hox : Octets kx) (nx : Nat)
    (PP : Hid (∀ W : World, IsB l k (.slice A k c) W → Calls Try.prog 58 #[.slice A k c] W fun e w' => e = .returned (.tuple #[.agg (rcs kx nx), .int .i64 20]) ∧ Below W.heap.size W w'))
    (RPP : Hid (∀ W : World, IsB l k (.slice A k c) W → Calls Try.prog 59 #[.slice A k c] W fun e w' => e = .returned (.tuple #[.agg (rcs kx nx), .bool false]) ∧ Below W.heap.size W w')) (w : World) (hl : IsB l k (.slice A k c) w) :
    Calls Try.prog 13 #[.agg (rcs key n), .slice A k c] w fun e w' => e = .returned (.bool true) ∧ Below w.heap.size w w' := by
  have g100 : ¬ (100 : Int) < (k : Int) := by omega
  obtain ⟨hi, lo, b1, b2, b3, b4, b5, b6⟩ := back_ring hk ho n hn
  have BT := hide (fun W => pbytes key hk n hn W); have RBT := hide (fun W => rbytes11 key hk n hn W)
  have BPT := hide (fun W A2 c2 h => show Calls Try.prog 58 #[.slice A2 24 c2] W fun e w' => e = .returned (.tuple #[.agg (rcs key n), .int .i64 0]) ∧ Below W.heap.size W w' from by have h2 := pparse_ok (key ++ be n 8) (ho.app (be_ok _ _)) A2 c2 hi lo n b1 b2 b3 b4 b5 W h; rw [b6] at h2; exact h2)
  have EQR := hide (fun W => ring_eq key hk ho n W); have EQX := hide (fun W => ring_eq kx hkx hox nx W)
  have NTX := hide (fun W => hnew kx hkx nx W)
  have RNG := hide (fun (W : World) (g : Nat) (h : Is W g 87 (rcs kx nx)) => ring_range hkx h)
  have NWX := hide (fun (W : World) (g : Nat) (h : Is W g 87 (rcs kx nx)) => ring_now hkx h)
  generalize key ++ be n 8 = L2 at *
  have XSZ := Lib.hid (rcs_size hkx nx); have XONE := Lib.hid (rcs_one kx nx); have HKX := Lib.hid hkx
  have HK := Lib.hid hk; have RSZ := Lib.hid (rcs_size hk n); have RONE := Lib.hid (rcs_one key n)
  have HL := Lib.hid hl
  clear hk ho hn hl hkx hox b1 b2 b3 b4 b5 b6
  have HB0 := Lib.hid (show Below w.heap.size w (w.alloc (.cells (rcs key n) 87)) from (Below.refl _ _).alloc (Nat.le_refl _) _)
  have R0 := Lib.hid (Is.new w 87 (rcs key n))
  go_enter Try.func13, Try.ntmps13
  go_wp2_with fail
  generalize w.alloc (.cells (rcs key n) 87) = V at *
  refine (unhide PP _ (HL.out.st HB0.out)).mono ?_
  generalize hrx : (rcs kx nx) = rx at *
  clear hrx
  rintro e w1 ⟨rfl, hb⟩
  have R1 := Lib.hid (R0.out.below hb R0.out.lt)
  have HB1 := Lib.hid (HB0.out.trans (hb.mono HB0.out.size))
  clear hb R0 HB0
  have J2 := Lib.hid (Is.new w1 89 #[.int .u8 0, .int .u8 0, .int .u8 0, .int .u8 0, .int .u8 0, .int .u8 0, .int .u8 0, .int .u8 0, .int .u8 0, .int .u8 0, .int .u8 0, .int .u8 0, .int .u8 0, .int .u8 0, .int .u8 0, .int .u8 0, .int .u64 0])
  have hz2 : w.heap.size ≤ w1.heap.size := HB1.out.size
  have R2 := Lib.hid (show Is ((w1.alloc (.cells #[.int .u8 0, .int .u8 0, .int .u8 0, .int .u8 0, .int .u8 0, .int .u8 0, .int .u8 0, .int .u8 0, .int .u8 0, .int .u8 0, .int .u8 0, .int .u8 0, .int .u8 0, .int .u8 0, .int .u8 0, .int .u8 0, .int .u64 0] 89)).setRow w1.heap.size rx) w.heap.size 87 (rcs key n) from (setRow_other _ _ _ _ (by have := R1.out.lt; omega)).trans (R1.out.alloc _))
  have HB2 := Lib.hid (below_setRow (HB1.out.alloc hz2 (.cells #[.int .u8 0, .int .u8 0, .int .u8 0, .int .u8 0, .int .u8 0, .int .u8 0, .int .u8 0, .int .u8 0, .int .u8 0, .int .u8 0, .int .u8 0, .int .u8 0, .int .u8 0, .int .u8 0, .int .u8 0, .int .u8 0, .int .u64 0] 89)) (g := w1.heap.size) hz2 rx)
  have X2 := Lib.hid (is_row (cs' := rx) J2.out)
  clear R1 HB1
  go_wp2_with (
    (with_reducible show wpList _ _ _ (⟨none, _, _, _, _, _⟩ :: _) _ _)
    go_loud (refine Go.wpList_store_row rfl 89 (.tmp 5) (.tmp 19) rfl w1.heap.size rx rfl rfl 89 #[.int .u8 0, .int .u8 0, .int .u8 0, .int .u8 0, .int .u8 0, .int .u8 0, .int .u8 0, .int .u8 0, .int .u8 0, .int .u8 0, .int .u8 0, .int .u8 0, .int .u8 0, .int .u8 0, .int .u8 0, .int .u8 0, .int .u64 0] (is_raw J2.out) (by rw [XSZ.out]; kernel_rfl) (by rw [XSZ.out]; simp) XONE.out ?_)
    generalize (w1.alloc (.cells #[.int .u8 0, .int .u8 0, .int .u8 0, .int .u8 0, .int .u8 0, .int .u8 0, .int .u8 0, .int .u8 0, .int .u8 0, .int .u8 0, .int .u8 0, .int .u8 0, .int .u8 0, .int .u8 0, .int .u8 0, .int .u8 0, .int .u64 0] 89)).setRow w1.heap.size rx = g5W at *
    generalize w1.heap.size = g5 at *)
  clear J2 hz2
  refine (unhide RPP _ (HL.out.st HB2.out)).mono ?_
  rintro e w2 ⟨rfl, hb⟩
  have R3 := Lib.hid (R2.out.below hb R2.out.lt)
  have X3 := Lib.hid (X2.out.below hb X2.out.lt)
  have HB3 := Lib.hid (HB2.out.trans (hb.mono HB2.out.size))
  clear hb R2 X2 HB2
  have J4 := Lib.hid (Is.new w2 87 #[.int .u8 0, .int .u8 0, .int .u8 0, .int .u8 0, .int .u8 0, .int .u8 0, .int .u8 0, .int .u8 0, .int .u8 0, .int .u8 0, .int .u8 0, .int .u8 0, .int .u8 0, .int .u8 0, .int .u8 0, .int .u8 0, .int .u64 0])
  have hz4 : w.heap.size ≤ w2.heap.size := HB3.out.size
  have R4 := Lib.hid (show Is ((w2.alloc (.cells #[.int .u8 0, .int .u8 0, .int .u8 0, .int .u8 0, .int .u8 0, .int .u8 0, .int .u8 0, .int .u8 0, .int .u8 0, .int .u8 0, .int .u8 0, .int .u8 0, .int .u8 0, .int .u8 0, .int .u8 0, .int .u8 0, .int .u64 0] 87)).setRow w2.heap.size rx) w.heap.size 87 (rcs key n) from (setRow_other _ _ _ _ (by have := R3.out.lt; omega)).trans (R3.out.alloc _))
  have X4 := Lib.hid (show Is ((w2.alloc (.cells #[.int .u8 0, .int .u8 0, .int .u8 0, .int .u8 0, .int .u8 0, .int .u8 0, .int .u8 0, .int .u8 0, .int .u8 0, .int .u8 0, .int .u8 0, .int .u8 0, .int .u8 0, .int .u8 0, .int .u8 0, .int .u8 0, .int .u64 0] 87)).setRow w2.heap.size rx) g5 89 rx from (setRow_other _ _ _ _ (by have := X3.out.lt; omega)).trans (X3.out.alloc _))
  have HB4 := Lib.hid (below_setRow (HB3.out.alloc hz4 (.cells #[.int .u8 0, .int .u8 0, .int .u8 0, .int .u8 0, .int .u8 0, .int .u8 0, .int .u8 0, .int .u8 0, .int .u8 0, .int .u8 0, .int .u8 0, .int .u8 0, .int .u8 0, .int .u8 0, .int .u8 0, .int .u8 0, .int .u64 0] 87)) (g := w2.heap.size) hz4 rx)
  have Y4 := Lib.hid (is_row (cs' := rx) J4.out)
  clear R3 X3 HB3
  go_wp2_with (
    (with_reducible show wpList _ _ _ (⟨none, _, _, _, _, _⟩ :: _) _ _)
    go_loud (refine Go.wpList_store_row rfl 87 (.tmp 7) (.tmp 24) rfl w2.heap.size rx rfl rfl 87 #[.int .u8 0, .int .u8 0, .int .u8 0, .int .u8 0, .int .u8 0, .int .u8 0, .int .u8 0, .int .u8 0, .int .u8 0, .int .u8 0, .int .u8 0, .int .u8 0, .int .u8 0, .int .u8 0, .int .u8 0, .int .u8 0, .int .u64 0] (is_raw J4.out) (by rw [XSZ.out]; kernel_rfl) (by rw [XSZ.out]; simp) XONE.out ?_)
    generalize (w2.alloc (.cells #[.int .u8 0, .int .u8 0, .int .u8 0, .int .u8 0, .int .u8 0, .int .u8 0, .int .u8 0, .int .u8 0, .int .u8 0, .int .u8 0, .int .u8 0, .int .u8 0, .int .u8 0, .int .u8 0, .int .u8 0, .int .u8 0, .int .u64 0] 87)).setRow w2.heap.size rx = g7W at *
    generalize w2.heap.size = g7 at *)
  clear J4 hz4
  refine Lin.wp_region_lin Lin.keeps (n := 77)  (fun slotq => match slotq with | 26 => Lin.Spec.val (.agg rx) | 27 => Lin.Spec.val (.pointer (some ⟨g7, 0, none⟩)) | 28 => Lin.Spec.val (.agg (u8s kx).toArray) | 29 => Lin.Spec.val (.pointer (some ⟨g7, 16, none⟩)) | 30 => Lin.Spec.val (.int .u64 (nx : Int)) | 31 => Lin.Spec.val (.agg rx) | 32 => Lin.Spec.val (.bool false) | 33 => Lin.Spec.val (.bool false) | 34 => Lin.Spec.val (.int .i64 20) | 35 => Lin.Spec.val (.bool false) | 36 => Lin.Spec.val (.bool false) | 37 => Lin.Spec.val (.bool false) | 38 => Lin.Spec.val (.bool false) | 39 => Lin.Spec.val (.bool false) | 40 => Lin.Spec.val (.bool false) | 41 => Lin.Spec.val (.bool true) | 42 => Lin.Spec.val (.bool true) | 43 => Lin.Spec.val (.int .i64 20) | 44 => Lin.Spec.val (.bool false) | 45 => Lin.Spec.val (.bool false) | 46 => Lin.Spec.val (.bool false) | _ => Lin.Spec.any) (by kernel_rfl) rfl (by kernel_rfl) ⟨?_, ?_, ?_, ?_, ?_, ?_, ?_, ?_, ?_, ?_, ?_, ?_, ?_, ?_, ?_, ?_, ?_, ?_, ?_, ?_, ?_, trivial⟩ ?_
  · intro ρ wq hb ho hc hd
    have hC : ∀ v, ρ (.const v) = v := fun v => hc _ (by intro t e; cases e)
    have hF : ∀ f, ρ (.func f) = .func (.func f) #[] #[] := fun f => hc _ (by intro t e; cases e)
    have h5 : ρ (.tmp 5) = .pointer (some ⟨g5, 0, none⟩) := ho 5 (by kernel_rfl)
    exact Lin.Runs.load_row Lin.keeps 89 (.tmp 5) rfl g5 h5 89 rx (X4.out.below hb X4.out.lt) _ Try.underlying89 rfl (by rw [XSZ.out]; kernel_rfl) rfl
  · intro ρ wq hb ho hc hd
    have hC : ∀ v, ρ (.const v) = v := fun v => hc _ (by intro t e; cases e)
    have hF : ∀ f, ρ (.func f) = .func (.func f) #[] #[] := fun f => hc _ (by intro t e; cases e)
    have h7 : ρ (.tmp 7) = .pointer (some ⟨g7, 0, none⟩) := ho 7 (by kernel_rfl)
    exact Lin.Runs.value Lin.keeps (v := .pointer (some ⟨g7, 0, none⟩)) (by simp [execOp, go_sem, h7]) rfl
  · intro ρ wq hb ho hc hd
    have hC : ∀ v, ρ (.const v) = v := fun v => hc _ (by intro t e; cases e)
    have hF : ∀ f, ρ (.func f) = .func (.func f) #[] #[] := fun f => hc _ (by intro t e; cases e)
    have h27 : ρ (.tmp 27) = .pointer (some ⟨g7, 0, none⟩) := hd 27 (by kernel_rfl)
    exact Lin.Runs.load_midk 74 (.tmp 27) rfl g7 0 h27 (u8s kx) _ ((unhide RNG) _ _ (Y4.out.below hb Y4.out.lt)) Try.underlying74 rfl (by rw [show (u8s kx).length = 16 from by simp [u8s, HKX.out]]; kernel_rfl) rfl
  · intro ρ wq hb ho hc hd
    have hC : ∀ v, ρ (.const v) = v := fun v => hc _ (by intro t e; cases e)
    have hF : ∀ f, ρ (.func f) = .func (.func f) #[] #[] := fun f => hc _ (by intro t e; cases e)
    have h7 : ρ (.tmp 7) = .pointer (some ⟨g7, 0, none⟩) := ho 7 (by kernel_rfl)
    exact Lin.Runs.value Lin.keeps (v := .pointer (some ⟨g7, 16, none⟩)) (by simp [execOp, go_sem, h7]) rfl
  · intro ρ wq hb ho hc hd
    have hC : ∀ v, ρ (.const v) = v := fun v => hc _ (by intro t e; cases e)
    have hF : ∀ f, ρ (.func f) = .func (.func f) #[] #[] := fun f => hc _ (by intro t e; cases e)
    have h29 : ρ (.tmp 29) = .pointer (some ⟨g7, 16, none⟩) := hd 29 (by kernel_rfl)
    have m16 := (unhide NWX) _ _ (Y4.out.below hb Y4.out.lt)
    exact Lin.Runs.value Lin.keeps (v := .int .u64 (nx : Int)) (by simp [execOp, go_sem, h29, m16]) rfl
  · intro ρ wq hb ho hc hd
    have hC : ∀ v, ρ (.const v) = v := fun v => hc _ (by intro t e; cases e)
    have hF : ∀ f, ρ (.func f) = .func (.func f) #[] #[] := fun f => hc _ (by intro t e; cases e)
    have h28 : ρ (.tmp 28) = .agg (u8s kx).toArray := hd 28 (by kernel_rfl)
    have h30 : ρ (.tmp 30) = .int .u64 (nx : Int) := hd 30 (by kernel_rfl)
    exact Lin.Runs.call Lin.keeps (f := 51) (args := #[.agg (u8s kx).toArray, .int .u64 (nx : Int)]) (by simp [execOp, go_sem, hF, h28, h30]) ((unhide NTX wq).mono fun e w9 h => ⟨_, h.1, h.2, rfl⟩)
  · intro ρ wq hb ho hc hd
    have hC : ∀ v, ρ (.const v) = v := fun v => hc _ (by intro t e; cases e)
    have hF : ∀ f, ρ (.func f) = .func (.func f) #[] #[] := fun f => hc _ (by intro t e; cases e)
    have h26 : ρ (.tmp 26) = .agg rx := hd 26 (by kernel_rfl)
    have h31 : ρ (.tmp 31) = .agg rx := hd 31 (by kernel_rfl)
    exact Lin.Runs.value Lin.keeps (Lin.exec_ringne rfl h26 h31 (unhide EQX wq).2) rfl
  · intro ρ wq hb ho hc hd
    have hC : ∀ v, ρ (.const v) = v := fun v => hc _ (by intro t e; cases e)
    have hF : ∀ f, ρ (.func f) = .func (.func f) #[] #[] := fun f => hc _ (by intro t e; cases e)
    have h32 : ρ (.tmp 32) = .bool false := hd 32 (by kernel_rfl)
    exact Lin.Runs.value Lin.keeps (Lin.exec_move rfl) h32
  · intro ρ wq hb ho hc hd
    have hC : ∀ v, ρ (.const v) = v := fun v => hc _ (by intro t e; cases e)
    have hF : ∀ f, ρ (.func f) = .func (.func f) #[] #[] := fun f => hc _ (by intro t e; cases e)
    intro t ht; cases (show some 33 = some t from ht)
    refine ⟨fun _ => ?_, fun hn => absurd (hd 33 (by kernel_rfl)) hn⟩
    have h6 : ρ (.tmp 6) = .int .i64 20 := ho 6 (by kernel_rfl)
    exact Lin.Runs.value Lin.keeps (Lin.exec_move rfl) h6
  · intro ρ wq hb ho hc hd
    have hC : ∀ v, ρ (.const v) = v := fun v => hc _ (by intro t e; cases e)
    have hF : ∀ f, ρ (.func f) = .func (.func f) #[] #[] := fun f => hc _ (by intro t e; cases e)
    intro t ht; cases (show some 33 = some t from ht)
    refine ⟨fun _ => ?_, fun hn => absurd (hd 33 (by kernel_rfl)) hn⟩
    have h34 : ρ (.tmp 34) = .int .i64 20 := hd 34 (by kernel_rfl)
    exact Lin.Runs.value Lin.keeps (v := .bool false) (by simp [execOp, go_sem, hC, h34]) rfl
  · intro ρ wq hb ho hc hd
    have hC : ∀ v, ρ (.const v) = v := fun v => hc _ (by intro t e; cases e)
    have hF : ∀ f, ρ (.func f) = .func (.func f) #[] #[] := fun f => hc _ (by intro t e; cases e)
    intro t ht; cases (show some 33 = some t from ht)
    refine ⟨fun _ => ?_, fun hn => absurd (hd 33 (by kernel_rfl)) hn⟩
    have h8 : ρ (.tmp 8) = .bool false := ho 8 (by kernel_rfl)
    exact Lin.Runs.value Lin.keeps (Lin.exec_move rfl) h8
  · intro ρ wq hb ho hc hd
    have hC : ∀ v, ρ (.const v) = v := fun v => hc _ (by intro t e; cases e)
    have hF : ∀ f, ρ (.func f) = .func (.func f) #[] #[] := fun f => hc _ (by intro t e; cases e)
    intro t ht; cases (show some 33 = some t from ht)
    refine ⟨fun _ => ?_, fun hn => absurd (hd 33 (by kernel_rfl)) hn⟩
    have h35 : ρ (.tmp 35) = .bool false := hd 35 (by kernel_rfl)
    have h36 : ρ (.tmp 36) = .bool false := hd 36 (by kernel_rfl)
    exact Lin.Runs.value Lin.keeps (v := .bool false) (by simp [execOp, go_sem, h35, h36]) rfl
  · intro ρ wq hb ho hc hd
    have hC : ∀ v, ρ (.const v) = v := fun v => hc _ (by intro t e; cases e)
    have hF : ∀ f, ρ (.func f) = .func (.func f) #[] #[] := fun f => hc _ (by intro t e; cases e)
    have h33 : ρ (.tmp 33) = .bool false := hd 33 (by kernel_rfl)
    have h37 : ρ (.tmp 37) = .bool false := hd 37 (by kernel_rfl)
    exact Lin.Runs.value Lin.keeps (v := .bool false) (by simp [execOp, go_sem, hC, h33, h37]) rfl
  · intro ρ wq hb ho hc hd
    have hC : ∀ v, ρ (.const v) = v := fun v => hc _ (by intro t e; cases e)
    have hF : ∀ f, ρ (.func f) = .func (.func f) #[] #[] := fun f => hc _ (by intro t e; cases e)
    have h38 : ρ (.tmp 38) = .bool false := hd 38 (by kernel_rfl)
    exact Lin.Runs.value Lin.keeps (Lin.exec_move rfl) h38
  · intro ρ wq hb ho hc hd
    have hC : ∀ v, ρ (.const v) = v := fun v => hc _ (by intro t e; cases e)
    have hF : ∀ f, ρ (.func f) = .func (.func f) #[] #[] := fun f => hc _ (by intro t e; cases e)
    intro t ht; cases (show some 39 = some t from ht)
    refine ⟨fun _ => ?_, fun hn => absurd (hd 39 (by kernel_rfl)) hn⟩
    have h8 : ρ (.tmp 8) = .bool false := ho 8 (by kernel_rfl)
    exact Lin.Runs.value Lin.keeps (Lin.exec_move rfl) h8
  · intro ρ wq hb ho hc hd
    have hC : ∀ v, ρ (.const v) = v := fun v => hc _ (by intro t e; cases e)
    have hF : ∀ f, ρ (.func f) = .func (.func f) #[] #[] := fun f => hc _ (by intro t e; cases e)
    intro t ht; cases (show some 39 = some t from ht)
    refine ⟨fun _ => ?_, fun hn => absurd (hd 39 (by kernel_rfl)) hn⟩
    have h40 : ρ (.tmp 40) = .bool false := hd 40 (by kernel_rfl)
    exact Lin.Runs.value Lin.keeps (v := .bool true) (by simp [execOp, go_sem, h40]) rfl
  · intro ρ wq hb ho hc hd
    have hC : ∀ v, ρ (.const v) = v := fun v => hc _ (by intro t e; cases e)
    have hF : ∀ f, ρ (.func f) = .func (.func f) #[] #[] := fun f => hc _ (by intro t e; cases e)
    intro t ht; cases (show some 39 = some t from ht)
    refine ⟨fun _ => ?_, fun hn => absurd (hd 39 (by kernel_rfl)) hn⟩
    have h41 : ρ (.tmp 41) = .bool true := hd 41 (by kernel_rfl)
    exact Lin.Runs.value Lin.keeps (Lin.exec_move rfl) h41
  · intro ρ wq hb ho hc hd
    have hC : ∀ v, ρ (.const v) = v := fun v => hc _ (by intro t e; cases e)
    have hF : ∀ f, ρ (.func f) = .func (.func f) #[] #[] := fun f => hc _ (by intro t e; cases e)
    intro t ht; cases (show some 42 = some t from ht)
    refine ⟨fun _ => ?_, fun hn => absurd (hd 42 (by kernel_rfl)) hn⟩
    have h6 : ρ (.tmp 6) = .int .i64 20 := ho 6 (by kernel_rfl)
    exact Lin.Runs.value Lin.keeps (Lin.exec_move rfl) h6
  · intro ρ wq hb ho hc hd
    have hC : ∀ v, ρ (.const v) = v := fun v => hc _ (by intro t e; cases e)
    have hF : ∀ f, ρ (.func f) = .func (.func f) #[] #[] := fun f => hc _ (by intro t e; cases e)
    intro t ht; cases (show some 42 = some t from ht)
    refine ⟨fun _ => ?_, fun hn => absurd (hd 42 (by kernel_rfl)) hn⟩
    have h43 : ρ (.tmp 43) = .int .i64 20 := hd 43 (by kernel_rfl)
    exact Lin.Runs.value Lin.keeps (v := .bool false) (by simp [execOp, go_sem, hC, h43]) rfl
  · intro ρ wq hb ho hc hd
    have hC : ∀ v, ρ (.const v) = v := fun v => hc _ (by intro t e; cases e)
    have hF : ∀ f, ρ (.func f) = .func (.func f) #[] #[] := fun f => hc _ (by intro t e; cases e)
    intro t ht; cases (show some 39 = some t from ht)
    refine ⟨fun _ => ?_, fun hn => absurd (hd 39 (by kernel_rfl)) hn⟩
    have h42 : ρ (.tmp 42) = .bool true := hd 42 (by kernel_rfl)
    have h44 : ρ (.tmp 44) = .bool false := hd 44 (by kernel_rfl)
    exact Lin.Runs.value Lin.keeps (v := .bool false) (by simp [execOp, go_sem, hC, h42, h44]) rfl
  · intro ρ wq hb ho hc hd
    have hC : ∀ v, ρ (.const v) = v := fun v => hc _ (by intro t e; cases e)
    have hF : ∀ f, ρ (.func f) = .func (.func f) #[] #[] := fun f => hc _ (by intro t e; cases e)
    have h39 : ρ (.tmp 39) = .bool false := hd 39 (by kernel_rfl)
    have h45 : ρ (.tmp 45) = .bool false := hd 45 (by kernel_rfl)
    exact Lin.Runs.value Lin.keeps (v := .bool false) (by simp [execOp, go_sem, hC, h39, h45]) rfl
  · intro vals w3 hb hv
    have ee : vals 46 = .bool false := hv 46 (by kernel_rfl)
    clear hv
    have R5 := Lib.hid (R4.out.below hb R4.out.lt)
    have HB5 := Lib.hid (HB4.out.trans (hb.mono HB4.out.size))
    clear hb R4 HB4
    clear X4 Y4
    simp only [Lin.putAll, Option.getD_some]
    rw [ee]
    clear ee
    have m16 := ring_now HK.out R5.out
    go_simp
    generalize vals = vw
    go_wp2_with (with_reducible show wpList _ _ _ (⟨some 48, _, _, _, _, _⟩ :: _) _ _; go_loud (refine wpList_load_mid rfl 74 (.tmp 47) rfl w.heap.size 0 rfl (u8s key) _ (ring_range HK.out R5.out) Try.underlying74 rfl (by rw [show (u8s key).length = 16 from by simp [u8s, HK.out]]; kernel_rfl) ?_))
    clear m16
    refine (hnew key HK.out n _).mono ?_
    rintro e w4 ⟨rfl, hb⟩
    have R6 := Lib.hid (R5.out.below hb R5.out.lt)
    have HB6 := Lib.hid (HB5.out.trans (hb.mono HB5.out.size))
    clear hb R5 HB5
    have J7 := Lib.hid (Is.new w4 89 #[.int .u8 0, .int .u8 0, .int .u8 0, .int .u8 0, .int .u8 0, .int .u8 0, .int .u8 0, .int .u8 0, .int .u8 0, .int .u8 0, .int .u8 0, .int .u8 0, .int .u8 0, .int .u8 0, .int .u8 0, .int .u8 0, .int .u64 0])
    have hz7 : w.heap.size ≤ w4.heap.size := HB6.out.size
    have R7 := Lib.hid (show Is ((w4.alloc (.cells #[.int .u8 0, .int .u8 0, .int .u8 0, .int .u8 0, .int .u8 0, .int .u8 0, .int .u8 0, .int .u8 0, .int .u8 0, .int .u8 0, .int .u8 0, .int .u8 0, .int .u8 0, .int .u8 0, .int .u8 0, .int .u8 0, .int .u64 0] 89)).setRow w4.heap.size (rcs key n)) w.heap.size 87 (rcs key n) from (setRow_other _ _ _ _ (by have := R6.out.lt; omega)).trans (R6.out.alloc _))
    have HB7 := Lib.hid (below_setRow (HB6.out.alloc hz7 (.cells #[.int .u8 0, .int .u8 0, .int .u8 0, .int .u8 0, .int .u8 0, .int .u8 0, .int .u8 0, .int .u8 0, .int .u8 0, .int .u8 0, .int .u8 0, .int .u8 0, .int .u8 0, .int .u8 0, .int .u8 0, .int .u8 0, .int .u64 0] 89)) (g := w4.heap.size) hz7 (rcs key n))
    have G7 := Lib.hid (is_row (cs' := (rcs key n)) J7.out)
    clear R6 HB6
    go_wp2_with (first
      | ((with_reducible show wpList _ _ _ (⟨none, _, _, _, _, _⟩ :: _) _ _)
         go_loud (refine Go.wpList_store_row rfl 89 (.tmp 9) (.tmp 51) rfl w4.heap.size (rcs key n) rfl rfl 89 #[.int .u8 0, .int .u8 0, .int .u8 0, .int .u8 0, .int .u8 0, .int .u8 0, .int .u8 0, .int .u8 0, .int .u8 0, .int .u8 0, .int .u8 0, .int .u8 0, .int .u8 0, .int .u8 0, .int .u8 0, .int .u8 0, .int .u64 0] (is_raw J7.out) (by rw [RSZ.out]; kernel_rfl) (by rw [RSZ.out]; simp) RONE.out ?_)
         generalize (w4.alloc (.cells #[.int .u8 0, .int .u8 0, .int .u8 0, .int .u8 0, .int .u8 0, .int .u8 0, .int .u8 0, .int .u8 0, .int .u8 0, .int .u8 0, .int .u8 0, .int .u8 0, .int .u8 0, .int .u8 0, .int .u8 0, .int .u8 0, .int .u64 0] 89)).setRow w4.heap.size (rcs key n) = g9W at *
         generalize w4.heap.size = g9 at *)
      | (with_reducible show wpList _ _ _ (⟨some 53, _, _, _, _, _⟩ :: _) _ _; go_loud (refine Go.wpList_load_row rfl 89 (.tmp 9) rfl g9 rfl 89 (rcs key n) (0, 0) _ (is_raw G7.out) Try.underlying89 rfl (by rw [RSZ.out]; kernel_rfl) ?_)))
    clear J7 hz7
    refine (unhide BT _).mono ?_
    rintro e w5 ⟨v5, rfl, hb, hv5⟩
    obtain ⟨A5, c5, rfl⟩ := hv5.shape
    have I5 := hide hv5
    clear hv5
    have R7a := Lib.hid (R7.out.below hb R7.out.lt)
    have G7a := Lib.hid (G7.out.below hb G7.out.lt)
    have HB7a := Lib.hid (HB7.out.trans (hb.mono HB7.out.size))
    clear hb R7 G7 HB7
    go_wp2_with fail
    refine (unhide BPT _ _ _ I5.out).mono ?_
    rintro e w6 ⟨rfl, hb⟩
    clear I5
    have R7b := Lib.hid (R7a.out.below hb R7a.out.lt)
    have G7b := Lib.hid (G7a.out.below hb G7a.out.lt)
    have HB7b := Lib.hid (HB7a.out.trans (hb.mono HB7a.out.size))
    clear hb R7a G7a HB7a
    have J8 := Lib.hid (Is.new w6 89 #[.int .u8 0, .int .u8 0, .int .u8 0, .int .u8 0, .int .u8 0, .int .u8 0, .int .u8 0, .int .u8 0, .int .u8 0, .int .u8 0, .int .u8 0, .int .u8 0, .int .u8 0, .int .u8 0, .int .u8 0, .int .u8 0, .int .u64 0])
    have hz8 : w.heap.size ≤ w6.heap.size := HB7b.out.size
    have R8 := Lib.hid (show Is ((w6.alloc (.cells #[.int .u8 0, .int .u8 0, .int .u8 0, .int .u8 0, .int .u8 0, .int .u8 0, .int .u8 0, .int .u8 0, .int .u8 0, .int .u8 0, .int .u8 0, .int .u8 0, .int .u8 0, .int .u8 0, .int .u8 0, .int .u8 0, .int .u64 0] 89)).setRow w6.heap.size (rcs key n)) w.heap.size 87 (rcs key n) from (setRow_other _ _ _ _ (by have := R7b.out.lt; omega)).trans (R7b.out.alloc _))
    have G8 := Lib.hid (show Is ((w6.alloc (.cells #[.int .u8 0, .int .u8 0, .int .u8 0, .int .u8 0, .int .u8 0, .int .u8 0, .int .u8 0, .int .u8 0, .int .u8 0, .int .u8 0, .int .u8 0, .int .u8 0, .int .u8 0, .int .u8 0, .int .u8 0, .int .u8 0, .int .u64 0] 89)).setRow w6.heap.size (rcs key n)) g9 89 (rcs key n) from (setRow_other _ _ _ _ (by have := G7b.out.lt; omega)).trans (G7b.out.alloc _))
    have HB8 := Lib.hid (below_setRow (HB7b.out.alloc hz8 (.cells #[.int .u8 0, .int .u8 0, .int .u8 0, .int .u8 0, .int .u8 0, .int .u8 0, .int .u8 0, .int .u8 0, .int .u8 0, .int .u8 0, .int .u8 0, .int .u8 0, .int .u8 0, .int .u8 0, .int .u8 0, .int .u8 0, .int .u64 0] 89)) (g := w6.heap.size) hz8 (rcs key n))
    have T8 := Lib.hid (is_row (cs' := (rcs key n)) J8.out)
    clear R7b G7b HB7b
    go_wp2_with (
      (with_reducible show wpList _ _ _ (⟨none, _, _, _, _, _⟩ :: _) _ _)
      go_loud (refine Go.wpList_store_row rfl 89 (.tmp 10) (.tmp 56) rfl w6.heap.size (rcs key n) rfl rfl 89 #[.int .u8 0, .int .u8 0, .int .u8 0, .int .u8 0, .int .u8 0, .int .u8 0, .int .u8 0, .int .u8 0, .int .u8 0, .int .u8 0, .int .u8 0, .int .u8 0, .int .u8 0, .int .u8 0, .int .u8 0, .int .u8 0, .int .u64 0] (is_raw J8.out) (by rw [RSZ.out]; kernel_rfl) (by rw [RSZ.out]; simp) RONE.out ?_)
      generalize (w6.alloc (.cells #[.int .u8 0, .int .u8 0, .int .u8 0, .int .u8 0, .int .u8 0, .int .u8 0, .int .u8 0, .int .u8 0, .int .u8 0, .int .u8 0, .int .u8 0, .int .u8 0, .int .u8 0, .int .u8 0, .int .u8 0, .int .u8 0, .int .u64 0] 89)).setRow w6.heap.size (rcs key n) = g10W at *
      generalize w6.heap.size = g10 at *)
    clear J8 hz8
    refine Lin.wp_region_lin Lin.keeps (n := 77)  (fun slotq => match slotq with | 58 => Lin.Spec.val (.agg (rcs key n)) | 59 => Lin.Spec.sl L2 24 | 60 => Lin.Spec.val (.string (strOfNums L2)) | 61 => Lin.Spec.val (.agg (rcs key n)) | 62 => Lin.Spec.sl L2 24 | 63 => Lin.Spec.val (.string (strOfNums L2)) | 64 => Lin.Spec.val (.bool true) | 65 => Lin.Spec.val (.bool true) | 66 => Lin.Spec.val (.agg (rcs key n)) | 67 => Lin.Spec.val (.agg (rcs key n)) | 68 => Lin.Spec.val (.bool true) | 69 => Lin.Spec.val (.bool true) | 70 => Lin.Spec.val (.bool true) | 71 => Lin.Spec.val (.int .i64 0) | 72 => Lin.Spec.val (.bool true) | 73 => Lin.Spec.val (.bool true) | 74 => Lin.Spec.val (.bool true) | 75 => Lin.Spec.val (.bool true) | 76 => Lin.Spec.val (.bool true) | 4 => Lin.Spec.val (.bool true) | _ => Lin.Spec.any) (by kernel_rfl) rfl (by kernel_rfl) ⟨?_, ?_, ?_, ?_, ?_, ?_, ?_, ?_, ?_, ?_, ?_, ?_, ?_, ?_, ?_, ?_, ?_, ?_, ?_, ?_, trivial⟩ ?_
    · intro ρ wq hb ho hc hd
      have hC : ∀ v, ρ (.const v) = v := fun v => hc _ (by intro t e; cases e)
      have hF : ∀ f, ρ (.func f) = .func (.func f) #[] #[] := fun f => hc _ (by intro t e; cases e)
      have h9 : ρ (.tmp 9) = .pointer (some ⟨g9, 0, none⟩) := ho 9 (by kernel_rfl)
      exact Lin.Runs.load_row Lin.keeps 89 (.tmp 9) rfl g9 h9 89 (rcs key n) (G8.out.below hb G8.out.lt) _ Try.underlying89 rfl (by rw [RSZ.out]; kernel_rfl) rfl
    · intro ρ wq hb ho hc hd
      have hC : ∀ v, ρ (.const v) = v := fun v => hc _ (by intro t e; cases e)
      have hF : ∀ f, ρ (.func f) = .func (.func f) #[] #[] := fun f => hc _ (by intro t e; cases e)
      have h58 : ρ (.tmp 58) = .agg (rcs key n) := hd 58 (by kernel_rfl)
      exact Lin.Runs.call Lin.keeps (f := 60) (args := #[.agg (rcs key n)]) (by simp [execOp, go_sem, hF, h58]) ((unhide BT wq).mono fun e w9 ⟨v9, h1, h2, h3⟩ => ⟨v9, h1, h2, h3⟩)
    · intro ρ wq hb ho hc hd
      have hC : ∀ v, ρ (.const v) = v := fun v => hc _ (by intro t e; cases e)
      have hF : ∀ f, ρ (.func f) = .func (.func f) #[] #[] := fun f => hc _ (by intro t e; cases e)
      have h59 := hd 59 (by kernel_rfl)
      exact Lin.Runs.value Lin.keeps (Lin.exec_convert rfl h59.conv) rfl
    · intro ρ wq hb ho hc hd
      have hC : ∀ v, ρ (.const v) = v := fun v => hc _ (by intro t e; cases e)
      have hF : ∀ f, ρ (.func f) = .func (.func f) #[] #[] := fun f => hc _ (by intro t e; cases e)
      have h2 : ρ (.tmp 2) = .pointer (some ⟨w.heap.size, 0, none⟩) := ho 2 (by kernel_rfl)
      exact Lin.Runs.load_row Lin.keeps 87 (.tmp 2) rfl w.heap.size h2 87 (rcs key n) (R8.out.below hb R8.out.lt) _ Try.underlying87 rfl (by rw [RSZ.out]; kernel_rfl) rfl
    · intro ρ wq hb ho hc hd
      have hC : ∀ v, ρ (.const v) = v := fun v => hc _ (by intro t e; cases e)
      have hF : ∀ f, ρ (.func f) = .func (.func f) #[] #[] := fun f => hc _ (by intro t e; cases e)
      have h61 : ρ (.tmp 61) = .agg (rcs key n) := hd 61 (by kernel_rfl)
      exact Lin.Runs.call Lin.keeps (f := 61) (args := #[.agg (rcs key n)]) (by simp [execOp, go_sem, hF, h61]) ((unhide RBT wq).mono fun e w9 ⟨v9, h1, h2, h3⟩ => ⟨v9, h1, h2, h3⟩)
    · intro ρ wq hb ho hc hd
      have hC : ∀ v, ρ (.const v) = v := fun v => hc _ (by intro t e; cases e)
      have hF : ∀ f, ρ (.func f) = .func (.func f) #[] #[] := fun f => hc _ (by intro t e; cases e)
      have h62 := hd 62 (by kernel_rfl)
      exact Lin.Runs.value Lin.keeps (Lin.exec_convert rfl h62.conv) rfl
    · intro ρ wq hb ho hc hd
      have hC : ∀ v, ρ (.const v) = v := fun v => hc _ (by intro t e; cases e)
      have hF : ∀ f, ρ (.func f) = .func (.func f) #[] #[] := fun f => hc _ (by intro t e; cases e)
      have h60 : ρ (.tmp 60) = .string (strOfNums L2) := hd 60 (by kernel_rfl)
      have h63 : ρ (.tmp 63) = .string (strOfNums L2) := hd 63 (by kernel_rfl)
      exact Lin.Runs.value Lin.keeps (v := .bool true) (by simp [execOp, go_sem, h60, h63]) rfl
    · intro ρ wq hb ho hc hd
      have hC : ∀ v, ρ (.const v) = v := fun v => hc _ (by intro t e; cases e)
      have hF : ∀ f, ρ (.func f) = .func (.func f) #[] #[] := fun f => hc _ (by intro t e; cases e)
      have h64 : ρ (.tmp 64) = .bool true := hd 64 (by kernel_rfl)
      exact Lin.Runs.value Lin.keeps (Lin.exec_move rfl) h64
    · intro ρ wq hb ho hc hd
      have hC : ∀ v, ρ (.const v) = v := fun v => hc _ (by intro t e; cases e)
      have hF : ∀ f, ρ (.func f) = .func (.func f) #[] #[] := fun f => hc _ (by intro t e; cases e)
      intro t ht; cases (show some 65 = some t from ht)
      refine ⟨fun _ => ?_, fun hn => absurd (hd 65 (by kernel_rfl)) hn⟩
      have h10 : ρ (.tmp 10) = .pointer (some ⟨g10, 0, none⟩) := ho 10 (by kernel_rfl)
      exact Lin.Runs.load_row Lin.keeps 89 (.tmp 10) rfl g10 h10 89 (rcs key n) (T8.out.below hb T8.out.lt) _ Try.underlying89 rfl (by rw [RSZ.out]; kernel_rfl) rfl
    · intro ρ wq hb ho hc hd
      have hC : ∀ v, ρ (.const v) = v := fun v => hc _ (by intro t e; cases e)
      have hF : ∀ f, ρ (.func f) = .func (.func f) #[] #[] := fun f => hc _ (by intro t e; cases e)
      intro t ht; cases (show some 65 = some t from ht)
      refine ⟨fun _ => ?_, fun hn => absurd (hd 65 (by kernel_rfl)) hn⟩
      have h9 : ρ (.tmp 9) = .pointer (some ⟨g9, 0, none⟩) := ho 9 (by kernel_rfl)
      exact Lin.Runs.load_row Lin.keeps 89 (.tmp 9) rfl g9 h9 89 (rcs key n) (G8.out.below hb G8.out.lt) _ Try.underlying89 rfl (by rw [RSZ.out]; kernel_rfl) rfl
    · intro ρ wq hb ho hc hd
      have hC : ∀ v, ρ (.const v) = v := fun v => hc _ (by intro t e; cases e)
      have hF : ∀ f, ρ (.func f) = .func (.func f) #[] #[] := fun f => hc _ (by intro t e; cases e)
      intro t ht; cases (show some 65 = some t from ht)
      refine ⟨fun _ => ?_, fun hn => absurd (hd 65 (by kernel_rfl)) hn⟩
      have h66 : ρ (.tmp 66) = .agg (rcs key n) := hd 66 (by kernel_rfl)
      have h67 : ρ (.tmp 67) = .agg (rcs key n) := hd 67 (by kernel_rfl)
      exact Lin.Runs.value Lin.keeps (Lin.exec_ringeq rfl h66 h67 (unhide EQR wq).1) rfl
    · intro ρ wq hb ho hc hd
      have hC : ∀ v, ρ (.const v) = v := fun v => hc _ (by intro t e; cases e)
      have hF : ∀ f, ρ (.func f) = .func (.func f) #[] #[] := fun f => hc _ (by intro t e; cases e)
      have h65 : ρ (.tmp 65) = .bool true := hd 65 (by kernel_rfl)
      have h68 : ρ (.tmp 68) = .bool true := hd 68 (by kernel_rfl)
      exact Lin.Runs.value Lin.keeps (v := .bool true) (by simp [execOp, go_sem, hC, h65, h68]) rfl
    · intro ρ wq hb ho hc hd
      have hC : ∀ v, ρ (.const v) = v := fun v => hc _ (by intro t e; cases e)
      have hF : ∀ f, ρ (.func f) = .func (.func f) #[] #[] := fun f => hc _ (by intro t e; cases e)
      have h69 : ρ (.tmp 69) = .bool true := hd 69 (by kernel_rfl)
      exact Lin.Runs.value Lin.keeps (Lin.exec_move rfl) h69
    · intro ρ wq hb ho hc hd
      have hC : ∀ v, ρ (.const v) = v := fun v => hc _ (by intro t e; cases e)
      have hF : ∀ f, ρ (.func f) = .func (.func f) #[] #[] := fun f => hc _ (by intro t e; cases e)
      intro t ht; cases (show some 70 = some t from ht)
      refine ⟨fun _ => ?_, fun hn => absurd (hd 70 (by kernel_rfl)) hn⟩
      have h11 : ρ (.tmp 11) = .int .i64 0 := ho 11 (by kernel_rfl)
      exact Lin.Runs.value Lin.keeps (Lin.exec_move rfl) h11
    · intro ρ wq hb ho hc hd
      have hC : ∀ v, ρ (.const v) = v := fun v => hc _ (by intro t e; cases e)
      have hF : ∀ f, ρ (.func f) = .func (.func f) #[] #[] := fun f => hc _ (by intro t e; cases e)
      intro t ht; cases (show some 70 = some t from ht)
      refine ⟨fun _ => ?_, fun hn => absurd (hd 70 (by kernel_rfl)) hn⟩
      have h71 : ρ (.tmp 71) = .int .i64 0 := hd 71 (by kernel_rfl)
      exact Lin.Runs.value Lin.keeps (v := .bool true) (by simp [execOp, go_sem, hC, h71]) rfl
    · intro ρ wq hb ho hc hd
      have hC : ∀ v, ρ (.const v) = v := fun v => hc _ (by intro t e; cases e)
      have hF : ∀ f, ρ (.func f) = .func (.func f) #[] #[] := fun f => hc _ (by intro t e; cases e)
      have h70 : ρ (.tmp 70) = .bool true := hd 70 (by kernel_rfl)
      have h72 : ρ (.tmp 72) = .bool true := hd 72 (by kernel_rfl)
      exact Lin.Runs.value Lin.keeps (v := .bool true) (by simp [execOp, go_sem, hC, h70, h72]) rfl
    · intro ρ wq hb ho hc hd
      have hC : ∀ v, ρ (.const v) = v := fun v => hc _ (by intro t e; cases e)
      have hF : ∀ f, ρ (.func f) = .func (.func f) #[] #[] := fun f => hc _ (by intro t e; cases e)
      have h73 : ρ (.tmp 73) = .bool true := hd 73 (by kernel_rfl)
      exact Lin.Runs.value Lin.keeps (Lin.exec_move rfl) h73
    · intro ρ wq hb ho hc hd
      have hC : ∀ v, ρ (.const v) = v := fun v => hc _ (by intro t e; cases e)
      have hF : ∀ f, ρ (.func f) = .func (.func f) #[] #[] := fun f => hc _ (by intro t e; cases e)
      intro t ht; cases (show some 74 = some t from ht)
      refine ⟨fun _ => ?_, fun hn => absurd (hd 74 (by kernel_rfl)) hn⟩
      exact Lin.Runs.call Lin.keeps (f := 57) (args := #[]) (by simp [execOp, go_sem, hF]) ((awake11 wq).mono fun e w9 h => ⟨_, h.1, h.2, rfl⟩)
    · intro ρ wq hb ho hc hd
      have hC : ∀ v, ρ (.const v) = v := fun v => hc _ (by intro t e; cases e)
      have hF : ∀ f, ρ (.func f) = .func (.func f) #[] #[] := fun f => hc _ (by intro t e; cases e)
      have h74 : ρ (.tmp 74) = .bool true := hd 74 (by kernel_rfl)
      have h75 : ρ (.tmp 75) = .bool true := hd 75 (by kernel_rfl)
      exact Lin.Runs.value Lin.keeps (v := .bool true) (by simp [execOp, go_sem, hC, h74, h75]) rfl
    · intro ρ wq hb ho hc hd
      have hC : ∀ v, ρ (.const v) = v := fun v => hc _ (by intro t e; cases e)
      have hF : ∀ f, ρ (.func f) = .func (.func f) #[] #[] := fun f => hc _ (by intro t e; cases e)
      have h76 : ρ (.tmp 76) = .bool true := hd 76 (by kernel_rfl)
      exact Lin.Runs.value Lin.keeps (Lin.exec_assign rfl) h76
    · intro vals wz hb2 hv
      have ee : vals 4 = .bool true := hv 4 (by kernel_rfl)
      have HBZ := Lib.hid (HB8.out.trans (hb2.mono HB8.out.size))
      clear hb2 hv
      simp only [Lin.putAll, Option.getD_some]
      rw [ee]
      clear ee
      go_simp
      generalize vals = vq
      go_wp2_with fail
      go_ret
      exact ⟨rfl, HBZ.out⟩
set_option maxHeartbeats 1000000 in
theorem rbytes_long (key : List Int) (n : Nat) (A : Option Addr) (k c : Nat) (hk : 100 < k) (w : World) : Calls Try.prog 13 #[.agg (rcs key n), .slice A k c] w fun e w' => e = .returned (.bool true) ∧ Below w.heap.size w w' := by
  have g : (100 : Int) < (k : Int) := by omega
  have HB1 := Lib.hid (show Below w.heap.size w (w.alloc (.cells (rcs key n) 87)) from (Below.refl _ _).alloc (Nat.le_refl _) _)
  generalize (rcs key n) = rs at *
  go_enter Try.func13, Try.ntmps13
  go_wp2_with fail
  generalize w.alloc (.cells rs 87) = W at *
  refine (awake11 _).mono ?_
  rintro e w9 ⟨rfl, hb⟩
  have HB9 := Lib.hid (HB1.out.trans (hb.mono HB1.out.size))
  clear hb
  go_wp2_with fail
  go_ret
  exact ⟨rfl, HB9.out⟩
theorem rbytes_all (key : List Int) (hk : key.length = 16) (ho : Octets key) (n : Nat) (hn : n < 18446744073709551616) (A : Option Addr) (k c : Nat) (l : List Int) (hlo : Octets l) (w : World) (hl : IsB l k (.slice A k c) w) :
    Calls Try.prog 13 #[.agg (rcs key n), .slice A k c] w fun e w' => e = .returned (.bool true) ∧ Below w.heap.size w w' := by
  by_cases h1 : 100 < k
  · exact rbytes_long key n A k c h1 w
  · by_cases h2 : k = 24
    · subst h2
      obtain ⟨hi, n1, h3⟩ := nw_nat l 0 8
      obtain ⟨lo, n2, h4⟩ := nw_nat l 8 8
      obtain ⟨now, n3, h5⟩ := nw_nat l 16 8
      exact rbytes_ok key hk ho n hn A 24 c l (by omega) (kof hi lo) (kof_len _ _) (kof_ok _ _) now (hide (fun W h => pparse_ok l hlo A c hi lo now n1 n2 n3 h3 h4 W h)) (hide (fun W h => rparse_ok l hlo A c hi lo now n1 n2 n3 h3 h4 W h)) w hl
    · exact rbytes_short key hk ho n hn A k c l (by omega) (List.replicate 16 0) rfl (Octets.ofAll (by decide)) 0 (hide (fun W _ => pparse_short A k c h2 W)) (hide (fun W _ => rparse_short A k c h2 W)) w hl
end Go.Proofs.Ytkdcaipadejchaa
