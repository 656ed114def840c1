/-
  Packets that are too long, and the law Ip4Long, walked. Helper of the claim Ip4Long.
-/
import Derived.Test.YtmgendgfdhhgfaaQm
namespace Go.Proofs.Ytmgendgfdhhgfaa
open Go.ChangeShapes Go.WideShapes Go.ChangeAt Go.RowKit
set_option linter.unusedSimpArgs false
set_option linter.unusedVariables false
set_option maxRecDepth 100000
set_option maxHeartbeats 4000000 in
theorem packet4_long (ts id : Nat) (l0 : Int) (st mo : Bool) (ofs tt pr sm sl dl : Nat) (A : Option Addr) (n c : Nat) (Al : Option Addr) (k cl : Nat) (w : World) (hn : n ≤ 1000) (hk : 65535 < 20 + n + k) (hk2 : k ≤ 1000000) :
    Calls Try.prog 13 #[hv4 (ts : Int) l0 (id : Int) st mo (ofs : Int) (tt : Int) (pr : Int) (sm : Int) false 0 (sl : Int) false 0 (dl : Int) (.slice A n c), .slice Al k cl] w fun e w' => e = .returned (.tuple #[.slice none 0 0, .int .i64 30]) ∧ Below w.heap.size w w' := by
  have HB := Lib.hid ((Below.refl w.heap.size w).alloc (Nat.le_refl _) (.cells #[.int .u8 (ts : Int), .int .i64 l0, .int .u16 (id : Int), .bool st, .bool mo, .int .i64 (ofs : Int), .int .u8 (tt : Int), .int .u8 (pr : Int), .int .u16 (sm : Int), .bool false, .int .u64 0, .int .u64 (sl : Int), .bool false, .int .u64 0, .int .u64 (dl : Int), .slice A n c] 28))
  have P1 := hide (Is.new w 28 #[.int .u8 (ts : Int), .int .i64 l0, .int .u16 (id : Int), .bool st, .bool mo, .int .i64 (ofs : Int), .int .u8 (tt : Int), .int .u8 (pr : Int), .int .u16 (sm : Int), .bool false, .int .u64 0, .int .u64 (sl : Int), .bool false, .int .u64 0, .int .u64 (dl : Int), .slice A n c])
  have SZ := hide (fun W => size4 (ts : Int) l0 (id : Int) st mo (ofs : Int) (tt : Int) (pr : Int) (sm : Int) false 0 (sl : Int) false 0 (dl : Int) A n c W hn)
  obtain ⟨r, hr⟩ : ∃ r, 20 + n = r := ⟨_, rfl⟩
  obtain ⟨t, ht⟩ : ∃ t, 20 + n + k = t := ⟨_, rfl⟩
  have hsum : ((20 + n : Nat) : Int) + (k : Int) = (t : Int) := by omega
  rw [hr] at hsum SZ
  have t65 : (65535 : Int) < (t : Int) := by omega
  have t65b : t ≤ 2000000 := by omega
  clear hk hr ht
  unfold hv4 at SZ ⊢
  go_enter Try.func13, Try.ntmps13
  go_wp2_with fail
  generalize w.alloc (.cells #[.int .u8 (ts : Int), .int .i64 l0, .int .u16 (id : Int), .bool st, .bool mo, .int .i64 (ofs : Int), .int .u8 (tt : Int), .int .u8 (pr : Int), .int .u16 (sm : Int), .bool false, .int .u64 0, .int .u64 (sl : Int), .bool false, .int .u64 0, .int .u64 (dl : Int), .slice A n c] 28) = W at *
  refine (unhide SZ _).mono ?_
  rintro e w1 ⟨rfl, hb⟩
  have HB1 := Lib.hid (HB.out.trans (hb.mono HB.out.size)); have P2 := hide (P1.out.below hb P1.out.lt)
  clear hb HB P1
  have P3 : Hid (Is (w1.setCell ⟨w.heap.size, 1, none⟩ (.int .i64 (t : Int))) w.heap.size 28 #[.int .u8 (ts : Int), .int .i64 (t : Int), .int .u16 (id : Int), .bool st, .bool mo, .int .i64 (ofs : Int), .int .u8 (tt : Int), .int .u8 (pr : Int), .int .u16 (sm : Int), .bool false, .int .u64 0, .int .u64 (sl : Int), .bool false, .int .u64 0, .int .u64 (dl : Int), .slice A n c]) := hide (P2.out.put 1 (.int .i64 (t : Int)))
  have HB3 := Lib.hid (Below.set1 HB1.out (Nat.le_refl _) (i := 1) (.int .i64 (t : Int)))
  have c1 := P2.out.cell 1; have f1 := P2.out.free 1; have g1l := P2.out.lt
  simp at c1
  have a1 := P3.out.cell 1
  simp at a1
  go_wp2_with fail
  refine bodyPost_ret (v := .tuple #[.slice none 0 0, .int .i64 30]) (by simp [results, Try.results13, go_sem]) rfl ⟨rfl, HB3.out⟩
theorem isb_zeros {w : World} {g a : Nat} (h : Is w g 5 (Array.replicate a (.int .u8 0))) (ha : a ≤ 100000000) : IsB (List.replicate a 0) a (.slice (some ⟨g, 0, none⟩) a a) w :=
  ⟨_, _, rfl, by simp, fun h0 => ⟨g, 0, rfl, h.lt, fun i j hi hj => by
    obtain rfl : j = 0 := by omega
    have hi' : i < a := by simpa using hi
    rw [Nat.zero_add, Nat.mul_one, Nat.add_zero, h.cell]
    simp [hi', at0, List.getD]⟩, Nat.le_refl _, by unfold maxLen; omega, fun h => by cases h⟩
theorem zeros_ok (n : Nat) : Octets (List.replicate n 0) := Octets.ofAll fun x hx => by rw [List.eq_of_mem_replicate hx]; omega
def Lng (v : Value) : Prop := ∃ A c, v = .slice A 65535 c
set_option maxHeartbeats 8000000 in
theorem walkLong4 (mr op : Nat) (w : World) (h1 : mr ≤ 255) (h2 : op ≤ 255) :
    Calls Try.prog 3 #[.int .u8 (mr : Int), .int .u8 (op : Int)] w fun e w' => e = .returned (.bool true) ∧ Below w.heap.size w w' := by
  obtain ⟨m, hm⟩ : ∃ m, op % 11 = m := ⟨_, rfl⟩
  have m10 : m ≤ 10 := by omega
  have hmi : (op : Int) % 11 = (m : Int) := by omega
  obtain ⟨n, hn⟩ : ∃ n, n = 4 * m := ⟨_, rfl⟩
  have hmul : (m : Int) * 4 = (n : Int) := by omega
  obtain ⟨k, hk⟩ : ∃ k, 20 + n + k = 65535 := ⟨65535 - 20 - n, by omega⟩
  have hsub : 65535 - ((20 + n : Nat) : Int) = (k : Int) := by omega
  obtain ⟨r, hr⟩ : ∃ r, 20 + n = r := ⟨_, rfl⟩
  rw [hr] at hsub
  obtain ⟨s, hs⟩ : ∃ s, s = k + 1 + mr := ⟨_, rfl⟩
  have n40 : n ≤ 40 := by omega
  have k65 : k ≤ 65535 := by omega
  have s66 : s ≤ 66000 := by omega
  have KN := Lib.hid (show 20 + n + k ≤ 65535 ∧ 20 + n + k = 65535 from by omega); have MN := Lib.hid hn; have M10 := Lib.hid m10; have SS := Lib.hid hs
  have SZ := hide (fun W => size4 0 0 0 false false 0 9 17 0 false 0 0 false 0 0 (some ⟨w.heap.size, 0, none⟩) n n W (by omega))
  rw [hr] at SZ
  have hmk := make_bytes w n n (n : Int) (n : Int) rfl rfl (Nat.le_refl _) (by omega)
  have HBA := Lib.hid ((Below.refl w.heap.size w).alloc (Nat.le_refl _) (.cells (Array.replicate n (.int .u8 0)) 5))
  have hz1 := HBA.out.size
  have HB1 := Lib.hid (HBA.out.alloc hz1 (.cells #[.int .u8 0, .int .i64 0, .int .u16 0, .bool false, .bool false, .int .i64 0, .int .u8 9, .int .u8 17, .int .u16 0, .bool false, .int .u64 0, .int .u64 0, .bool false, .int .u64 0, .int .u64 0, .slice (some ⟨w.heap.size, 0, none⟩) n n] 28))
  have HZ1 := hide (IsB.alloc (isb_zeros (Is.new w 5 (Array.replicate n (.int .u8 0))) (by omega)) (.cells #[.int .u8 0, .int .i64 0, .int .u16 0, .bool false, .bool false, .int .i64 0, .int .u8 9, .int .u8 17, .int .u16 0, .bool false, .int .u64 0, .int .u64 0, .bool false, .int .u64 0, .int .u64 0, .slice (some ⟨w.heap.size, 0, none⟩) n n] 28))
  have P1 := hide (Is.new (w.alloc (.cells (Array.replicate n (.int .u8 0)) 5)) 28 #[.int .u8 0, .int .i64 0, .int .u16 0, .bool false, .bool false, .int .i64 0, .int .u8 9, .int .u8 17, .int .u16 0, .bool false, .int .u64 0, .int .u64 0, .bool false, .int .u64 0, .int .u64 0, .slice (some ⟨w.heap.size, 0, none⟩) n n])
  have PN := Lib.hid (show (w.alloc (.cells (Array.replicate n (.int .u8 0)) 5)).heap.size = w.heap.size + 1 from by simp)
  rw [PN.out] at P1
  clear hm hn hk hr hs PN hz1 HBA
  unfold hv4 at SZ
  go_enter Try.func3, Try.ntmps3
  go_wp2_with fail
  generalize (w.alloc (.cells (Array.replicate n (.int .u8 0)) 5)).alloc (.cells #[.int .u8 0, .int .i64 0, .int .u16 0, .bool false, .bool false, .int .i64 0, .int .u8 9, .int .u8 17, .int .u16 0, .bool false, .int .u64 0, .int .u64 0, .bool false, .int .u64 0, .int .u64 0, .slice (some ⟨w.heap.size, 0, none⟩) n n] 28) = W at *
  generalize w.heap.size + 1 = g5 at *
  clear hmk
  refine (unhide SZ _).mono ?_
  rintro e w2 ⟨rfl, hb⟩
  have HB5 := Lib.hid (HB1.out.trans (hb.mono HB1.out.size)); have P5 := hide (P1.out.below hb P1.out.lt); have HZO := hide (HZ1.out.st hb)
  clear hb HB1 P1 HZ1 SZ
  have z0 := P5.out.cell 0
  have z1 := P5.out.cell 1
  have z2 := P5.out.cell 2
  have z3 := P5.out.cell 3
  have z4 := P5.out.cell 4
  have z5 := P5.out.cell 5
  have z6 := P5.out.cell 6
  have z7 := P5.out.cell 7
  have z8 := P5.out.cell 8
  have z9 := P5.out.cell 9
  have z10 := P5.out.cell 10
  have z11 := P5.out.cell 11
  have z12 := P5.out.cell 12
  have z13 := P5.out.cell 13
  have z14 := P5.out.cell 14
  have z15 := P5.out.cell 15
  simp at z0 z1 z2 z3 z4 z5 z6 z7 z8 z9 z10 z11 z12 z13 z14 z15
  have Z0 := Lib.hid z0
  have Z1 := Lib.hid z1
  have Z2 := Lib.hid z2
  have Z3 := Lib.hid z3
  have Z4 := Lib.hid z4
  have Z5 := Lib.hid z5
  have Z6 := Lib.hid z6
  have Z7 := Lib.hid z7
  have Z8 := Lib.hid z8
  have Z9 := Lib.hid z9
  have Z10 := Lib.hid z10
  have Z11 := Lib.hid z11
  have Z12 := Lib.hid z12
  have Z13 := Lib.hid z13
  have Z14 := Lib.hid z14
  have Z15 := Lib.hid z15
  have L5 := Lib.hid P5.out.lt
  clear z0 z1 z2 z3 z4 z5 z6 z7 z8 z9 z10 z11 z12 z13 z14 z15
  go_wp2_with fail
  refine Lin.wp_region_lin Lin.keeps (n := 57)  (fun slotq => match slotq with | 21 => Lin.Spec.val (.agg #[.int .u8 0, .int .i64 0, .int .u16 0, .bool false, .bool false, .int .i64 0, .int .u8 9, .int .u8 17, .int .u16 0, .bool false, .int .u64 0, .int .u64 0, .bool false, .int .u64 0, .int .u64 0, .slice (some ⟨w.heap.size, 0, none⟩) n n]) | 22 => Lin.Spec.val (.int .i64 (k : Int)) | 23 => (Lin.Spec.sl (List.replicate k 0) k) | 24 => (Lin.Spec.of fun x => ∃ v, x = .tuple #[v, .int .i64 0] ∧ Lng v) | 20 => (Lin.Spec.of fun x => ∃ v, x = .tuple #[v, .int .i64 0] ∧ Lng v) | 25 => (Lin.Spec.of Lng) | 26 => Lin.Spec.val (.int .i64 0) | 7 => (Lin.Spec.of Lng) | 8 => Lin.Spec.val (.int .i64 0) | _ => Lin.Spec.any) (by kernel_rfl) rfl (by kernel_rfl) ⟨?_, ?_, ?_, ?_, ?_, ?_, ?_, ?_, ?_, trivial⟩ ?_
  · intro ρ wq hb ho hc hd
    have hC : ∀ v, ρ (.const v) = v := fun v => hc _ (by intro t e; cases e)
    have hF : ∀ f, ρ (.func f) = .func (.func f) #[] #[] := fun f => hc _ (by intro t e; cases e)
    have h5 : ρ (.tmp 5) = .pointer (some ⟨g5, 0, none⟩) := ho 5 (by kernel_rfl)
    have q0 := (hb.cell (p := ⟨g5, 0, none⟩) L5.out).trans Z0.out
    have q1 := (hb.cell (p := ⟨g5, 1, none⟩) L5.out).trans Z1.out
    have q2 := (hb.cell (p := ⟨g5, 2, none⟩) L5.out).trans Z2.out
    have q3 := (hb.cell (p := ⟨g5, 3, none⟩) L5.out).trans Z3.out
    have q4 := (hb.cell (p := ⟨g5, 4, none⟩) L5.out).trans Z4.out
    have q5 := (hb.cell (p := ⟨g5, 5, none⟩) L5.out).trans Z5.out
    have q6 := (hb.cell (p := ⟨g5, 6, none⟩) L5.out).trans Z6.out
    have q7 := (hb.cell (p := ⟨g5, 7, none⟩) L5.out).trans Z7.out
    have q8 := (hb.cell (p := ⟨g5, 8, none⟩) L5.out).trans Z8.out
    have q9 := (hb.cell (p := ⟨g5, 9, none⟩) L5.out).trans Z9.out
    have q10 := (hb.cell (p := ⟨g5, 10, none⟩) L5.out).trans Z10.out
    have q11 := (hb.cell (p := ⟨g5, 11, none⟩) L5.out).trans Z11.out
    have q12 := (hb.cell (p := ⟨g5, 12, none⟩) L5.out).trans Z12.out
    have q13 := (hb.cell (p := ⟨g5, 13, none⟩) L5.out).trans Z13.out
    have q14 := (hb.cell (p := ⟨g5, 14, none⟩) L5.out).trans Z14.out
    have q15 := (hb.cell (p := ⟨g5, 15, none⟩) L5.out).trans Z15.out
    exact Lin.Runs.value Lin.keeps (v := .agg #[.int .u8 0, .int .i64 0, .int .u16 0, .bool false, .bool false, .int .i64 0, .int .u8 9, .int .u8 17, .int .u16 0, .bool false, .int .u64 0, .int .u64 0, .bool false, .int .u64 0, .int .u64 0, .slice (some ⟨w.heap.size, 0, none⟩) n n]) (by simp [execOp, go_sem, h5, q0, q1, q2, q3, q4, q5, q6, q7, q8, q9, q10, q11, q12, q13, q14, q15]) rfl
  · intro ρ wq hb ho hc hd
    have hC : ∀ v, ρ (.const v) = v := fun v => hc _ (by intro t e; cases e)
    have hF : ∀ f, ρ (.func f) = .func (.func f) #[] #[] := fun f => hc _ (by intro t e; cases e)
    have h6 : ρ (.tmp 6) = .int .i64 (k : Int) := ho 6 (by kernel_rfl)
    exact Lin.Runs.value Lin.keeps (Lin.exec_move rfl) h6
  · intro ρ wq hb ho hc hd
    have hC : ∀ v, ρ (.const v) = v := fun v => hc _ (by intro t e; cases e)
    have hF : ∀ f, ρ (.func f) = .func (.func f) #[] #[] := fun f => hc _ (by intro t e; cases e)
    have h22 : ρ (.tmp 22) = .int .i64 (k : Int) := hd 22 (by kernel_rfl)
    have hm9 := make_bytes wq k k (k : Int) (k : Int) rfl rfl (Nat.le_refl _) (by omega)
    exact Lin.Runs.made (v := .slice (some ⟨wq.heap.size, 0, none⟩) k k) (w' := wq.alloc (.cells (Array.replicate k (.int .u8 0)) 5)) (by unfold execOp; simp only [h22]; rw [Sem.run_bind, hm9]; rfl) ((Below.refl _ _).alloc (Nat.le_refl _) _) (isb_zeros (Is.new _ _ _) (by omega))
  · intro ρ wq hb ho hc hd
    have hC : ∀ v, ρ (.const v) = v := fun v => hc _ (by intro t e; cases e)
    have hF : ∀ f, ρ (.func f) = .func (.func f) #[] #[] := fun f => hc _ (by intro t e; cases e)
    have h21 : ρ (.tmp 21) = .agg #[.int .u8 0, .int .i64 0, .int .u16 0, .bool false, .bool false, .int .i64 0, .int .u8 9, .int .u8 17, .int .u16 0, .bool false, .int .u64 0, .int .u64 0, .bool false, .int .u64 0, .int .u64 0, .slice (some ⟨w.heap.size, 0, none⟩) n n] := hd 21 (by kernel_rfl)
    have h23 := hd 23 (by kernel_rfl)
    obtain ⟨A23, c23, e23⟩ := IsB.shape h23
    exact Lin.Runs.call Lin.keeps (f := 13) (args := #[hv4 ((0 : Nat) : Int) 0 ((0 : Nat) : Int) false false ((0 : Nat) : Int) ((9 : Nat) : Int) ((17 : Nat) : Int) ((0 : Nat) : Int) false 0 ((0 : Nat) : Int) false 0 ((0 : Nat) : Int) (.slice (some ⟨w.heap.size, 0, none⟩) n n), .slice A23 k c23]) (by simp [execOp, go_sem, hF, h21, e23, hv4]) ((packet4_yes 0 0 0 false false 0 9 17 0 0 0 m (List.replicate n 0) (List.replicate k 0) (some ⟨w.heap.size, 0, none⟩) n n A23 k c23 wq (by omega) (by omega) (by omega) (by omega) (by omega) (by omega) (by omega) KN.out.1 MN.out M10.out (zeros_ok n) (HZO.out.st hb) (e23 ▸ h23)).mono fun e w9 ⟨v, h1, h2, h3⟩ => ⟨_, h1, h2, v, rfl, by obtain ⟨A9, c9, e9⟩ := h3.shape; exact ⟨A9, c9, by rw [e9, KN.out.2]⟩⟩)
  · intro ρ wq hb ho hc hd
    have hC : ∀ v, ρ (.const v) = v := fun v => hc _ (by intro t e; cases e)
    have hF : ∀ f, ρ (.func f) = .func (.func f) #[] #[] := fun f => hc _ (by intro t e; cases e)
    have h24 := hd 24 (by kernel_rfl)
    exact Lin.Runs.value Lin.keeps (Lin.exec_move rfl) h24
  · intro ρ wq hb ho hc hd
    have hC : ∀ v, ρ (.const v) = v := fun v => hc _ (by intro t e; cases e)
    have hF : ∀ f, ρ (.func f) = .func (.func f) #[] #[] := fun f => hc _ (by intro t e; cases e)
    have h20 := hd 20 (by kernel_rfl)
    obtain ⟨v20, e20, l20⟩ := h20
    exact Lin.Runs.value Lin.keeps (v := v20) (by simp [execOp, go_sem, e20]) l20
  · intro ρ wq hb ho hc hd
    have hC : ∀ v, ρ (.const v) = v := fun v => hc _ (by intro t e; cases e)
    have hF : ∀ f, ρ (.func f) = .func (.func f) #[] #[] := fun f => hc _ (by intro t e; cases e)
    have h20 := hd 20 (by kernel_rfl)
    obtain ⟨v20, e20, l20⟩ := h20
    exact Lin.Runs.value Lin.keeps (v := .int .i64 0) (by simp [execOp, go_sem, e20]) rfl
  · intro ρ wq hb ho hc hd
    have hC : ∀ v, ρ (.const v) = v := fun v => hc _ (by intro t e; cases e)
    have hF : ∀ f, ρ (.func f) = .func (.func f) #[] #[] := fun f => hc _ (by intro t e; cases e)
    have h25 := hd 25 (by kernel_rfl)
    exact Lin.Runs.value Lin.keeps (Lin.exec_assign rfl) h25
  · intro ρ wq hb ho hc hd
    have hC : ∀ v, ρ (.const v) = v := fun v => hc _ (by intro t e; cases e)
    have hF : ∀ f, ρ (.func f) = .func (.func f) #[] #[] := fun f => hc _ (by intro t e; cases e)
    have h26 : ρ (.tmp 26) = .int .i64 0 := hd 26 (by kernel_rfl)
    exact Lin.Runs.value Lin.keeps (Lin.exec_assign rfl) h26
  · intro vals w7 hb2 hv
    obtain ⟨A7, c7, e7⟩ := hv 7 (by kernel_rfl)
    have e8 := hv 8 (by kernel_rfl)
    have HZ7 := hide (HZO.out.st hb2)
    have HB7 := Lib.hid (HB5.out.trans (hb2.mono HB5.out.size)); have P7 := hide (P5.out.below hb2 P5.out.lt)
    simp only [Lin.putAll, Option.getD_some]
    rw [e7, show vals 8 = .int .i64 0 from e8]
    clear e7 e8 hv hb2 L5 Z0 Z1 Z2 Z3 Z4 Z5 Z6 Z7 Z8 Z9 Z10 Z11 Z12 Z13 Z14 Z15
    go_simp
    generalize vals = vv
    have z0 := P7.out.cell 0
    have z1 := P7.out.cell 1
    have z2 := P7.out.cell 2
    have z3 := P7.out.cell 3
    have z4 := P7.out.cell 4
    have z5 := P7.out.cell 5
    have z6 := P7.out.cell 6
    have z7 := P7.out.cell 7
    have z8 := P7.out.cell 8
    have z9 := P7.out.cell 9
    have z10 := P7.out.cell 10
    have z11 := P7.out.cell 11
    have z12 := P7.out.cell 12
    have z13 := P7.out.cell 13
    have z14 := P7.out.cell 14
    have z15 := P7.out.cell 15
    simp at z0 z1 z2 z3 z4 z5 z6 z7 z8 z9 z10 z11 z12 z13 z14 z15
    have Z0 := Lib.hid z0
    have Z1 := Lib.hid z1
    have Z2 := Lib.hid z2
    have Z3 := Lib.hid z3
    have Z4 := Lib.hid z4
    have Z5 := Lib.hid z5
    have Z6 := Lib.hid z6
    have Z7 := Lib.hid z7
    have Z8 := Lib.hid z8
    have Z9 := Lib.hid z9
    have Z10 := Lib.hid z10
    have Z11 := Lib.hid z11
    have Z12 := Lib.hid z12
    have Z13 := Lib.hid z13
    have Z14 := Lib.hid z14
    have Z15 := Lib.hid z15
    have L5 := Lib.hid P7.out.lt
    clear z0 z1 z2 z3 z4 z5 z6 z7 z8 z9 z10 z11 z12 z13 z14 z15
    go_wp2_with fail
    refine Lin.wp_region_lin Lin.keeps (n := 57)  (fun slotq => match slotq with | 28 => Lin.Spec.val (.agg #[.int .u8 0, .int .i64 0, .int .u16 0, .bool false, .bool false, .int .i64 0, .int .u8 9, .int .u8 17, .int .u16 0, .bool false, .int .u64 0, .int .u64 0, .bool false, .int .u64 0, .int .u64 0, .slice (some ⟨w.heap.size, 0, none⟩) n n]) | 29 => Lin.Spec.val (.int .i64 (k : Int)) | 30 => Lin.Spec.val (.int .i64 ((k : Int) + 1)) | 31 => Lin.Spec.val (.int .u8 (mr : Int)) | 32 => Lin.Spec.val (.int .i64 (mr : Int)) | 33 => Lin.Spec.val (.int .i64 (s : Int)) | 34 => (Lin.Spec.sl (List.replicate s 0) s) | 35 => Lin.Spec.val (.tuple #[.slice none 0 0, .int .i64 30]) | 27 => Lin.Spec.val (.tuple #[.slice none 0 0, .int .i64 30]) | 36 => Lin.Spec.val (.slice none 0 0) | 37 => Lin.Spec.val (.int .i64 30) | 9 => Lin.Spec.val (.slice none 0 0) | 10 => Lin.Spec.val (.int .i64 30) | _ => Lin.Spec.any) (by kernel_rfl) rfl (by kernel_rfl) ⟨?_, ?_, ?_, ?_, ?_, ?_, ?_, ?_, ?_, ?_, ?_, ?_, ?_, trivial⟩ ?_
    · intro ρ wq hb ho hc hd
      have hC : ∀ v, ρ (.const v) = v := fun v => hc _ (by intro t e; cases e)
      have hF : ∀ f, ρ (.func f) = .func (.func f) #[] #[] := fun f => hc _ (by intro t e; cases e)
      have h5 : ρ (.tmp 5) = .pointer (some ⟨g5, 0, none⟩) := ho 5 (by kernel_rfl)
      have q0 := (hb.cell (p := ⟨g5, 0, none⟩) L5.out).trans Z0.out
      have q1 := (hb.cell (p := ⟨g5, 1, none⟩) L5.out).trans Z1.out
      have q2 := (hb.cell (p := ⟨g5, 2, none⟩) L5.out).trans Z2.out
      have q3 := (hb.cell (p := ⟨g5, 3, none⟩) L5.out).trans Z3.out
      have q4 := (hb.cell (p := ⟨g5, 4, none⟩) L5.out).trans Z4.out
      have q5 := (hb.cell (p := ⟨g5, 5, none⟩) L5.out).trans Z5.out
      have q6 := (hb.cell (p := ⟨g5, 6, none⟩) L5.out).trans Z6.out
      have q7 := (hb.cell (p := ⟨g5, 7, none⟩) L5.out).trans Z7.out
      have q8 := (hb.cell (p := ⟨g5, 8, none⟩) L5.out).trans Z8.out
      have q9 := (hb.cell (p := ⟨g5, 9, none⟩) L5.out).trans Z9.out
      have q10 := (hb.cell (p := ⟨g5, 10, none⟩) L5.out).trans Z10.out
      have q11 := (hb.cell (p := ⟨g5, 11, none⟩) L5.out).trans Z11.out
      have q12 := (hb.cell (p := ⟨g5, 12, none⟩) L5.out).trans Z12.out
      have q13 := (hb.cell (p := ⟨g5, 13, none⟩) L5.out).trans Z13.out
      have q14 := (hb.cell (p := ⟨g5, 14, none⟩) L5.out).trans Z14.out
      have q15 := (hb.cell (p := ⟨g5, 15, none⟩) L5.out).trans Z15.out
      exact Lin.Runs.value Lin.keeps (v := .agg #[.int .u8 0, .int .i64 0, .int .u16 0, .bool false, .bool false, .int .i64 0, .int .u8 9, .int .u8 17, .int .u16 0, .bool false, .int .u64 0, .int .u64 0, .bool false, .int .u64 0, .int .u64 0, .slice (some ⟨w.heap.size, 0, none⟩) n n]) (by simp [execOp, go_sem, h5, q0, q1, q2, q3, q4, q5, q6, q7, q8, q9, q10, q11, q12, q13, q14, q15]) rfl
    · intro ρ wq hb ho hc hd
      have hC : ∀ v, ρ (.const v) = v := fun v => hc _ (by intro t e; cases e)
      have hF : ∀ f, ρ (.func f) = .func (.func f) #[] #[] := fun f => hc _ (by intro t e; cases e)
      have h6 : ρ (.tmp 6) = .int .i64 (k : Int) := ho 6 (by kernel_rfl)
      exact Lin.Runs.value Lin.keeps (Lin.exec_move rfl) h6
    · intro ρ wq hb ho hc hd
      have hC : ∀ v, ρ (.const v) = v := fun v => hc _ (by intro t e; cases e)
      have hF : ∀ f, ρ (.func f) = .func (.func f) #[] #[] := fun f => hc _ (by intro t e; cases e)
      have h29 : ρ (.tmp 29) = .int .i64 (k : Int) := hd 29 (by kernel_rfl)
      exact Lin.Runs.value Lin.keeps (v := .int .i64 ((k : Int) + 1)) (by simp [execOp, go_sem, hC, h29]; first | done | exact IntWalk.i64_in _ (by omega)) rfl
    · intro ρ wq hb ho hc hd
      have hC : ∀ v, ρ (.const v) = v := fun v => hc _ (by intro t e; cases e)
      have hF : ∀ f, ρ (.func f) = .func (.func f) #[] #[] := fun f => hc _ (by intro t e; cases e)
      have h0 : ρ (.tmp 0) = .int .u8 (mr : Int) := ho 0 (by kernel_rfl)
      exact Lin.Runs.value Lin.keeps (Lin.exec_move rfl) h0
    · intro ρ wq hb ho hc hd
      have hC : ∀ v, ρ (.const v) = v := fun v => hc _ (by intro t e; cases e)
      have hF : ∀ f, ρ (.func f) = .func (.func f) #[] #[] := fun f => hc _ (by intro t e; cases e)
      have h31 : ρ (.tmp 31) = .int .u8 (mr : Int) := hd 31 (by kernel_rfl)
      exact Lin.Runs.value Lin.keeps (v := .int .i64 (mr : Int)) (by simp [execOp, go_sem, h31]; first | done | exact IntWalk.i64_in _ (by omega)) rfl
    · intro ρ wq hb ho hc hd
      have hC : ∀ v, ρ (.const v) = v := fun v => hc _ (by intro t e; cases e)
      have hF : ∀ f, ρ (.func f) = .func (.func f) #[] #[] := fun f => hc _ (by intro t e; cases e)
      have h30 : ρ (.tmp 30) = .int .i64 ((k : Int) + 1) := hd 30 (by kernel_rfl)
      have h32 : ρ (.tmp 32) = .int .i64 (mr : Int) := hd 32 (by kernel_rfl)
      have ss := SS.out
      exact Lin.Runs.value Lin.keeps (v := .int .i64 (s : Int)) (by simp [execOp, go_sem, h30, h32]; first | done | (rw [IntWalk.i64_in _ (by omega)]; omega)) rfl
    · intro ρ wq hb ho hc hd
      have hC : ∀ v, ρ (.const v) = v := fun v => hc _ (by intro t e; cases e)
      have hF : ∀ f, ρ (.func f) = .func (.func f) #[] #[] := fun f => hc _ (by intro t e; cases e)
      have h33 : ρ (.tmp 33) = .int .i64 (s : Int) := hd 33 (by kernel_rfl)
      have hm9 := make_bytes wq s s (s : Int) (s : Int) rfl rfl (Nat.le_refl _) (by omega)
      exact Lin.Runs.made (v := .slice (some ⟨wq.heap.size, 0, none⟩) s s) (w' := wq.alloc (.cells (Array.replicate s (.int .u8 0)) 5)) (by unfold execOp; simp only [h33]; rw [Sem.run_bind, hm9]; rfl) ((Below.refl _ _).alloc (Nat.le_refl _) _) (isb_zeros (Is.new _ _ _) (by omega))
    · intro ρ wq hb ho hc hd
      have hC : ∀ v, ρ (.const v) = v := fun v => hc _ (by intro t e; cases e)
      have hF : ∀ f, ρ (.func f) = .func (.func f) #[] #[] := fun f => hc _ (by intro t e; cases e)
      have h28 : ρ (.tmp 28) = .agg #[.int .u8 0, .int .i64 0, .int .u16 0, .bool false, .bool false, .int .i64 0, .int .u8 9, .int .u8 17, .int .u16 0, .bool false, .int .u64 0, .int .u64 0, .bool false, .int .u64 0, .int .u64 0, .slice (some ⟨w.heap.size, 0, none⟩) n n] := hd 28 (by kernel_rfl)
      have h34 := hd 34 (by kernel_rfl)
      obtain ⟨A34, c34, e34⟩ := IsB.shape h34
      exact Lin.Runs.call Lin.keeps (f := 13) (args := #[hv4 ((0 : Nat) : Int) 0 ((0 : Nat) : Int) false false ((0 : Nat) : Int) ((9 : Nat) : Int) ((17 : Nat) : Int) ((0 : Nat) : Int) false 0 ((0 : Nat) : Int) false 0 ((0 : Nat) : Int) (.slice (some ⟨w.heap.size, 0, none⟩) n n), .slice A34 s c34]) (by simp [execOp, go_sem, hF, h28, e34, hv4]) ((packet4_long 0 0 0 false false 0 9 17 0 0 0 (some ⟨w.heap.size, 0, none⟩) n n A34 s c34 wq (by omega) (by have := KN.out; have := SS.out; omega) (by omega)).mono fun e w9 h => ⟨_, h.1, h.2, rfl⟩)
    · intro ρ wq hb ho hc hd
      have hC : ∀ v, ρ (.const v) = v := fun v => hc _ (by intro t e; cases e)
      have hF : ∀ f, ρ (.func f) = .func (.func f) #[] #[] := fun f => hc _ (by intro t e; cases e)
      have h35 : ρ (.tmp 35) = .tuple #[.slice none 0 0, .int .i64 30] := hd 35 (by kernel_rfl)
      exact Lin.Runs.value Lin.keeps (Lin.exec_move rfl) h35
    · intro ρ wq hb ho hc hd
      have hC : ∀ v, ρ (.const v) = v := fun v => hc _ (by intro t e; cases e)
      have hF : ∀ f, ρ (.func f) = .func (.func f) #[] #[] := fun f => hc _ (by intro t e; cases e)
      have h27 : ρ (.tmp 27) = .tuple #[.slice none 0 0, .int .i64 30] := hd 27 (by kernel_rfl)
      exact Lin.Runs.value Lin.keeps (v := .slice none 0 0) (by simp [execOp, go_sem, h27]) rfl
    · intro ρ wq hb ho hc hd
      have hC : ∀ v, ρ (.const v) = v := fun v => hc _ (by intro t e; cases e)
      have hF : ∀ f, ρ (.func f) = .func (.func f) #[] #[] := fun f => hc _ (by intro t e; cases e)
      have h27 : ρ (.tmp 27) = .tuple #[.slice none 0 0, .int .i64 30] := hd 27 (by kernel_rfl)
      exact Lin.Runs.value Lin.keeps (v := .int .i64 30) (by simp [execOp, go_sem, h27]) rfl
    · intro ρ wq hb ho hc hd
      have hC : ∀ v, ρ (.const v) = v := fun v => hc _ (by intro t e; cases e)
      have hF : ∀ f, ρ (.func f) = .func (.func f) #[] #[] := fun f => hc _ (by intro t e; cases e)
      have h36 : ρ (.tmp 36) = .slice none 0 0 := hd 36 (by kernel_rfl)
      exact Lin.Runs.value Lin.keeps (Lin.exec_assign rfl) h36
    · intro ρ wq hb ho hc hd
      have hC : ∀ v, ρ (.const v) = v := fun v => hc _ (by intro t e; cases e)
      have hF : ∀ f, ρ (.func f) = .func (.func f) #[] #[] := fun f => hc _ (by intro t e; cases e)
      have h37 : ρ (.tmp 37) = .int .i64 30 := hd 37 (by kernel_rfl)
      exact Lin.Runs.value Lin.keeps (Lin.exec_assign rfl) h37
    · intro vals w8 hb2 hv
      have e9 := hv 9 (by kernel_rfl)
      have e10 := hv 10 (by kernel_rfl)
      have HB8 := Lib.hid (HB7.out.trans (hb2.mono HB7.out.size))
      simp only [Lin.putAll, Option.getD_some]
      rw [show vals 9 = .slice none 0 0 from e9, show vals 10 = .int .i64 30 from e10]
      clear e9 e10 hv hb2
      go_simp
      generalize vals = vv
      go_wp2_with fail
      refine (awake04 _).mono ?_
      rintro e w9 ⟨rfl, hb⟩
      have HB9 := Lib.hid (HB8.out.trans (hb.mono HB8.out.size))
      clear hb
      go_wp2_with fail
      go_ret
      exact ⟨rfl, HB9.out⟩
end Go.Proofs.Ytmgendgfdhhgfaa
