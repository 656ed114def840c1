/-
  Parse of the reference of layer 11. Helper of the claim RingBytes. No condition.
-/
import Derived.Test.YtkdcaipadejchaaRb2
import Derived.Test.YtkdcaipadejchaaSl
namespace Go.Proofs.Ytkdcaipadejchaa
open Go.ChangeShapes Go.WideShapes Go.ChangeAt Go.RowKit
set_option linter.unusedSimpArgs false
set_option linter.unusedVariables false
set_option maxRecDepth 100000
def specGr (t : TypeId) (B : Nat) (Z N : Array Value) (g : Nat) : Lin.Spec (TRk t B Z N) := ⟨fun _ w => Is w g t N, fun hp h => turnK_new h hp⟩
theorem run_slto (o : Oper) (ρ : Operand → Value) (w : World) (x hi : Operand) (ho : o.op = .slice 22 x none (some hi) none) {A : Option Addr} {n c k : Nat}
    (hx : ρ x = .slice A n c) (hhi : ρ hi = .int .i64 (k : Int)) (hb : k ≤ n) (hn : n ≤ c) (hc : c ≤ maxLen) :
    (execOp ρ o).run Try.prog w = .ok (.value (.slice A k c)) w := by
  unfold maxLen at hc
  have s2 : (k : Int) ≤ (c : Int) := by omega
  have s5 : (0 : Int) ≤ (k : Int) := by omega
  simp [execOp, ho, go_sem, hx, hhi, s2, s5]
theorem isb_rest16 {l : List Int} {n c i : Nat} {A : Option Addr} {w : World} (h : IsB l n (.slice A n c) w) (hi : i ≤ n := by omega) : IsB (l.drop i) (n - i) (.slice (if c = i then A else A.map (·.add i)) (n - i) (c - i)) w := by
  have hp := h.part (i := i) (k := n - i) (by omega)
  have e := rbk_len h
  rw [List.take_of_length_le (by rw [List.length_drop]; omega)] at hp
  exact hp
theorem rbuilt16 (k0 k1 k2 k3 k4 k5 k6 k7 k8 k9 k10 k11 k12 k13 k14 k15 : Int) (n : Nat) : Try.prog.built 87 [(0, Value.agg (u8s [k0, k1, k2, k3, k4, k5, k6, k7, k8, k9, k10, k11, k12, k13, k14, k15]).toArray), (1, Value.int .u64 (n : Int))] = some (rcs [k0, k1, k2, k3, k4, k5, k6, k7, k8, k9, k10, k11, k12, k13, k14, k15] n) := by kernel_rfl
theorem rbuilt (key : List Int) (h : key.length = 16) (n : Nat) : Try.prog.built 87 [(0, Value.agg (u8s key).toArray), (1, Value.int .u64 (n : Int))] = some (rcs key n) := by
  match key, h with
  | [k0, k1, k2, k3, k4, k5, k6, k7, k8, k9, k10, k11, k12, k13, k14, k15], _ => exact rbuilt16 k0 k1 k2 k3 k4 k5 k6 k7 k8 k9 k10 k11 k12 k13 k14 k15 n
theorem exec_build2 (o : Oper) (ρ : Operand → Value) (w : World) (x y : Operand) (ho : o.op = .build 87 #[(0, x), (1, y)]) {u v : Value} {cells : Array Value} (hx : ρ x = u) (hy : ρ y = v) (hb : Try.prog.built 87 [(0, u), (1, v)] = some cells) :
    (execOp ρ o).run Try.prog w = .ok (.value (.agg cells)) w := by
  unfold execOp
  simp [ho, hx, hy, run_build w 87 #[(0, u), (1, v)] cells hb]
set_option maxHeartbeats 2000000 in
theorem rparse_ok (L : List Int) (hlo : Octets L) (A : Option Addr) (c hi lo now : Nat) (n1 : nw L 0 8 = (hi : Int)) (n2 : nw L 8 8 = (lo : Int)) (n3 : nw L 16 8 = (now : Int)) (hhi : hi < 18446744073709551616) (hlw : lo < 18446744073709551616) (w : World) (hl : IsB L 24 (.slice A 24 c) w) :
    Calls Try.prog 59 #[.slice A 24 c] w fun e w' => e = .returned (.tuple #[.agg (rcs (kof hi lo) now), .bool true]) ∧ Below w.heap.size w w' := by
  have LEN := rbk_len hl
  have N1 := Lib.hid (show numW (L.take 8) = (hi : Int) from n1); have N2 := Lib.hid (show numW ((L.drop 8).take 8) = (lo : Int) from n2)
  have N3 := Lib.hid (show numW (L.drop 16) = (now : Int) from by unfold nw at n3; rw [List.take_of_length_le (by rw [List.length_drop]; omega)] at n3; exact n3)
  have HL := Lib.hid hl; have HLO := Lib.hid hlo
  have OT := hide (fun W => rof_any hi lo W hhi hlw)
  have BU := Lib.hid (rbuilt (kof hi lo) (kof_len hi lo) now)
  have RSZ := Lib.hid (rcs_size (kof_len hi lo) now); have RONE := Lib.hid (rcs_one (kof hi lo) now)
  generalize (u8s (kof hi lo)).toArray = ks at *
  generalize (rcs (kof hi lo) now) = rx at *
  have HB0 := Lib.hid (show Below w.heap.size w (w.alloc (.cells #[.int .u8 0, .int .u8 0, .int .u8 0, .int .u8 0, .int .u8 0, .int .u8 0, .int .u8 0, .int .u8 0, .int .u8 0, .int .u8 0, .int .u8 0, .int .u8 0, .int .u8 0, .int .u8 0, .int .u8 0, .int .u8 0, .int .u64 0] 87)) from (Below.refl _ _).alloc (Nat.le_refl _) _)
  have Z0 := Lib.hid (Is.new w 87 #[.int .u8 0, .int .u8 0, .int .u8 0, .int .u8 0, .int .u8 0, .int .u8 0, .int .u8 0, .int .u8 0, .int .u8 0, .int .u8 0, .int .u8 0, .int .u8 0, .int .u8 0, .int .u8 0, .int .u8 0, .int .u8 0, .int .u64 0])
  clear hl hlo n1 n2 n3 LEN
  go_enter Try.func59, Try.ntmps59
  go_wp2_with fail
  generalize w.alloc (.cells #[.int .u8 0, .int .u8 0, .int .u8 0, .int .u8 0, .int .u8 0, .int .u8 0, .int .u8 0, .int .u8 0, .int .u8 0, .int .u8 0, .int .u8 0, .int .u8 0, .int .u8 0, .int .u8 0, .int .u8 0, .int .u8 0, .int .u64 0] 87) = V at *
  refine Lin.wp_region_lin2 (turnsK w.heap.size 87 #[.int .u8 0, .int .u8 0, .int .u8 0, .int .u8 0, .int .u8 0, .int .u8 0, .int .u8 0, .int .u8 0, .int .u8 0, .int .u8 0, .int .u8 0, .int .u8 0, .int .u8 0, .int .u8 0, .int .u8 0, .int .u8 0, .int .u64 0] rx) (n := 19) (fun slotq => match slotq with | 8 => Lin.Spec.val (.slice A 24 c) | 9 => (Lin.Spec.of (fun v => ∃ A1 c1, v = .slice A1 8 c1 ∧ IsB (L.take 8) 8 (.slice A1 8 c1) w)) | 10 => Lin.Spec.val (.int .u64 (hi : Int)) | 11 => Lin.Spec.val (.slice A 24 c) | 12 => (Lin.Spec.of (fun v => ∃ A1 c1, v = .slice A1 8 c1 ∧ IsB ((L.drop 8).take 8) 8 (.slice A1 8 c1) w)) | 13 => Lin.Spec.val (.int .u64 (lo : Int)) | 14 => Lin.Spec.val (.agg ks) | 15 => Lin.Spec.val (.slice A 24 c) | 16 => (Lin.Spec.of (fun v => ∃ A1 c1, v = .slice A1 (24 - 16) c1 ∧ IsB (L.drop 16) (24 - 16) (.slice A1 (24 - 16) c1) w)) | 17 => Lin.Spec.val (.int .u64 (now : Int)) | 18 => Lin.Spec.val (.agg rx) | 3 => Lin.Spec.val (.bool true) | _ => Lin.Spec.any) (fun iq => match iq with | 11 => 18 | _ => 0) (fun iq => match iq with | 11 => (specGr 87 w.heap.size #[.int .u8 0, .int .u8 0, .int .u8 0, .int .u8 0, .int .u8 0, .int .u8 0, .int .u8 0, .int .u8 0, .int .u8 0, .int .u8 0, .int .u8 0, .int .u8 0, .int .u8 0, .int .u8 0, .int .u8 0, .int .u8 0, .int .u64 0] rx w.heap.size) | _ => Lin.Spec.any) (by kernel_rfl) rfl (by kernel_rfl) ⟨?_, ?_, ?_, ?_, ?_, ?_, ?_, ?_, ?_, ?_, ?_, ?_, ?_, trivial⟩ ?_
  · intro ρ wq hb ho hc hd
    have hC : ∀ v, ρ (.const v) = v := fun v => hc _ (by intro t e; cases e)
    have hF : ∀ f, ρ (.func f) = .func (.func f) #[] #[] := fun f => hc _ (by intro t e; cases e)
    have h0 : ρ (.tmp 0) = .slice A 24 c := ho 0 (by kernel_rfl)
    exact Lin.Runs.value (turnsK w.heap.size 87 #[.int .u8 0, .int .u8 0, .int .u8 0, .int .u8 0, .int .u8 0, .int .u8 0, .int .u8 0, .int .u8 0, .int .u8 0, .int .u8 0, .int .u8 0, .int .u8 0, .int .u8 0, .int .u8 0, .int .u8 0, .int .u8 0, .int .u64 0] rx) (Lin.exec_move rfl) h0
  · intro ρ wq hb ho hc hd
    have hC : ∀ v, ρ (.const v) = v := fun v => hc _ (by intro t e; cases e)
    have hF : ∀ f, ρ (.func f) = .func (.func f) #[] #[] := fun f => hc _ (by intro t e; cases e)
    have h8 : ρ (.tmp 8) = .slice A 24 c := hd 8 (by kernel_rfl)
    obtain ⟨q1, q2⟩ := rbk_caps HL.out
    exact Lin.Runs.value (turnsK w.heap.size 87 #[.int .u8 0, .int .u8 0, .int .u8 0, .int .u8 0, .int .u8 0, .int .u8 0, .int .u8 0, .int .u8 0, .int .u8 0, .int .u8 0, .int .u8 0, .int .u8 0, .int .u8 0, .int .u8 0, .int .u8 0, .int .u8 0, .int .u64 0] rx) (run_slto _ ρ wq (.tmp 8) _ rfl h8 (show ρ (.const (.int .i64 (8 : Nat))) = _ from hc _ (by intro t e; cases e)) (by omega) q1 q2) ⟨_, _, rfl, IsB.take HL.out (by omega)⟩
  · intro ρ wq hb ho hc hd
    have hC : ∀ v, ρ (.const v) = v := fun v => hc _ (by intro t e; cases e)
    have hF : ∀ f, ρ (.func f) = .func (.func f) #[] #[] := fun f => hc _ (by intro t e; cases e)
    have h9 := hd 9 (by kernel_rfl)
    obtain ⟨A1, c1, e1, hs1⟩ := h9
    have hbq := HB0.out.trans (Lin.Turns.below hb HB0.out.size)
    refine Lin.Runs.call (turnsK w.heap.size 87 #[.int .u8 0, .int .u8 0, .int .u8 0, .int .u8 0, .int .u8 0, .int .u8 0, .int .u8 0, .int .u8 0, .int .u8 0, .int .u8 0, .int .u8 0, .int .u8 0, .int .u8 0, .int .u8 0, .int .u8 0, .int .u8 0, .int .u64 0] rx) (f := 24) (args := #[ρ (.tmp 9)]) (by simp [execOp, go_sem, hF]) ?_
    rw [e1]
    exact (rnum_p (hs1.st hbq) (HLO.out.take 8) (by rw [rbk_len hs1]; omega)).mono fun e w9 h => ⟨_, h.1, by rw [← h.2]; exact (turnsK _ _ _ _).refl _, by rw [show numW _ = _ from N1.out]; rfl⟩
  · intro ρ wq hb ho hc hd
    have hC : ∀ v, ρ (.const v) = v := fun v => hc _ (by intro t e; cases e)
    have hF : ∀ f, ρ (.func f) = .func (.func f) #[] #[] := fun f => hc _ (by intro t e; cases e)
    have h0 : ρ (.tmp 0) = .slice A 24 c := ho 0 (by kernel_rfl)
    exact Lin.Runs.value (turnsK w.heap.size 87 #[.int .u8 0, .int .u8 0, .int .u8 0, .int .u8 0, .int .u8 0, .int .u8 0, .int .u8 0, .int .u8 0, .int .u8 0, .int .u8 0, .int .u8 0, .int .u8 0, .int .u8 0, .int .u8 0, .int .u8 0, .int .u8 0, .int .u64 0] rx) (Lin.exec_move rfl) h0
  · intro ρ wq hb ho hc hd
    have hC : ∀ v, ρ (.const v) = v := fun v => hc _ (by intro t e; cases e)
    have hF : ∀ f, ρ (.func f) = .func (.func f) #[] #[] := fun f => hc _ (by intro t e; cases e)
    have h11 : ρ (.tmp 11) = .slice A 24 c := hd 11 (by kernel_rfl)
    obtain ⟨q1, q2⟩ := rbk_caps HL.out
    exact Lin.Runs.value (turnsK w.heap.size 87 #[.int .u8 0, .int .u8 0, .int .u8 0, .int .u8 0, .int .u8 0, .int .u8 0, .int .u8 0, .int .u8 0, .int .u8 0, .int .u8 0, .int .u8 0, .int .u8 0, .int .u8 0, .int .u8 0, .int .u8 0, .int .u8 0, .int .u64 0] rx) (run_sl2 _ ρ wq (.tmp 11) _ _ rfl (i := 8) (k := 8) h11 (hc _ (by intro t e; cases e)) (hc _ (by intro t e; cases e)) (by omega) q1 q2) ⟨_, _, rfl, HL.out.part (by omega)⟩
  · intro ρ wq hb ho hc hd
    have hC : ∀ v, ρ (.const v) = v := fun v => hc _ (by intro t e; cases e)
    have hF : ∀ f, ρ (.func f) = .func (.func f) #[] #[] := fun f => hc _ (by intro t e; cases e)
    have h12 := hd 12 (by kernel_rfl)
    obtain ⟨A1, c1, e1, hs1⟩ := h12
    have hbq := HB0.out.trans (Lin.Turns.below hb HB0.out.size)
    refine Lin.Runs.call (turnsK w.heap.size 87 #[.int .u8 0, .int .u8 0, .int .u8 0, .int .u8 0, .int .u8 0, .int .u8 0, .int .u8 0, .int .u8 0, .int .u8 0, .int .u8 0, .int .u8 0, .int .u8 0, .int .u8 0, .int .u8 0, .int .u8 0, .int .u8 0, .int .u64 0] rx) (f := 24) (args := #[ρ (.tmp 12)]) (by simp [execOp, go_sem, hF]) ?_
    rw [e1]
    exact (rnum_p (hs1.st hbq) ((HLO.out.drop 8).take 8) (by rw [rbk_len hs1]; omega)).mono fun e w9 h => ⟨_, h.1, by rw [← h.2]; exact (turnsK _ _ _ _).refl _, by rw [show numW _ = _ from N2.out]; rfl⟩
  · intro ρ wq hb ho hc hd
    have hC : ∀ v, ρ (.const v) = v := fun v => hc _ (by intro t e; cases e)
    have hF : ∀ f, ρ (.func f) = .func (.func f) #[] #[] := fun f => hc _ (by intro t e; cases e)
    have h10 : ρ (.tmp 10) = .int .u64 (hi : Int) := hd 10 (by kernel_rfl)
    have h13 : ρ (.tmp 13) = .int .u64 (lo : Int) := hd 13 (by kernel_rfl)
    exact Lin.Runs.call (turnsK w.heap.size 87 #[.int .u8 0, .int .u8 0, .int .u8 0, .int .u8 0, .int .u8 0, .int .u8 0, .int .u8 0, .int .u8 0, .int .u8 0, .int .u8 0, .int .u8 0, .int .u8 0, .int .u8 0, .int .u8 0, .int .u8 0, .int .u8 0, .int .u64 0] rx) (f := 47) (args := #[.int .u64 (hi : Int), .int .u64 (lo : Int)]) (by simp [execOp, go_sem, hF, h10, h13]) ((unhide OT wq).mono fun e w9 h => ⟨_, h.1, Lin.Turns.keeps h.2, rfl⟩)
  · intro ρ wq hb ho hc hd
    have hC : ∀ v, ρ (.const v) = v := fun v => hc _ (by intro t e; cases e)
    have hF : ∀ f, ρ (.func f) = .func (.func f) #[] #[] := fun f => hc _ (by intro t e; cases e)
    have h0 : ρ (.tmp 0) = .slice A 24 c := ho 0 (by kernel_rfl)
    exact Lin.Runs.value (turnsK w.heap.size 87 #[.int .u8 0, .int .u8 0, .int .u8 0, .int .u8 0, .int .u8 0, .int .u8 0, .int .u8 0, .int .u8 0, .int .u8 0, .int .u8 0, .int .u8 0, .int .u8 0, .int .u8 0, .int .u8 0, .int .u8 0, .int .u8 0, .int .u64 0] rx) (Lin.exec_move rfl) h0
  · intro ρ wq hb ho hc hd
    have hC : ∀ v, ρ (.const v) = v := fun v => hc _ (by intro t e; cases e)
    have hF : ∀ f, ρ (.func f) = .func (.func f) #[] #[] := fun f => hc _ (by intro t e; cases e)
    have h15 : ρ (.tmp 15) = .slice A 24 c := hd 15 (by kernel_rfl)
    obtain ⟨q1, q2⟩ := rbk_caps HL.out
    exact Lin.Runs.value (turnsK w.heap.size 87 #[.int .u8 0, .int .u8 0, .int .u8 0, .int .u8 0, .int .u8 0, .int .u8 0, .int .u8 0, .int .u8 0, .int .u8 0, .int .u8 0, .int .u8 0, .int .u8 0, .int .u8 0, .int .u8 0, .int .u8 0, .int .u8 0, .int .u64 0] rx) (run_sl1 _ ρ wq (.tmp 15) _ rfl (i := 16) h15 (hc _ (by intro t e; cases e)) (by omega) q1 q2) ⟨_, _, rfl, isb_rest16 HL.out⟩
  · intro ρ wq hb ho hc hd
    have hC : ∀ v, ρ (.const v) = v := fun v => hc _ (by intro t e; cases e)
    have hF : ∀ f, ρ (.func f) = .func (.func f) #[] #[] := fun f => hc _ (by intro t e; cases e)
    have h16 := hd 16 (by kernel_rfl)
    obtain ⟨A1, c1, e1, hs1⟩ := h16
    have hbq := HB0.out.trans (Lin.Turns.below hb HB0.out.size)
    refine Lin.Runs.call (turnsK w.heap.size 87 #[.int .u8 0, .int .u8 0, .int .u8 0, .int .u8 0, .int .u8 0, .int .u8 0, .int .u8 0, .int .u8 0, .int .u8 0, .int .u8 0, .int .u8 0, .int .u8 0, .int .u8 0, .int .u8 0, .int .u8 0, .int .u8 0, .int .u64 0] rx) (f := 24) (args := #[ρ (.tmp 16)]) (by simp [execOp, go_sem, hF]) ?_
    rw [e1]
    exact (rnum_p (hs1.st hbq) (HLO.out.drop 16) (by rw [rbk_len hs1]; omega)).mono fun e w9 h => ⟨_, h.1, by rw [← h.2]; exact (turnsK _ _ _ _).refl _, by rw [show numW _ = _ from N3.out]; rfl⟩
  · intro ρ wq hb ho hc hd
    have hC : ∀ v, ρ (.const v) = v := fun v => hc _ (by intro t e; cases e)
    have hF : ∀ f, ρ (.func f) = .func (.func f) #[] #[] := fun f => hc _ (by intro t e; cases e)
    have h14 : ρ (.tmp 14) = .agg ks := hd 14 (by kernel_rfl)
    have h17 : ρ (.tmp 17) = .int .u64 (now : Int) := hd 17 (by kernel_rfl)
    exact Lin.Runs.value (turnsK w.heap.size 87 #[.int .u8 0, .int .u8 0, .int .u8 0, .int .u8 0, .int .u8 0, .int .u8 0, .int .u8 0, .int .u8 0, .int .u8 0, .int .u8 0, .int .u8 0, .int .u8 0, .int .u8 0, .int .u8 0, .int .u8 0, .int .u8 0, .int .u64 0] rx) (exec_build2 _ ρ wq (.tmp 14) (.tmp 17) rfl h14 h17 BU.out) rfl
  · intro ρ wq hb ho hc hd
    have hC : ∀ v, ρ (.const v) = v := fun v => hc _ (by intro t e; cases e)
    have hks : ρ (.tmp 18) = .agg rx := hd 18 (by kernel_rfl)
    have e4 : ρ (.tmp 2) = .pointer (some ⟨w.heap.size, 0, none⟩) := ho 2 (by kernel_rfl)
    show Lin.RunsW Try.prog _ (specGr 87 w.heap.size #[.int .u8 0, .int .u8 0, .int .u8 0, .int .u8 0, .int .u8 0, .int .u8 0, .int .u8 0, .int .u8 0, .int .u8 0, .int .u8 0, .int .u8 0, .int .u8 0, .int .u8 0, .int .u8 0, .int .u8 0, .int .u8 0, .int .u64 0] rx w.heap.size) (ρ (.tmp 18)) ρ wq
    have hp : Is wq w.heap.size 87 #[.int .u8 0, .int .u8 0, .int .u8 0, .int .u8 0, .int .u8 0, .int .u8 0, .int .u8 0, .int .u8 0, .int .u8 0, .int .u8 0, .int .u8 0, .int .u8 0, .int .u8 0, .int .u8 0, .int .u8 0, .int .u8 0, .int .u64 0] ∨ Is wq w.heap.size 87 rx := turnK_is hb (.inl Z0.out)
    have hcs : ∃ old, Is wq w.heap.size 87 old ∧ old.size = 17 := by rcases hp with hp | hp; exact ⟨_, hp, rfl⟩; exact ⟨_, hp, RSZ.out⟩
    obtain ⟨old, hcs, hos⟩ := hcs
    refine Lin.RunsW.mk (w' := wq.setRow w.heap.size rx) (exec_store_rowk 87 (.tmp 2) (.tmp 18) rfl w.heap.size rx e4 hks 87 old hcs (by rw [RSZ.out]; kernel_rfl) (by rw [hos, RSZ.out]) RONE.out) (turnsK_store (Nat.le_refl _) hp) (is_row hcs)
  · intro ρ wq hb ho hc hd
    have hC : ∀ v, ρ (.const v) = v := fun v => hc _ (by intro t e; cases e)
    have hF : ∀ f, ρ (.func f) = .func (.func f) #[] #[] := fun f => hc _ (by intro t e; cases e)
    exact Lin.Runs.value (turnsK w.heap.size 87 #[.int .u8 0, .int .u8 0, .int .u8 0, .int .u8 0, .int .u8 0, .int .u8 0, .int .u8 0, .int .u8 0, .int .u8 0, .int .u8 0, .int .u8 0, .int .u8 0, .int .u8 0, .int .u8 0, .int .u8 0, .int .u8 0, .int .u64 0] rx) (Lin.exec_assign rfl) (hc _ (by intro t e; cases e))
  · intro vals w7 hr2 hv hw2
    have his : Is w7 w.heap.size 87 rx := hw2 11 _ rfl rfl
    have HB7 := Lib.hid (HB0.out.trans (Lin.Turns.below hr2 HB0.out.size))
    have e3 : vals 3 = .bool true := hv 3 (by kernel_rfl)
    simp only [Lin.putAll, Option.getD_some]
    rw [e3]
    have RK := rh_rring _ w.heap.size rx his RSZ.out
    clear hv hw2 hr2 e3 his
    go_simp
    generalize vals = vw
    go_wp2_with fail
    refine bodyPost_ret (v := .tuple #[.agg rx, .bool true]) (by simp [results, Try.results59, asAddr, RK]) rfl ⟨rfl, HB7.out⟩
end Go.Proofs.Ytkdcaipadejchaa
