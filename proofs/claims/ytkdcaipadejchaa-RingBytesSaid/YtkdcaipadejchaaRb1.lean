/-
  Rings that are compared; Bytes and Parse of package ring. Helper of the claim RingBytes. No condition.
-/
import Derived.Test.YtkdcaipadejchaaRk
import Derived.Test.YtkdcaipadejchaaRq
import Derived.Test.YtkdcaipadejchaaLin5
import Derived.Test.YtkdcaipadejchaaGrowE
namespace Go.Proofs.Ytkdcaipadejchaa
open Go.ChangeShapes Go.WideShapes Go.ChangeAt Go.RowKit
set_option linter.unusedSimpArgs false
set_option linter.unusedVariables false
set_option maxRecDepth 100000
theorem equal_key_at {P : Program} {k e : TypeId} {n : Nat} (A : WideMaps.ArrKey P k e n) (he : P.underlying e = some (.int .u8)) (hsz : ∃ m, P.types.size = m + 1) (hk : P.keyTypeAt 2 k = true) {p : List Int} (hn : p.length = n) (ho : Octets p) (d : Nat) (w : World) :
    (Op.equalIn (d + 2) k (.agg (u8s p).toArray) (.agg (u8s p).toArray)).run P w = .ok true w := by
  have hkt := A.keyType hsz
  obtain ⟨m0, hm0⟩ := hsz
  obtain ⟨ys, hy⟩ := lits_u8 (P := P) (D := m0) he ho (List.range n) (fun i hi => by have := List.mem_range.1 hi; omega)
  have hf : (Value.agg (u8s p).toArray).formed P k = true := by simp [Value.formed, A.hu, A.size, u8s, hn]
  have hl : ∃ L, P.keyLits (P.types.size + 1) k (Value.agg (u8s p).toArray).cells.toList = some L := by
    rw [hm0]
    unfold Program.keyLits
    simp only [A.hu, Value.cells]
    rw [if_pos (by rw [A.size]; simp [u8s, hn]), A.one]
    rw [hy]
    exact ⟨_, rfl⟩
  obtain ⟨L, hL⟩ := hl
  obtain ⟨r, hr, hiff⟩ := run_equalIn_deep d 2 k hk w _ _ _ _ L L hf hf hL hL
  rw [hr, hiff.2 rfl]
theorem ring_eq16 (k0 k1 k2 k3 k4 k5 k6 k7 k8 k9 k10 k11 k12 k13 k14 k15 n : Int) (w : World) (h : (Op.equalIn 9999 78 (.agg #[.int .u8 k0, .int .u8 k1, .int .u8 k2, .int .u8 k3, .int .u8 k4, .int .u8 k5, .int .u8 k6, .int .u8 k7, .int .u8 k8, .int .u8 k9, .int .u8 k10, .int .u8 k11, .int .u8 k12, .int .u8 k13, .int .u8 k14, .int .u8 k15]) (.agg #[.int .u8 k0, .int .u8 k1, .int .u8 k2, .int .u8 k3, .int .u8 k4, .int .u8 k5, .int .u8 k6, .int .u8 k7, .int .u8 k8, .int .u8 k9, .int .u8 k10, .int .u8 k11, .int .u8 k12, .int .u8 k13, .int .u8 k14, .int .u8 k15])).run Try.prog w = .ok true w) :
    (binOp .eql 89 (.agg #[.int .u8 k0, .int .u8 k1, .int .u8 k2, .int .u8 k3, .int .u8 k4, .int .u8 k5, .int .u8 k6, .int .u8 k7, .int .u8 k8, .int .u8 k9, .int .u8 k10, .int .u8 k11, .int .u8 k12, .int .u8 k13, .int .u8 k14, .int .u8 k15, .int .u64 n]) (.agg #[.int .u8 k0, .int .u8 k1, .int .u8 k2, .int .u8 k3, .int .u8 k4, .int .u8 k5, .int .u8 k6, .int .u8 k7, .int .u8 k8, .int .u8 k9, .int .u8 k10, .int .u8 k11, .int .u8 k12, .int .u8 k13, .int .u8 k14, .int .u8 k15, .int .u64 n])).run Try.prog w = .ok (.bool true) w ∧ (binOp .neq 89 (.agg #[.int .u8 k0, .int .u8 k1, .int .u8 k2, .int .u8 k3, .int .u8 k4, .int .u8 k5, .int .u8 k6, .int .u8 k7, .int .u8 k8, .int .u8 k9, .int .u8 k10, .int .u8 k11, .int .u8 k12, .int .u8 k13, .int .u8 k14, .int .u8 k15, .int .u64 n]) (.agg #[.int .u8 k0, .int .u8 k1, .int .u8 k2, .int .u8 k3, .int .u8 k4, .int .u8 k5, .int .u8 k6, .int .u8 k7, .int .u8 k8, .int .u8 k9, .int .u8 k10, .int .u8 k11, .int .u8 k12, .int .u8 k13, .int .u8 k14, .int .u8 k15, .int .u64 n])).run Try.prog w = .ok (.bool false) w :=
  ⟨by simp [go_sem, h], by simp [go_sem, h]⟩
theorem ring_eq (key : List Int) (hk : key.length = 16) (ho : Octets key) (n : Nat) (w : World) : (binOp .eql 89 (.agg (rcs key n)) (.agg (rcs key n))).run Try.prog w = .ok (.bool true) w ∧ (binOp .neq 89 (.agg (rcs key n)) (.agg (rcs key n))).run Try.prog w = .ok (.bool false) w := by
  have h := equal_key_at (P := Try.prog) (k := 78) (e := 5) (n := 16) ⟨Try.underlying78, by kernel_rfl, by kernel_rfl, by kernel_rfl⟩ Try.underlying5 ⟨Try.prog.types.size - 1, by kernel_rfl⟩ (by kernel_rfl) hk ho 9997 w
  match key, hk with
  | [k0, k1, k2, k3, k4, k5, k6, k7, k8, k9, k10, k11, k12, k13, k14, k15], _ => exact ring_eq16 k0 k1 k2 k3 k4 k5 k6 k7 k8 k9 k10 k11 k12 k13 k14 k15 (n : Int) w h
theorem Lin.exec_ringeq {o : Oper} {x y : Operand} {ρ : Operand → Value} {a : Array Value} {w : World} (ho : o.op = .binOp .eql 89 x y 89) (hx : ρ x = .agg a) (hy : ρ y = .agg a)
    (he : (binOp .eql 89 (.agg a) (.agg a)).run Try.prog w = .ok (.bool true) w) : (execOp ρ o).run Try.prog w = .ok (.value (.bool true)) w := by
  unfold execOp
  simp only [ho, hx, hy, Sem.run_bind, run_eqGuard_agg (P := Try.prog) (w := w) .eql 89 x y a a (by kernel_rfl), he, Result.andThen_ok, Sem.run_pure]
theorem Lin.exec_ringne {o : Oper} {x y : Operand} {ρ : Operand → Value} {a : Array Value} {w : World} (ho : o.op = .binOp .neq 89 x y 89) (hx : ρ x = .agg a) (hy : ρ y = .agg a)
    (he : (binOp .neq 89 (.agg a) (.agg a)).run Try.prog w = .ok (.bool false) w) : (execOp ρ o).run Try.prog w = .ok (.value (.bool false)) w := by
  unfold execOp
  simp only [ho, hx, hy, Sem.run_bind, run_eqGuard_agg (P := Try.prog) (w := w) .neq 89 x y a a (by kernel_rfl), he, Result.andThen_ok, Sem.run_pure]
/-- The first sixteen cells of a ring, as bytes. -/
theorem ring_isb {w : World} {g n : Nat} {t : TypeId} {key : List Int} (hk : key.length = 16) (h : Is w g t (rcs key n)) : IsB key 16 (.slice (some ⟨g, 0, none⟩) 16 16) w :=
  ⟨_, _, rfl, hk, fun _ => ⟨g, 0, rfl, h.lt, fun i j hi hj => by
    obtain rfl : j = 0 := by omega
    rw [Nat.zero_add, Nat.mul_one, Nat.add_zero, h.cell]
    exact rcs_key hk n i _ (u8s_get hi)⟩, Nat.le_refl _, by unfold maxLen; omega, fun h => by cases h⟩
theorem num_q {W : World} {g i : Nat} {l : List Int} {w : World} (k j : Nat) (x : Int) (h : RS W g l i w) (ho : Octets l) (hj : i + k = j) (hn : j ≤ l.length) (h8 : k ≤ 8) (hx : nw l i k = x) :
    Calls Try.prog 23 #[.pointer (some ⟨g, 0, none⟩), .int .i64 (k : Int)] w (RNext W g l j w (.int .u64 x)) := by
  subst hx
  exact (num_ok g _ false k w h.1 (ho.drop i) (by rw [List.length_drop]; omega) h8).mono fun e w' ⟨h1, h2, h3⟩ => ⟨h1, h.step h2 h3 hj, h3⟩
theorem nw_nat (L : List Int) (i k : Nat) : ∃ x : Nat, nw L i k = (x : Int) ∧ x < 18446744073709551616 := by
  have := numW_bd ((L.drop i).take k)
  exact ⟨(nw L i k).toNat, by unfold nw; omega, by unfold nw; omega⟩
theorem rbk_len {l : List Int} {n : Nat} {v : Value} {w : World} (h : IsB l n v w) : l.length = n := by
  obtain ⟨A', c', e, h1, _⟩ := h; exact h1
theorem rbk_caps {l : List Int} {n c : Nat} {A : Option Addr} {w : World} (h : IsB l n (.slice A n c) w) : n ≤ c ∧ c ≤ maxLen := by
  obtain ⟨A', c', e, h1, h2, h3, h4, _⟩ := h
  injection e with e1 e2 e3; subst e3; exact ⟨h3, h4⟩
set_option maxHeartbeats 1000000 in
theorem pbytes (key : List Int) (hk : key.length = 16) (n : Nat) (hn : n < 18446744073709551616) (w : World) : Calls Try.prog 60 #[.agg (rcs key n)] w fun e w' => ∃ v, e = .returned v ∧ Below w.heap.size w w' ∧ IsB (key ++ be n 8) 24 v w' := by
  have HB0 := Lib.hid (show Below w.heap.size w (w.alloc (.cells (rcs key n) 89)) from (Below.refl _ _).alloc (Nat.le_refl _) _)
  have R0 := Lib.hid (Is.new w 89 (rcs key n)); have HK := Lib.hid hk
  clear hk
  go_enter Try.func60, Try.ntmps60
  go_wp2_with fail
  generalize w.alloc (.cells (rcs key n) 89) = W at *
  refine Lin.wp_region_lin Lin.keeps (n := 8)  (fun slotq => match slotq with | 3 => Lin.Spec.val (.pointer (some ⟨w.heap.size, 0, none⟩)) | 4 => Lin.Spec.val (.slice (some ⟨w.heap.size, 0, none⟩) 16 16) | 5 => Lin.Spec.val (.pointer (some ⟨w.heap.size, 16, none⟩)) | 6 => Lin.Spec.val (.int .u64 (n : Int)) | 7 => Lin.Spec.sl (key ++ be n 8) 24 | 2 => Lin.Spec.sl (key ++ be n 8) 24 | _ => Lin.Spec.any) (by kernel_rfl) rfl (by kernel_rfl) ⟨?_, ?_, ?_, ?_, ?_, ?_, trivial⟩ ?_
  · intro ρ wq hb ho hc hd
    have hC : ∀ v, ρ (.const v) = v := fun v => hc _ (by intro t e; cases e)
    have hF : ∀ f, ρ (.func f) = .func (.func f) #[] #[] := fun f => hc _ (by intro t e; cases e)
    have h1 : ρ (.tmp 1) = .pointer (some ⟨w.heap.size, 0, none⟩) := ho 1 (by kernel_rfl)
    exact Lin.Runs.value Lin.keeps (v := .pointer (some ⟨w.heap.size, 0, none⟩)) (by simp [execOp, go_sem, h1]) rfl
  · intro ρ wq hb ho hc hd
    have hC : ∀ v, ρ (.const v) = v := fun v => hc _ (by intro t e; cases e)
    have hF : ∀ f, ρ (.func f) = .func (.func f) #[] #[] := fun f => hc _ (by intro t e; cases e)
    have h3 : ρ (.tmp 3) = .pointer (some ⟨w.heap.size, 0, none⟩) := hd 3 (by kernel_rfl)
    exact Lin.Runs.value Lin.keeps (v := .slice (some ⟨w.heap.size, 0, none⟩) 16 16) (by simp [execOp, go_sem, h3]) rfl
  · intro ρ wq hb ho hc hd
    have hC : ∀ v, ρ (.const v) = v := fun v => hc _ (by intro t e; cases e)
    have hF : ∀ f, ρ (.func f) = .func (.func f) #[] #[] := fun f => hc _ (by intro t e; cases e)
    have h1 : ρ (.tmp 1) = .pointer (some ⟨w.heap.size, 0, none⟩) := ho 1 (by kernel_rfl)
    exact Lin.Runs.value Lin.keeps (v := .pointer (some ⟨w.heap.size, 16, none⟩)) (by simp [execOp, go_sem, h1]) rfl
  · intro ρ wq hb ho hc hd
    have hC : ∀ v, ρ (.const v) = v := fun v => hc _ (by intro t e; cases e)
    have hF : ∀ f, ρ (.func f) = .func (.func f) #[] #[] := fun f => hc _ (by intro t e; cases e)
    have h5 : ρ (.tmp 5) = .pointer (some ⟨w.heap.size, 16, none⟩) := hd 5 (by kernel_rfl)
    have m16 := ring_now HK.out (R0.out.below hb R0.out.lt)
    exact Lin.Runs.value Lin.keeps (v := .int .u64 (n : Int)) (by simp [execOp, go_sem, h5, m16]) rfl
  · intro ρ wq hb ho hc hd
    have hC : ∀ v, ρ (.const v) = v := fun v => hc _ (by intro t e; cases e)
    have hF : ∀ f, ρ (.func f) = .func (.func f) #[] #[] := fun f => hc _ (by intro t e; cases e)
    have h4 : ρ (.tmp 4) = .slice (some ⟨w.heap.size, 0, none⟩) 16 16 := hd 4 (by kernel_rfl)
    have h6 : ρ (.tmp 6) = .int .u64 (n : Int) := hd 6 (by kernel_rfl)
    refine Lin.Runs.call Lin.keeps (f := 19) (args := #[.slice (some ⟨w.heap.size, 0, none⟩) 16 16, .int .u64 (n : Int), .int .i64 8]) (by simp [execOp, go_sem, hC, hF, h4, h6]) ?_
    exact (put_k n 8 8 24 (ring_isb HK.out (R0.out.below hb R0.out.lt)) (by omega) hn (by omega) (by omega) rfl rfl).mono fun e w9 ⟨A9, c9, h1, h2, h3⟩ => ⟨_, h1, h3, IsB.own h2⟩
  · intro ρ wq hb ho hc hd
    have hC : ∀ v, ρ (.const v) = v := fun v => hc _ (by intro t e; cases e)
    have hF : ∀ f, ρ (.func f) = .func (.func f) #[] #[] := fun f => hc _ (by intro t e; cases e)
    have h7 := hd 7 (by kernel_rfl)
    exact Lin.Runs.value Lin.keeps (Lin.exec_assign rfl) h7
  · intro vals w5 hb2 hv
    obtain ⟨A9, c9, e2, ho9⟩ := hv 2 (by kernel_rfl)
    have HO9 := hide (show IsB (key ++ be n 8) 24 (.slice A9 24 c9) w5 from ⟨A9, c9, rfl, ho9⟩)
    have HB5 := Lib.hid (HB0.out.trans (hb2.mono HB0.out.size))
    clear hb2 hv ho9
    simp only [Lin.putAll, Option.getD_some]
    rw [e2]
    clear e2
    go_simp
    generalize vals = vq
    go_wp2_with fail
    go_ret
    exact ⟨_, rfl, HB5.out, HO9.out⟩
theorem Lin.RunsB_exr {P : Program} {B : Nat} {o : Oper} {s : Lin.Spec Lin.Keeps} {ρ : Operand → Value} {w : World} (h : ∃ v w', (execOp ρ o).run P w = .ok (.value v) w' ∧ Below B w w' ∧ s.p v w') (hd : o.dst ≠ none := by simp) : Lin.RunsB P B o s ρ w := by
  obtain ⟨v, w', h1, h2, h3⟩ := h
  exact Lin.RunsB.made h1 h2 h3 hd
theorem rb_8 (n : Nat) (w : World) (hn : n < 18446744073709551616) : Calls Try.prog 18 #[.int .u64 (n : Int), .int .i64 8] w (GivesK w (be n 8) 8) := by
  have h := rbytes_any n 8 w hn
  exact h.mono fun e w' h => h.k (be_len _ _)
set_option maxHeartbeats 1000000 in
theorem rbytes11 (key : List Int) (hk : key.length = 16) (n : Nat) (hn : n < 18446744073709551616) (w : World) : Calls Try.prog 61 #[.agg (rcs key n)] w fun e w' => ∃ v, e = .returned v ∧ Below w.heap.size w w' ∧ IsB (key ++ be n 8) 24 v w' := by
  have HB0 := Lib.hid (show Below w.heap.size w (w.alloc (.cells (rcs key n) 87)) from (Below.refl _ _).alloc (Nat.le_refl _) _)
  have R0 := Lib.hid (Is.new w 87 (rcs key n)); have HK := Lib.hid hk
  clear hk
  go_enter Try.func61, Try.ntmps61
  go_wp2_with fail
  generalize w.alloc (.cells (rcs key n) 87) = W at *
  refine Lin.wp_region_lin4 (n := 11) (fun slotq => match slotq with | 3 => Lin.Spec.noneb W.heap.size | 4 => Lin.Spec.val (.pointer (some ⟨w.heap.size, 0, none⟩)) | 5 => Lin.Spec.val (.slice (some ⟨w.heap.size, 0, none⟩) 16 16) | 6 => Lin.Spec.own W.heap.size key 16 | 7 => Lin.Spec.val (.pointer (some ⟨w.heap.size, 16, none⟩)) | 8 => Lin.Spec.val (.int .u64 (n : Int)) | 9 => Lin.Spec.sl (be n 8) 8 | 10 => Lin.Spec.own W.heap.size (key ++ be n 8) (16 + 8) | 2 => Lin.Spec.own W.heap.size (key ++ be n 8) (16 + 8) | _ => Lin.Spec.any) W.heap.size [(7, [3, 6, 9])] (by kernel_rfl) rfl (by kernel_rfl) (by kernel_rfl) (Nat.le_refl _) ⟨.inl (by kernel_rfl), .inr (Lin.firm_val _ _), .inr (Lin.firm_val _ _), .inl (by kernel_rfl), .inr (Lin.firm_val _ _), .inr (Lin.firm_val _ _), .inl (by kernel_rfl), .inl (by kernel_rfl), .inl (by kernel_rfl), trivial⟩ ⟨?_, ?_, ?_, ?_, ?_, ?_, ?_, ?_, ?_, trivial⟩ ?_
  · refine Lin.stepR (by kernel_rfl) ?_
    intro ρ wq hb hk ho hc hd hs
    have hC : ∀ v, ρ (.const v) = v := fun v => hc _ (by intro t e; cases e)
    have hF : ∀ f, ρ (.func f) = .func (.func f) #[] #[] := fun f => hc _ (by intro t e; cases e)
    exact Lin.Runs.made (v := .slice (some ⟨wq.heap.size, 0, none⟩) 0 0) (w' := wq.alloc (.cells #[] 5)) (by simp [execOp, go_sem]) ((Below.refl _ _).alloc (Nat.le_refl _) _) (NoneP.new hb.size)
  · refine Lin.stepR (by kernel_rfl) ?_
    intro ρ wq hb hk ho hc hd hs
    have hC : ∀ v, ρ (.const v) = v := fun v => hc _ (by intro t e; cases e)
    have hF : ∀ f, ρ (.func f) = .func (.func f) #[] #[] := fun f => hc _ (by intro t e; cases e)
    have h1 : ρ (.tmp 1) = .pointer (some ⟨w.heap.size, 0, none⟩) := ho 1 (by kernel_rfl)
    exact Lin.Runs.value Lin.keeps (v := .pointer (some ⟨w.heap.size, 0, none⟩)) (by simp [execOp, go_sem, h1]) rfl
  · refine Lin.stepR (by kernel_rfl) ?_
    intro ρ wq hb hk ho hc hd hs
    have hC : ∀ v, ρ (.const v) = v := fun v => hc _ (by intro t e; cases e)
    have hF : ∀ f, ρ (.func f) = .func (.func f) #[] #[] := fun f => hc _ (by intro t e; cases e)
    have h4 : ρ (.tmp 4) = .pointer (some ⟨w.heap.size, 0, none⟩) := hd 4 (by kernel_rfl)
    exact Lin.Runs.value Lin.keeps (v := .slice (some ⟨w.heap.size, 0, none⟩) 16 16) (by simp [execOp, go_sem, h4]) rfl
  · refine Lin.stepR (by kernel_rfl) ?_
    intro ρ wq hb hk ho hc hd hs
    have hC : ∀ v, ρ (.const v) = v := fun v => hc _ (by intro t e; cases e)
    have hF : ∀ f, ρ (.func f) = .func (.func f) #[] #[] := fun f => hc _ (by intro t e; cases e)
    have h3 := hd 3 (by kernel_rfl)
    have h5 : ρ (.tmp 5) = .slice (some ⟨w.heap.size, 0, none⟩) 16 16 := hd 5 (by kernel_rfl)
    obtain ⟨A7, c7, e7, h71, h72, h73⟩ := ring_isb HK.out (R0.out.below hb R0.out.lt)
    injection e7 with e7 e8 e9
    subst e7
    obtain ⟨v9, w9, hr, hb2, his⟩ := grow_nil (T := 22) h3 Try.underlying22 info8 h72 16 h71 (by omega)
    exact Lin.Runs.made (by unfold execOp; simp only [resolve, invoke, builtin, Sem.run_bind, Sem.run_pure, Result.andThen_ok, List.map_toArray, List.map_cons, List.map_nil, h5, hr]) hb2 his
  · refine Lin.stepR (by kernel_rfl) ?_
    intro ρ wq hb hk ho hc hd hs
    have hC : ∀ v, ρ (.const v) = v := fun v => hc _ (by intro t e; cases e)
    have hF : ∀ f, ρ (.func f) = .func (.func f) #[] #[] := fun f => hc _ (by intro t e; cases e)
    have h1 : ρ (.tmp 1) = .pointer (some ⟨w.heap.size, 0, none⟩) := ho 1 (by kernel_rfl)
    exact Lin.Runs.value Lin.keeps (v := .pointer (some ⟨w.heap.size, 16, none⟩)) (by simp [execOp, go_sem, h1]) rfl
  · refine Lin.stepR (by kernel_rfl) ?_
    intro ρ wq hb hk ho hc hd hs
    have hC : ∀ v, ρ (.const v) = v := fun v => hc _ (by intro t e; cases e)
    have hF : ∀ f, ρ (.func f) = .func (.func f) #[] #[] := fun f => hc _ (by intro t e; cases e)
    have h7 : ρ (.tmp 7) = .pointer (some ⟨w.heap.size, 16, none⟩) := hd 7 (by kernel_rfl)
    have m16 := ring_now HK.out (R0.out.below hb R0.out.lt)
    exact Lin.Runs.value Lin.keeps (v := .int .u64 (n : Int)) (by simp [execOp, go_sem, h7, m16]) rfl
  · refine Lin.stepR (by kernel_rfl) ?_
    intro ρ wq hb hk ho hc hd hs
    have hC : ∀ v, ρ (.const v) = v := fun v => hc _ (by intro t e; cases e)
    have hF : ∀ f, ρ (.func f) = .func (.func f) #[] #[] := fun f => hc _ (by intro t e; cases e)
    have h8 : ρ (.tmp 8) = .int .u64 (n : Int) := hd 8 (by kernel_rfl)
    refine Lin.Runs.call Lin.keeps (f := 18) (args := #[.int .u64 (n : Int), .int .i64 8]) (by simp [execOp, go_sem, hC, hF, h8]) ?_
    exact (rb_8 n wq hn).mono fun e w9 ⟨A9, c9, h1, h2, h3⟩ => ⟨_, h1, h3, IsB.own h2⟩
  · refine Lin.stepW (by kernel_rfl) ?_
    intro ρ wq hb hk ho hc hd hs
    have hC : ∀ v, ρ (.const v) = v := fun v => hc _ (by intro t e; cases e)
    have hF : ∀ f, ρ (.func f) = .func (.func f) #[] #[] := fun f => hc _ (by intro t e; cases e)
    have h6 := hd 6 (by kernel_rfl)
    have h9 := hd 9 (by kernel_rfl)
    exact Lin.RunsB_exr (exec_grow rfl Try.underlying22 info8 h6 h9 HK.out (by omega) hb.size)
  · refine Lin.stepR (by kernel_rfl) ?_
    intro ρ wq hb hk ho hc hd hs
    have hC : ∀ v, ρ (.const v) = v := fun v => hc _ (by intro t e; cases e)
    have hF : ∀ f, ρ (.func f) = .func (.func f) #[] #[] := fun f => hc _ (by intro t e; cases e)
    have h10 := hd 10 (by kernel_rfl)
    exact Lin.Runs.value Lin.keeps (Lin.exec_assign rfl) h10
  · intro vals w9 hb hv hs
    obtain ⟨A9, c9, e2, ho9⟩ := hv 2 (by kernel_rfl) (by kernel_rfl)
    have HO9 := hide (IsB.own ho9)
    have HB9 := Lib.hid (HB0.out.trans (hb.mono HB0.out.size))
    clear hv hs ho9 hb
    simp only [Lin.putAll, Option.getD_some]
    rw [e2]
    go_simp
    generalize vals = vv
    go_wp2_with fail
    go_ret
    exact ⟨_, rfl, HB9.out, HO9.out⟩
end Go.Proofs.Ytkdcaipadejchaa
