/-
  Hide and Seek of package cookie. Helper of the claims of layers 12 and 13. No condition.
-/
import Derived.Test.YthjkjohmaemmiaaCk
namespace Go.Proofs.Ythjkjohmaemmiaa
open Go.ChangeShapes Go.WideShapes Go.ChangeAt Go.RowKit
set_option linter.unusedSimpArgs false
set_option linter.unusedVariables false
set_option maxRecDepth 100000
set_option maxHeartbeats 1000000 in
theorem chide (key : List Int) (hk : key.length = 16) (ho : Octets key) (n : Nat) (hn : n < 18446744073709551616) (fc : Array Value) (l : List Int) (nl : Nat) (fk : FlowK fc l nl) (vv sl : Nat) (hvv : vv < 8) (hsl : sl < 4096) (w : World) :
    Calls Try.prog 23 #[.agg (rcs key n), .agg fc, .agg #[.int .i64 (vv : Int), .int .i64 (sl : Int)]] w fun e w' => e = .returned (.tuple #[.int .u16 ((n % 2 * 32768 + ((vv * 4096 + sl) ^^^ mk (dvk key n) l) : Nat) : Int), .int .i64 0]) ∧ Below w.heap.size w w' := by
  obtain ⟨x, hx⟩ : ∃ x, n % 2 = x := ⟨_, rfl⟩
  obtain ⟨wd, hwd⟩ : ∃ y, vv * 4096 + sl = y := ⟨_, rfl⟩
  obtain ⟨m, hm⟩ : ∃ y, mk (dvk key n) l = y := ⟨_, rfl⟩
  have hml : m < 32768 := by rw [← hm]; exact mk_lt _ _
  have hwl : wd < 32768 := by omega
  have hx1 : x ≤ 1 := by omega
  have hor := or_bit hx1 hwl hml
  rw [hx, hwd, hm]
  obtain ⟨cv, hcv⟩ : ∃ y, x * 32768 + (wd ^^^ m) = y := ⟨_, rfl⟩
  rw [hcv] at hor ⊢
  have f1 : IntKind.u16.wrap (x : Int) = (x : Int) := by rw [IntKind.wrap_u16]; omega
  have HF2 := Lib.hid (show IntKind.u16.wrap ((x : Int) * 32768) = ((x * 32768 : Nat) : Int) from by rw [IntKind.wrap_u16]; omega)
  have f3 : bits .or .u16 ((x * 32768 : Nat) : Int) (wd : Int) = ((x * 32768 ||| wd : Nat) : Int) := by
    have e := u16_or ((x * 32768 : Nat) : Int) (wd : Int) (by omega) (by omega) (by omega) (by omega)
    rw [e, Int.toNat_natCast, Int.toNat_natCast]
  have f4 : bits .xor .u16 ((x * 32768 ||| wd : Nat) : Int) (m : Int) = (cv : Int) := by
    have hlt : x * 32768 ||| wd < 2 ^ 16 := Nat.or_lt_two_pow (by omega) (by omega)
    have e := u16_xor ((x * 32768 ||| wd : Nat) : Int) (m : Int) (by omega) (by omega) (by omega) (by omega)
    rw [e, Int.toNat_natCast, Int.toNat_natCast, hor]
  generalize x * 32768 ||| wd = xo at *
  generalize x * 32768 = xh at *
  have BT := hide (fun W => show Calls Try.prog 72 #[.agg (rcs key n)] W fun e w' => e = .returned (.int .i64 (x : Int)) ∧ Below W.heap.size W w' from by have h := hbit key hk n hn W; rw [hx] at h; exact h)
  have AT1 := hide (fun W => show Calls Try.prog 71 #[.agg (rcs key n), .int .i64 (x : Int)] W fun e w' => e = .returned (.tuple #[.agg (u8s (dvk key n)).toArray, .bool true]) ∧ Below W.heap.size W w' from by have h := hat_any key hk ho n hn (x : Int) W; obtain ⟨e1, e2⟩ := atp_own key n (x : Int) (by omega); rw [e1, e2] at h; exact h)
  have MT := hide (fun W => show Calls Try.prog 73 #[.agg (u8s (dvk key n)).toArray, .agg fc] W fun e w' => e = .returned (.int .u16 (m : Int)) ∧ Below W.heap.size W w' from by have h := cmask (dvk key n) (dvk_len key n) (kof_ok _ _) fc l nl fk W; rw [hm] at h; exact h)
  have KSZ := Lib.hid (show (u8s (dvk key n)).toArray.size = 16 from by simp [u8s, dvk_len]); have KONE := Lib.hid (one_u8s (dvk key n))
  have RSZ := Lib.hid (rcs_size hk n)
  have FK := Lib.hid fk; have HWD := Lib.hid hwd
  have PT := hide (fun W => show Calls Try.prog 26 #[.agg #[.int .i64 (vv : Int), .int .i64 (sl : Int)]] W fun e w' => e = .returned (.bool true) ∧ Below W.heap.size W w' from by have h := cright (vv : Int) (sl : Int) W; rw [cright_nat vv sl hvv hsl] at h; exact h)
  generalize (u8s (dvk key n)).toArray = ks at *
  have hb0 : Below w.heap.size w (((w.alloc (.cells (rcs key n) 45)).alloc (.cells fc 28)).alloc (.cells #[.int .i64 (vv : Int), .int .i64 (sl : Int)] 41)) := (((Below.refl _ _).alloc (Nat.le_refl _) _).alloc (by simp) _).alloc (by simp; omega) _
  have r0 := ((Is.new w 45 (rcs key n)).alloc (.cells fc 28)).alloc (.cells #[.int .i64 (vv : Int), .int .i64 (sl : Int)] 41)
  have r1 := (Is.new (w.alloc (.cells (rcs key n) 45)) 28 fc).alloc (.cells #[.int .i64 (vv : Int), .int .i64 (sl : Int)] 41)
  have r2 := Is.new ((w.alloc (.cells (rcs key n) 45)).alloc (.cells fc 28)) 41 #[.int .i64 (vv : Int), .int .i64 (sl : Int)]
  rw [show (w.alloc (.cells (rcs key n) 45)).heap.size = w.heap.size + 1 from by simp] at r1
  rw [show ((w.alloc (.cells (rcs key n) 45)).alloc (.cells fc 28)).heap.size = w.heap.size + 1 + 1 from by simp] at r2
  have HB0 := Lib.hid hb0; have G0 := Lib.hid r0; have J0 := Lib.hid r1; have L0 := Lib.hid r2
  clear hb0 r0 r1 r2 fk hwd hm hx hor hcv hk ho
  go_enter Try.func23, Try.ntmps23
  go_wp2_with fail
  generalize ((w.alloc (.cells (rcs key n) 45)).alloc (.cells fc 28)).alloc (.cells #[.int .i64 (vv : Int), .int .i64 (sl : Int)] 41) = V at *
  refine (unhide PT _).mono ?_
  rintro e W ⟨rfl, hb⟩
  have HBW := Lib.hid (HB0.out.trans (hb.mono HB0.out.size)); have G1 := Lib.hid (G0.out.below hb G0.out.lt); have J1 := Lib.hid (J0.out.below hb J0.out.lt); have L1 := Lib.hid (L0.out.below hb L0.out.lt)
  clear hb HB0 G0 J0 L0
  go_wp2_with fail
  generalize w.heap.size + 1 + 1 = g3 at *
  generalize w.heap.size + 1 = g2 at *
  obtain ⟨g1, hg1⟩ : ∃ g, w.heap.size = g := ⟨_, rfl⟩
  rw [hg1] at G1
  have hz : Hid (w.heap.size = g1) := hide hg1
  simp only [hg1]
  clear hg1
  refine Lin.wp_region_lin2 (turnsK W.heap.size 43 #[.int .u8 0, .int .u8 0, .int .u8 0, .int .u8 0, .int .u8 0, .int .u8 0, .int .u8 0, .int .u8 0, .int .u8 0, .int .u8 0, .int .u8 0, .int .u8 0, .int .u8 0, .int .u8 0, .int .u8 0, .int .u8 0] ks) (n := 31) (fun slotq => match slotq with | 14 => Lin.Spec.val (.agg (rcs key n)) | 15 => Lin.Spec.val (.agg (rcs key n)) | 16 => Lin.Spec.val (.int .i64 (x : Int)) | 17 => Lin.Spec.val (.tuple #[.agg ks, .bool true]) | 13 => Lin.Spec.val (.tuple #[.agg ks, .bool true]) | 18 => Lin.Spec.val (.agg ks) | 19 => Lin.Spec.val (.bool true) | 8 => (specZk 43 W.heap.size #[.int .u8 0, .int .u8 0, .int .u8 0, .int .u8 0, .int .u8 0, .int .u8 0, .int .u8 0, .int .u8 0, .int .u8 0, .int .u8 0, .int .u8 0, .int .u8 0, .int .u8 0, .int .u8 0, .int .u8 0, .int .u8 0] ks) | 9 => Lin.Spec.val (.bool true) | _ => Lin.Spec.any) (fun iq => match iq with | 8 => 8 | _ => 0) (fun iq => match iq with | 8 => (specNk 43 W.heap.size #[.int .u8 0, .int .u8 0, .int .u8 0, .int .u8 0, .int .u8 0, .int .u8 0, .int .u8 0, .int .u8 0, .int .u8 0, .int .u8 0, .int .u8 0, .int .u8 0, .int .u8 0, .int .u8 0, .int .u8 0, .int .u8 0] ks) | _ => Lin.Spec.any) (by kernel_rfl) rfl (by kernel_rfl) ⟨?_, ?_, ?_, ?_, ?_, ?_, ?_, ?_, ?_, ?_, trivial⟩ ?_
  · intro ρ wq hb ho hc hd
    have hC : ∀ v, ρ (.const v) = v := fun v => hc _ (by intro t e; cases e)
    have hF : ∀ f, ρ (.func f) = .func (.func f) #[] #[] := fun f => hc _ (by intro t e; cases e)
    have h3 : ρ (.tmp 3) = .pointer (some ⟨g1, 0, none⟩) := ho 3 (by kernel_rfl)
    have hbq := Lin.Turns.below hb (Nat.le_refl _)
    exact Lin.Runs.load_row (turnsK W.heap.size 43 #[.int .u8 0, .int .u8 0, .int .u8 0, .int .u8 0, .int .u8 0, .int .u8 0, .int .u8 0, .int .u8 0, .int .u8 0, .int .u8 0, .int .u8 0, .int .u8 0, .int .u8 0, .int .u8 0, .int .u8 0, .int .u8 0] ks) 45 (.tmp 3) rfl g1 h3 45 (rcs key n) (G1.out.below hbq G1.out.lt) _ Try.underlying45 rfl (by rw [RSZ.out]; kernel_rfl) rfl
  · intro ρ wq hb ho hc hd
    have hC : ∀ v, ρ (.const v) = v := fun v => hc _ (by intro t e; cases e)
    have hF : ∀ f, ρ (.func f) = .func (.func f) #[] #[] := fun f => hc _ (by intro t e; cases e)
    have h3 : ρ (.tmp 3) = .pointer (some ⟨g1, 0, none⟩) := ho 3 (by kernel_rfl)
    have hbq := Lin.Turns.below hb (Nat.le_refl _)
    exact Lin.Runs.load_row (turnsK W.heap.size 43 #[.int .u8 0, .int .u8 0, .int .u8 0, .int .u8 0, .int .u8 0, .int .u8 0, .int .u8 0, .int .u8 0, .int .u8 0, .int .u8 0, .int .u8 0, .int .u8 0, .int .u8 0, .int .u8 0, .int .u8 0, .int .u8 0] ks) 45 (.tmp 3) rfl g1 h3 45 (rcs key n) (G1.out.below hbq G1.out.lt) _ Try.underlying45 rfl (by rw [RSZ.out]; kernel_rfl) rfl
  · intro ρ wq hb ho hc hd
    have hC : ∀ v, ρ (.const v) = v := fun v => hc _ (by intro t e; cases e)
    have hF : ∀ f, ρ (.func f) = .func (.func f) #[] #[] := fun f => hc _ (by intro t e; cases e)
    have h15 : ρ (.tmp 15) = .agg (rcs key n) := hd 15 (by kernel_rfl)
    exact Lin.Runs.call (turnsK W.heap.size 43 #[.int .u8 0, .int .u8 0, .int .u8 0, .int .u8 0, .int .u8 0, .int .u8 0, .int .u8 0, .int .u8 0, .int .u8 0, .int .u8 0, .int .u8 0, .int .u8 0, .int .u8 0, .int .u8 0, .int .u8 0, .int .u8 0] ks) (f := 72) (args := #[.agg (rcs key n)]) (by simp [execOp, go_sem, hF, h15]) ((unhide BT wq).mono fun e w9 h => ⟨_, h.1, Lin.Turns.keeps h.2, rfl⟩)
  · intro ρ wq hb ho hc hd
    have hC : ∀ v, ρ (.const v) = v := fun v => hc _ (by intro t e; cases e)
    have hF : ∀ f, ρ (.func f) = .func (.func f) #[] #[] := fun f => hc _ (by intro t e; cases e)
    have h14 : ρ (.tmp 14) = .agg (rcs key n) := hd 14 (by kernel_rfl)
    have h16 : ρ (.tmp 16) = .int .i64 (x : Int) := hd 16 (by kernel_rfl)
    exact Lin.Runs.call (turnsK W.heap.size 43 #[.int .u8 0, .int .u8 0, .int .u8 0, .int .u8 0, .int .u8 0, .int .u8 0, .int .u8 0, .int .u8 0, .int .u8 0, .int .u8 0, .int .u8 0, .int .u8 0, .int .u8 0, .int .u8 0, .int .u8 0, .int .u8 0] ks) (f := 71) (args := #[.agg (rcs key n), .int .i64 (x : Int)]) (by simp [execOp, go_sem, hF, h14, h16]) ((unhide AT1 wq).mono fun e w9 h => ⟨_, h.1, Lin.Turns.keeps h.2, rfl⟩)
  · intro ρ wq hb ho hc hd
    have hC : ∀ v, ρ (.const v) = v := fun v => hc _ (by intro t e; cases e)
    have hF : ∀ f, ρ (.func f) = .func (.func f) #[] #[] := fun f => hc _ (by intro t e; cases e)
    have h17 : ρ (.tmp 17) = .tuple #[.agg ks, .bool true] := hd 17 (by kernel_rfl)
    exact Lin.Runs.value (turnsK W.heap.size 43 #[.int .u8 0, .int .u8 0, .int .u8 0, .int .u8 0, .int .u8 0, .int .u8 0, .int .u8 0, .int .u8 0, .int .u8 0, .int .u8 0, .int .u8 0, .int .u8 0, .int .u8 0, .int .u8 0, .int .u8 0, .int .u8 0] ks) (Lin.exec_move rfl) h17
  · intro ρ wq hb ho hc hd
    have hC : ∀ v, ρ (.const v) = v := fun v => hc _ (by intro t e; cases e)
    have hF : ∀ f, ρ (.func f) = .func (.func f) #[] #[] := fun f => hc _ (by intro t e; cases e)
    have h13 : ρ (.tmp 13) = .tuple #[.agg ks, .bool true] := hd 13 (by kernel_rfl)
    exact Lin.Runs.value (turnsK W.heap.size 43 #[.int .u8 0, .int .u8 0, .int .u8 0, .int .u8 0, .int .u8 0, .int .u8 0, .int .u8 0, .int .u8 0, .int .u8 0, .int .u8 0, .int .u8 0, .int .u8 0, .int .u8 0, .int .u8 0, .int .u8 0, .int .u8 0] ks) (v := .agg ks) (by simp [execOp, go_sem, h13]) rfl
  · intro ρ wq hb ho hc hd
    have hC : ∀ v, ρ (.const v) = v := fun v => hc _ (by intro t e; cases e)
    have hF : ∀ f, ρ (.func f) = .func (.func f) #[] #[] := fun f => hc _ (by intro t e; cases e)
    have h13 : ρ (.tmp 13) = .tuple #[.agg ks, .bool true] := hd 13 (by kernel_rfl)
    exact Lin.Runs.value (turnsK W.heap.size 43 #[.int .u8 0, .int .u8 0, .int .u8 0, .int .u8 0, .int .u8 0, .int .u8 0, .int .u8 0, .int .u8 0, .int .u8 0, .int .u8 0, .int .u8 0, .int .u8 0, .int .u8 0, .int .u8 0, .int .u8 0, .int .u8 0] ks) (v := .bool true) (by simp [execOp, go_sem, h13]) rfl
  · intro ρ wq hb ho hc hd
    have hC : ∀ v, ρ (.const v) = v := fun v => hc _ (by intro t e; cases e)
    have hF : ∀ f, ρ (.func f) = .func (.func f) #[] #[] := fun f => hc _ (by intro t e; cases e)
    exact Lin.Runs.made (v := .pointer (some ⟨wq.heap.size, 0, none⟩)) (w' := wq.alloc (.cells #[.int .u8 0, .int .u8 0, .int .u8 0, .int .u8 0, .int .u8 0, .int .u8 0, .int .u8 0, .int .u8 0, .int .u8 0, .int .u8 0, .int .u8 0, .int .u8 0, .int .u8 0, .int .u8 0, .int .u8 0, .int .u8 0] 43)) (by simp [execOp, go_sem]) (Lin.Turns.keeps ((Below.refl _ _).alloc (Nat.le_refl _) _)) ⟨_, rfl, hb.2.2.2.1, .inl (Is.new _ _ _)⟩
  · intro ρ wq hb ho hc hd
    have hC : ∀ v, ρ (.const v) = v := fun v => hc _ (by intro t e; cases e)
    obtain ⟨p, e4, hpB, hp⟩ := hd 8 (by kernel_rfl)
    have hks : ρ (.tmp 18) = .agg ks := hd 18 (by kernel_rfl)
    show Lin.RunsW Try.prog _ (specNk 43 W.heap.size #[.int .u8 0, .int .u8 0, .int .u8 0, .int .u8 0, .int .u8 0, .int .u8 0, .int .u8 0, .int .u8 0, .int .u8 0, .int .u8 0, .int .u8 0, .int .u8 0, .int .u8 0, .int .u8 0, .int .u8 0, .int .u8 0] ks) (ρ (.tmp 8)) ρ wq
    have hcs : ∃ old, Is wq p 43 old ∧ old.size = 16 := by rcases hp with hp | hp; exact ⟨_, hp, rfl⟩; exact ⟨_, hp, KSZ.out⟩
    obtain ⟨old, hcs, hos⟩ := hcs
    refine Lin.RunsW.mk (w' := wq.setRow p ks) (exec_store_rowk 43 (.tmp 8) (.tmp 18) rfl p ks e4 hks 43 old hcs (by rw [KSZ.out]; kernel_rfl) (by rw [hos, KSZ.out]) KONE.out) (turnsK_store hpB hp) ⟨p, e4, hpB, is_row hcs⟩
  · intro ρ wq hb ho hc hd
    have hC : ∀ v, ρ (.const v) = v := fun v => hc _ (by intro t e; cases e)
    have hF : ∀ f, ρ (.func f) = .func (.func f) #[] #[] := fun f => hc _ (by intro t e; cases e)
    have h19 : ρ (.tmp 19) = .bool true := hd 19 (by kernel_rfl)
    exact Lin.Runs.value (turnsK W.heap.size 43 #[.int .u8 0, .int .u8 0, .int .u8 0, .int .u8 0, .int .u8 0, .int .u8 0, .int .u8 0, .int .u8 0, .int .u8 0, .int .u8 0, .int .u8 0, .int .u8 0, .int .u8 0, .int .u8 0, .int .u8 0, .int .u8 0] ks) (Lin.exec_assign rfl) h19
  · intro vals w5 hr2 hv hw2
    have hb2 := Lin.Turns.below hr2 (Nat.le_refl _)
    obtain ⟨p4, e4, hp4, his4⟩ := hw2 8 _ rfl rfl
    have e5 : vals 9 = .bool true := hv 9 (by kernel_rfl)
    have e4' : vals 8 = .pointer (some ⟨p4, 0, none⟩) := e4
    simp only [Lin.putAll, Option.getD_some]
    rw [e5, e4']
    have P4 := Lib.hid his4
    have HB5 := Lib.hid (HBW.out.trans (hb2.mono HBW.out.size))
    have G5 := Lib.hid (G1.out.below hb2 G1.out.lt)
    have J5 := Lib.hid (J1.out.below hb2 J1.out.lt)
    have L5 := Lib.hid (L1.out.below hb2 L1.out.lt)
    have K5 := P4
    clear hv hw2 hr2 hb2 e4 e4' e5 his4 G1 J1 L1 HBW P4
    go_simp
    generalize vals = vw
    go_wp2_with fail
    refine Lin.wp_region_lin Lin.keeps (n := 31)  (fun slotq => match slotq with | 20 => Lin.Spec.val (.agg (rcs key n)) | 21 => Lin.Spec.val (.int .i64 (x : Int)) | 22 => Lin.Spec.val (.int .u16 (x : Int)) | 23 => Lin.Spec.val (.int .u16 (xh : Int)) | 24 => Lin.Spec.val (.agg #[.int .i64 (vv : Int), .int .i64 (sl : Int)]) | 25 => Lin.Spec.val (.int .u16 (wd : Int)) | 26 => Lin.Spec.val (.int .u16 (xo : Int)) | 27 => Lin.Spec.val (.agg ks) | 28 => Lin.Spec.val (.agg fc) | 29 => Lin.Spec.val (.int .u16 (m : Int)) | 30 => Lin.Spec.val (.int .u16 (cv : Int)) | 6 => Lin.Spec.val (.int .u16 (cv : Int)) | 7 => Lin.Spec.val (.int .i64 0) | _ => Lin.Spec.any) (by kernel_rfl) rfl (by kernel_rfl) ⟨?_, ?_, ?_, ?_, ?_, ?_, ?_, ?_, ?_, ?_, ?_, ?_, ?_, trivial⟩ ?_
    · intro ρ wq hb ho hc hd
      have hC : ∀ v, ρ (.const v) = v := fun v => hc _ (by intro t e; cases e)
      have hF : ∀ f, ρ (.func f) = .func (.func f) #[] #[] := fun f => hc _ (by intro t e; cases e)
      have h3 : ρ (.tmp 3) = .pointer (some ⟨g1, 0, none⟩) := ho 3 (by kernel_rfl)
      exact Lin.Runs.load_row Lin.keeps 45 (.tmp 3) rfl g1 h3 45 (rcs key n) (G5.out.below hb G5.out.lt) _ Try.underlying45 rfl (by rw [RSZ.out]; kernel_rfl) rfl
    · intro ρ wq hb ho hc hd
      have hC : ∀ v, ρ (.const v) = v := fun v => hc _ (by intro t e; cases e)
      have hF : ∀ f, ρ (.func f) = .func (.func f) #[] #[] := fun f => hc _ (by intro t e; cases e)
      have h20 : ρ (.tmp 20) = .agg (rcs key n) := hd 20 (by kernel_rfl)
      exact Lin.Runs.call Lin.keeps (f := 72) (args := #[.agg (rcs key n)]) (by simp [execOp, go_sem, hF, h20]) ((unhide BT wq).mono fun e w9 h => ⟨_, h.1, h.2, rfl⟩)
    · intro ρ wq hb ho hc hd
      have hC : ∀ v, ρ (.const v) = v := fun v => hc _ (by intro t e; cases e)
      have hF : ∀ f, ρ (.func f) = .func (.func f) #[] #[] := fun f => hc _ (by intro t e; cases e)
      have h21 : ρ (.tmp 21) = .int .i64 (x : Int) := hd 21 (by kernel_rfl)
      exact Lin.Runs.value Lin.keeps (v := .int .u16 (x : Int)) (by simp [execOp, go_sem, h21, f1]) rfl
    · intro ρ wq hb ho hc hd
      have hC : ∀ v, ρ (.const v) = v := fun v => hc _ (by intro t e; cases e)
      have hF : ∀ f, ρ (.func f) = .func (.func f) #[] #[] := fun f => hc _ (by intro t e; cases e)
      have h22 : ρ (.tmp 22) = .int .u16 (x : Int) := hd 22 (by kernel_rfl)
      exact Lin.Runs.value Lin.keeps (v := .int .u16 (xh : Int)) (by simp [execOp, go_sem, hC, h22]; first | done | exact HF2.out) rfl
    · intro ρ wq hb ho hc hd
      have hC : ∀ v, ρ (.const v) = v := fun v => hc _ (by intro t e; cases e)
      have hF : ∀ f, ρ (.func f) = .func (.func f) #[] #[] := fun f => hc _ (by intro t e; cases e)
      have h5 : ρ (.tmp 5) = .pointer (some ⟨g3, 0, none⟩) := ho 5 (by kernel_rfl)
      have hg8 := L5.out.below hb L5.out.lt
      have m0 := hg8.cell 0
      have m1 := hg8.cell 1
      simp at m0 m1
      exact Lin.Runs.value Lin.keeps (v := .agg #[.int .i64 (vv : Int), .int .i64 (sl : Int)]) (by simp [execOp, go_sem, h5, m0, m1]) rfl
    · intro ρ wq hb ho hc hd
      have hC : ∀ v, ρ (.const v) = v := fun v => hc _ (by intro t e; cases e)
      have hF : ∀ f, ρ (.func f) = .func (.func f) #[] #[] := fun f => hc _ (by intro t e; cases e)
      have h24 : ρ (.tmp 24) = .agg #[.int .i64 (vv : Int), .int .i64 (sl : Int)] := hd 24 (by kernel_rfl)
      exact Lin.Runs.call Lin.keeps (f := 27) (args := #[.agg #[.int .i64 (vv : Int), .int .i64 (sl : Int)]]) (by simp [execOp, go_sem, hF, h24]) ((cword vv sl hvv hsl wq).mono fun e w9 h => ⟨_, h.1, h.2, by rw [HWD.out]; rfl⟩)
    · intro ρ wq hb ho hc hd
      have hC : ∀ v, ρ (.const v) = v := fun v => hc _ (by intro t e; cases e)
      have hF : ∀ f, ρ (.func f) = .func (.func f) #[] #[] := fun f => hc _ (by intro t e; cases e)
      have h23 : ρ (.tmp 23) = .int .u16 (xh : Int) := hd 23 (by kernel_rfl)
      have h25 : ρ (.tmp 25) = .int .u16 (wd : Int) := hd 25 (by kernel_rfl)
      exact Lin.Runs.value Lin.keeps (v := .int .u16 (xo : Int)) (by simp [execOp, go_sem, h23, h25, f3]) rfl
    · intro ρ wq hb ho hc hd
      have hC : ∀ v, ρ (.const v) = v := fun v => hc _ (by intro t e; cases e)
      have hF : ∀ f, ρ (.func f) = .func (.func f) #[] #[] := fun f => hc _ (by intro t e; cases e)
      have h8 : ρ (.tmp 8) = .pointer (some ⟨p4, 0, none⟩) := ho 8 (by kernel_rfl)
      exact Lin.Runs.load_row Lin.keeps 43 (.tmp 8) rfl p4 h8 43 ks (K5.out.below hb K5.out.lt) _ Try.underlying43 rfl (by rw [KSZ.out]; kernel_rfl) rfl
    · intro ρ wq hb ho hc hd
      have hC : ∀ v, ρ (.const v) = v := fun v => hc _ (by intro t e; cases e)
      have hF : ∀ f, ρ (.func f) = .func (.func f) #[] #[] := fun f => hc _ (by intro t e; cases e)
      have h4 : ρ (.tmp 4) = .pointer (some ⟨g2, 0, none⟩) := ho 4 (by kernel_rfl)
      exact Lin.Runs.load_row Lin.keeps 28 (.tmp 4) rfl g2 h4 28 fc (J5.out.below hb J5.out.lt) _ Try.underlying28 rfl (by rw [FK.out.1]; kernel_rfl) rfl
    · intro ρ wq hb ho hc hd
      have hC : ∀ v, ρ (.const v) = v := fun v => hc _ (by intro t e; cases e)
      have hF : ∀ f, ρ (.func f) = .func (.func f) #[] #[] := fun f => hc _ (by intro t e; cases e)
      have h27 : ρ (.tmp 27) = .agg ks := hd 27 (by kernel_rfl)
      have h28 : ρ (.tmp 28) = .agg fc := hd 28 (by kernel_rfl)
      exact Lin.Runs.call Lin.keeps (f := 73) (args := #[.agg ks, .agg fc]) (by simp [execOp, go_sem, hF, h27, h28]) ((unhide MT wq).mono fun e w9 h => ⟨_, h.1, h.2, rfl⟩)
    · intro ρ wq hb ho hc hd
      have hC : ∀ v, ρ (.const v) = v := fun v => hc _ (by intro t e; cases e)
      have hF : ∀ f, ρ (.func f) = .func (.func f) #[] #[] := fun f => hc _ (by intro t e; cases e)
      have h26 : ρ (.tmp 26) = .int .u16 (xo : Int) := hd 26 (by kernel_rfl)
      have h29 : ρ (.tmp 29) = .int .u16 (m : Int) := hd 29 (by kernel_rfl)
      exact Lin.Runs.value Lin.keeps (v := .int .u16 (cv : Int)) (by simp [execOp, go_sem, h26, h29, f4]) rfl
    · intro ρ wq hb ho hc hd
      have hC : ∀ v, ρ (.const v) = v := fun v => hc _ (by intro t e; cases e)
      have hF : ∀ f, ρ (.func f) = .func (.func f) #[] #[] := fun f => hc _ (by intro t e; cases e)
      have h30 : ρ (.tmp 30) = .int .u16 (cv : Int) := hd 30 (by kernel_rfl)
      exact Lin.Runs.value Lin.keeps (Lin.exec_assign rfl) h30
    · intro ρ wq hb ho hc hd
      have hC : ∀ v, ρ (.const v) = v := fun v => hc _ (by intro t e; cases e)
      have hF : ∀ f, ρ (.func f) = .func (.func f) #[] #[] := fun f => hc _ (by intro t e; cases e)
      exact Lin.Runs.value Lin.keeps (Lin.exec_assign rfl) (hc _ (by intro t e; cases e))
    · intro vals w6 hb2 hv
      have ee : vals 6 = .int .u16 (cv : Int) := hv 6 (by kernel_rfl)
      have ee7 : vals 7 = .int .i64 0 := hv 7 (by kernel_rfl)
      have HB6 := Lib.hid (HB5.out.trans (hb2.mono HB5.out.size))
      clear hb2 hv
      simp only [Lin.putAll, Option.getD_some]
      rw [ee, ee7]
      clear ee ee7
      go_simp
      generalize vals = vq
      go_wp2_with fail
      go_ret2
      exact ⟨rfl, HB6.out⟩
end Go.Proofs.Ythjkjohmaemmiaa
