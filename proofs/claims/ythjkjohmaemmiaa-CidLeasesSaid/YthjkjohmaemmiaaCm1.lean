/-
  Make of package cid. Helper of the claims of layer 13. No condition.
-/
import Derived.Test.YthjkjohmaemmiaaCd2
import Derived.Test.YthjkjohmaemmiaaCk2
namespace Go.Proofs.Ythjkjohmaemmiaa
open Go.ChangeShapes Go.WideShapes Go.ChangeAt Go.RowKit
set_option linter.unusedSimpArgs false
set_option linter.unusedVariables false
set_option maxRecDepth 100000
theorem numW_be (N : Nat) : ∀ s : Nat, numW (be N s) = (((N % 256 ^ s) % 18446744073709551616 : Nat) : Int) := by
  have key : ∀ (s : Nat) (a : Int) (m : Nat), a = ((m % 18446744073709551616 : Nat) : Int) → (be N s).foldl (fun n x => (n * 256 + x) % 18446744073709551616) a = (((m * 256 ^ s + N % 256 ^ s) % 18446744073709551616 : Nat) : Int) := by
    intro s
    induction s with
    | zero => intro a m h; simp [be, Nat.mod_one, h]
    | succ s ih =>
      intro a m h
      rw [be, List.foldl_cons, ih _ (m * 256 + N / 256 ^ s % 256) (by rw [h]; omega)]
      have e : N % 256 ^ (s + 1) = N / 256 ^ s % 256 * 256 ^ s + N % 256 ^ s := by
        rw [Nat.pow_succ, Nat.mod_mul]
        rw [Nat.mul_comm (N / 256 ^ s % 256)]
        omega
      rw [e, Nat.pow_succ]
      rw [show (m * 256 + N / 256 ^ s % 256) * 256 ^ s + N % 256 ^ s = m * (256 ^ s * 256) + (N / 256 ^ s % 256 * 256 ^ s + N % 256 ^ s) from by rw [Nat.add_mul, Nat.mul_assoc, Nat.mul_comm 256 (256 ^ s), Nat.add_assoc]]
  intro s
  have h := key s 0 0 rfl
  unfold numW
  rw [h]
  simp
/-- The first seven bytes of an ID, and all of it. -/
def bdy (on wd : Nat) : List Int := be on 5 ++ be wd 2
def idl (kk : List Int) (on wd : Nat) : List Int := bdy on wd ++ tgc kk (bdy on wd)
theorem bdy_len (on wd : Nat) : (bdy on wd).length = 7 := by simp [bdy, be_len]
theorem bdy_ok (on wd : Nat) : Octets (bdy on wd) := (be_ok _ _).app (be_ok _ _)
theorem idl_len (kk : List Int) (on wd : Nat) : (idl kk on wd).length = 12 := by simp [idl, bdy_len, tgc_len]
theorem idl_ok (kk : List Int) (on wd : Nat) : Octets (idl kk on wd) := (bdy_ok _ _).app (tgc_ok _ _)
theorem idl_take7 (kk : List Int) (on wd : Nat) : (idl kk on wd).take 7 = bdy on wd := List.take_left' (bdy_len _ _)
theorem idl_drop7 (kk : List Int) (on wd : Nat) : (idl kk on wd).drop 7 = tgc kk (bdy on wd) := List.drop_left' (bdy_len _ _)
theorem idl_take5 (kk : List Int) (on wd : Nat) : (idl kk on wd).take 5 = be on 5 := by
  unfold idl bdy
  rw [List.append_assoc]; exact List.take_left' (be_len _ _)
theorem idl_once (kk : List Int) (on wd : Nat) (h : on < 1099511627776) : nw (idl kk on wd) 0 5 = (on : Int) := by
  unfold nw
  rw [List.drop_zero, idl_take5, numW_be]; omega
theorem idl_word (kk : List Int) (on wd : Nat) (h : wd < 65536) : nw (idl kk on wd) 5 2 = (wd : Int) := by
  unfold nw idl bdy
  rw [List.append_assoc, List.drop_left' (be_len _ _), List.take_left' (be_len _ _), numW_be]; omega
set_option maxHeartbeats 2000000 in
theorem cmake_yes (key : List Int) (hk : key.length = 16) (ho : Octets key) (n : Nat) (hn : n < 18446744073709551616) (vv sl on : Nat) (hvv : vv < 8) (hsl : sl < 4096) (hon : on < 1099511627776) (wd : Nat) (hwd : n % 2 * 32768 + ((vv * 4096 + sl) ^^^ mkc (dvk key n) (be on 5)) = wd) (w : World) :
    Calls Try.prog 31 #[.agg (rcs key n), .agg #[.int .i64 (vv : Int), .int .i64 (sl : Int)], .int .u64 (on : Int)] w fun e w' => ∃ v, e = .returned (.tuple #[v, .int .i64 0]) ∧ Below w.heap.size w w' ∧ IsB (idl (dvk key n) on wd) 12 v w' := by
  obtain ⟨x, hx⟩ : ∃ x, n % 2 = x := ⟨_, rfl⟩
  obtain ⟨wo, hwo⟩ : ∃ y, vv * 4096 + sl = y := ⟨_, rfl⟩
  obtain ⟨m, hm⟩ : ∃ y, mkc (dvk key n) (be on 5) = y := ⟨_, rfl⟩
  have hml : m < 32768 := by rw [← hm]; exact mkc_lt _ _
  have hwl : wo < 32768 := by omega
  have hx1 : x ≤ 1 := by omega
  have hor := or_bit hx1 hwl hml
  rw [hx, hwo, hm] at hwd
  have hxm : wo ^^^ m < 2 ^ 15 := Nat.xor_lt_two_pow hwl hml
  have hwdl : wd < 65536 := by omega
  rw [hwd] at hor
  have f1 : IntKind.u16.wrap (x : Int) = (x : Int) := by rw [IntKind.wrap_u16]; omega
  have HF2 := Lib.hid (show IntKind.u16.wrap ((x : Int) * 32768) = ((x * 32768 : Nat) : Int) from by rw [IntKind.wrap_u16]; omega)
  have f3 : bits .or .u16 ((x * 32768 : Nat) : Int) (wo : Int) = ((x * 32768 ||| wo : Nat) : Int) := by
    have e := u16_or ((x * 32768 : Nat) : Int) (wo : Int) (by omega) (by omega) (by omega) (by omega)
    rw [e, Int.toNat_natCast, Int.toNat_natCast]
  have f4 : bits .xor .u16 ((x * 32768 ||| wo : Nat) : Int) (m : Int) = (wd : Int) := by
    have hlt : x * 32768 ||| wo < 2 ^ 16 := Nat.or_lt_two_pow (by omega) (by omega)
    have e := u16_xor ((x * 32768 ||| wo : Nat) : Int) (m : Int) (by omega) (by omega) (by omega) (by omega)
    rw [e, Int.toNat_natCast, Int.toNat_natCast, hor]
  have f5 : IntKind.u64.wrap (wd : Int) = (wd : Int) := IntWalk.u64_in _ (by omega)
  have g1099 : ¬ (1099511627775 : Int) < (on : Int) := by omega
  generalize x * 32768 ||| wo = xo at *
  generalize x * 32768 = xh at *
  have BT := hide (fun W => show Calls Try.prog 72 #[.agg (rcs key n)] W fun e w' => e = .returned (.int .i64 (x : Int)) ∧ Below W.heap.size W w' from by have h := hbit key hk n hn W; rw [hx] at h; exact h)
  have AT1 := hide (fun W => show Calls Try.prog 71 #[.agg (rcs key n), .int .i64 (x : Int)] W fun e w' => e = .returned (.tuple #[.agg (u8s (dvk key n)).toArray, .bool true]) ∧ Below W.heap.size W w' from by have h := hat_any key hk ho n hn (x : Int) W; obtain ⟨e1, e2⟩ := atp_own key n (x : Int) (by omega); rw [e1, e2] at h; exact h)
  have MT := hide (fun W A c h => show Calls Try.prog 79 #[.agg (u8s (dvk key n)).toArray, .slice A 5 c] W fun e w' => e = .returned (.int .u16 (m : Int)) ∧ Below W.heap.size W w' from by have h2 := cmask13 (dvk key n) (dvk_len key n) (kof_ok _ _) (be on 5) 4 c A (be_ok _ _) (by omega) W h; rw [hm] at h2; exact h2)
  have TT := hide (fun W A c h => ctag13 (dvk key n) (dvk_len key n) (kof_ok _ _) (bdy on wd) 6 c A (bdy_ok _ _) (by omega) W h)
  unfold idl
  generalize tgc (dvk key n) (bdy on wd) = tt at *
  have KSZ := Lib.hid (show (u8s (dvk key n)).toArray.size = 16 from by simp [u8s, dvk_len]); have KONE := Lib.hid (one_u8s (dvk key n))
  have RSZ := Lib.hid (rcs_size hk n)
  have HWD := Lib.hid hwo
  have PT := hide (fun W => show Calls Try.prog 26 #[.agg #[.int .i64 (vv : Int), .int .i64 (sl : Int)]] W fun e w' => e = .returned (.bool true) ∧ Below W.heap.size W w' from by have h := cright (vv : Int) (sl : Int) W; rw [cright_nat vv sl hvv hsl] at h; exact h)
  generalize (u8s (dvk key n)).toArray = ks at *
  have HB0 := Lib.hid (show Below w.heap.size w ((w.alloc (.cells (rcs key n) 45)).alloc (.cells #[.int .i64 (vv : Int), .int .i64 (sl : Int)] 41)) from ((Below.refl _ _).alloc (Nat.le_refl _) _).alloc (by simp) _)
  have G0 := Lib.hid ((Is.new w 45 (rcs key n)).alloc (.cells #[.int .i64 (vv : Int), .int .i64 (sl : Int)] 41))
  have L0 := Lib.hid (Is.new (w.alloc (.cells (rcs key n) 45)) 41 #[.int .i64 (vv : Int), .int .i64 (sl : Int)])
  rw [show (w.alloc (.cells (rcs key n) 45)).heap.size = w.heap.size + 1 from by simp] at L0
  clear hwo hm hx hor hwd hk ho hxm hn hml hwl
  go_enter Try.func31, Try.ntmps31
  go_wp2_with fail
  generalize (w.alloc (.cells (rcs key n) 45)).alloc (.cells #[.int .i64 (vv : Int), .int .i64 (sl : Int)] 41) = V at *
  refine (unhide PT _).mono ?_
  rintro e W ⟨rfl, hb⟩
  have HBW := Lib.hid (HB0.out.trans (hb.mono HB0.out.size)); have G1 := Lib.hid (G0.out.below hb G0.out.lt); have L1 := Lib.hid (L0.out.below hb L0.out.lt)
  clear hb HB0 G0 L0
  go_wp2_with fail
  generalize w.heap.size + 1 = g3 at *
  obtain ⟨g1, hg1⟩ : ∃ g, w.heap.size = g := ⟨_, rfl⟩
  rw [hg1] at G1
  have hz : Hid (w.heap.size = g1) := hide hg1
  simp only [hg1]
  clear hg1
  refine Lin.wp_region_lin2 (turnsK W.heap.size 43 #[.int .u8 0, .int .u8 0, .int .u8 0, .int .u8 0, .int .u8 0, .int .u8 0, .int .u8 0, .int .u8 0, .int .u8 0, .int .u8 0, .int .u8 0, .int .u8 0, .int .u8 0, .int .u8 0, .int .u8 0, .int .u8 0] ks) (n := 48) (fun slotq => match slotq with | 20 => Lin.Spec.val (.agg (rcs key n)) | 21 => Lin.Spec.val (.agg (rcs key n)) | 22 => Lin.Spec.val (.int .i64 (x : Int)) | 23 => Lin.Spec.val (.tuple #[.agg ks, .bool true]) | 19 => Lin.Spec.val (.tuple #[.agg ks, .bool true]) | 24 => Lin.Spec.val (.agg ks) | 25 => Lin.Spec.val (.bool true) | 8 => (specZk 43 W.heap.size #[.int .u8 0, .int .u8 0, .int .u8 0, .int .u8 0, .int .u8 0, .int .u8 0, .int .u8 0, .int .u8 0, .int .u8 0, .int .u8 0, .int .u8 0, .int .u8 0, .int .u8 0, .int .u8 0, .int .u8 0, .int .u8 0] ks) | 9 => Lin.Spec.val (.bool true) | _ => Lin.Spec.any) (fun iq => match iq with | 8 => 8 | _ => 0) (fun iq => match iq with | 8 => (specNk 43 W.heap.size #[.int .u8 0, .int .u8 0, .int .u8 0, .int .u8 0, .int .u8 0, .int .u8 0, .int .u8 0, .int .u8 0, .int .u8 0, .int .u8 0, .int .u8 0, .int .u8 0, .int .u8 0, .int .u8 0, .int .u8 0, .int .u8 0] ks) | _ => Lin.Spec.any) (by kernel_rfl) rfl (by kernel_rfl) ⟨?_, ?_, ?_, ?_, ?_, ?_, ?_, ?_, ?_, ?_, trivial⟩ ?_
  · intro ρ wq hb ho hc hd
    have hC : ∀ v, ρ (.const v) = v := fun v => hc _ (by intro t e; cases e)
    have hF : ∀ f, ρ (.func f) = .func (.func f) #[] #[] := fun f => hc _ (by intro t e; cases e)
    have h3 : ρ (.tmp 3) = .pointer (some ⟨g1, 0, none⟩) := ho 3 (by kernel_rfl)
    have hbq := Lin.Turns.below hb (Nat.le_refl _)
    exact Lin.Runs.load_row (turnsK W.heap.size 43 #[.int .u8 0, .int .u8 0, .int .u8 0, .int .u8 0, .int .u8 0, .int .u8 0, .int .u8 0, .int .u8 0, .int .u8 0, .int .u8 0, .int .u8 0, .int .u8 0, .int .u8 0, .int .u8 0, .int .u8 0, .int .u8 0] ks) 45 (.tmp 3) rfl g1 h3 45 (rcs key n) (G1.out.below hbq G1.out.lt) _ Try.underlying45 rfl (by rw [RSZ.out]; kernel_rfl) rfl
  · intro ρ wq hb ho hc hd
    have hC : ∀ v, ρ (.const v) = v := fun v => hc _ (by intro t e; cases e)
    have hF : ∀ f, ρ (.func f) = .func (.func f) #[] #[] := fun f => hc _ (by intro t e; cases e)
    have h3 : ρ (.tmp 3) = .pointer (some ⟨g1, 0, none⟩) := ho 3 (by kernel_rfl)
    have hbq := Lin.Turns.below hb (Nat.le_refl _)
    exact Lin.Runs.load_row (turnsK W.heap.size 43 #[.int .u8 0, .int .u8 0, .int .u8 0, .int .u8 0, .int .u8 0, .int .u8 0, .int .u8 0, .int .u8 0, .int .u8 0, .int .u8 0, .int .u8 0, .int .u8 0, .int .u8 0, .int .u8 0, .int .u8 0, .int .u8 0] ks) 45 (.tmp 3) rfl g1 h3 45 (rcs key n) (G1.out.below hbq G1.out.lt) _ Try.underlying45 rfl (by rw [RSZ.out]; kernel_rfl) rfl
  · intro ρ wq hb ho hc hd
    have hC : ∀ v, ρ (.const v) = v := fun v => hc _ (by intro t e; cases e)
    have hF : ∀ f, ρ (.func f) = .func (.func f) #[] #[] := fun f => hc _ (by intro t e; cases e)
    have h21 : ρ (.tmp 21) = .agg (rcs key n) := hd 21 (by kernel_rfl)
    exact Lin.Runs.call (turnsK W.heap.size 43 #[.int .u8 0, .int .u8 0, .int .u8 0, .int .u8 0, .int .u8 0, .int .u8 0, .int .u8 0, .int .u8 0, .int .u8 0, .int .u8 0, .int .u8 0, .int .u8 0, .int .u8 0, .int .u8 0, .int .u8 0, .int .u8 0] ks) (f := 72) (args := #[.agg (rcs key n)]) (by simp [execOp, go_sem, hF, h21]) ((unhide BT wq).mono fun e w9 h => ⟨_, h.1, Lin.Turns.keeps h.2, rfl⟩)
  · intro ρ wq hb ho hc hd
    have hC : ∀ v, ρ (.const v) = v := fun v => hc _ (by intro t e; cases e)
    have hF : ∀ f, ρ (.func f) = .func (.func f) #[] #[] := fun f => hc _ (by intro t e; cases e)
    have h20 : ρ (.tmp 20) = .agg (rcs key n) := hd 20 (by kernel_rfl)
    have h22 : ρ (.tmp 22) = .int .i64 (x : Int) := hd 22 (by kernel_rfl)
    exact Lin.Runs.call (turnsK W.heap.size 43 #[.int .u8 0, .int .u8 0, .int .u8 0, .int .u8 0, .int .u8 0, .int .u8 0, .int .u8 0, .int .u8 0, .int .u8 0, .int .u8 0, .int .u8 0, .int .u8 0, .int .u8 0, .int .u8 0, .int .u8 0, .int .u8 0] ks) (f := 71) (args := #[.agg (rcs key n), .int .i64 (x : Int)]) (by simp [execOp, go_sem, hF, h20, h22]) ((unhide AT1 wq).mono fun e w9 h => ⟨_, h.1, Lin.Turns.keeps h.2, rfl⟩)
  · intro ρ wq hb ho hc hd
    have hC : ∀ v, ρ (.const v) = v := fun v => hc _ (by intro t e; cases e)
    have hF : ∀ f, ρ (.func f) = .func (.func f) #[] #[] := fun f => hc _ (by intro t e; cases e)
    have h23 : ρ (.tmp 23) = .tuple #[.agg ks, .bool true] := hd 23 (by kernel_rfl)
    exact Lin.Runs.value (turnsK W.heap.size 43 #[.int .u8 0, .int .u8 0, .int .u8 0, .int .u8 0, .int .u8 0, .int .u8 0, .int .u8 0, .int .u8 0, .int .u8 0, .int .u8 0, .int .u8 0, .int .u8 0, .int .u8 0, .int .u8 0, .int .u8 0, .int .u8 0] ks) (Lin.exec_move rfl) h23
  · intro ρ wq hb ho hc hd
    have hC : ∀ v, ρ (.const v) = v := fun v => hc _ (by intro t e; cases e)
    have hF : ∀ f, ρ (.func f) = .func (.func f) #[] #[] := fun f => hc _ (by intro t e; cases e)
    have h19 : ρ (.tmp 19) = .tuple #[.agg ks, .bool true] := hd 19 (by kernel_rfl)
    exact Lin.Runs.value (turnsK W.heap.size 43 #[.int .u8 0, .int .u8 0, .int .u8 0, .int .u8 0, .int .u8 0, .int .u8 0, .int .u8 0, .int .u8 0, .int .u8 0, .int .u8 0, .int .u8 0, .int .u8 0, .int .u8 0, .int .u8 0, .int .u8 0, .int .u8 0] ks) (v := .agg ks) (by simp [execOp, go_sem, h19]) rfl
  · intro ρ wq hb ho hc hd
    have hC : ∀ v, ρ (.const v) = v := fun v => hc _ (by intro t e; cases e)
    have hF : ∀ f, ρ (.func f) = .func (.func f) #[] #[] := fun f => hc _ (by intro t e; cases e)
    have h19 : ρ (.tmp 19) = .tuple #[.agg ks, .bool true] := hd 19 (by kernel_rfl)
    exact Lin.Runs.value (turnsK W.heap.size 43 #[.int .u8 0, .int .u8 0, .int .u8 0, .int .u8 0, .int .u8 0, .int .u8 0, .int .u8 0, .int .u8 0, .int .u8 0, .int .u8 0, .int .u8 0, .int .u8 0, .int .u8 0, .int .u8 0, .int .u8 0, .int .u8 0] ks) (v := .bool true) (by simp [execOp, go_sem, h19]) rfl
  · intro ρ wq hb ho hc hd
    have hC : ∀ v, ρ (.const v) = v := fun v => hc _ (by intro t e; cases e)
    have hF : ∀ f, ρ (.func f) = .func (.func f) #[] #[] := fun f => hc _ (by intro t e; cases e)
    exact Lin.Runs.made (v := .pointer (some ⟨wq.heap.size, 0, none⟩)) (w' := wq.alloc (.cells #[.int .u8 0, .int .u8 0, .int .u8 0, .int .u8 0, .int .u8 0, .int .u8 0, .int .u8 0, .int .u8 0, .int .u8 0, .int .u8 0, .int .u8 0, .int .u8 0, .int .u8 0, .int .u8 0, .int .u8 0, .int .u8 0] 43)) (by simp [execOp, go_sem]) (Lin.Turns.keeps ((Below.refl _ _).alloc (Nat.le_refl _) _)) ⟨_, rfl, hb.2.2.2.1, .inl (Is.new _ _ _)⟩
  · intro ρ wq hb ho hc hd
    have hC : ∀ v, ρ (.const v) = v := fun v => hc _ (by intro t e; cases e)
    obtain ⟨p, e4, hpB, hp⟩ := hd 8 (by kernel_rfl)
    have hks : ρ (.tmp 24) = .agg ks := hd 24 (by kernel_rfl)
    show Lin.RunsW Try.prog _ (specNk 43 W.heap.size #[.int .u8 0, .int .u8 0, .int .u8 0, .int .u8 0, .int .u8 0, .int .u8 0, .int .u8 0, .int .u8 0, .int .u8 0, .int .u8 0, .int .u8 0, .int .u8 0, .int .u8 0, .int .u8 0, .int .u8 0, .int .u8 0] ks) (ρ (.tmp 8)) ρ wq
    have hcs : ∃ old, Is wq p 43 old ∧ old.size = 16 := by rcases hp with hp | hp; exact ⟨_, hp, rfl⟩; exact ⟨_, hp, KSZ.out⟩
    obtain ⟨old, hcs, hos⟩ := hcs
    refine Lin.RunsW.mk (w' := wq.setRow p ks) (exec_store_rowk 43 (.tmp 8) (.tmp 24) rfl p ks e4 hks 43 old hcs (by rw [KSZ.out]; kernel_rfl) (by rw [hos, KSZ.out]) KONE.out) (turnsK_store hpB hp) ⟨p, e4, hpB, is_row hcs⟩
  · intro ρ wq hb ho hc hd
    have hC : ∀ v, ρ (.const v) = v := fun v => hc _ (by intro t e; cases e)
    have hF : ∀ f, ρ (.func f) = .func (.func f) #[] #[] := fun f => hc _ (by intro t e; cases e)
    have h25 : ρ (.tmp 25) = .bool true := hd 25 (by kernel_rfl)
    exact Lin.Runs.value (turnsK W.heap.size 43 #[.int .u8 0, .int .u8 0, .int .u8 0, .int .u8 0, .int .u8 0, .int .u8 0, .int .u8 0, .int .u8 0, .int .u8 0, .int .u8 0, .int .u8 0, .int .u8 0, .int .u8 0, .int .u8 0, .int .u8 0, .int .u8 0] ks) (Lin.exec_assign rfl) h25
  · intro vals w5 hr2 hv hw2
    have hb2 := Lin.Turns.below hr2 (Nat.le_refl _)
    obtain ⟨p4, e4, hp4, his4⟩ := hw2 8 _ rfl rfl
    have e5 : vals 9 = .bool true := hv 9 (by kernel_rfl)
    have e4' : vals 8 = .pointer (some ⟨p4, 0, none⟩) := e4
    simp only [Lin.putAll, Option.getD_some]
    rw [e5, e4']
    have P4 := Lib.hid his4
    have HB5 := Lib.hid (HBW.out.trans (hb2.mono HBW.out.size))
    have G5 := Lib.hid (G1.out.below hb2 G1.out.lt)
    have L5 := Lib.hid (L1.out.below hb2 L1.out.lt)
    have K5 := P4
    clear hv hw2 hr2 hb2 e4 e4' e5 his4 G1 L1 HBW P4
    go_simp
    generalize vals = vw
    go_wp2_with fail
    refine (put_nil on 5 5 _ (by omega) (by omega) (by omega) rfl).mono ?_
    rintro e w6 ⟨A6, c6, rfl, ho6, hb⟩
    have HO6 := hide ho6; have hz6 : w5.heap.size ≤ w6.heap.size := hb.size
    have G6 := Lib.hid (G5.out.below hb G5.out.lt)
    have L6 := Lib.hid (L5.out.below hb L5.out.lt)
    have K6 := Lib.hid (K5.out.below hb K5.out.lt)
    have HB6 := Lib.hid (HB5.out.trans (hb.mono HB5.out.size))
    clear G5 L5 K5 HB5 hb ho6
    go_wp2_with fail
    refine Lin.wp_region_lin Lin.keeps (n := 48)  (fun slotq => match slotq with | 28 => Lin.Spec.val (.agg (rcs key n)) | 29 => Lin.Spec.val (.int .i64 (x : Int)) | 30 => Lin.Spec.val (.int .u16 (x : Int)) | 31 => Lin.Spec.val (.int .u16 (xh : Int)) | 32 => Lin.Spec.val (.agg #[.int .i64 (vv : Int), .int .i64 (sl : Int)]) | 33 => Lin.Spec.val (.int .u16 (wo : Int)) | 34 => Lin.Spec.val (.int .u16 (xo : Int)) | 35 => Lin.Spec.val (.agg ks) | 36 => Lin.Spec.val (.slice A6 5 c6) | 37 => Lin.Spec.val (.int .u16 (m : Int)) | 38 => Lin.Spec.val (.int .u16 (wd : Int)) | 11 => Lin.Spec.val (.int .u16 (wd : Int)) | _ => Lin.Spec.any) (by kernel_rfl) rfl (by kernel_rfl) ⟨?_, ?_, ?_, ?_, ?_, ?_, ?_, ?_, ?_, ?_, ?_, ?_, trivial⟩ ?_
    · intro ρ wq hb ho hc hd
      have hC : ∀ v, ρ (.const v) = v := fun v => hc _ (by intro t e; cases e)
      have hF : ∀ f, ρ (.func f) = .func (.func f) #[] #[] := fun f => hc _ (by intro t e; cases e)
      have h3 : ρ (.tmp 3) = .pointer (some ⟨g1, 0, none⟩) := ho 3 (by kernel_rfl)
      exact Lin.Runs.load_row Lin.keeps 45 (.tmp 3) rfl g1 h3 45 (rcs key n) (G6.out.below hb G6.out.lt) _ Try.underlying45 rfl (by rw [RSZ.out]; kernel_rfl) rfl
    · intro ρ wq hb ho hc hd
      have hC : ∀ v, ρ (.const v) = v := fun v => hc _ (by intro t e; cases e)
      have hF : ∀ f, ρ (.func f) = .func (.func f) #[] #[] := fun f => hc _ (by intro t e; cases e)
      have h28 : ρ (.tmp 28) = .agg (rcs key n) := hd 28 (by kernel_rfl)
      exact Lin.Runs.call Lin.keeps (f := 72) (args := #[.agg (rcs key n)]) (by simp [execOp, go_sem, hF, h28]) ((unhide BT wq).mono fun e w9 h => ⟨_, h.1, h.2, rfl⟩)
    · intro ρ wq hb ho hc hd
      have hC : ∀ v, ρ (.const v) = v := fun v => hc _ (by intro t e; cases e)
      have hF : ∀ f, ρ (.func f) = .func (.func f) #[] #[] := fun f => hc _ (by intro t e; cases e)
      have h29 : ρ (.tmp 29) = .int .i64 (x : Int) := hd 29 (by kernel_rfl)
      exact Lin.Runs.value Lin.keeps (v := .int .u16 (x : Int)) (by simp [execOp, go_sem, h29, f1]) rfl
    · intro ρ wq hb ho hc hd
      have hC : ∀ v, ρ (.const v) = v := fun v => hc _ (by intro t e; cases e)
      have hF : ∀ f, ρ (.func f) = .func (.func f) #[] #[] := fun f => hc _ (by intro t e; cases e)
      have h30 : ρ (.tmp 30) = .int .u16 (x : Int) := hd 30 (by kernel_rfl)
      exact Lin.Runs.value Lin.keeps (v := .int .u16 (xh : Int)) (by simp [execOp, go_sem, hC, h30]; first | done | exact HF2.out) rfl
    · intro ρ wq hb ho hc hd
      have hC : ∀ v, ρ (.const v) = v := fun v => hc _ (by intro t e; cases e)
      have hF : ∀ f, ρ (.func f) = .func (.func f) #[] #[] := fun f => hc _ (by intro t e; cases e)
      have h4 : ρ (.tmp 4) = .pointer (some ⟨g3, 0, none⟩) := ho 4 (by kernel_rfl)
      have hg8 := L6.out.below hb L6.out.lt
      have m0 := hg8.cell 0
      have m1 := hg8.cell 1
      simp at m0 m1
      exact Lin.Runs.value Lin.keeps (v := .agg #[.int .i64 (vv : Int), .int .i64 (sl : Int)]) (by simp [execOp, go_sem, h4, m0, m1]) rfl
    · intro ρ wq hb ho hc hd
      have hC : ∀ v, ρ (.const v) = v := fun v => hc _ (by intro t e; cases e)
      have hF : ∀ f, ρ (.func f) = .func (.func f) #[] #[] := fun f => hc _ (by intro t e; cases e)
      have h32 : ρ (.tmp 32) = .agg #[.int .i64 (vv : Int), .int .i64 (sl : Int)] := hd 32 (by kernel_rfl)
      exact Lin.Runs.call Lin.keeps (f := 27) (args := #[.agg #[.int .i64 (vv : Int), .int .i64 (sl : Int)]]) (by simp [execOp, go_sem, hF, h32]) ((cword vv sl hvv hsl wq).mono fun e w9 h => ⟨_, h.1, h.2, by rw [HWD.out]; rfl⟩)
    · intro ρ wq hb ho hc hd
      have hC : ∀ v, ρ (.const v) = v := fun v => hc _ (by intro t e; cases e)
      have hF : ∀ f, ρ (.func f) = .func (.func f) #[] #[] := fun f => hc _ (by intro t e; cases e)
      have h31 : ρ (.tmp 31) = .int .u16 (xh : Int) := hd 31 (by kernel_rfl)
      have h33 : ρ (.tmp 33) = .int .u16 (wo : Int) := hd 33 (by kernel_rfl)
      exact Lin.Runs.value Lin.keeps (v := .int .u16 (xo : Int)) (by simp [execOp, go_sem, h31, h33, f3]) rfl
    · intro ρ wq hb ho hc hd
      have hC : ∀ v, ρ (.const v) = v := fun v => hc _ (by intro t e; cases e)
      have hF : ∀ f, ρ (.func f) = .func (.func f) #[] #[] := fun f => hc _ (by intro t e; cases e)
      have h8 : ρ (.tmp 8) = .pointer (some ⟨p4, 0, none⟩) := ho 8 (by kernel_rfl)
      exact Lin.Runs.load_row Lin.keeps 43 (.tmp 8) rfl p4 h8 43 ks (K6.out.below hb K6.out.lt) _ Try.underlying43 rfl (by rw [KSZ.out]; kernel_rfl) rfl
    · intro ρ wq hb ho hc hd
      have hC : ∀ v, ρ (.const v) = v := fun v => hc _ (by intro t e; cases e)
      have hF : ∀ f, ρ (.func f) = .func (.func f) #[] #[] := fun f => hc _ (by intro t e; cases e)
      have h10 : ρ (.tmp 10) = .slice A6 5 c6 := ho 10 (by kernel_rfl)
      exact Lin.Runs.value Lin.keeps (Lin.exec_move rfl) h10
    · intro ρ wq hb ho hc hd
      have hC : ∀ v, ρ (.const v) = v := fun v => hc _ (by intro t e; cases e)
      have hF : ∀ f, ρ (.func f) = .func (.func f) #[] #[] := fun f => hc _ (by intro t e; cases e)
      have h35 : ρ (.tmp 35) = .agg ks := hd 35 (by kernel_rfl)
      have h36 : ρ (.tmp 36) = .slice A6 5 c6 := hd 36 (by kernel_rfl)
      exact Lin.Runs.call Lin.keeps (f := 79) (args := #[.agg ks, .slice A6 5 c6]) (by simp [execOp, go_sem, hF, h35, h36]) ((unhide MT wq A6 c6 (IsB.st (IsB.own HO6.out) hb)).mono fun e w9 h => ⟨_, h.1, h.2, rfl⟩)
    · intro ρ wq hb ho hc hd
      have hC : ∀ v, ρ (.const v) = v := fun v => hc _ (by intro t e; cases e)
      have hF : ∀ f, ρ (.func f) = .func (.func f) #[] #[] := fun f => hc _ (by intro t e; cases e)
      have h34 : ρ (.tmp 34) = .int .u16 (xo : Int) := hd 34 (by kernel_rfl)
      have h37 : ρ (.tmp 37) = .int .u16 (m : Int) := hd 37 (by kernel_rfl)
      exact Lin.Runs.value Lin.keeps (v := .int .u16 (wd : Int)) (by simp [execOp, go_sem, h34, h37, f4]) rfl
    · intro ρ wq hb ho hc hd
      have hC : ∀ v, ρ (.const v) = v := fun v => hc _ (by intro t e; cases e)
      have hF : ∀ f, ρ (.func f) = .func (.func f) #[] #[] := fun f => hc _ (by intro t e; cases e)
      have h38 : ρ (.tmp 38) = .int .u16 (wd : Int) := hd 38 (by kernel_rfl)
      exact Lin.Runs.value Lin.keeps (Lin.exec_assign rfl) h38
    · intro vals w7 hb2 hv
      have ee : vals 11 = .int .u16 (wd : Int) := hv 11 (by kernel_rfl)
      have HW7 := Lib.hid (HB6.out.trans (hb2.mono HB6.out.size)); have HB7 := Lib.hid (HB6.out.trans (hb2.mono HB6.out.size)); have HO7 := hide (HO6.out.below hb2); have K7 := Lib.hid (K6.out.below hb2 K6.out.lt)
      have hz7 : w5.heap.size ≤ w7.heap.size := Nat.le_trans hz6 hb2.size
      clear hb2 hv G6 L6 K6 HB6 HO6
      simp only [Lin.putAll, Option.getD_some]
      rw [ee]
      clear ee
      go_simp
      generalize vals = vq
      go_wp2_with fail
      refine (put_k wd 2 2 7 (IsB.own HO7.out) (by omega) (by omega) (by omega) (by omega) rfl rfl).mono ?_
      rintro e w8 ⟨A8, c8, rfl, ho8, hb⟩
      have HO8 := hide ho8; have HB8 := Lib.hid (HB7.out.trans (hb.mono HB7.out.size)); have K8 := Lib.hid (K7.out.below hb K7.out.lt); have hz8 : w7.heap.size ≤ w8.heap.size := hb.size
      have HBS := Lib.hid hb
      clear ho8 hb K7 HB7 HO7
      go_wp2_with (with_reducible show wpList _ _ _ (⟨some 44, _, _, _, _, _⟩ :: _) _ _; go_loud (refine Go.wpList_load_row rfl 43 (.tmp 8) rfl p4 rfl 43 ks (0, 0) _ (is_raw K8.out) Try.underlying43 rfl (by rw [KSZ.out]; kernel_rfl) ?_))
      refine (unhide TT _ A8 c8 (IsB.own HO8.out)).mono ?_
      rintro e w9 ⟨v9, rfl, hb, hv9⟩
      obtain ⟨A9, c9, rfl⟩ := hv9.shape
      have HV9 := hide hv9.isb; have HO9 := hide (HO8.out.below hb); have HB9 := Lib.hid (HB8.out.trans (hb.mono HB8.out.size)); have HBT := Lib.hid (HBS.out.trans (hb.mono HBS.out.size))
      have hz9 : w7.heap.size ≤ w9.heap.size := Nat.le_trans hz8 hb.size
      clear hb hv9 HO8 HB8 HBS
      go_wp2_with (first
        | ((with_reducible show wpList _ _ _ (⟨some 47, _, _, _, _, _⟩ :: _) _ _)
           go_loud (refine app_k (.tmp 43) (.tmp 46) _ rfl rfl Try.underlying22 info8 (v := .slice A8 7 c8) (base := w7.heap.size) (xs := bdy on wd) (k := 7) (k' := 12) (l := tt) (m := 5) rfl HO9.out (bdy_len _ _) rfl HV9.out rfl (by omega) hz9 ?_)
           intro Az cz wz hoz hgz
           have hbz : Below w7.heap.size w7 wz := HBT.out.grown hgz hz9 (fun q hq => (World.ownsRow.lt HO9.out q hq).1)
           have HBZ := Lib.hid (HW7.out.trans (hbz.mono HW7.out.size))
           have HOZ := hide (IsB.own hoz)
           clear hoz hgz hbz))
      go_ret2
      exact ⟨_, rfl, HBZ.out, HOZ.out⟩
set_option maxHeartbeats 1000000 in
theorem cmake_no (key : List Int) (n : Nat) (v s : Int) (on : Nat) (h : pright v s = false ∨ pright v s = true ∧ 1099511627776 ≤ on) (w : World) :
    Calls Try.prog 31 #[.agg (rcs key n), .agg #[.int .i64 v, .int .i64 s], .int .u64 (on : Int)] w fun e w' => e = .returned (.tuple #[.slice none 0 0, .int .i64 1]) ∧ Below w.heap.size w w' := by
  have PT := hide (fun W => cright v s W)
  have HB0 := Lib.hid (show Below w.heap.size w ((w.alloc (.cells (rcs key n) 45)).alloc (.cells #[.int .i64 v, .int .i64 s] 41)) from ((Below.refl _ _).alloc (Nat.le_refl _) _).alloc (by simp) _)
  generalize (rcs key n) = rs at *
  go_enter Try.func31, Try.ntmps31
  go_wp2_with fail
  generalize (w.alloc (.cells rs 45)).alloc (.cells #[.int .i64 v, .int .i64 s] 41) = V at *
  refine (unhide PT _).mono ?_
  rintro e W ⟨rfl, hb⟩
  have HB1 := Lib.hid (HB0.out.trans (hb.mono HB0.out.size))
  clear hb HB0 PT
  rcases h with h | ⟨h, h2⟩
  · rw [h]
    clear h
    go_wp2_with fail
    go_ret2
    exact ⟨rfl, HB1.out⟩
  · rw [h]
    have g : (1099511627775 : Int) < (on : Int) := by omega
    clear h h2
    go_wp2_with fail
    go_ret2
    exact ⟨rfl, HB1.out⟩
end Go.Proofs.Ythjkjohmaemmiaa
