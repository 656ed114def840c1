/-
  SiphashKeys (P10.3) answers true, for every pair of halves, every key and every use: Of and Derive. No condition.
-/
import Derived.Test.YtkdcaipadejchaaRows
import Derived.WalkKit
import Derived.ProofKit
import Derived.OpenShut
import Derived.ShutString
import Derived.ChangeOld
import Derived.Below
import Derived.Test.YtkdcaipadejchaaKy5
namespace Go.Proofs.Ytkdcaipadejchaa.siphashKeys
open Go.ChangeShapes Go.WideShapes Go.ChangeAt Go.RowKit
open Go.ChangeMaps (open_string shut_string)
open Go.Proofs.Ytkdcaipadejchaa
set_option linter.unusedVariables false

theorem own : ownKnob Try.prog.godebug = none := by kernel_rfl
theorem laidOut : laidOutB Try.prog = true := by kernel_rfl

/-! ### The walk -/
set_option maxRecDepth 100000 in
set_option maxHeartbeats 4000000 in
theorem walk (h l n : Nat) (key : List Int) (cs : Array Value) (w : World) (hh : h < 18446744073709551616) (hl : l < 18446744073709551616) (hn : n < 18446744073709551616) (hcs : cs = (u8s key).toArray) (hkl : key.length = 16) (hko : Octets key) :
    Calls Try.prog 10 #[.int .u64 (h : Int), .int .u64 (l : Int), .agg cs, .int .u64 (n : Int)] w fun e w' => e = .returned (.bool true) ∧ Below w.heap.size w w' := by
  have hsz : cs.size = 16 := by rw [hcs]; simp [u8s, hkl]
  have HCS := Lib.hid hcs; have HKL := Lib.hid hkl; have HKO := Lib.hid hko; have HSZ := Lib.hid hsz
  have HI := Lib.hid (Is.new w 74 cs)
  have HBE := Lib.hid ((Below.refl w.heap.size w).alloc (Nat.le_refl _) (.cells cs 74))
  have OF1 := hide (fun W => of_any h l W hh hl); have OF2 := hide (fun W => rof_any h l W hh hl); have EQ1 := hide (fun W => key_eql (kof h l) (kof_len _ _) (kof_ok _ _) W)
  have DE1 := hide (fun W => derive_any key cs n W hcs hkl hko hn); have DE2 := hide (fun W => rderive_any key cs n W hcs hkl hko hn); have EQ2 := hide (fun W => key_eql (kof (sip key ([1] ++ be n 8)) (sip key ([2] ++ be n 8))) (kof_len _ _) (kof_ok _ _) W)
  generalize (u8s (kof h l)).toArray = k1 at *
  generalize (u8s (kof (sip key ([1] ++ be n 8)) (sip key ([2] ++ be n 8)))).toArray = k2 at *
  clear hcs hkl hko hsz HCS HKL HKO
  go_enter Try.func10, Try.ntmps10
  go_wp2_with fail
  refine Lin.wp_region_lin Lin.keeps (n := 28)  (fun slotq => match slotq with | 9 => Lin.Spec.val (.int .u64 (h : Int)) | 10 => Lin.Spec.val (.int .u64 (l : Int)) | 11 => Lin.Spec.val (.agg k1) | 12 => Lin.Spec.val (.int .u64 (h : Int)) | 13 => Lin.Spec.val (.int .u64 (l : Int)) | 14 => Lin.Spec.val (.agg k1) | 15 => Lin.Spec.val (.bool true) | 16 => Lin.Spec.val (.bool true) | 17 => Lin.Spec.val (.agg cs) | 18 => Lin.Spec.val (.int .u64 (n : Int)) | 19 => Lin.Spec.val (.agg k2) | 20 => Lin.Spec.val (.agg cs) | 21 => Lin.Spec.val (.int .u64 (n : Int)) | 22 => Lin.Spec.val (.agg k2) | 23 => Lin.Spec.val (.bool true) | 24 => Lin.Spec.val (.bool true) | 25 => Lin.Spec.val (.bool true) | 26 => Lin.Spec.val (.bool true) | 27 => Lin.Spec.val (.bool true) | 8 => Lin.Spec.val (.bool true) | _ => Lin.Spec.any) (by kernel_rfl) rfl (by kernel_rfl) ⟨?_, ?_, ?_, ?_, ?_, ?_, ?_, ?_, ?_, ?_, ?_, ?_, ?_, ?_, ?_, ?_, ?_, ?_, ?_, ?_, trivial⟩ ?_
  · intro ρ wq hb ho hc hd
    have hC : ∀ v, ρ (.const v) = v := fun v => hc _ (by intro t e; cases e)
    have hF : ∀ f, ρ (.func f) = .func (.func f) #[] #[] := fun f => hc _ (by intro t e; cases e)
    have h0 : ρ (.tmp 0) = .int .u64 (h : Int) := ho 0 (by kernel_rfl)
    exact Lin.Runs.value Lin.keeps (Lin.exec_move rfl) h0
  · intro ρ wq hb ho hc hd
    have hC : ∀ v, ρ (.const v) = v := fun v => hc _ (by intro t e; cases e)
    have hF : ∀ f, ρ (.func f) = .func (.func f) #[] #[] := fun f => hc _ (by intro t e; cases e)
    have h1 : ρ (.tmp 1) = .int .u64 (l : Int) := ho 1 (by kernel_rfl)
    exact Lin.Runs.value Lin.keeps (Lin.exec_move rfl) h1
  · intro ρ wq hb ho hc hd
    have hC : ∀ v, ρ (.const v) = v := fun v => hc _ (by intro t e; cases e)
    have hF : ∀ f, ρ (.func f) = .func (.func f) #[] #[] := fun f => hc _ (by intro t e; cases e)
    have h9 : ρ (.tmp 9) = .int .u64 (h : Int) := hd 9 (by kernel_rfl)
    have h10 : ρ (.tmp 10) = .int .u64 (l : Int) := hd 10 (by kernel_rfl)
    refine Lin.Runs.call Lin.keeps (f := 46) (args := #[.int .u64 (h : Int), .int .u64 (l : Int)]) (by simp [execOp, go_sem, hC, hF, h9, h10]) ?_
    exact (unhide OF1 wq).mono fun e w2 ⟨he, hb2⟩ => ⟨_, he, hb2, rfl⟩
  · intro ρ wq hb ho hc hd
    have hC : ∀ v, ρ (.const v) = v := fun v => hc _ (by intro t e; cases e)
    have hF : ∀ f, ρ (.func f) = .func (.func f) #[] #[] := fun f => hc _ (by intro t e; cases e)
    have h0 : ρ (.tmp 0) = .int .u64 (h : Int) := ho 0 (by kernel_rfl)
    exact Lin.Runs.value Lin.keeps (Lin.exec_move rfl) h0
  · intro ρ wq hb ho hc hd
    have hC : ∀ v, ρ (.const v) = v := fun v => hc _ (by intro t e; cases e)
    have hF : ∀ f, ρ (.func f) = .func (.func f) #[] #[] := fun f => hc _ (by intro t e; cases e)
    have h1 : ρ (.tmp 1) = .int .u64 (l : Int) := ho 1 (by kernel_rfl)
    exact Lin.Runs.value Lin.keeps (Lin.exec_move rfl) h1
  · intro ρ wq hb ho hc hd
    have hC : ∀ v, ρ (.const v) = v := fun v => hc _ (by intro t e; cases e)
    have hF : ∀ f, ρ (.func f) = .func (.func f) #[] #[] := fun f => hc _ (by intro t e; cases e)
    have h12 : ρ (.tmp 12) = .int .u64 (h : Int) := hd 12 (by kernel_rfl)
    have h13 : ρ (.tmp 13) = .int .u64 (l : Int) := hd 13 (by kernel_rfl)
    refine Lin.Runs.call Lin.keeps (f := 47) (args := #[.int .u64 (h : Int), .int .u64 (l : Int)]) (by simp [execOp, go_sem, hC, hF, h12, h13]) ?_
    exact (unhide OF2 wq).mono fun e w2 ⟨he, hb2⟩ => ⟨_, he, hb2, rfl⟩
  · intro ρ wq hb ho hc hd
    have hC : ∀ v, ρ (.const v) = v := fun v => hc _ (by intro t e; cases e)
    have hF : ∀ f, ρ (.func f) = .func (.func f) #[] #[] := fun f => hc _ (by intro t e; cases e)
    have h11 : ρ (.tmp 11) = .agg k1 := hd 11 (by kernel_rfl)
    have h14 : ρ (.tmp 14) = .agg k1 := hd 14 (by kernel_rfl)
    exact Lin.Runs.value Lin.keeps (v := .bool true) (Lin.exec_keyeq rfl h11 h14 (unhide EQ1 wq)) rfl
  · intro ρ wq hb ho hc hd
    have hC : ∀ v, ρ (.const v) = v := fun v => hc _ (by intro t e; cases e)
    have hF : ∀ f, ρ (.func f) = .func (.func f) #[] #[] := fun f => hc _ (by intro t e; cases e)
    have h15 : ρ (.tmp 15) = .bool true := hd 15 (by kernel_rfl)
    exact Lin.Runs.value Lin.keeps (Lin.exec_move rfl) h15
  · intro ρ wq hb ho hc hd
    have hC : ∀ v, ρ (.const v) = v := fun v => hc _ (by intro t e; cases e)
    have hF : ∀ f, ρ (.func f) = .func (.func f) #[] #[] := fun f => hc _ (by intro t e; cases e)
    intro t ht; cases (show some 16 = some t from ht)
    refine ⟨fun _ => ?_, fun hn => absurd (hd 16 (by kernel_rfl)) hn⟩
    have h6 : ρ (.tmp 6) = .pointer (some ⟨w.heap.size, 0, none⟩) := ho 6 (by kernel_rfl)
    exact Lin.Runs.load_row Lin.keeps 74 (.tmp 6) rfl w.heap.size h6 74 cs (HI.out.below hb HI.out.lt) _ Try.underlying74 rfl (by rw [HSZ.out]; kernel_rfl) rfl
  · intro ρ wq hb ho hc hd
    have hC : ∀ v, ρ (.const v) = v := fun v => hc _ (by intro t e; cases e)
    have hF : ∀ f, ρ (.func f) = .func (.func f) #[] #[] := fun f => hc _ (by intro t e; cases e)
    intro t ht; cases (show some 16 = some t from ht)
    refine ⟨fun _ => ?_, fun hn => absurd (hd 16 (by kernel_rfl)) hn⟩
    have h3 : ρ (.tmp 3) = .int .u64 (n : Int) := ho 3 (by kernel_rfl)
    exact Lin.Runs.value Lin.keeps (Lin.exec_move rfl) h3
  · intro ρ wq hb ho hc hd
    have hC : ∀ v, ρ (.const v) = v := fun v => hc _ (by intro t e; cases e)
    have hF : ∀ f, ρ (.func f) = .func (.func f) #[] #[] := fun f => hc _ (by intro t e; cases e)
    intro t ht; cases (show some 16 = some t from ht)
    refine ⟨fun _ => ?_, fun hn => absurd (hd 16 (by kernel_rfl)) hn⟩
    have h17 : ρ (.tmp 17) = .agg cs := hd 17 (by kernel_rfl)
    have h18 : ρ (.tmp 18) = .int .u64 (n : Int) := hd 18 (by kernel_rfl)
    refine Lin.Runs.call Lin.keeps (f := 48) (args := #[.agg cs, .int .u64 (n : Int)]) (by simp [execOp, go_sem, hC, hF, h17, h18]) ?_
    exact (unhide DE1 wq).mono fun e w2 ⟨he, hb2⟩ => ⟨_, he, hb2, rfl⟩
  · intro ρ wq hb ho hc hd
    have hC : ∀ v, ρ (.const v) = v := fun v => hc _ (by intro t e; cases e)
    have hF : ∀ f, ρ (.func f) = .func (.func f) #[] #[] := fun f => hc _ (by intro t e; cases e)
    intro t ht; cases (show some 16 = some t from ht)
    refine ⟨fun _ => ?_, fun hn => absurd (hd 16 (by kernel_rfl)) hn⟩
    have h6 : ρ (.tmp 6) = .pointer (some ⟨w.heap.size, 0, none⟩) := ho 6 (by kernel_rfl)
    exact Lin.Runs.load_row Lin.keeps 74 (.tmp 6) rfl w.heap.size h6 74 cs (HI.out.below hb HI.out.lt) _ Try.underlying74 rfl (by rw [HSZ.out]; kernel_rfl) rfl
  · intro ρ wq hb ho hc hd
    have hC : ∀ v, ρ (.const v) = v := fun v => hc _ (by intro t e; cases e)
    have hF : ∀ f, ρ (.func f) = .func (.func f) #[] #[] := fun f => hc _ (by intro t e; cases e)
    intro t ht; cases (show some 16 = some t from ht)
    refine ⟨fun _ => ?_, fun hn => absurd (hd 16 (by kernel_rfl)) hn⟩
    have h3 : ρ (.tmp 3) = .int .u64 (n : Int) := ho 3 (by kernel_rfl)
    exact Lin.Runs.value Lin.keeps (Lin.exec_move rfl) h3
  · intro ρ wq hb ho hc hd
    have hC : ∀ v, ρ (.const v) = v := fun v => hc _ (by intro t e; cases e)
    have hF : ∀ f, ρ (.func f) = .func (.func f) #[] #[] := fun f => hc _ (by intro t e; cases e)
    intro t ht; cases (show some 16 = some t from ht)
    refine ⟨fun _ => ?_, fun hn => absurd (hd 16 (by kernel_rfl)) hn⟩
    have h20 : ρ (.tmp 20) = .agg cs := hd 20 (by kernel_rfl)
    have h21 : ρ (.tmp 21) = .int .u64 (n : Int) := hd 21 (by kernel_rfl)
    refine Lin.Runs.call Lin.keeps (f := 49) (args := #[.agg cs, .int .u64 (n : Int)]) (by simp [execOp, go_sem, hC, hF, h20, h21]) ?_
    exact (unhide DE2 wq).mono fun e w2 ⟨he, hb2⟩ => ⟨_, he, hb2, rfl⟩
  · intro ρ wq hb ho hc hd
    have hC : ∀ v, ρ (.const v) = v := fun v => hc _ (by intro t e; cases e)
    have hF : ∀ f, ρ (.func f) = .func (.func f) #[] #[] := fun f => hc _ (by intro t e; cases e)
    intro t ht; cases (show some 16 = some t from ht)
    refine ⟨fun _ => ?_, fun hn => absurd (hd 16 (by kernel_rfl)) hn⟩
    have h19 : ρ (.tmp 19) = .agg k2 := hd 19 (by kernel_rfl)
    have h22 : ρ (.tmp 22) = .agg k2 := hd 22 (by kernel_rfl)
    exact Lin.Runs.value Lin.keeps (v := .bool true) (Lin.exec_keyeq rfl h19 h22 (unhide EQ2 wq)) rfl
  · intro ρ wq hb ho hc hd
    have hC : ∀ v, ρ (.const v) = v := fun v => hc _ (by intro t e; cases e)
    have hF : ∀ f, ρ (.func f) = .func (.func f) #[] #[] := fun f => hc _ (by intro t e; cases e)
    have h16 : ρ (.tmp 16) = .bool true := hd 16 (by kernel_rfl)
    have h23 : ρ (.tmp 23) = .bool true := hd 23 (by kernel_rfl)
    exact Lin.Runs.value Lin.keeps (v := .bool true) (by simp [execOp, go_sem, hC, hF, h16, h23]) rfl
  · intro ρ wq hb ho hc hd
    have hC : ∀ v, ρ (.const v) = v := fun v => hc _ (by intro t e; cases e)
    have hF : ∀ f, ρ (.func f) = .func (.func f) #[] #[] := fun f => hc _ (by intro t e; cases e)
    have h24 : ρ (.tmp 24) = .bool true := hd 24 (by kernel_rfl)
    exact Lin.Runs.value Lin.keeps (Lin.exec_move rfl) h24
  · intro ρ wq hb ho hc hd
    have hC : ∀ v, ρ (.const v) = v := fun v => hc _ (by intro t e; cases e)
    have hF : ∀ f, ρ (.func f) = .func (.func f) #[] #[] := fun f => hc _ (by intro t e; cases e)
    intro t ht; cases (show some 25 = some t from ht)
    refine ⟨fun _ => ?_, fun hn => absurd (hd 25 (by kernel_rfl)) hn⟩
    refine Lin.Runs.call Lin.keeps (f := 43) (args := #[]) (by simp [execOp, go_sem, hC, hF]) ?_
    exact (awake10 wq).mono fun e w2 ⟨he, hb2⟩ => ⟨_, he, hb2, rfl⟩
  · intro ρ wq hb ho hc hd
    have hC : ∀ v, ρ (.const v) = v := fun v => hc _ (by intro t e; cases e)
    have hF : ∀ f, ρ (.func f) = .func (.func f) #[] #[] := fun f => hc _ (by intro t e; cases e)
    have h25 : ρ (.tmp 25) = .bool true := hd 25 (by kernel_rfl)
    have h26 : ρ (.tmp 26) = .bool true := hd 26 (by kernel_rfl)
    exact Lin.Runs.value Lin.keeps (v := .bool true) (by simp [execOp, go_sem, hC, hF, h25, h26]) rfl
  · intro ρ wq hb ho hc hd
    have hC : ∀ v, ρ (.const v) = v := fun v => hc _ (by intro t e; cases e)
    have hF : ∀ f, ρ (.func f) = .func (.func f) #[] #[] := fun f => hc _ (by intro t e; cases e)
    have h27 : ρ (.tmp 27) = .bool true := hd 27 (by kernel_rfl)
    exact Lin.Runs.value Lin.keeps (Lin.exec_assign rfl) h27
  · intro vals w2 hb2 hv
    have e8 : vals 8 = .bool true := hv 8 (by kernel_rfl)
    simp only [Lin.putAll, Option.getD_some]
    rw [e8]
    have HB2 := Lib.hid (HBE.out.trans (hb2.mono HBE.out.size))
    clear hb2 hv
    go_simp
    generalize vals = vv
    go_wp2_with fail
    go_ret
    exact ⟨rfl, HB2.out⟩
theorem walk_int (h l n : Int) (key : List Int) (cs : Array Value) (w : World) (h0 : 0 ≤ h) (h1 : h < 18446744073709551616) (l0 : 0 ≤ l) (l1 : l < 18446744073709551616) (n0 : 0 ≤ n) (n1 : n < 18446744073709551616) (hcs : cs = (u8s key).toArray) (hkl : key.length = 16) (hko : Octets key) :
    Calls Try.prog 10 #[.int .u64 h, .int .u64 l, .agg cs, .int .u64 n] w fun e w' => e = .returned (.bool true) ∧ Below w.heap.size w w' := by
  obtain ⟨h, rfl⟩ := Int.eq_ofNat_of_zero_le h0
  obtain ⟨l, rfl⟩ := Int.eq_ofNat_of_zero_le l0
  obtain ⟨n, rfl⟩ := Int.eq_ofNat_of_zero_le n0
  exact walk h l n key cs w (by omega) (by omega) (by omega) hcs hkl hko

/-! ### The step from the walk to the row -/
set_option maxRecDepth 100000 in
theorem lifted (os : Os) (started : os.Started) (H : Type) (enc : TypeId × Value → H) :
    ReturnsInHanded {} Try.checked os 10 .any (Rows.siphashKeysSpec.pre6 enc Try.prog Try.f10 Rows.siphashKeysRow.domain false) (Rows.siphashKeysSpec.post enc Try.prog Try.f10 false true false false) := by
  refine returnsInHanded_of_change (C := Try.checked) own started (by kernel_rfl) Try.func10
    (ChangeSpec.witness6 (enc := enc) (C := Try.checked) false ⟨#[], #[.int .u64 0, .int .u64 0, .agg #[.int .u8 0, .int .u8 0, .int .u8 0, .int .u8 0, .int .u8 0, .int .u8 0, .int .u8 0, .int .u8 0, .int .u8 0, .int .u8 0, .int .u8 0, .int .u8 0, .int .u8 0, .int .u8 0, .int .u8 0, .int .u8 0], .int .u64 0], []⟩ 8 (by kernel_rfl) (by kernel_rfl) (by kernel_rfl) (by kernel_rfl)) ?_
  intro W base args ds gs before hval0 hW hcnd _
  have hval : ∀ (j : Nat) t v, Try.f10.params[j]? = some t → args[j]? = some v → Value.okWide Try.prog W .any base t v := hval0
  have hW' := hW
  obtain ⟨p, q, hA0, hV, rfl, hfz, hnd⟩ := hW
  have hA : DataW.TrodAll enc Try.prog W 0 (fun _ => true) true Try.f10.params.toList args.toList ds p := hA0
  rw [Try.params10] at hA hval
  obtain ⟨v0, vs0, d0, ds0, p0, q0, hargs, rfl, rfl, h0, r0⟩ := trodAll_cons hA
  obtain ⟨v1, vs1, d1, ds1, p1, q1, rfl, rfl, rfl, h1, r1⟩ := trodAll_cons r0
  obtain ⟨v2, vs2, d2, ds2, p2, q2, rfl, rfl, rfl, h2, r2⟩ := trodAll_cons r1
  obtain ⟨v3, vs3, d3, ds3, p3, q3, rfl, rfl, rfl, h3, r3⟩ := trodAll_cons r2
  obtain ⟨rfl, rfl, rfl⟩ := trodAll_nil r3
  obtain rfl : args = #[v0, v1, v2, v3] := by cases args; simp_all
  obtain ⟨rfl, rfl⟩ := trodVars_none hV
  have k0 := h0
  have lt0 : ∀ x ∈ p0, x.block < W.heap.size := by obtain ⟨m, hm⟩ := k0; exact DataW.trod_lt m _ _ _ hm
  have ok0 := hval 0 23 v0 rfl rfl
  have k1 := h1
  have lt1 : ∀ x ∈ p1, x.block < W.heap.size := by obtain ⟨m, hm⟩ := k1; exact DataW.trod_lt m _ _ _ hm
  have ok1 := hval 1 23 v1 rfl rfl
  have k2 := h2
  have lt2 : ∀ x ∈ p2, x.block < W.heap.size := by obtain ⟨m, hm⟩ := k2; exact DataW.trod_lt m _ _ _ hm
  have ok2 := hval 2 74 v2 rfl rfl
  have k3 := h3
  have lt3 : ∀ x ∈ p3, x.block < W.heap.size := by obtain ⟨m, hm⟩ := k3; exact DataW.trod_lt m _ _ _ hm
  have ok3 := hval 3 23 v3 rfl rfl
  clear hA0 hval0
  obtain ⟨a, rfl, rfl, rfl, w0⟩ := open_int Try.underlying23 ok0 h0
  obtain ⟨b, rfl, rfl, rfl, w1⟩ := open_int Try.underlying23 ok1 h1
  obtain ⟨key, rfl, hkl, hko⟩ := open_key Try.underlying74 Try.underlying5 (by kernel_rfl) (by kernel_rfl) ok2 h2
  obtain ⟨c, rfl, rfl, rfl, w3⟩ := open_int Try.underlying23 ok3 h3
  have g0 := bounds_u64 w0
  have g1 := bounds_u64 w1
  have g3 := bounds_u64 w3
  refine (walk_int a b c key (u8s key).toArray W g0.1 (by omega) g1.1 (by omega) g3.1 (by omega) rfl hkl hko).mono fun e W' ⟨he, bel⟩ => ?_
  subst he
  exact ⟨_, rfl, _, _, _, [], _, [], hW', trodAll_mk1 (shut_bool Try.underlying4 _), (trodAll_cons_mk (Below.trod laidOut (by kernel_rfl) (of_decide_eq_true (by kernel_rfl)) k0 bel lt0) (trodAll_cons_mk (Below.trod laidOut (by kernel_rfl) (of_decide_eq_true (by kernel_rfl)) k1 bel lt1) (trodAll_cons_mk (Below.trod laidOut (by kernel_rfl) (of_decide_eq_true (by kernel_rfl)) k2 bel lt2) (trodAll_cons_mk (Below.trod laidOut (by kernel_rfl) (of_decide_eq_true (by kernel_rfl)) k3 bel lt3) trodAll_mk0)))), rfl, bel.frame _, fun h => by cases h⟩

theorem over : Rows.siphashKeysRow.holds Try.pinned (OpenSpec.ofChange Rows.siphashKeysSpec) :=
  OpenClaim.holds_of_wide 10 Try.f10 rfl rfl rfl rfl rfl rfl rfl ⟨rfl, rfl, rfl, rfl, rfl⟩ rfl rfl rfl rfl rfl (by kernel_rfl) Try.func10 (by kernel_rfl)
    (of_decide_eq_true (by kernel_rfl)) (by unfold Func.isWrapper; first | (rw [if_pos (by decide +kernel)]; kernel_rfl) | (rw [if_neg (by decide +kernel)]; exact ⟨rfl, rfl⟩))
    (fun os started H enc _ => lifted os started H enc)

theorem proved : Rows.SiphashKeysSaid := over
#print axioms proved
end Go.Proofs.Ytkdcaipadejchaa.siphashKeys
