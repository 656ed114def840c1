/-
  SiphashSums (P10.1) answers true, for every key and any bytes: Sum is SipHash-2-4 as the reference computes it. No condition.
-/
import Derived.Test.YtkdcaipadejchaaRows
import Derived.WalkKit
import Derived.ProofKit
import Derived.OpenShut
import Derived.ShutString
import Derived.ChangeOld
import Derived.Below
import Derived.Test.YtkdcaipadejchaaK16
namespace Go.Proofs.Ytkdcaipadejchaa.siphashSums
open Go.ChangeShapes Go.WideShapes Go.ChangeAt Go.RowKit
open Go.ChangeMaps (open_string shut_string)
open Go.Proofs.Ytkdcaipadejchaa
set_option linter.unusedVariables false

theorem own : ownKnob Try.prog.godebug = none := by kernel_rfl
theorem laidOut : laidOutB Try.prog = true := by kernel_rfl

/-! ### The walk -/
set_option maxRecDepth 100000 in
set_option maxHeartbeats 4000000 in
theorem walk (key l : List Int) (cs : Array Value) (A : Option Addr) (c : Nat) (w : World) (hcs : cs = (u8s key).toArray) (hl : key.length = 16) (ho : Octets key) (hb : Bytes w w.heap.size A l) (hcp : l.length ≤ c) (hlo : Octets l) (hcm : c ≤ maxLen) :
    Calls Try.prog 9 #[.agg cs, .slice A l.length c] w fun e w' => e = .returned (.bool true) ∧ Below w.heap.size w w' := by
  have hsz : cs.size = 16 := by rw [hcs]; simp [u8s, hl]
  have HCS := Lib.hid hcs; have HKL := Lib.hid hl; have HKO := Lib.hid ho; have HB := Lib.hid hb; have HO := Lib.hid hlo; have HSZ := Lib.hid hsz
  have HI := Lib.hid (Is.new w 74 cs)
  have HBE := Lib.hid ((Below.refl w.heap.size w).alloc (Nat.le_refl _) (.cells cs 74))
  have hm : l.length ≤ 9223372036854775807 := by have := hcm; unfold maxLen at this; omega
  clear hcs hl ho hb hlo hsz
  by_cases hlong : 3000 < l.length
  · go_enter Try.func9, Try.ntmps9
    go_wp2_with fail
    refine (awake10 _).mono ?_
    rintro e w2 ⟨rfl, hb2⟩
    have HB2 := Lib.hid (HBE.out.trans (hb2.mono HBE.out.size))
    clear hb2
    go_wp2_with fail
    go_ret
    exact ⟨rfl, HB2.out⟩
  · go_enter Try.func9, Try.ntmps9
    go_wp2_with fail
    refine Lin.wp_region_lin Lin.keeps (n := 19)  (fun slotq => match slotq with | 9 => Lin.Spec.val (.agg cs) | 10 => Lin.Spec.val (.slice A l.length c) | 11 => Lin.Spec.val (.int .u64 ((sip key l : Nat) : Int)) | 12 => Lin.Spec.val (.agg cs) | 13 => Lin.Spec.val (.slice A l.length c) | 14 => Lin.Spec.val (.int .u64 ((sip key l : Nat) : Int)) | 15 => Lin.Spec.val (.bool true) | 16 => Lin.Spec.val (.bool true) | 17 => Lin.Spec.val (.bool true) | 18 => Lin.Spec.val (.bool true) | 4 => Lin.Spec.val (.bool true) | _ => Lin.Spec.any) (by kernel_rfl) rfl (by kernel_rfl) ⟨?_, ?_, ?_, ?_, ?_, ?_, ?_, ?_, ?_, ?_, ?_, trivial⟩ ?_
    · intro ρ wq hb ho hc hd
      have hC : ∀ v, ρ (.const v) = v := fun v => hc _ (by intro t e; cases e)
      have hF : ∀ f, ρ (.func f) = .func (.func f) #[] #[] := fun f => hc _ (by intro t e; cases e)
      have h2 : ρ (.tmp 2) = .pointer (some ⟨w.heap.size, 0, none⟩) := ho 2 (by kernel_rfl)
      exact Lin.Runs.load_row Lin.keeps 74 (.tmp 2) rfl w.heap.size h2 74 cs (HI.out.below hb HI.out.lt) _ Try.underlying74 rfl (by rw [HSZ.out]; kernel_rfl) rfl
    · intro ρ wq hb ho hc hd
      have hC : ∀ v, ρ (.const v) = v := fun v => hc _ (by intro t e; cases e)
      have hF : ∀ f, ρ (.func f) = .func (.func f) #[] #[] := fun f => hc _ (by intro t e; cases e)
      have h1 : ρ (.tmp 1) = .slice A l.length c := ho 1 (by kernel_rfl)
      exact Lin.Runs.value Lin.keeps (Lin.exec_move rfl) h1
    · intro ρ wq hb ho hc hd
      have hC : ∀ v, ρ (.const v) = v := fun v => hc _ (by intro t e; cases e)
      have hF : ∀ f, ρ (.func f) = .func (.func f) #[] #[] := fun f => hc _ (by intro t e; cases e)
      have h9 : ρ (.tmp 9) = .agg cs := hd 9 (by kernel_rfl)
      have h10 : ρ (.tmp 10) = .slice A l.length c := hd 10 (by kernel_rfl)
      refine Lin.Runs.call Lin.keeps (f := 44) (args := #[.agg cs, .slice A l.length c]) (by simp [execOp, go_sem, hC, hF, h9, h10]) ?_
      exact (sum_any key l cs A l.length c wq HCS.out HKL.out HKO.out (((HB.out.below HBE.out).below (hb.mono HBE.out.size)).more (Nat.le_trans HBE.out.size hb.size)) rfl hcp HO.out (by omega) hcm).mono fun e w2 ⟨he, hb2⟩ => ⟨_, he, hb2, rfl⟩
    · intro ρ wq hb ho hc hd
      have hC : ∀ v, ρ (.const v) = v := fun v => hc _ (by intro t e; cases e)
      have hF : ∀ f, ρ (.func f) = .func (.func f) #[] #[] := fun f => hc _ (by intro t e; cases e)
      have h2 : ρ (.tmp 2) = .pointer (some ⟨w.heap.size, 0, none⟩) := ho 2 (by kernel_rfl)
      exact Lin.Runs.load_row Lin.keeps 74 (.tmp 2) rfl w.heap.size h2 74 cs (HI.out.below hb HI.out.lt) _ Try.underlying74 rfl (by rw [HSZ.out]; kernel_rfl) rfl
    · intro ρ wq hb ho hc hd
      have hC : ∀ v, ρ (.const v) = v := fun v => hc _ (by intro t e; cases e)
      have hF : ∀ f, ρ (.func f) = .func (.func f) #[] #[] := fun f => hc _ (by intro t e; cases e)
      have h1 : ρ (.tmp 1) = .slice A l.length c := ho 1 (by kernel_rfl)
      exact Lin.Runs.value Lin.keeps (Lin.exec_move rfl) h1
    · intro ρ wq hb ho hc hd
      have hC : ∀ v, ρ (.const v) = v := fun v => hc _ (by intro t e; cases e)
      have hF : ∀ f, ρ (.func f) = .func (.func f) #[] #[] := fun f => hc _ (by intro t e; cases e)
      have h12 : ρ (.tmp 12) = .agg cs := hd 12 (by kernel_rfl)
      have h13 : ρ (.tmp 13) = .slice A l.length c := hd 13 (by kernel_rfl)
      refine Lin.Runs.call Lin.keeps (f := 45) (args := #[.agg cs, .slice A l.length c]) (by simp [execOp, go_sem, hC, hF, h12, h13]) ?_
      exact (rsum_any key l cs A l.length c wq HCS.out HKL.out HKO.out (((HB.out.below HBE.out).below (hb.mono HBE.out.size)).more (Nat.le_trans HBE.out.size hb.size)) rfl hcp HO.out (by omega) hcm).mono fun e w2 ⟨he, hb2⟩ => ⟨_, he, hb2, rfl⟩
    · intro ρ wq hb ho hc hd
      have hC : ∀ v, ρ (.const v) = v := fun v => hc _ (by intro t e; cases e)
      have hF : ∀ f, ρ (.func f) = .func (.func f) #[] #[] := fun f => hc _ (by intro t e; cases e)
      have h11 : ρ (.tmp 11) = .int .u64 ((sip key l : Nat) : Int) := hd 11 (by kernel_rfl)
      have h14 : ρ (.tmp 14) = .int .u64 ((sip key l : Nat) : Int) := hd 14 (by kernel_rfl)
      exact Lin.Runs.value Lin.keeps (v := .bool true) (by simp [execOp, go_sem, hC, hF, h11, h14]) rfl
    · intro ρ wq hb ho hc hd
      have hC : ∀ v, ρ (.const v) = v := fun v => hc _ (by intro t e; cases e)
      have hF : ∀ f, ρ (.func f) = .func (.func f) #[] #[] := fun f => hc _ (by intro t e; cases e)
      have h15 : ρ (.tmp 15) = .bool true := hd 15 (by kernel_rfl)
      exact Lin.Runs.value Lin.keeps (Lin.exec_move rfl) h15
    · intro ρ wq hb ho hc hd
      have hC : ∀ v, ρ (.const v) = v := fun v => hc _ (by intro t e; cases e)
      have hF : ∀ f, ρ (.func f) = .func (.func f) #[] #[] := fun f => hc _ (by intro t e; cases e)
      intro t ht; cases (show some 16 = some t from ht)
      refine ⟨fun _ => ?_, fun hn => absurd (hd 16 (by kernel_rfl)) hn⟩
      refine Lin.Runs.call Lin.keeps (f := 43) (args := #[]) (by simp [execOp, go_sem, hC, hF]) ?_
      exact (awake10 wq).mono fun e w2 ⟨he, hb2⟩ => ⟨_, he, hb2, rfl⟩
    · intro ρ wq hb ho hc hd
      have hC : ∀ v, ρ (.const v) = v := fun v => hc _ (by intro t e; cases e)
      have hF : ∀ f, ρ (.func f) = .func (.func f) #[] #[] := fun f => hc _ (by intro t e; cases e)
      have h16 : ρ (.tmp 16) = .bool true := hd 16 (by kernel_rfl)
      have h17 : ρ (.tmp 17) = .bool true := hd 17 (by kernel_rfl)
      exact Lin.Runs.value Lin.keeps (v := .bool true) (by simp [execOp, go_sem, hC, hF, h16, h17]) rfl
    · intro ρ wq hb ho hc hd
      have hC : ∀ v, ρ (.const v) = v := fun v => hc _ (by intro t e; cases e)
      have hF : ∀ f, ρ (.func f) = .func (.func f) #[] #[] := fun f => hc _ (by intro t e; cases e)
      have h18 : ρ (.tmp 18) = .bool true := hd 18 (by kernel_rfl)
      exact Lin.Runs.value Lin.keeps (Lin.exec_assign rfl) h18
    · intro vals w2 hb2 hv
      have e4 : vals 4 = .bool true := hv 4 (by kernel_rfl)
      simp only [Lin.putAll, Option.getD_some]
      rw [e4]
      have HB2 := Lib.hid (HBE.out.trans (hb2.mono HBE.out.size))
      clear hb2 hv
      go_simp
      generalize vals = vv
      go_wp2_with fail
      go_ret
      exact ⟨rfl, HB2.out⟩

/-! ### The step from the walk to the row -/
set_option maxRecDepth 100000 in
theorem lifted (os : Os) (started : os.Started) (H : Type) (enc : TypeId × Value → H) :
    ReturnsInHanded {} Try.checked os 9 .any (Rows.siphashSumsSpec.pre6 enc Try.prog Try.f9 Rows.siphashSumsRow.domain false) (Rows.siphashSumsSpec.post enc Try.prog Try.f9 false true false false) := by
  refine returnsInHanded_of_change (C := Try.checked) own started (by kernel_rfl) Try.func9
    (ChangeSpec.witness6 (enc := enc) (C := Try.checked) false ⟨#[], #[.agg #[.int .u8 0, .int .u8 0, .int .u8 0, .int .u8 0, .int .u8 0, .int .u8 0, .int .u8 0, .int .u8 0, .int .u8 0, .int .u8 0, .int .u8 0, .int .u8 0, .int .u8 0, .int .u8 0, .int .u8 0, .int .u8 0], .slice none 0 0], []⟩ 8 (by kernel_rfl) (by kernel_rfl) (by kernel_rfl) (by kernel_rfl)) ?_
  intro W base args ds gs before hval0 hW hcnd _
  have hval : ∀ (j : Nat) t v, Try.f9.params[j]? = some t → args[j]? = some v → Value.okWide Try.prog W .any base t v := hval0
  have hW' := hW
  obtain ⟨p, q, hA0, hV, rfl, hfz, hnd⟩ := hW
  have hA : DataW.TrodAll enc Try.prog W 0 (fun _ => true) true Try.f9.params.toList args.toList ds p := hA0
  rw [Try.params9] at hA hval
  obtain ⟨v0, vs0, d0, ds0, p0, q0, hargs, rfl, rfl, h0, r0⟩ := trodAll_cons hA
  obtain ⟨v1, vs1, d1, ds1, p1, q1, rfl, rfl, rfl, h1, r1⟩ := trodAll_cons r0
  obtain ⟨rfl, rfl, rfl⟩ := trodAll_nil r1
  obtain rfl : args = #[v0, v1] := by cases args; simp_all
  obtain ⟨rfl, rfl⟩ := trodVars_none hV
  have k0 := h0
  have lt0 : ∀ x ∈ p0, x.block < W.heap.size := by obtain ⟨m, hm⟩ := k0; exact DataW.trod_lt m _ _ _ hm
  have ok0 := hval 0 74 v0 rfl rfl
  have k1 := h1
  have lt1 : ∀ x ∈ p1, x.block < W.heap.size := by obtain ⟨m, hm⟩ := k1; exact DataW.trod_lt m _ _ _ hm
  have ok1 := hval 1 22 v1 rfl rfl
  clear hA0 hval0
  obtain ⟨key, rfl, hkl, hko⟩ := open_key Try.underlying74 Try.underlying5 (by kernel_rfl) (by kernel_rfl) ok0 h0
  obtain ⟨A, na, c, rfl⟩ := okWide_slice Try.underlying22 ok1
  obtain ⟨b, rfl, ob, ⟨_, _, hsl, _, hby, hbc, hbm, _⟩, _⟩ := open_isb (e := 5) Try.underlying22 Try.underlying5 (by kernel_rfl) h1
  injection hsl with e1 e2 e3
  subst e1; subst e3
  refine (walk key b (u8s key).toArray A c W rfl hkl hko hby hbc ob hbm).mono fun e W' ⟨he, bel⟩ => ?_
  subst he
  exact ⟨_, rfl, _, _, _, [], _, [], hW', trodAll_mk1 (shut_bool Try.underlying4 _), (trodAll_cons_mk (Below.trod laidOut (by kernel_rfl) (of_decide_eq_true (by kernel_rfl)) k0 bel lt0) (trodAll_cons_mk (Below.trod laidOut (by kernel_rfl) (of_decide_eq_true (by kernel_rfl)) k1 bel lt1) trodAll_mk0)), rfl, bel.frame _, fun h => by cases h⟩

theorem over : Rows.siphashSumsRow.holds Try.pinned (OpenSpec.ofChange Rows.siphashSumsSpec) :=
  OpenClaim.holds_of_wide 9 Try.f9 rfl rfl rfl rfl rfl rfl rfl ⟨rfl, rfl, rfl, rfl, rfl⟩ rfl rfl rfl rfl rfl (by kernel_rfl) Try.func9 (by kernel_rfl)
    (of_decide_eq_true (by kernel_rfl)) (by unfold Func.isWrapper; first | (rw [if_pos (by decide +kernel)]; kernel_rfl) | (rw [if_neg (by decide +kernel)]; exact ⟨rfl, rfl⟩))
    (fun os started H enc _ => lifted os started H enc)

theorem proved : Rows.SiphashSumsSaid := over
#print axioms proved
end Go.Proofs.Ytkdcaipadejchaa.siphashSums
