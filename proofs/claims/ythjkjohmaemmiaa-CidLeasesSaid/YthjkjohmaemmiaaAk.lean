/-
  Addresses and the keys of flows in bytes: package addr and its reference. Helper of the claims of layers 3, 12 and 41. No condition.
-/
import Derived.Test.YthjkjohmaemmiaaI6a
namespace Go.Proofs.Ythjkjohmaemmiaa
open Go.ChangeShapes Go.WideShapes Go.ChangeAt Go.RowKit
set_option linter.unusedSimpArgs false
set_option linter.unusedVariables false
set_option maxRecDepth 100000
theorem OwnP.lowk {B B' : Nat} {l : List Int} {n : Nat} {v : Value} {w : World} (h : OwnP B l n v w) (hB : B' ≤ B) : OwnP B' l n v w := by
  obtain ⟨A, c, e, h1⟩ := h; exact ⟨A, c, e, h1.lower hB⟩
/-- An address in bytes, and how many they are. -/
def ab (s : Bool) (hi lo : Nat) : List Int := if s = true then be hi 8 ++ be lo 8 else be lo 4
def abn (s : Bool) : Nat := if s = true then 16 else 4
theorem ab_len (s : Bool) (hi lo : Nat) : (ab s hi lo).length = abn s := by cases s <;> simp [ab, abn, be_len]
theorem abn_le (s : Bool) : abn s ≤ 16 := by cases s <;> simp [abn]
theorem ab_ok (s : Bool) (hi lo : Nat) : Octets (ab s hi lo) := by
  cases s
  · exact be_ok _ _
  · exact Octets.app (be_ok _ _) (be_ok _ _)
set_option maxHeartbeats 400000 in
theorem abytes4 (hi lo : Nat) (w : World) (hl : lo < 18446744073709551616) : Calls Try.prog 105 #[.agg #[.bool false, .int .u64 (hi : Int), .int .u64 (lo : Int)]] w fun e w' => ∃ v, e = .returned v ∧ Below w.heap.size w w' ∧ OwnP w.heap.size (be lo 4) 4 v w' := by
  have HB0 := Lib.hid (show Below w.heap.size w (w.alloc (.cells #[.bool false, .int .u64 (hi : Int), .int .u64 (lo : Int)] 25)) from (Below.refl _ _).alloc (Nat.le_refl _) _)
  go_enter Try.func105, Try.ntmps105
  go_wp2_with fail
  generalize w.alloc (.cells #[.bool false, .int .u64 (hi : Int), .int .u64 (lo : Int)] 25) = W at *
  refine (put_nil lo 4 4 _ hl (by omega) (by omega) rfl).mono ?_
  rintro e w1 ⟨A1, c1, rfl, ho, hb⟩
  have HO := hide (ho.lower HB0.out.size); have HB := Lib.hid (HB0.out.trans (hb.mono HB0.out.size))
  clear ho hb
  go_wp2_with fail
  go_ret
  exact ⟨_, rfl, HB.out, A1, c1, rfl, HO.out⟩
set_option maxHeartbeats 400000 in
theorem rabytes4 (hi lo : Nat) (w : World) (hl : lo < 18446744073709551616) : Calls Try.prog 67 #[.agg #[.bool false, .int .u64 (hi : Int), .int .u64 (lo : Int)]] w fun e w' => ∃ v, e = .returned v ∧ Below w.heap.size w w' ∧ OwnP w.heap.size (be lo 4) 4 v w' := by
  have HB0 := Lib.hid (show Below w.heap.size w (w.alloc (.cells #[.bool false, .int .u64 (hi : Int), .int .u64 (lo : Int)] 25)) from (Below.refl _ _).alloc (Nat.le_refl _) _)
  go_enter Try.func67, Try.ntmps67
  go_wp2_with fail
  generalize w.alloc (.cells #[.bool false, .int .u64 (hi : Int), .int .u64 (lo : Int)] 25) = W at *
  refine (rb_6 lo 4 _ (by omega) hl).mono ?_
  rintro e w1 ⟨A1, c1, rfl, ho, hb⟩
  have HO := hide (ho.lower HB0.out.size); have HB := Lib.hid (HB0.out.trans (hb.mono HB0.out.size))
  clear ho hb
  go_wp2_with fail
  go_ret
  exact ⟨_, rfl, HB.out, A1, c1, rfl, HO.out⟩
theorem abytes_any (s : Bool) (hi lo : Nat) (w : World) (hh : hi < 18446744073709551616) (hl : lo < 18446744073709551616) : Calls Try.prog 105 #[.agg #[.bool s, .int .u64 (hi : Int), .int .u64 (lo : Int)]] w fun e w' => ∃ v, e = .returned v ∧ Below w.heap.size w w' ∧ OwnP w.heap.size (ab s hi lo) (abn s) v w' := by
  cases s
  · exact abytes4 hi lo w hl
  · exact abytes6 hi lo w hh hl
theorem rabytes_any (s : Bool) (hi lo : Nat) (w : World) (hh : hi < 18446744073709551616) (hl : lo < 18446744073709551616) : Calls Try.prog 67 #[.agg #[.bool s, .int .u64 (hi : Int), .int .u64 (lo : Int)]] w fun e w' => ∃ v, e = .returned v ∧ Below w.heap.size w w' ∧ OwnP w.heap.size (ab s hi lo) (abn s) v w' := by
  cases s
  · exact rabytes4 hi lo w hl
  · exact rabytes6 hi lo w hh hl
/-- The bytes of a flow. -/
def kf (s6 : Bool) (sh sl : Nat) (d6 : Bool) (dh dl sp dp po : Nat) : List Int := ab s6 sh sl ++ ab d6 dh dl ++ be sp 2 ++ be dp 2 ++ be po 1
def kfn (s6 d6 : Bool) : Nat := abn s6 + abn d6 + 2 + 2 + 1
theorem kf_len (s6 : Bool) (sh sl : Nat) (d6 : Bool) (dh dl sp dp po : Nat) : (kf s6 sh sl d6 dh dl sp dp po).length = kfn s6 d6 := by simp [kf, kfn, ab_len, be_len]; omega
theorem kf_ok (s6 : Bool) (sh sl : Nat) (d6 : Bool) (dh dl sp dp po : Nat) : Octets (kf s6 sh sl d6 dh dl sp dp po) := (((ab_ok _ _ _).app (ab_ok _ _ _)).app (be_ok _ _)).app (be_ok _ _) |>.app (be_ok _ _)
theorem kfn_le (s6 d6 : Bool) : kfn s6 d6 ≤ 37 := by have := abn_le s6; have := abn_le d6; unfold kfn; omega
set_option maxHeartbeats 4000000 in
theorem akey (s6 : Bool) (sh sl : Nat) (d6 : Bool) (dh dl sp dp po : Nat) (hsh : sh < 18446744073709551616) (hsl : sl < 18446744073709551616) (hdh : dh < 18446744073709551616) (hdl : dl < 18446744073709551616) (hsp : sp ≤ 65535) (hdp : dp ≤ 65535) (hpo : po ≤ 255) (w : World) : Calls Try.prog 69 #[.agg #[.bool s6, .int .u64 (sh : Int), .int .u64 (sl : Int), .bool d6, .int .u64 (dh : Int), .int .u64 (dl : Int), .int .u16 (sp : Int), .int .u16 (dp : Int), .int .u8 (po : Int)]] w fun e w' => ∃ v, e = .returned v ∧ Below w.heap.size w w' ∧ OwnP w.heap.size (kf s6 sh sl d6 dh dl sp dp po) (kfn s6 d6) v w' := by
  obtain ⟨n1, N1⟩ : ∃ n, Hid (abn s6 = n) := ⟨_, hide rfl⟩
  obtain ⟨n2, N2⟩ : ∃ n, Hid (abn d6 = n) := ⟨_, hide rfl⟩
  have ha1 := abn_le s6; have ha2 := abn_le d6
  unfold kf kfn
  rw [N1.out] at ha1 ⊢
  rw [N2.out] at ha2 ⊢
  have LN1 := hide ((ab_len s6 sh sl).trans N1.out); have LN2 := hide ((ab_len d6 dh dl).trans N2.out)
  have q1 : IntKind.u64.wrap (sp : Int) = (sp : Int) := IntWalk.u64_in _ (by omega)
  have q2 : IntKind.u64.wrap (dp : Int) = (dp : Int) := IntWalk.u64_in _ (by omega)
  have q3 : IntKind.u64.wrap (po : Int) = (po : Int) := IntWalk.u64_in _ (by omega)
  have hb0 : Below w.heap.size w (w.alloc (.cells #[.bool s6, .int .u64 (sh : Int), .int .u64 (sl : Int), .bool d6, .int .u64 (dh : Int), .int .u64 (dl : Int), .int .u16 (sp : Int), .int .u16 (dp : Int), .int .u8 (po : Int)] 28)) := (Below.refl _ _).alloc (Nat.le_refl _) _
  have hg0 := Is.new w 28 #[.bool s6, .int .u64 (sh : Int), .int .u64 (sl : Int), .bool d6, .int .u64 (dh : Int), .int .u64 (dl : Int), .int .u16 (sp : Int), .int .u16 (dp : Int), .int .u8 (po : Int)]
  go_enter Try.func69, Try.ntmps69
  go_wp2_with fail
  generalize w.alloc (.cells #[.bool s6, .int .u64 (sh : Int), .int .u64 (sl : Int), .bool d6, .int .u64 (dh : Int), .int .u64 (dl : Int), .int .u16 (sp : Int), .int .u16 (dp : Int), .int .u8 (po : Int)] 28) = W at *
  have HB := Lib.hid hb0; have HG := hide hg0
  clear hb0 hg0
  refine Lin.wp_region_lin4 (n := 26) (fun slotq => match slotq with | 4 => Lin.Spec.val (.pointer (some ⟨w.heap.size, 0, none⟩)) | 5 => Lin.Spec.val (.agg #[.bool s6, .int .u64 (sh : Int), .int .u64 (sl : Int)]) | 6 => Lin.Spec.own W.heap.size (ab s6 sh sl) n1 | 7 => Lin.Spec.val (.pointer (some ⟨w.heap.size, 3, none⟩)) | 8 => Lin.Spec.val (.agg #[.bool d6, .int .u64 (dh : Int), .int .u64 (dl : Int)]) | 9 => Lin.Spec.sl (ab d6 dh dl) n2 | 10 => Lin.Spec.own W.heap.size (ab s6 sh sl ++ ab d6 dh dl) (n1 + n2) | 3 => Lin.Spec.own W.heap.size (ab s6 sh sl ++ ab d6 dh dl) (n1 + n2) | _ => Lin.Spec.any) W.heap.size [(6, [6, 9])] (by kernel_rfl) rfl (by kernel_rfl) (by kernel_rfl) (Nat.le_refl _) ⟨.inr (Lin.firm_val _ _), .inr (Lin.firm_val _ _), .inl (by kernel_rfl), .inr (Lin.firm_val _ _), .inr (Lin.firm_val _ _), .inl (by kernel_rfl), .inl (by kernel_rfl), .inl (by kernel_rfl), trivial⟩ ⟨?_, ?_, ?_, ?_, ?_, ?_, ?_, ?_, trivial⟩ ?_
  · refine Lin.stepR (by kernel_rfl) ?_
    intro ρ wq hb hk ho hc hd hs
    have hC : ∀ v, ρ (.const v) = v := fun v => hc _ (by intro t e; cases e)
    have hF : ∀ f, ρ (.func f) = .func (.func f) #[] #[] := fun f => hc _ (by intro t e; cases e)
    have h1 : ρ (.tmp 1) = .pointer (some ⟨w.heap.size, 0, none⟩) := ho 1 (by kernel_rfl)
    exact Lin.Runs.value Lin.keeps (v := .pointer (some ⟨w.heap.size, 0, none⟩)) (by simp [execOp, go_sem, h1]) rfl
  · refine Lin.stepR (by kernel_rfl) ?_
    intro ρ wq hb hk ho hc hd hs
    have hC : ∀ v, ρ (.const v) = v := fun v => hc _ (by intro t e; cases e)
    have hF : ∀ f, ρ (.func f) = .func (.func f) #[] #[] := fun f => hc _ (by intro t e; cases e)
    have h4 : ρ (.tmp 4) = .pointer (some ⟨w.heap.size, 0, none⟩) := hd 4 (by kernel_rfl)
    have hg8 := HG.out.below hb HG.out.lt
    have m0 := hg8.cell 0
    have m1 := hg8.cell 1
    have m2 := hg8.cell 2
    simp at m0 m1 m2
    exact Lin.Runs.value Lin.keeps (v := .agg #[.bool s6, .int .u64 (sh : Int), .int .u64 (sl : Int)]) (by simp [execOp, go_sem, h4, m0, m1, m2]) rfl
  · refine Lin.stepR (by kernel_rfl) ?_
    intro ρ wq hb hk ho hc hd hs
    have hC : ∀ v, ρ (.const v) = v := fun v => hc _ (by intro t e; cases e)
    have hF : ∀ f, ρ (.func f) = .func (.func f) #[] #[] := fun f => hc _ (by intro t e; cases e)
    have h5 : ρ (.tmp 5) = .agg #[.bool s6, .int .u64 (sh : Int), .int .u64 (sl : Int)] := hd 5 (by kernel_rfl)
    exact Lin.Runs.call Lin.keeps (f := 105) (args := #[.agg #[.bool s6, .int .u64 (sh : Int), .int .u64 (sl : Int)]]) (by simp [execOp, go_sem, hF, h5]) ((abytes_any s6 sh sl wq hsh hsl).mono fun e w9 ⟨v9, h1, h2, h3⟩ => ⟨v9, h1, h2, (N1.out ▸ h3.lowk hb.size)⟩)
  · refine Lin.stepR (by kernel_rfl) ?_
    intro ρ wq hb hk ho hc hd hs
    have hC : ∀ v, ρ (.const v) = v := fun v => hc _ (by intro t e; cases e)
    have hF : ∀ f, ρ (.func f) = .func (.func f) #[] #[] := fun f => hc _ (by intro t e; cases e)
    have h1 : ρ (.tmp 1) = .pointer (some ⟨w.heap.size, 0, none⟩) := ho 1 (by kernel_rfl)
    exact Lin.Runs.value Lin.keeps (v := .pointer (some ⟨w.heap.size, 3, none⟩)) (by simp [execOp, go_sem, h1]) rfl
  · refine Lin.stepR (by kernel_rfl) ?_
    intro ρ wq hb hk ho hc hd hs
    have hC : ∀ v, ρ (.const v) = v := fun v => hc _ (by intro t e; cases e)
    have hF : ∀ f, ρ (.func f) = .func (.func f) #[] #[] := fun f => hc _ (by intro t e; cases e)
    have h7 : ρ (.tmp 7) = .pointer (some ⟨w.heap.size, 3, none⟩) := hd 7 (by kernel_rfl)
    have hg8 := HG.out.below hb HG.out.lt
    have m0 := hg8.cell 3
    have m1 := hg8.cell 4
    have m2 := hg8.cell 5
    simp at m0 m1 m2
    exact Lin.Runs.value Lin.keeps (v := .agg #[.bool d6, .int .u64 (dh : Int), .int .u64 (dl : Int)]) (by simp [execOp, go_sem, h7, m0, m1, m2]) rfl
  · refine Lin.stepR (by kernel_rfl) ?_
    intro ρ wq hb hk ho hc hd hs
    have hC : ∀ v, ρ (.const v) = v := fun v => hc _ (by intro t e; cases e)
    have hF : ∀ f, ρ (.func f) = .func (.func f) #[] #[] := fun f => hc _ (by intro t e; cases e)
    have h8 : ρ (.tmp 8) = .agg #[.bool d6, .int .u64 (dh : Int), .int .u64 (dl : Int)] := hd 8 (by kernel_rfl)
    exact Lin.Runs.call Lin.keeps (f := 105) (args := #[.agg #[.bool d6, .int .u64 (dh : Int), .int .u64 (dl : Int)]]) (by simp [execOp, go_sem, hF, h8]) ((abytes_any d6 dh dl wq hdh hdl).mono fun e w9 ⟨v9, h1, h2, h3⟩ => ⟨v9, h1, h2, (N2.out ▸ h3.isb)⟩)
  · refine Lin.stepW (by kernel_rfl) ?_
    intro ρ wq hb hk ho hc hd hs
    have hC : ∀ v, ρ (.const v) = v := fun v => hc _ (by intro t e; cases e)
    have hF : ∀ f, ρ (.func f) = .func (.func f) #[] #[] := fun f => hc _ (by intro t e; cases e)
    have h6 := hd 6 (by kernel_rfl)
    have h9 := hd 9 (by kernel_rfl)
    exact Lin.RunsB_ex (exec_grow rfl Try.underlying22 info8 h6 h9 (LN1.out) (by omega) hb.size)
  · refine Lin.stepR (by kernel_rfl) ?_
    intro ρ wq hb hk ho hc hd hs
    have hC : ∀ v, ρ (.const v) = v := fun v => hc _ (by intro t e; cases e)
    have hF : ∀ f, ρ (.func f) = .func (.func f) #[] #[] := fun f => hc _ (by intro t e; cases e)
    have h10 := hd 10 (by kernel_rfl)
    exact Lin.Runs.value Lin.keeps (Lin.exec_assign rfl) h10
  · intro vals w9 hb hv hs
    obtain ⟨A9, c9, e2, ho9⟩ := hv 3 (by kernel_rfl) (by kernel_rfl)
    have HO0 := hide (ho9.lower HB.out.size)
    have HG0 := hide (HG.out.below hb HG.out.lt)
    have HB0 := Lib.hid (HB.out.trans (hb.mono HB.out.size))
    clear hv hs ho9 hb HG HB
    have a6 := HG0.out.cell 6
    simp at a6
    simp only [Lin.putAll, Option.getD_some]
    rw [e2]
    clear e2
    go_simp
    generalize vals = vv
    go_wp2_with fail
    refine (put_k sp 2 2 ((n1 + n2) + 2) (IsB.own HO0.out) (by omega) (by omega) (by omega) (by omega) rfl rfl).mono ?_
    rintro e w1 ⟨A1, c1, rfl, ho, hb⟩
    have HO1 := hide (ho.lower HB0.out.size); have HG1 := hide (HG0.out.below hb HG0.out.lt); have HB1 := Lib.hid (HB0.out.trans (hb.mono HB0.out.size))
    clear ho hb HO0 HG0 HB0
    have a7 := HG1.out.cell 7
    simp at a7
    go_wp2_with fail
    refine (put_k dp 2 2 ((n1 + n2 + 2) + 2) (IsB.own HO1.out) (by omega) (by omega) (by omega) (by omega) rfl rfl).mono ?_
    rintro e w2 ⟨A2, c2, rfl, ho, hb⟩
    have HO2 := hide (ho.lower HB1.out.size); have HG2 := hide (HG1.out.below hb HG1.out.lt); have HB2 := Lib.hid (HB1.out.trans (hb.mono HB1.out.size))
    clear ho hb HO1 HG1 HB1
    have a8 := HG2.out.cell 8
    simp at a8
    go_wp2_with fail
    refine (put_k po 1 1 ((n1 + n2 + 2 + 2) + 1) (IsB.own HO2.out) (by omega) (by omega) (by omega) (by omega) rfl rfl).mono ?_
    rintro e w3 ⟨A3, c3, rfl, ho, hb⟩
    have HO3 := hide (ho.lower HB2.out.size); have HG3 := hide (HG2.out.below hb HG2.out.lt); have HB3 := Lib.hid (HB2.out.trans (hb.mono HB2.out.size))
    clear ho hb HO2 HG2 HB2
    go_wp2_with fail
    go_ret
    exact ⟨_, rfl, HB3.out, A3, c3, rfl, HO3.out⟩
set_option maxHeartbeats 4000000 in
theorem rkey (s6 : Bool) (sh sl : Nat) (d6 : Bool) (dh dl sp dp po : Nat) (hsh : sh < 18446744073709551616) (hsl : sl < 18446744073709551616) (hdh : dh < 18446744073709551616) (hdl : dl < 18446744073709551616) (hsp : sp ≤ 65535) (hdp : dp ≤ 65535) (hpo : po ≤ 255) (w : World) : Calls Try.prog 17 #[.agg #[.bool s6, .int .u64 (sh : Int), .int .u64 (sl : Int), .bool d6, .int .u64 (dh : Int), .int .u64 (dl : Int), .int .u16 (sp : Int), .int .u16 (dp : Int), .int .u8 (po : Int)]] w fun e w' => ∃ v, e = .returned v ∧ Below w.heap.size w w' ∧ IsB (kf s6 sh sl d6 dh dl sp dp po) (kfn s6 d6) v w' := by
  obtain ⟨n1, N1⟩ : ∃ n, Hid (abn s6 = n) := ⟨_, hide rfl⟩
  obtain ⟨n2, N2⟩ : ∃ n, Hid (abn d6 = n) := ⟨_, hide rfl⟩
  have ha1 := abn_le s6; have ha2 := abn_le d6
  have LL := hide (kf_len s6 sh sl d6 dh dl sp dp po)
  unfold kf kfn at *
  rw [N1.out] at ha1 LL ⊢
  rw [N2.out] at ha2 LL ⊢
  have q1 : IntKind.u64.wrap (sp : Int) = (sp : Int) := IntWalk.u64_in _ (by omega)
  have q2 : IntKind.u64.wrap (dp : Int) = (dp : Int) := IntWalk.u64_in _ (by omega)
  have q3 : IntKind.u64.wrap (po : Int) = (po : Int) := IntWalk.u64_in _ (by omega)
  have hb0 : Below w.heap.size w (w.alloc (.cells #[.bool s6, .int .u64 (sh : Int), .int .u64 (sl : Int), .bool d6, .int .u64 (dh : Int), .int .u64 (dl : Int), .int .u16 (sp : Int), .int .u16 (dp : Int), .int .u8 (po : Int)] 28)) := (Below.refl _ _).alloc (Nat.le_refl _) _
  have hg0 := Is.new w 28 #[.bool s6, .int .u64 (sh : Int), .int .u64 (sl : Int), .bool d6, .int .u64 (dh : Int), .int .u64 (dl : Int), .int .u16 (sp : Int), .int .u16 (dp : Int), .int .u8 (po : Int)]
  go_enter Try.func17, Try.ntmps17
  go_wp2_with fail
  generalize w.alloc (.cells #[.bool s6, .int .u64 (sh : Int), .int .u64 (sl : Int), .bool d6, .int .u64 (dh : Int), .int .u64 (dl : Int), .int .u16 (sp : Int), .int .u16 (dp : Int), .int .u8 (po : Int)] 28) = W at *
  have HB := Lib.hid hb0; have HG := hide hg0
  clear hb0 hg0
  refine Lin.wp_region_lin Lin.keeps (n := 23)  (fun slotq => match slotq with | 3 => Lin.Spec.val (.pointer (some ⟨w.heap.size, 0, none⟩)) | 4 => Lin.Spec.val (.agg #[.bool s6, .int .u64 (sh : Int), .int .u64 (sl : Int)]) | 5 => Lin.Spec.sl (ab s6 sh sl) n1 | 6 => Lin.Spec.val (.pointer (some ⟨w.heap.size, 3, none⟩)) | 7 => Lin.Spec.val (.agg #[.bool d6, .int .u64 (dh : Int), .int .u64 (dl : Int)]) | 8 => Lin.Spec.sl (ab d6 dh dl) n2 | 9 => Lin.Spec.val (.pointer (some ⟨w.heap.size, 6, none⟩)) | 10 => Lin.Spec.val (.int .u16 (sp : Int)) | 11 => Lin.Spec.val (.int .u64 (sp : Int)) | 12 => Lin.Spec.sl (be sp 2) 2 | 13 => Lin.Spec.val (.pointer (some ⟨w.heap.size, 7, none⟩)) | 14 => Lin.Spec.val (.int .u16 (dp : Int)) | 15 => Lin.Spec.val (.int .u64 (dp : Int)) | 16 => Lin.Spec.sl (be dp 2) 2 | 17 => Lin.Spec.val (.pointer (some ⟨w.heap.size, 8, none⟩)) | 18 => Lin.Spec.val (.int .u8 (po : Int)) | 19 => Lin.Spec.val (.int .u64 (po : Int)) | 20 => Lin.Spec.sl (be po 1) 1 | 21 => Lin.Spec.parts [ab s6 sh sl, ab d6 dh dl, be sp 2, be dp 2, be po 1] | 22 => Lin.Spec.sl (ab s6 sh sl ++ ab d6 dh dl ++ be sp 2 ++ be dp 2 ++ be po 1) (n1 + n2 + 2 + 2 + 1) | 2 => Lin.Spec.sl (ab s6 sh sl ++ ab d6 dh dl ++ be sp 2 ++ be dp 2 ++ be po 1) (n1 + n2 + 2 + 2 + 1) | _ => Lin.Spec.any) (by kernel_rfl) rfl (by kernel_rfl) ⟨?_, ?_, ?_, ?_, ?_, ?_, ?_, ?_, ?_, ?_, ?_, ?_, ?_, ?_, ?_, ?_, ?_, ?_, ?_, ?_, ?_, trivial⟩ ?_
  · intro ρ wq hb ho hc hd
    have hC : ∀ v, ρ (.const v) = v := fun v => hc _ (by intro t e; cases e)
    have hF : ∀ f, ρ (.func f) = .func (.func f) #[] #[] := fun f => hc _ (by intro t e; cases e)
    have h1 : ρ (.tmp 1) = .pointer (some ⟨w.heap.size, 0, none⟩) := ho 1 (by kernel_rfl)
    exact Lin.Runs.value Lin.keeps (v := .pointer (some ⟨w.heap.size, 0, none⟩)) (by simp [execOp, go_sem, h1]) rfl
  · intro ρ wq hb ho hc hd
    have hC : ∀ v, ρ (.const v) = v := fun v => hc _ (by intro t e; cases e)
    have hF : ∀ f, ρ (.func f) = .func (.func f) #[] #[] := fun f => hc _ (by intro t e; cases e)
    have h3 : ρ (.tmp 3) = .pointer (some ⟨w.heap.size, 0, none⟩) := hd 3 (by kernel_rfl)
    have hg8 := HG.out.below hb HG.out.lt
    have m0 := hg8.cell 0
    have m1 := hg8.cell 1
    have m2 := hg8.cell 2
    simp at m0 m1 m2
    exact Lin.Runs.value Lin.keeps (v := .agg #[.bool s6, .int .u64 (sh : Int), .int .u64 (sl : Int)]) (by simp [execOp, go_sem, h3, m0, m1, m2]) rfl
  · intro ρ wq hb ho hc hd
    have hC : ∀ v, ρ (.const v) = v := fun v => hc _ (by intro t e; cases e)
    have hF : ∀ f, ρ (.func f) = .func (.func f) #[] #[] := fun f => hc _ (by intro t e; cases e)
    have h4 : ρ (.tmp 4) = .agg #[.bool s6, .int .u64 (sh : Int), .int .u64 (sl : Int)] := hd 4 (by kernel_rfl)
    exact Lin.Runs.call Lin.keeps (f := 67) (args := #[.agg #[.bool s6, .int .u64 (sh : Int), .int .u64 (sl : Int)]]) (by simp [execOp, go_sem, hF, h4]) ((rabytes_any s6 sh sl wq (by omega) (by omega)).mono fun e w9 ⟨v9, h1, h2, h3⟩ => ⟨v9, h1, h2, (N1.out ▸ h3.isb)⟩)
  · intro ρ wq hb ho hc hd
    have hC : ∀ v, ρ (.const v) = v := fun v => hc _ (by intro t e; cases e)
    have hF : ∀ f, ρ (.func f) = .func (.func f) #[] #[] := fun f => hc _ (by intro t e; cases e)
    have h1 : ρ (.tmp 1) = .pointer (some ⟨w.heap.size, 0, none⟩) := ho 1 (by kernel_rfl)
    exact Lin.Runs.value Lin.keeps (v := .pointer (some ⟨w.heap.size, 3, none⟩)) (by simp [execOp, go_sem, h1]) rfl
  · intro ρ wq hb ho hc hd
    have hC : ∀ v, ρ (.const v) = v := fun v => hc _ (by intro t e; cases e)
    have hF : ∀ f, ρ (.func f) = .func (.func f) #[] #[] := fun f => hc _ (by intro t e; cases e)
    have h6 : ρ (.tmp 6) = .pointer (some ⟨w.heap.size, 3, none⟩) := hd 6 (by kernel_rfl)
    have hg8 := HG.out.below hb HG.out.lt
    have m0 := hg8.cell 3
    have m1 := hg8.cell 4
    have m2 := hg8.cell 5
    simp at m0 m1 m2
    exact Lin.Runs.value Lin.keeps (v := .agg #[.bool d6, .int .u64 (dh : Int), .int .u64 (dl : Int)]) (by simp [execOp, go_sem, h6, m0, m1, m2]) rfl
  · intro ρ wq hb ho hc hd
    have hC : ∀ v, ρ (.const v) = v := fun v => hc _ (by intro t e; cases e)
    have hF : ∀ f, ρ (.func f) = .func (.func f) #[] #[] := fun f => hc _ (by intro t e; cases e)
    have h7 : ρ (.tmp 7) = .agg #[.bool d6, .int .u64 (dh : Int), .int .u64 (dl : Int)] := hd 7 (by kernel_rfl)
    exact Lin.Runs.call Lin.keeps (f := 67) (args := #[.agg #[.bool d6, .int .u64 (dh : Int), .int .u64 (dl : Int)]]) (by simp [execOp, go_sem, hF, h7]) ((rabytes_any d6 dh dl wq (by omega) (by omega)).mono fun e w9 ⟨v9, h1, h2, h3⟩ => ⟨v9, h1, h2, (N2.out ▸ h3.isb)⟩)
  · intro ρ wq hb ho hc hd
    have hC : ∀ v, ρ (.const v) = v := fun v => hc _ (by intro t e; cases e)
    have hF : ∀ f, ρ (.func f) = .func (.func f) #[] #[] := fun f => hc _ (by intro t e; cases e)
    have h1 : ρ (.tmp 1) = .pointer (some ⟨w.heap.size, 0, none⟩) := ho 1 (by kernel_rfl)
    exact Lin.Runs.value Lin.keeps (v := .pointer (some ⟨w.heap.size, 6, none⟩)) (by simp [execOp, go_sem, h1]) rfl
  · intro ρ wq hb ho hc hd
    have hC : ∀ v, ρ (.const v) = v := fun v => hc _ (by intro t e; cases e)
    have hF : ∀ f, ρ (.func f) = .func (.func f) #[] #[] := fun f => hc _ (by intro t e; cases e)
    have h9 : ρ (.tmp 9) = .pointer (some ⟨w.heap.size, 6, none⟩) := hd 9 (by kernel_rfl)
    have hg8 := HG.out.below hb HG.out.lt
    have m0 := hg8.cell 6
    simp at m0
    exact Lin.Runs.value Lin.keeps (v := .int .u16 (sp : Int)) (by simp [execOp, go_sem, h9, m0]) rfl
  · intro ρ wq hb ho hc hd
    have hC : ∀ v, ρ (.const v) = v := fun v => hc _ (by intro t e; cases e)
    have hF : ∀ f, ρ (.func f) = .func (.func f) #[] #[] := fun f => hc _ (by intro t e; cases e)
    have h10 : ρ (.tmp 10) = .int .u16 (sp : Int) := hd 10 (by kernel_rfl)
    exact Lin.Runs.value Lin.keeps (v := .int .u64 (sp : Int)) (by simp [execOp, go_sem, h10, q1]) rfl
  · intro ρ wq hb ho hc hd
    have hC : ∀ v, ρ (.const v) = v := fun v => hc _ (by intro t e; cases e)
    have hF : ∀ f, ρ (.func f) = .func (.func f) #[] #[] := fun f => hc _ (by intro t e; cases e)
    have h11 : ρ (.tmp 11) = .int .u64 (sp : Int) := hd 11 (by kernel_rfl)
    exact Lin.Runs.call Lin.keeps (f := 68) (args := #[.int .u64 (sp : Int), .int .i64 2]) (by simp [execOp, go_sem, hC, hF, h11]) ((rb_6 sp 2 wq (by omega) (by omega)).mono fun e w9 ⟨A9, c9, h1, h2, h3⟩ => ⟨_, h1, h3, IsB.own h2⟩)
  · intro ρ wq hb ho hc hd
    have hC : ∀ v, ρ (.const v) = v := fun v => hc _ (by intro t e; cases e)
    have hF : ∀ f, ρ (.func f) = .func (.func f) #[] #[] := fun f => hc _ (by intro t e; cases e)
    have h1 : ρ (.tmp 1) = .pointer (some ⟨w.heap.size, 0, none⟩) := ho 1 (by kernel_rfl)
    exact Lin.Runs.value Lin.keeps (v := .pointer (some ⟨w.heap.size, 7, none⟩)) (by simp [execOp, go_sem, h1]) rfl
  · intro ρ wq hb ho hc hd
    have hC : ∀ v, ρ (.const v) = v := fun v => hc _ (by intro t e; cases e)
    have hF : ∀ f, ρ (.func f) = .func (.func f) #[] #[] := fun f => hc _ (by intro t e; cases e)
    have h13 : ρ (.tmp 13) = .pointer (some ⟨w.heap.size, 7, none⟩) := hd 13 (by kernel_rfl)
    have hg8 := HG.out.below hb HG.out.lt
    have m0 := hg8.cell 7
    simp at m0
    exact Lin.Runs.value Lin.keeps (v := .int .u16 (dp : Int)) (by simp [execOp, go_sem, h13, m0]) rfl
  · intro ρ wq hb ho hc hd
    have hC : ∀ v, ρ (.const v) = v := fun v => hc _ (by intro t e; cases e)
    have hF : ∀ f, ρ (.func f) = .func (.func f) #[] #[] := fun f => hc _ (by intro t e; cases e)
    have h14 : ρ (.tmp 14) = .int .u16 (dp : Int) := hd 14 (by kernel_rfl)
    exact Lin.Runs.value Lin.keeps (v := .int .u64 (dp : Int)) (by simp [execOp, go_sem, h14, q2]) rfl
  · intro ρ wq hb ho hc hd
    have hC : ∀ v, ρ (.const v) = v := fun v => hc _ (by intro t e; cases e)
    have hF : ∀ f, ρ (.func f) = .func (.func f) #[] #[] := fun f => hc _ (by intro t e; cases e)
    have h15 : ρ (.tmp 15) = .int .u64 (dp : Int) := hd 15 (by kernel_rfl)
    exact Lin.Runs.call Lin.keeps (f := 68) (args := #[.int .u64 (dp : Int), .int .i64 2]) (by simp [execOp, go_sem, hC, hF, h15]) ((rb_6 dp 2 wq (by omega) (by omega)).mono fun e w9 ⟨A9, c9, h1, h2, h3⟩ => ⟨_, h1, h3, IsB.own h2⟩)
  · intro ρ wq hb ho hc hd
    have hC : ∀ v, ρ (.const v) = v := fun v => hc _ (by intro t e; cases e)
    have hF : ∀ f, ρ (.func f) = .func (.func f) #[] #[] := fun f => hc _ (by intro t e; cases e)
    have h1 : ρ (.tmp 1) = .pointer (some ⟨w.heap.size, 0, none⟩) := ho 1 (by kernel_rfl)
    exact Lin.Runs.value Lin.keeps (v := .pointer (some ⟨w.heap.size, 8, none⟩)) (by simp [execOp, go_sem, h1]) rfl
  · intro ρ wq hb ho hc hd
    have hC : ∀ v, ρ (.const v) = v := fun v => hc _ (by intro t e; cases e)
    have hF : ∀ f, ρ (.func f) = .func (.func f) #[] #[] := fun f => hc _ (by intro t e; cases e)
    have h17 : ρ (.tmp 17) = .pointer (some ⟨w.heap.size, 8, none⟩) := hd 17 (by kernel_rfl)
    have hg8 := HG.out.below hb HG.out.lt
    have m0 := hg8.cell 8
    simp at m0
    exact Lin.Runs.value Lin.keeps (v := .int .u8 (po : Int)) (by simp [execOp, go_sem, h17, m0]) rfl
  · intro ρ wq hb ho hc hd
    have hC : ∀ v, ρ (.const v) = v := fun v => hc _ (by intro t e; cases e)
    have hF : ∀ f, ρ (.func f) = .func (.func f) #[] #[] := fun f => hc _ (by intro t e; cases e)
    have h18 : ρ (.tmp 18) = .int .u8 (po : Int) := hd 18 (by kernel_rfl)
    exact Lin.Runs.value Lin.keeps (v := .int .u64 (po : Int)) (by simp [execOp, go_sem, h18, q3]) rfl
  · intro ρ wq hb ho hc hd
    have hC : ∀ v, ρ (.const v) = v := fun v => hc _ (by intro t e; cases e)
    have hF : ∀ f, ρ (.func f) = .func (.func f) #[] #[] := fun f => hc _ (by intro t e; cases e)
    have h19 : ρ (.tmp 19) = .int .u64 (po : Int) := hd 19 (by kernel_rfl)
    exact Lin.Runs.call Lin.keeps (f := 68) (args := #[.int .u64 (po : Int), .int .i64 1]) (by simp [execOp, go_sem, hC, hF, h19]) ((rb_6 po 1 wq (by omega) (by omega)).mono fun e w9 ⟨A9, c9, h1, h2, h3⟩ => ⟨_, h1, h3, IsB.own h2⟩)
  · intro ρ wq hb ho hc hd
    have hC : ∀ v, ρ (.const v) = v := fun v => hc _ (by intro t e; cases e)
    have hF : ∀ f, ρ (.func f) = .func (.func f) #[] #[] := fun f => hc _ (by intro t e; cases e)
    have h5 := hd 5 (by kernel_rfl)
    have h8 := hd 8 (by kernel_rfl)
    have h12 := hd 12 (by kernel_rfl)
    have h16 := hd 16 (by kernel_rfl)
    have h20 := hd 20 (by kernel_rfl)
    have s5 := h5.shape
    generalize hv5 : ρ (.tmp 5) = v5 at *
    obtain ⟨D5, e5, rfl⟩ := s5
    have s8 := h8.shape
    generalize hv8 : ρ (.tmp 8) = v8 at *
    obtain ⟨D8, e8, rfl⟩ := s8
    have s12 := h12.shape
    generalize hv12 : ρ (.tmp 12) = v12 at *
    obtain ⟨D12, e12, rfl⟩ := s12
    have s16 := h16.shape
    generalize hv16 : ρ (.tmp 16) = v16 at *
    obtain ⟨D16, e16, rfl⟩ := s16
    have s20 := h20.shape
    generalize hv20 : ρ (.tmp 20) = v20 at *
    obtain ⟨D20, e20, rfl⟩ := s20
    refine Lin.Runs.made (v := .slice (some ⟨wq.heap.size, 0, none⟩) 5 5) (w' := wq.alloc (.cells #[.slice D5 n1 e5, .slice D8 n2 e8, .slice D12 2 e12, .slice D16 2 e16, .slice D20 1 e20] 22)) (by simp [execOp, go_sem, hv5, hv8, hv12, hv16, hv20]) ((Below.refl _ _).alloc (Nat.le_refl _) _) ?_
    exact IsP.lit wq [(.slice D5 n1 e5, ab s6 sh sl), (.slice D8 n2 e8, ab d6 dh dl), (.slice D12 2 e12, be sp 2), (.slice D16 2 e16, be dp 2), (.slice D20 1 e20, be po 1)] 22 (by
      intro p hp
      simp only [List.mem_cons, List.not_mem_nil, or_false] at hp
      rcases hp with rfl | rfl | rfl | rfl | rfl
      · exact ⟨_, h5⟩
      · exact ⟨_, h8⟩
      · exact ⟨_, h12⟩
      · exact ⟨_, h16⟩
      · exact ⟨_, h20⟩)
  · intro ρ wq hb ho hc hd
    have hC : ∀ v, ρ (.const v) = v := fun v => hc _ (by intro t e; cases e)
    have hF : ∀ f, ρ (.func f) = .func (.func f) #[] #[] := fun f => hc _ (by intro t e; cases e)
    have h21 := hd 21 (by kernel_rfl)
    refine Lin.Runs.call Lin.keeps (f := 66) (args := #[ρ (.tmp 21)]) (by simp [execOp, go_sem, hF]) ?_
    have hh := join_p h21 (L := ab s6 sh sl ++ ab d6 dh dl ++ be sp 2 ++ be dp 2 ++ be po 1) (by simp []) (by rw [LL.out]; omega) (by simp)
    rw [LL.out] at hh
    exact hh
  · intro ρ wq hb ho hc hd
    have hC : ∀ v, ρ (.const v) = v := fun v => hc _ (by intro t e; cases e)
    have hF : ∀ f, ρ (.func f) = .func (.func f) #[] #[] := fun f => hc _ (by intro t e; cases e)
    have h22 := hd 22 (by kernel_rfl)
    exact Lin.Runs.value Lin.keeps (Lin.exec_assign rfl) h22
  · intro vals w9 hb hv
    have e2 := hv 2 (by kernel_rfl)
    simp only [Lin.putAll, Option.getD_some]
    generalize vals 2 = v2 at *
    obtain ⟨A9, c9, rfl⟩ := e2.shape
    have E2 := hide e2
    clear hv e2
    have HB9 := Lib.hid (HB.out.trans (hb.mono HB.out.size))
    clear hb
    go_simp
    generalize vals = vv
    go_wp2_with fail
    go_ret
    have h : IsB (ab s6 sh sl ++ ab d6 dh dl ++ be sp 2 ++ be dp 2 ++ be po 1) (n1 + n2 + 2 + 2 + 1) (.slice A9 (n1 + n2 + 2 + 2 + 1) c9) w9 := E2.out
    exact ⟨_, rfl, HB9.out, by simp only [List.append_assoc] at h; exact h⟩
/-- May an address be? -/
def aright (s : Bool) (hi lo : Nat) : Bool := s || (decide (hi = 0) && decide (lo ≤ 4294967295))
set_option maxHeartbeats 400000 in
theorem aright_any (s : Bool) (hi lo : Nat) (w : World) : Calls Try.prog 14 #[.agg #[.bool s, .int .u64 (hi : Int), .int .u64 (lo : Int)]] w fun e w' => e = .returned (.bool (aright s hi lo)) ∧ Below w.heap.size w w' := by
  have hb0 : Below w.heap.size w (w.alloc (.cells #[.bool s, .int .u64 (hi : Int), .int .u64 (lo : Int)] 25)) := (Below.refl _ _).alloc (Nat.le_refl _) _
  cases s
  · by_cases h0 : hi = 0
    · subst h0
      by_cases h1 : lo ≤ 4294967295
      · have g1 : (lo : Int) ≤ 4294967295 := by omega
        rw [show aright false 0 lo = true from by simp [aright, h1]]
        clear h1
        go_enter Try.func14, Try.ntmps14
        go_wp2_with fail
        go_ret
        exact ⟨rfl, hb0⟩
      · have g1 : ¬ (lo : Int) ≤ 4294967295 := by omega
        rw [show aright false 0 lo = false from by simp [aright]; omega]
        clear h1
        go_enter Try.func14, Try.ntmps14
        go_wp2_with fail
        go_ret
        exact ⟨rfl, hb0⟩
    · have g0 : ((hi : Int) == 0) = false := by rw [beq_eq_false_iff_ne]; omega
      rw [show aright false hi lo = false from by simp [aright, h0]]
      clear h0
      go_enter Try.func14, Try.ntmps14
      go_wp2_with fail
      go_ret
      exact ⟨rfl, hb0⟩
  · rw [show aright true hi lo = true from rfl]
    go_enter Try.func14, Try.ntmps14
    go_wp2_with fail
    go_ret
    exact ⟨rfl, hb0⟩
end Go.Proofs.Ythjkjohmaemmiaa
