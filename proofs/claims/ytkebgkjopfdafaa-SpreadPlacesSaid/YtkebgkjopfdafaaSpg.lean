/-
  The law SpreadPlaces where the table is made, walked. Helper of the claim SpreadPlaces. No condition.
-/
import Derived.Test.YtkebgkjopfdafaaSpl
namespace Go.Proofs.Ytkebgkjopfdafaa
open Go.ChangeShapes Go.WideShapes Go.ChangeAt Go.RowKit
set_option linter.unusedVariables false
set_option maxRecDepth 100000
set_option maxHeartbeats 1000000 in
theorem law_good (n : Nat) (A : Option Addr) (c : Nat) (to : List Int) (s : Int) (g : Int) (B : Option Addr) (d : Nat) (left : List Int) (w : World) (hA : Ints w w.heap.size A to) (hB : Ints w w.heap.size B left) (h0 : 0 < to.length) (hm : to.length ≤ 100) (hmt : left.length ≤ 100) (hp : P2 (n : Int)) (hn : n ≤ 512) (s0 : 0 ≤ s) (s1 : s ≤ 4294967295) :
    Calls Try.prog 13 #[.int .i64 (n : Int), .slice A to.length c, .int .u32 s, .int .i64 g, .slice B left.length d] w fun e w' => e = .returned (.bool true) ∧ Below w.heap.size w w' := by
  obtain ⟨hn1, hn2, hpow⟩ := p2_range hp
  have h1z : ¬ (100 : Int) < (to.length : Int) := by omega
  have h2z : ¬ (100 : Int) < (left.length : Int) := by omega
  have h3z : ¬ (512 : Int) < (n : Int) := by omega
  have hz0 : ((to.length : Int) == 0) = false := by rw [beq_eq_false_iff_ne]; omega
  have HA := Lib.hid hA; have HLFT := Lib.hid hB; have HP := Lib.hid hp; have HPOW := Lib.hid hpow
  clear hA hB hp hpow
  go_enter Try.func13, Try.ntmps13
  go_wp2_with fail
  refine (new_ok n A c to w HA.out h0 (by omega) (by omega) (by omega) HPOW.out).mono ?_
  rintro e w1 ⟨rfl, ho, hb⟩
  rw [plc_all] at ho
  have ho' : OwnI w1 w.heap.size (.slice (some ⟨w.heap.size + 1, 0, none⟩) n n) (plc to n) := by unfold OwnI; rw [plc_len]; exact ho
  clear ho
  generalize w.heap.size + 1 = g1 at *
  have HO1 := Lib.hid ho'; have HB1 := Lib.hid hb
  clear ho' hb
  go_wp2_with fail
  have hb2 := ((Below.refl w1.heap.size w1).alloc (Nat.le_refl _) (.cells #[.slice (some ⟨g1, 0, none⟩) n n] 111)).alloc (by simp) (.cells #[.slice none 0 0] 111)
  have h11 := (Is.new w1 111 #[.slice (some ⟨g1, 0, none⟩) n n]).alloc (.cells #[.slice none 0 0] 111)
  generalize (w1.alloc (.cells #[.slice (some ⟨g1, 0, none⟩) n n] 111)).alloc (.cells #[.slice none 0 0] 111) = W at *
  have HO2 := Lib.hid (OwnI.below HO1.out hb2); have H11 := Lib.hid h11; have HB2 := Lib.hid (HB1.out.trans (hb2.mono HB1.out.size))
  clear hb2 h11 HO1 HB1
  generalize w1.heap.size = g11 at *
  refine (rright41 (n : Int) _).mono ?_
  rintro e w2 ⟨he, rfl⟩
  rcases he with ⟨rfl, _⟩ | ⟨_, hx⟩
  · go_wp2_with fail
    refine (places_any A c to n _ ((HA.out.below HB2.out).more HB2.out.size) h0 (by omega) (by omega)).mono ?_
    rintro e w3 ⟨A14, c14, rfl, ho, hb⟩
    have HLN := Lib.hid (plc_len to n)
    have HO3 := Lib.hid (OwnI.below HO2.out hb); have K11 := Lib.hid (H11.out.below hb H11.out.lt); have HB3 := Lib.hid (HB2.out.trans (hb.mono HB2.out.size))
    generalize plc to n = l at *
    have hi14 := ho.ints HLN.out
    obtain ⟨b14, o14, rfl, hb14, hc14⟩ := hi14.cells (by have := HLN.out; omega)
    have HC14 := Lib.hid hc14; have HI14 := Lib.hid hi14
    clear ho hb HO2 H11 HB2 hi14 hc14 HP HPOW HA
    have hnl := HLN.out
    subst hnl
    go_wp2_with fail
    go_loopw [15, 16] (fun v15 v16 wr => LgRel w3 l g v15 v16 wr) (fun _ v _ => (l.length - intOf v).toNat)
    case atStart => exact ⟨0, Nat.zero_le _, rfl, rfl, Below.refl _ _⟩
    case round =>
      obtain ⟨k, hk, rfl, rfl, hb⟩ := hrel
      have HOW := Lib.hid (OwnI.below HO3.out hb)
      have kg := K11.out.below hb K11.out.lt
      have cg := kg.cell 0
      have lg := kg.lt
      simp at cg
      have HBW := Lib.hid hb
      have hbz9 : w3.heap.size ≤ wr.heap.size := hb.size
      have hbs : b14 < wr.heap.size := by omega
      have hcn := cnt_le l g k
      have hn3 : l.length ≤ 100000 := by omega
      clear hb kg
      by_cases kl : k < l.length
      · have k0 : (0 : Int) ≤ (k : Int) := by omega
        have klz : (k : Int) < (l.length : Int) := by omega
        have hk32 : IntKind.u32.wrap (k : Int) = (k : Int) := IntWalk.u32_in _ (by omega)
        have hk33 : (k : Int) ≤ 4294967295 := by omega
        have dk := (HBW.out.cell (p := ⟨b14, o14 + k, none⟩) hb14).trans (HC14.out k kl)
        have HY := Lib.hid (show at0 l ((k : Int).toNat % l.length) = at0 l k from by rw [Int.toNat_natCast, Nat.mod_eq_of_lt kl])
        have HLT := Lib.hid kl
        have HCS := Lib.hid (show cnt l g (k + 1) = cnt l g k + (if at0 l k = g then 1 else 0) from rfl)
        generalize at0 l k = y at *
        go_wp2_with fail
        refine Lin.wp_region_lin Lin.keeps (n := 176)  (fun slotq => match slotq with | 85 => Lin.Spec.val (.agg #[.slice (some ⟨g1, 0, none⟩) l.length l.length]) | 86 => Lin.Spec.val (.int .i64 (k : Int)) | 87 => Lin.Spec.val (.int .u32 (k : Int)) | 88 => Lin.Spec.val (.int .i64 y) | 89 => Lin.Spec.val (.slice (some ⟨b14, o14, none⟩) l.length c14) | 90 => Lin.Spec.val (.int .i64 (k : Int)) | 91 => Lin.Spec.val (.pointer (some ⟨b14, o14 + k, none⟩)) | 92 => Lin.Spec.val (.int .i64 y) | 93 => Lin.Spec.val (.bool false) | _ => Lin.Spec.any) (by kernel_rfl) rfl (by kernel_rfl) ⟨?_, ?_, ?_, ?_, ?_, ?_, ?_, ?_, ?_, trivial⟩ ?_
        · intro ρ wq hb ho hc hd
          have hC : ∀ v, ρ (.const v) = v := fun v => hc _ (by intro t e; cases e)
          have hF : ∀ f, ρ (.func f) = .func (.func f) #[] #[] := fun f => hc _ (by intro t e; cases e)
          have h11 : ρ (.tmp 11) = .pointer (some ⟨g11, 0, none⟩) := ho 11 (by kernel_rfl)
          have dd := (hb.cell (p := ⟨g11, 0, none⟩) lg).trans cg
          exact Lin.Runs.value Lin.keeps (v := .agg #[.slice (some ⟨g1, 0, none⟩) l.length l.length]) (by simp [execOp, go_sem, h11, dd]) rfl
        · intro ρ wq hb ho hc hd
          have hC : ∀ v, ρ (.const v) = v := fun v => hc _ (by intro t e; cases e)
          have hF : ∀ f, ρ (.func f) = .func (.func f) #[] #[] := fun f => hc _ (by intro t e; cases e)
          have h16 : ρ (.tmp 16) = .int .i64 (k : Int) := ho 16 (by kernel_rfl)
          exact Lin.Runs.value Lin.keeps (Lin.exec_move rfl) h16
        · intro ρ wq hb ho hc hd
          have hC : ∀ v, ρ (.const v) = v := fun v => hc _ (by intro t e; cases e)
          have hF : ∀ f, ρ (.func f) = .func (.func f) #[] #[] := fun f => hc _ (by intro t e; cases e)
          have h86 : ρ (.tmp 86) = .int .i64 (k : Int) := hd 86 (by kernel_rfl)
          exact Lin.Runs.value Lin.keeps (v := .int .u32 (k : Int)) (by simp [execOp, go_sem, h86, hk32]) rfl
        · intro ρ wq hb ho hc hd
          have hC : ∀ v, ρ (.const v) = v := fun v => hc _ (by intro t e; cases e)
          have hF : ∀ f, ρ (.func f) = .func (.func f) #[] #[] := fun f => hc _ (by intro t e; cases e)
          have h85 : ρ (.tmp 85) = .agg #[.slice (some ⟨g1, 0, none⟩) l.length l.length] := hd 85 (by kernel_rfl)
          have h87 : ρ (.tmp 87) = .int .u32 (k : Int) := hd 87 (by kernel_rfl)
          exact Lin.Runs.call Lin.keeps (f := 66) (args := #[.agg #[.slice (some ⟨g1, 0, none⟩) l.length l.length], .int .u32 (k : Int)]) (by simp [execOp, go_sem, hF, h85, h87]) ((pick_n _ _ _ l (k : Int) wq _ (OwnI.below HOW.out hb) rfl (by omega) (by omega) k0 hk33).mono fun e w9 h => ⟨_, h.1, h.2, by rw [HY.out]; rfl⟩)
        · intro ρ wq hb ho hc hd
          have hC : ∀ v, ρ (.const v) = v := fun v => hc _ (by intro t e; cases e)
          have hF : ∀ f, ρ (.func f) = .func (.func f) #[] #[] := fun f => hc _ (by intro t e; cases e)
          have h14 : ρ (.tmp 14) = .slice (some ⟨b14, o14, none⟩) l.length c14 := ho 14 (by kernel_rfl)
          exact Lin.Runs.value Lin.keeps (Lin.exec_move rfl) h14
        · intro ρ wq hb ho hc hd
          have hC : ∀ v, ρ (.const v) = v := fun v => hc _ (by intro t e; cases e)
          have hF : ∀ f, ρ (.func f) = .func (.func f) #[] #[] := fun f => hc _ (by intro t e; cases e)
          have h16 : ρ (.tmp 16) = .int .i64 (k : Int) := ho 16 (by kernel_rfl)
          exact Lin.Runs.value Lin.keeps (Lin.exec_move rfl) h16
        · intro ρ wq hb ho hc hd
          have hC : ∀ v, ρ (.const v) = v := fun v => hc _ (by intro t e; cases e)
          have hF : ∀ f, ρ (.func f) = .func (.func f) #[] #[] := fun f => hc _ (by intro t e; cases e)
          have h89 : ρ (.tmp 89) = .slice (some ⟨b14, o14, none⟩) l.length c14 := hd 89 (by kernel_rfl)
          have h90 : ρ (.tmp 90) = .int .i64 (k : Int) := hd 90 (by kernel_rfl)
          exact Lin.Runs.value Lin.keeps (v := .pointer (some ⟨b14, o14 + k, none⟩)) (by simp [execOp, go_sem, h89, h90, k0, klz]) rfl
        · intro ρ wq hb ho hc hd
          have hC : ∀ v, ρ (.const v) = v := fun v => hc _ (by intro t e; cases e)
          have hF : ∀ f, ρ (.func f) = .func (.func f) #[] #[] := fun f => hc _ (by intro t e; cases e)
          have h91 : ρ (.tmp 91) = .pointer (some ⟨b14, o14 + k, none⟩) := hd 91 (by kernel_rfl)
          have dd := (hb.cell (p := ⟨b14, o14 + k, none⟩) hbs).trans dk
          exact Lin.Runs.value Lin.keeps (v := .int .i64 y) (by simp [execOp, go_sem, h91, dd]) rfl
        · intro ρ wq hb ho hc hd
          have hC : ∀ v, ρ (.const v) = v := fun v => hc _ (by intro t e; cases e)
          have hF : ∀ f, ρ (.func f) = .func (.func f) #[] #[] := fun f => hc _ (by intro t e; cases e)
          have h88 : ρ (.tmp 88) = .int .i64 y := hd 88 (by kernel_rfl)
          have h92 : ρ (.tmp 92) = .int .i64 y := hd 92 (by kernel_rfl)
          exact Lin.Runs.value Lin.keeps (v := .bool false) (by simp [execOp, go_sem, h88, h92]) rfl
        · intro vals w5 hb2 hv
          have ee := hv 93 (by kernel_rfl)
          have HB5 := Lib.hid (HBW.out.trans (hb2.mono HBW.out.size))
          have dk := (hb2.cell (p := ⟨b14, o14 + k, none⟩) hbs).trans dk
          have hbs5 : b14 < w5.heap.size := Nat.lt_of_lt_of_le hbs hb2.size
          clear hb2 HBW
          simp only [Lin.putAll, Option.getD_some]
          rw [show vals 93 = .bool false from ee]
          clear ee hv
          go_simp
          generalize vals = vv
          by_cases he : y = g
          · have heb : (y == g) = true := by simp [he]
            have HE := Lib.hid he
            clear he
            go_wp2_with fail
            go_roundw
            case rel => exact ⟨k + 1, HLT.out, by rw [HCS.out, if_pos HE.out]; go_num, by go_num, HB5.out⟩
            case measure => have := HLT.out; simp [intOf]; omega
          · have heb : (y == g) = false := by simp [he]
            go_wp2_with fail
            go_roundw
            case rel => exact ⟨k + 1, HLT.out, by rw [HCS.out, if_neg he]; go_num, by go_num, HB5.out⟩
            case measure => have := HLT.out; simp [intOf]; omega

      · obtain rfl : k = l.length := by omega
        have hge : ¬ (l.length : Int) < (l.length : Int) := by omega
        have ql : s.toNat % l.length < l.length := Nat.mod_lt _ (by omega)
        have dq := (HBW.out.cell (p := ⟨b14, o14 + s.toNat % l.length, none⟩) hb14).trans (HC14.out _ ql)
        have hs64 : IntKind.i64.wrap s = s := IntWalk.i64_in _ (by omega)
        have hrem : s.tmod (l.length : Int) = ((s.toNat % l.length : Nat) : Int) := by rw [Int.tmod_eq_emod_of_nonneg s0, ← show (s % (l.length : Int)).toNat = s.toNat % l.length from by rw [Int.toNat_emod s0 (by omega)]; rfl]; exact (Int.toNat_of_nonneg (Int.emod_nonneg _ (by omega))).symm
        have hqw : IntKind.i64.wrap ((s.toNat % l.length : Nat) : Int) = ((s.toNat % l.length : Nat) : Int) := IntWalk.i64_in _ (by omega)
        have q0 : (0 : Int) ≤ ((s.toNat % l.length : Nat) : Int) := by omega
        have qlz : ((s.toNat % l.length : Nat) : Int) < (l.length : Int) := by omega
        have hnz : ((l.length : Int) == 0) = false := by rw [beq_eq_false_iff_ne]; omega
        have hnz2 : ¬ (l.length : Int) = 0 := by omega
        have hnz3 : ¬ l.length = 0 := by omega
        have HIW := Lib.hid (show Ints wr wr.heap.size (some ⟨b14, o14, none⟩) l from (HI14.out.below HBW.out).more HBW.out.size)
        have HBW := Lib.hid (HB3.out.trans (HBW.out.mono HB3.out.size))
        obtain ⟨z, hz⟩ : ∃ z, at0 l (s.toNat % l.length) = z := ⟨_, rfl⟩
        rw [hz] at dq
        have HZ := Lib.hid hz
        clear hz
        obtain ⟨q, hq⟩ : ∃ q, s.toNat % l.length = q := ⟨_, rfl⟩
        rw [hq] at dq hrem hqw q0 qlz ql
        clear hq
        go_wp2_with fail
        refine Lin.wp_region_lin Lin.keeps (n := 176)  (fun slotq => match slotq with | 102 => Lin.Spec.val (.int .i64 0) | 103 => Lin.Spec.val (.bool false) | 104 => Lin.Spec.val (.bool false) | 105 => Lin.Spec.val (.agg #[.slice (some ⟨g1, 0, none⟩) l.length l.length]) | 106 => Lin.Spec.val (.int .u32 s) | 107 => Lin.Spec.val (.int .i64 z) | 108 => Lin.Spec.val (.slice (some ⟨b14, o14, none⟩) l.length c14) | 109 => Lin.Spec.val (.int .u32 s) | 110 => Lin.Spec.val (.int .i64 s) | 111 => Lin.Spec.val (.int .i64 (l.length : Int)) | 112 => Lin.Spec.val (.int .i64 (q : Int)) | 113 => Lin.Spec.val (.pointer (some ⟨b14, o14 + q, none⟩)) | 114 => Lin.Spec.val (.int .i64 z) | 115 => Lin.Spec.val (.bool false) | 116 => Lin.Spec.val (.bool false) | 117 => Lin.Spec.val (.bool false) | 118 => Lin.Spec.val (.agg #[.slice (some ⟨g1, 0, none⟩) l.length l.length]) | 119 => Lin.Spec.val (.int .i64 g) | 120 => Lin.Spec.val (.int .i64 (cnt l g l.length : Int)) | 121 => Lin.Spec.val (.int .i64 (cnt l g l.length : Int)) | 122 => Lin.Spec.val (.bool false) | 123 => Lin.Spec.val (.bool false) | _ => Lin.Spec.any) (by kernel_rfl) rfl (by kernel_rfl) ⟨?_, ?_, ?_, ?_, ?_, ?_, ?_, ?_, ?_, ?_, ?_, ?_, ?_, ?_, ?_, ?_, ?_, ?_, ?_, ?_, ?_, ?_, trivial⟩ ?_
        · intro ρ wq hb ho hc hd
          have hC : ∀ v, ρ (.const v) = v := fun v => hc _ (by intro t e; cases e)
          have hF : ∀ f, ρ (.func f) = .func (.func f) #[] #[] := fun f => hc _ (by intro t e; cases e)
          have h12 : ρ (.tmp 12) = .int .i64 0 := ho 12 (by kernel_rfl)
          exact Lin.Runs.value Lin.keeps (Lin.exec_move rfl) h12
        · intro ρ wq hb ho hc hd
          have hC : ∀ v, ρ (.const v) = v := fun v => hc _ (by intro t e; cases e)
          have hF : ∀ f, ρ (.func f) = .func (.func f) #[] #[] := fun f => hc _ (by intro t e; cases e)
          have h102 : ρ (.tmp 102) = .int .i64 0 := hd 102 (by kernel_rfl)
          exact Lin.Runs.value Lin.keeps (v := .bool false) (by simp [execOp, go_sem, hC, h102]) rfl
        · intro ρ wq hb ho hc hd
          have hC : ∀ v, ρ (.const v) = v := fun v => hc _ (by intro t e; cases e)
          have hF : ∀ f, ρ (.func f) = .func (.func f) #[] #[] := fun f => hc _ (by intro t e; cases e)
          have h103 : ρ (.tmp 103) = .bool false := hd 103 (by kernel_rfl)
          exact Lin.Runs.value Lin.keeps (Lin.exec_move rfl) h103
        · intro ρ wq hb ho hc hd
          have hC : ∀ v, ρ (.const v) = v := fun v => hc _ (by intro t e; cases e)
          have hF : ∀ f, ρ (.func f) = .func (.func f) #[] #[] := fun f => hc _ (by intro t e; cases e)
          intro t ht; cases (show some 104 = some t from ht)
          refine ⟨fun _ => ?_, fun hn => absurd (hd 104 (by kernel_rfl)) hn⟩
          have h11 : ρ (.tmp 11) = .pointer (some ⟨g11, 0, none⟩) := ho 11 (by kernel_rfl)
          have dd := (hb.cell (p := ⟨g11, 0, none⟩) lg).trans cg
          exact Lin.Runs.value Lin.keeps (v := .agg #[.slice (some ⟨g1, 0, none⟩) l.length l.length]) (by simp [execOp, go_sem, h11, dd]) rfl
        · intro ρ wq hb ho hc hd
          have hC : ∀ v, ρ (.const v) = v := fun v => hc _ (by intro t e; cases e)
          have hF : ∀ f, ρ (.func f) = .func (.func f) #[] #[] := fun f => hc _ (by intro t e; cases e)
          intro t ht; cases (show some 104 = some t from ht)
          refine ⟨fun _ => ?_, fun hn => absurd (hd 104 (by kernel_rfl)) hn⟩
          have h2 : ρ (.tmp 2) = .int .u32 s := ho 2 (by kernel_rfl)
          exact Lin.Runs.value Lin.keeps (Lin.exec_move rfl) h2
        · intro ρ wq hb ho hc hd
          have hC : ∀ v, ρ (.const v) = v := fun v => hc _ (by intro t e; cases e)
          have hF : ∀ f, ρ (.func f) = .func (.func f) #[] #[] := fun f => hc _ (by intro t e; cases e)
          intro t ht; cases (show some 104 = some t from ht)
          refine ⟨fun _ => ?_, fun hn => absurd (hd 104 (by kernel_rfl)) hn⟩
          have h105 : ρ (.tmp 105) = .agg #[.slice (some ⟨g1, 0, none⟩) l.length l.length] := hd 105 (by kernel_rfl)
          have h106 : ρ (.tmp 106) = .int .u32 s := hd 106 (by kernel_rfl)
          exact Lin.Runs.call Lin.keeps (f := 66) (args := #[.agg #[.slice (some ⟨g1, 0, none⟩) l.length l.length], .int .u32 s]) (by simp [execOp, go_sem, hF, h105, h106]) ((pick_n _ _ _ l s wq _ (OwnI.below HOW.out hb) rfl (by omega) (by omega) s0 s1).mono fun e w9 h => ⟨_, h.1, h.2, by rw [HZ.out]; rfl⟩)
        · intro ρ wq hb ho hc hd
          have hC : ∀ v, ρ (.const v) = v := fun v => hc _ (by intro t e; cases e)
          have hF : ∀ f, ρ (.func f) = .func (.func f) #[] #[] := fun f => hc _ (by intro t e; cases e)
          intro t ht; cases (show some 104 = some t from ht)
          refine ⟨fun _ => ?_, fun hn => absurd (hd 104 (by kernel_rfl)) hn⟩
          have h14 : ρ (.tmp 14) = .slice (some ⟨b14, o14, none⟩) l.length c14 := ho 14 (by kernel_rfl)
          exact Lin.Runs.value Lin.keeps (Lin.exec_move rfl) h14
        · intro ρ wq hb ho hc hd
          have hC : ∀ v, ρ (.const v) = v := fun v => hc _ (by intro t e; cases e)
          have hF : ∀ f, ρ (.func f) = .func (.func f) #[] #[] := fun f => hc _ (by intro t e; cases e)
          intro t ht; cases (show some 104 = some t from ht)
          refine ⟨fun _ => ?_, fun hn => absurd (hd 104 (by kernel_rfl)) hn⟩
          have h2 : ρ (.tmp 2) = .int .u32 s := ho 2 (by kernel_rfl)
          exact Lin.Runs.value Lin.keeps (Lin.exec_move rfl) h2
        · intro ρ wq hb ho hc hd
          have hC : ∀ v, ρ (.const v) = v := fun v => hc _ (by intro t e; cases e)
          have hF : ∀ f, ρ (.func f) = .func (.func f) #[] #[] := fun f => hc _ (by intro t e; cases e)
          intro t ht; cases (show some 104 = some t from ht)
          refine ⟨fun _ => ?_, fun hn => absurd (hd 104 (by kernel_rfl)) hn⟩
          have h109 : ρ (.tmp 109) = .int .u32 s := hd 109 (by kernel_rfl)
          exact Lin.Runs.value Lin.keeps (v := .int .i64 s) (by simp [execOp, go_sem, h109, hs64]) rfl
        · intro ρ wq hb ho hc hd
          have hC : ∀ v, ρ (.const v) = v := fun v => hc _ (by intro t e; cases e)
          have hF : ∀ f, ρ (.func f) = .func (.func f) #[] #[] := fun f => hc _ (by intro t e; cases e)
          intro t ht; cases (show some 104 = some t from ht)
          refine ⟨fun _ => ?_, fun hn => absurd (hd 104 (by kernel_rfl)) hn⟩
          have h0 : ρ (.tmp 0) = .int .i64 (l.length : Int) := ho 0 (by kernel_rfl)
          exact Lin.Runs.value Lin.keeps (Lin.exec_move rfl) h0
        · intro ρ wq hb ho hc hd
          have hC : ∀ v, ρ (.const v) = v := fun v => hc _ (by intro t e; cases e)
          have hF : ∀ f, ρ (.func f) = .func (.func f) #[] #[] := fun f => hc _ (by intro t e; cases e)
          intro t ht; cases (show some 104 = some t from ht)
          refine ⟨fun _ => ?_, fun hn => absurd (hd 104 (by kernel_rfl)) hn⟩
          have h110 : ρ (.tmp 110) = .int .i64 s := hd 110 (by kernel_rfl)
          have h111 : ρ (.tmp 111) = .int .i64 (l.length : Int) := hd 111 (by kernel_rfl)
          exact Lin.Runs.value Lin.keeps (v := .int .i64 (q : Int)) (by simp [execOp, go_sem, h110, h111, hrem, hnz3]) rfl
        · intro ρ wq hb ho hc hd
          have hC : ∀ v, ρ (.const v) = v := fun v => hc _ (by intro t e; cases e)
          have hF : ∀ f, ρ (.func f) = .func (.func f) #[] #[] := fun f => hc _ (by intro t e; cases e)
          intro t ht; cases (show some 104 = some t from ht)
          refine ⟨fun _ => ?_, fun hn => absurd (hd 104 (by kernel_rfl)) hn⟩
          have h108 : ρ (.tmp 108) = .slice (some ⟨b14, o14, none⟩) l.length c14 := hd 108 (by kernel_rfl)
          have h112 : ρ (.tmp 112) = .int .i64 (q : Int) := hd 112 (by kernel_rfl)
          exact Lin.Runs.value Lin.keeps (v := .pointer (some ⟨b14, o14 + q, none⟩)) (by simp [execOp, go_sem, h108, h112, q0, qlz]) rfl
        · intro ρ wq hb ho hc hd
          have hC : ∀ v, ρ (.const v) = v := fun v => hc _ (by intro t e; cases e)
          have hF : ∀ f, ρ (.func f) = .func (.func f) #[] #[] := fun f => hc _ (by intro t e; cases e)
          intro t ht; cases (show some 104 = some t from ht)
          refine ⟨fun _ => ?_, fun hn => absurd (hd 104 (by kernel_rfl)) hn⟩
          have h113 : ρ (.tmp 113) = .pointer (some ⟨b14, o14 + q, none⟩) := hd 113 (by kernel_rfl)
          have dd := (hb.cell (p := ⟨b14, o14 + q, none⟩) hbs).trans dq
          exact Lin.Runs.value Lin.keeps (v := .int .i64 z) (by simp [execOp, go_sem, h113, dd]) rfl
        · intro ρ wq hb ho hc hd
          have hC : ∀ v, ρ (.const v) = v := fun v => hc _ (by intro t e; cases e)
          have hF : ∀ f, ρ (.func f) = .func (.func f) #[] #[] := fun f => hc _ (by intro t e; cases e)
          intro t ht; cases (show some 104 = some t from ht)
          refine ⟨fun _ => ?_, fun hn => absurd (hd 104 (by kernel_rfl)) hn⟩
          have h107 : ρ (.tmp 107) = .int .i64 z := hd 107 (by kernel_rfl)
          have h114 : ρ (.tmp 114) = .int .i64 z := hd 114 (by kernel_rfl)
          exact Lin.Runs.value Lin.keeps (v := .bool false) (by simp [execOp, go_sem, h107, h114]) rfl
        · intro ρ wq hb ho hc hd
          have hC : ∀ v, ρ (.const v) = v := fun v => hc _ (by intro t e; cases e)
          have hF : ∀ f, ρ (.func f) = .func (.func f) #[] #[] := fun f => hc _ (by intro t e; cases e)
          have h104 : ρ (.tmp 104) = .bool false := hd 104 (by kernel_rfl)
          have h115 : ρ (.tmp 115) = .bool false := hd 115 (by kernel_rfl)
          exact Lin.Runs.value Lin.keeps (v := .bool false) (by simp [execOp, go_sem, hC, h104, h115]) rfl
        · intro ρ wq hb ho hc hd
          have hC : ∀ v, ρ (.const v) = v := fun v => hc _ (by intro t e; cases e)
          have hF : ∀ f, ρ (.func f) = .func (.func f) #[] #[] := fun f => hc _ (by intro t e; cases e)
          have h116 : ρ (.tmp 116) = .bool false := hd 116 (by kernel_rfl)
          exact Lin.Runs.value Lin.keeps (Lin.exec_move rfl) h116
        · intro ρ wq hb ho hc hd
          have hC : ∀ v, ρ (.const v) = v := fun v => hc _ (by intro t e; cases e)
          have hF : ∀ f, ρ (.func f) = .func (.func f) #[] #[] := fun f => hc _ (by intro t e; cases e)
          intro t ht; cases (show some 117 = some t from ht)
          refine ⟨fun _ => ?_, fun hn => absurd (hd 117 (by kernel_rfl)) hn⟩
          have h11 : ρ (.tmp 11) = .pointer (some ⟨g11, 0, none⟩) := ho 11 (by kernel_rfl)
          have dd := (hb.cell (p := ⟨g11, 0, none⟩) lg).trans cg
          exact Lin.Runs.value Lin.keeps (v := .agg #[.slice (some ⟨g1, 0, none⟩) l.length l.length]) (by simp [execOp, go_sem, h11, dd]) rfl
        · intro ρ wq hb ho hc hd
          have hC : ∀ v, ρ (.const v) = v := fun v => hc _ (by intro t e; cases e)
          have hF : ∀ f, ρ (.func f) = .func (.func f) #[] #[] := fun f => hc _ (by intro t e; cases e)
          intro t ht; cases (show some 117 = some t from ht)
          refine ⟨fun _ => ?_, fun hn => absurd (hd 117 (by kernel_rfl)) hn⟩
          have h3 : ρ (.tmp 3) = .int .i64 g := ho 3 (by kernel_rfl)
          exact Lin.Runs.value Lin.keeps (Lin.exec_move rfl) h3
        · intro ρ wq hb ho hc hd
          have hC : ∀ v, ρ (.const v) = v := fun v => hc _ (by intro t e; cases e)
          have hF : ∀ f, ρ (.func f) = .func (.func f) #[] #[] := fun f => hc _ (by intro t e; cases e)
          intro t ht; cases (show some 117 = some t from ht)
          refine ⟨fun _ => ?_, fun hn => absurd (hd 117 (by kernel_rfl)) hn⟩
          have h118 : ρ (.tmp 118) = .agg #[.slice (some ⟨g1, 0, none⟩) l.length l.length] := hd 118 (by kernel_rfl)
          have h119 : ρ (.tmp 119) = .int .i64 g := hd 119 (by kernel_rfl)
          exact Lin.Runs.call Lin.keeps (f := 67) (args := #[.agg #[.slice (some ⟨g1, 0, none⟩) l.length l.length], .int .i64 g]) (by simp [execOp, go_sem, hF, h118, h119]) ((count_n _ _ _ l g wq rfl ((OwnI.below HOW.out hb).ints rfl) hn3).mono fun e w9 h => ⟨_, h.1, h.2, rfl⟩)
        · intro ρ wq hb ho hc hd
          have hC : ∀ v, ρ (.const v) = v := fun v => hc _ (by intro t e; cases e)
          have hF : ∀ f, ρ (.func f) = .func (.func f) #[] #[] := fun f => hc _ (by intro t e; cases e)
          intro t ht; cases (show some 117 = some t from ht)
          refine ⟨fun _ => ?_, fun hn => absurd (hd 117 (by kernel_rfl)) hn⟩
          have h15 : ρ (.tmp 15) = .int .i64 (cnt l g l.length : Int) := ho 15 (by kernel_rfl)
          exact Lin.Runs.value Lin.keeps (Lin.exec_move rfl) h15
        · intro ρ wq hb ho hc hd
          have hC : ∀ v, ρ (.const v) = v := fun v => hc _ (by intro t e; cases e)
          have hF : ∀ f, ρ (.func f) = .func (.func f) #[] #[] := fun f => hc _ (by intro t e; cases e)
          intro t ht; cases (show some 117 = some t from ht)
          refine ⟨fun _ => ?_, fun hn => absurd (hd 117 (by kernel_rfl)) hn⟩
          have h120 : ρ (.tmp 120) = .int .i64 (cnt l g l.length : Int) := hd 120 (by kernel_rfl)
          have h121 : ρ (.tmp 121) = .int .i64 (cnt l g l.length : Int) := hd 121 (by kernel_rfl)
          exact Lin.Runs.value Lin.keeps (v := .bool false) (by simp [execOp, go_sem, h120, h121]) rfl
        · intro ρ wq hb ho hc hd
          have hC : ∀ v, ρ (.const v) = v := fun v => hc _ (by intro t e; cases e)
          have hF : ∀ f, ρ (.func f) = .func (.func f) #[] #[] := fun f => hc _ (by intro t e; cases e)
          have h117 : ρ (.tmp 117) = .bool false := hd 117 (by kernel_rfl)
          have h122 : ρ (.tmp 122) = .bool false := hd 122 (by kernel_rfl)
          exact Lin.Runs.value Lin.keeps (v := .bool false) (by simp [execOp, go_sem, hC, h117, h122]) rfl
        · intro vals w5 hb2 hv
          have ee := hv 123 (by kernel_rfl)
          have HB5 := Lib.hid (HBW.out.trans (hb2.mono HBW.out.size))
          have HO5 := Lib.hid (OwnI.below HOW.out hb2)
          have dg := (hb2.cell (p := ⟨g11, 0, none⟩) lg).trans cg
          have HI5 := Lib.hid (show Ints w5 w5.heap.size (some ⟨b14, o14, none⟩) l from (HIW.out.below hb2).more hb2.size)
          clear hb2 HBW HOW HIW cg
          simp only [Lin.putAll, Option.getD_some]
          rw [show vals 123 = .bool false from ee]
          clear ee hv
          go_simp
          generalize vals = vv
          go_wp2_with fail
          by_cases hfl : (fil left g left.length).length = 0
          · refine (pwithout_none _ _ l B d left g _ (HLFT.out.below HB5.out |>.more HB5.out.size) hmt hfl).mono ?_
            rintro e w6 ⟨rfl, hb6⟩
            have H17 := Lib.hid (Is.new w6 111 #[.slice none 0 0])
            have hbz : w5.heap.size ≤ w6.heap.size := hb6.size
            have HI6 := Lib.hid ((HI5.out.below hb6).more hb6.size)
            have HB6 := Lib.hid (HB5.out.trans (hb6.mono HB5.out.size))
            clear hb6 HI5 dg
            go_wp2_with fail
            have hb7 := (Below.refl w6.heap.size w6).alloc (Nat.le_refl _) (.cells #[.slice none 0 0] 111)
            have HI7 := Lib.hid ((HI6.out.below hb7).more hb7.size)
            have HB7 := Lib.hid (HB6.out.trans (hb7.mono HB6.out.size))
            clear hb7
            generalize w6.alloc (.cells #[.slice none 0 0] 111) = W at *
            refine (rwithout_none _ _ l B d left g _ (HLFT.out.below HB7.out |>.more HB7.out.size) hmt hfl).mono ?_
            rintro e w7 ⟨rfl, hb8⟩
            have K17 := H17.out.below hb8 H17.out.lt
            have c17 := K17.cell 0
            simp at c17
            have HB8 := Lib.hid (HB7.out.trans (hb8.mono HB7.out.size))
            clear hb8 K17
            go_wp2_with fail
            refine (pick_zero 0 _).mono ?_
            rintro e w8 ⟨rfl, hb9⟩
            have HB9 := Lib.hid (HB8.out.trans (hb9.mono HB8.out.size))
            clear hb9 c17
            go_wp2_with fail
            refine (awake41 _).mono ?_
            rintro e w9 ⟨rfl, hb9⟩
            have HBa := Lib.hid (HB9.out.trans (hb9.mono HB9.out.size))
            clear hb9
            go_wp2_with fail
            go_ret
            exact ⟨rfl, HBa.out⟩

          · have hfp : 0 < (fil left g left.length).length := by omega
            clear hfl
            refine (pwithout_some _ _ _ l B d left g _ (HO5.out.ints rfl) (by omega) (by omega) (HLFT.out.below HB5.out |>.more HB5.out.size) hmt hfp).mono ?_
            rintro e w6 ⟨g2, c2, rfl, ho6, hb6⟩
            have H17 := Lib.hid (Is.new w6 111 #[.slice (some ⟨g2, 0, none⟩) l.length c2])
            have hbz : w5.heap.size ≤ w6.heap.size := hb6.size
            have HO6 := Lib.hid ho6
            have HI6 := Lib.hid ((HI5.out.below hb6).more hb6.size)
            have HB6 := Lib.hid (HB5.out.trans (hb6.mono HB5.out.size))
            clear hb6 ho6 HI5 dg HO5
            go_wp2_with fail
            have hb7 := (Below.refl w6.heap.size w6).alloc (Nat.le_refl _) (.cells #[.slice (some ⟨g2, 0, none⟩) l.length c2] 111)
            have HI7 := Lib.hid ((HI6.out.below hb7).more hb7.size)
            have HO7 := Lib.hid (OwnI.below HO6.out hb7)
            have HB7 := Lib.hid (HB6.out.trans (hb7.mono HB6.out.size))
            clear hb7 HI6 HO6 HB6
            generalize w6.alloc (.cells #[.slice (some ⟨g2, 0, none⟩) l.length c2] 111) = W at *
            generalize w6.heap.size = g17 at *
            refine (rwithout_some _ _ l B d left g _ HI7.out (HLFT.out.below HB7.out |>.more HB7.out.size) (by omega) hmt hfp).mono ?_
            rintro e w7 ⟨A19, c19, rfl, ho19, hb8⟩
            have HM := Lib.hid (wst_len (fil left g left.length) g l l.length)
            have HG := Lib.hid (cnt_gone (l := l) hfp (fil_not left g left.length))
            rw [← wst_all] at ho19
            have HO8 := Lib.hid (OwnI.below HO7.out hb8)
            have K17 := Lib.hid (H17.out.below hb8 H17.out.lt)
            have HB8 := Lib.hid (HB7.out.trans (hb8.mono HB7.out.size))
            generalize wst (fil left g left.length) g l l.length = m at *
            have hi19 := ho19.ints HM.out
            obtain ⟨b19, o19, rfl, hb19, hc19⟩ := hi19.cells (by have := HM.out; omega)
            have HC19 := Lib.hid hc19
            clear ho19 hb8 HO7 H17 HB7 hi19 hc19 HI7
            go_wp2_with fail
            go_loopw [21] (fun v21 wr => LhRel w7 l.length v21 wr) (fun v _ => (l.length - intOf v).toNat)
            case atStart => exact ⟨0, Nat.zero_le _, rfl, Below.refl _ _⟩
            case round =>
              obtain ⟨k, hk, rfl, hb⟩ := hrel
              have HOW := Lib.hid (OwnI.below HO8.out hb)
              have kg := K17.out.below hb K17.out.lt
              have cg := kg.cell 0
              have lg := kg.lt
              simp at cg
              have HBW := Lib.hid hb
              have hbz9 : w7.heap.size ≤ wr.heap.size := hb.size
              clear hb kg
              by_cases kl : k < l.length
              · have k0 : (0 : Int) ≤ (k : Int) := by omega
                have klz : (k : Int) < (l.length : Int) := by omega
                have hk32 : IntKind.u32.wrap (k : Int) = (k : Int) := IntWalk.u32_in _ (by omega)
                have hk33 : (k : Int) ≤ 4294967295 := by omega
                have dk := (HBW.out.cell (p := ⟨b19, o19 + k, none⟩) hb19).trans (HC19.out k (by have := HM.out; omega))
                have hbs : b19 < wr.heap.size := by omega
                have HY := Lib.hid (show at0 m ((k : Int).toNat % l.length) = at0 m k from by rw [Int.toNat_natCast, Nat.mod_eq_of_lt kl])
                have HLT := Lib.hid kl
                generalize at0 m k = y at *
                go_wp2_with fail
                refine Lin.wp_region_lin Lin.keeps (n := 176)  (fun slotq => match slotq with | 156 => Lin.Spec.val (.agg #[.slice (some ⟨g2, 0, none⟩) l.length c2]) | 157 => Lin.Spec.val (.int .i64 (k : Int)) | 158 => Lin.Spec.val (.int .u32 (k : Int)) | 159 => Lin.Spec.val (.int .i64 y) | 160 => Lin.Spec.val (.slice (some ⟨b19, o19, none⟩) l.length c19) | 161 => Lin.Spec.val (.int .i64 (k : Int)) | 162 => Lin.Spec.val (.pointer (some ⟨b19, o19 + k, none⟩)) | 163 => Lin.Spec.val (.int .i64 y) | 164 => Lin.Spec.val (.bool false) | _ => Lin.Spec.any) (by kernel_rfl) rfl (by kernel_rfl) ⟨?_, ?_, ?_, ?_, ?_, ?_, ?_, ?_, ?_, trivial⟩ ?_
                · intro ρ wq hb ho hc hd
                  have hC : ∀ v, ρ (.const v) = v := fun v => hc _ (by intro t e; cases e)
                  have hF : ∀ f, ρ (.func f) = .func (.func f) #[] #[] := fun f => hc _ (by intro t e; cases e)
                  have h17 : ρ (.tmp 17) = .pointer (some ⟨g17, 0, none⟩) := ho 17 (by kernel_rfl)
                  have dd := (hb.cell (p := ⟨g17, 0, none⟩) lg).trans cg
                  exact Lin.Runs.value Lin.keeps (v := .agg #[.slice (some ⟨g2, 0, none⟩) l.length c2]) (by simp [execOp, go_sem, h17, dd]) rfl
                · intro ρ wq hb ho hc hd
                  have hC : ∀ v, ρ (.const v) = v := fun v => hc _ (by intro t e; cases e)
                  have hF : ∀ f, ρ (.func f) = .func (.func f) #[] #[] := fun f => hc _ (by intro t e; cases e)
                  have h21 : ρ (.tmp 21) = .int .i64 (k : Int) := ho 21 (by kernel_rfl)
                  exact Lin.Runs.value Lin.keeps (Lin.exec_move rfl) h21
                · intro ρ wq hb ho hc hd
                  have hC : ∀ v, ρ (.const v) = v := fun v => hc _ (by intro t e; cases e)
                  have hF : ∀ f, ρ (.func f) = .func (.func f) #[] #[] := fun f => hc _ (by intro t e; cases e)
                  have h157 : ρ (.tmp 157) = .int .i64 (k : Int) := hd 157 (by kernel_rfl)
                  exact Lin.Runs.value Lin.keeps (v := .int .u32 (k : Int)) (by simp [execOp, go_sem, h157, hk32]) rfl
                · intro ρ wq hb ho hc hd
                  have hC : ∀ v, ρ (.const v) = v := fun v => hc _ (by intro t e; cases e)
                  have hF : ∀ f, ρ (.func f) = .func (.func f) #[] #[] := fun f => hc _ (by intro t e; cases e)
                  have h156 : ρ (.tmp 156) = .agg #[.slice (some ⟨g2, 0, none⟩) l.length c2] := hd 156 (by kernel_rfl)
                  have h158 : ρ (.tmp 158) = .int .u32 (k : Int) := hd 158 (by kernel_rfl)
                  exact Lin.Runs.call Lin.keeps (f := 66) (args := #[.agg #[.slice (some ⟨g2, 0, none⟩) l.length c2], .int .u32 (k : Int)]) (by simp [execOp, go_sem, hF, h156, h158]) ((pick_n _ _ _ m (k : Int) wq _ (OwnI.below HOW.out hb) HM.out (by omega) (by omega) k0 hk33).mono fun e w9 h => ⟨_, h.1, h.2, by rw [HY.out]; rfl⟩)
                · intro ρ wq hb ho hc hd
                  have hC : ∀ v, ρ (.const v) = v := fun v => hc _ (by intro t e; cases e)
                  have hF : ∀ f, ρ (.func f) = .func (.func f) #[] #[] := fun f => hc _ (by intro t e; cases e)
                  have h19 : ρ (.tmp 19) = .slice (some ⟨b19, o19, none⟩) l.length c19 := ho 19 (by kernel_rfl)
                  exact Lin.Runs.value Lin.keeps (Lin.exec_move rfl) h19
                · intro ρ wq hb ho hc hd
                  have hC : ∀ v, ρ (.const v) = v := fun v => hc _ (by intro t e; cases e)
                  have hF : ∀ f, ρ (.func f) = .func (.func f) #[] #[] := fun f => hc _ (by intro t e; cases e)
                  have h21 : ρ (.tmp 21) = .int .i64 (k : Int) := ho 21 (by kernel_rfl)
                  exact Lin.Runs.value Lin.keeps (Lin.exec_move rfl) h21
                · intro ρ wq hb ho hc hd
                  have hC : ∀ v, ρ (.const v) = v := fun v => hc _ (by intro t e; cases e)
                  have hF : ∀ f, ρ (.func f) = .func (.func f) #[] #[] := fun f => hc _ (by intro t e; cases e)
                  have h160 : ρ (.tmp 160) = .slice (some ⟨b19, o19, none⟩) l.length c19 := hd 160 (by kernel_rfl)
                  have h161 : ρ (.tmp 161) = .int .i64 (k : Int) := hd 161 (by kernel_rfl)
                  exact Lin.Runs.value Lin.keeps (v := .pointer (some ⟨b19, o19 + k, none⟩)) (by simp [execOp, go_sem, h160, h161, k0, klz]) rfl
                · intro ρ wq hb ho hc hd
                  have hC : ∀ v, ρ (.const v) = v := fun v => hc _ (by intro t e; cases e)
                  have hF : ∀ f, ρ (.func f) = .func (.func f) #[] #[] := fun f => hc _ (by intro t e; cases e)
                  have h162 : ρ (.tmp 162) = .pointer (some ⟨b19, o19 + k, none⟩) := hd 162 (by kernel_rfl)
                  have dd := (hb.cell (p := ⟨b19, o19 + k, none⟩) hbs).trans dk
                  exact Lin.Runs.value Lin.keeps (v := .int .i64 y) (by simp [execOp, go_sem, h162, dd]) rfl
                · intro ρ wq hb ho hc hd
                  have hC : ∀ v, ρ (.const v) = v := fun v => hc _ (by intro t e; cases e)
                  have hF : ∀ f, ρ (.func f) = .func (.func f) #[] #[] := fun f => hc _ (by intro t e; cases e)
                  have h159 : ρ (.tmp 159) = .int .i64 y := hd 159 (by kernel_rfl)
                  have h163 : ρ (.tmp 163) = .int .i64 y := hd 163 (by kernel_rfl)
                  exact Lin.Runs.value Lin.keeps (v := .bool false) (by simp [execOp, go_sem, h159, h163]) rfl
                · intro vals w5 hb2 hv
                  have ee := hv 164 (by kernel_rfl)
                  have HB5 := Lib.hid (HBW.out.trans (hb2.mono HBW.out.size))
                  clear hb2 HBW
                  simp only [Lin.putAll, Option.getD_some]
                  rw [show vals 164 = .bool false from ee]
                  clear ee hv
                  go_simp
                  generalize vals = vv
                  go_wp2_with fail
                  go_roundw
                  case rel => exact ⟨k + 1, HLT.out, by go_num, HB5.out⟩
                  case measure => have := HLT.out; simp [intOf]; omega
              · obtain rfl : k = l.length := by omega
                have hge : ¬ (l.length : Int) < (l.length : Int) := by omega
                have HBX := Lib.hid (HB8.out.trans (HBW.out.mono HB8.out.size))
                have hn4 : l.length ≤ 100000 := by omega
                go_wp2_with fail
                refine (count_n _ _ _ m g _ HM.out (HOW.out.ints HM.out) hn4).mono ?_
                rintro e w8 ⟨rfl, hb9⟩
                rw [show ((cnt m g l.length : Nat) : Int) = 0 from by rw [HG.out]; rfl]
                have HBa := Lib.hid (HBX.out.trans (hb9.mono HBX.out.size))
                clear hb9
                go_wp2_with fail
                refine (awake41 _).mono ?_
                rintro e w9 ⟨rfl, hb9⟩
                have HB9 := Lib.hid (HBa.out.trans (hb9.mono HBa.out.size))
                clear hb9
                go_wp2_with fail
                go_ret
                exact ⟨rfl, HB9.out⟩


  · exact absurd HP.out hx
end Go.Proofs.Ytkebgkjopfdafaa
