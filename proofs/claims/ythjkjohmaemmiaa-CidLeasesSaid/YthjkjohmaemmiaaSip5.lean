/-
  Sum of package siphash: what a call returns. Helper of the claims on layers 10 and 11.
-/
import Derived.Test.YthjkjohmaemmiaaSip4
namespace Go.Proofs.Ythjkjohmaemmiaa
open Go.ChangeShapes Go.WideShapes Go.ChangeAt Go.RowKit
set_option linter.unusedSimpArgs false
set_option linter.unusedVariables false
def sliceLen : Value → Nat | .slice _ n _ => n | _ => 0
theorem four_put {w : World} {g : Nat} {t : TypeId} {x0 x1 x2 x3 y0 y1 y2 y3 : Value} (h : Is w g t #[x0, x1, x2, x3]) :
    Is ((((w.setCell ⟨g, 0, none⟩ y0).setCell ⟨g, 1, none⟩ y1).setCell ⟨g, 2, none⟩ y2).setCell ⟨g, 3, none⟩ y3) g t #[y0, y1, y2, y3] := (((h.put 0 y0).put 1 y1).put 2 y2).put 3 y3
theorem drop_if {w : World} {B c1 i g : Nat} {A : Option Addr} {l : List Int} {y0 y1 y2 y3 : Value} (h : Bytes w B A (l.drop (8 * i))) (hl : l.length - 8 * i ≤ c1) (hg : B ≤ g) :
    Bytes ((((w.setCell ⟨g, 0, none⟩ y0).setCell ⟨g, 1, none⟩ y1).setCell ⟨g, 2, none⟩ y2).setCell ⟨g, 3, none⟩ y3) B (if c1 = 8 then A else A.map fun x => x.add 8) (l.drop (8 * (i + 1))) := by
  have := bytes_drop h 8 c1 (by rw [List.length_drop]; exact hl)
  rw [List.drop_drop] at this
  exact (((this.set hg _).set hg _).set hg _).set hg _
theorem slice_len {A : Option Addr} {n m c : Nat} (h : n = m) : Value.slice A n c = .slice A m c := by rw [h]
theorem below4 {w v : World} {H g : Nat} {y0 y1 y2 y3 : Value} (h : Below H w v) (hg : H ≤ g) : Below H w ((((v.setCell ⟨g, 0, none⟩ y0).setCell ⟨g, 1, none⟩ y1).setCell ⟨g, 2, none⟩ y2).setCell ⟨g, 3, none⟩ y3) :=
  ((((h.setCell (p := ⟨g, 0, none⟩) hg y0).setCell (p := ⟨g, 1, none⟩) hg y1).setCell (p := ⟨g, 2, none⟩) hg y2).setCell (p := ⟨g, 3, none⟩) hg y3)
def SumRel (w : World) (key l : List Int) (g : Nat) (r : Value) (wr : World) : Prop :=
  ∃ (i : Nat) (A : Option Addr) (cp a b c d : Nat), 8 * i ≤ l.length ∧ r = .slice A (l.length - 8 * i) cp ∧ Bytes wr w.heap.size A (l.drop (8 * i)) ∧ l.length - 8 * i ≤ cp ∧ eat (start key) l i = ⟨a, b, c, d⟩ ∧
    Is wr g 186 #[.int .u64 (a : Int), .int .u64 (b : Int), .int .u64 (c : Int), .int .u64 (d : Int)] ∧ Below w.heap.size w wr
set_option maxRecDepth 100000 in
set_option maxHeartbeats 8000000 in
theorem sum_any (key l : List Int) (cs : Array Value) (A : Option Addr) (n cp : Nat) (w : World) (hcs : cs = (u8s key).toArray) (hl : key.length = 16) (ho : Octets key) (hb : Bytes w w.heap.size A l) (hn : l.length = n) (hcp : n ≤ cp) (hlo : Octets l) (hm : n ≤ 100000000) (hA : cp ≤ maxLen) :
    Calls Try.prog 97 #[.agg cs, .slice A n cp] w fun e w' => e = .returned (.int .u64 ((sip key l : Nat) : Int)) ∧ Below w.heap.size w w' := by
  subst hn
  unfold maxLen at hA
  have HCS := Lib.hid hcs; have HKL := Lib.hid hl; have HKO := Lib.hid ho; have HB0 := Lib.hid hb; have HO := Lib.hid hlo
  have hsz : cs.size = 16 := by rw [hcs]; simp [u8s, hl]
  have HSZ := Lib.hid hsz
  obtain ⟨a0, b0, c0, d0, est⟩ : ∃ a b c d, start key = ⟨a, b, c, d⟩ := ⟨_, _, _, _, rfl⟩
  have HST := Lib.hid est
  clear hcs hl ho hb hlo hsz est
  go_enter Try.func97, Try.ntmps97
  go_wp2_with (with_reducible show wpList _ _ _ (⟨some 8, _, _, _, _, _⟩ :: _) _ _; go_loud (refine Go.wpList_load_row rfl 43 (.tmp 2) rfl w.heap.size rfl 43 cs (0, 0) _ (heap_alloc_new w _) Try.underlying43 rfl (by rw [HSZ.out]; kernel_rfl) ?_))
  refine (start_lit key cs _ HCS.out HKL.out HKO.out HST.out).mono ?_
  rintro e w1 ⟨rfl, hb1⟩
  have hbe := ((Below.refl w.heap.size w).alloc (Nat.le_refl _) (.cells cs 43)).trans (hb1.mono (by simp))
  have HBE := Lib.hid hbe
  clear hb1 hbe
  go_wp2_with fail
  go_loopw [6] (fun r wr => SumRel w key l w1.heap.size r wr) (fun r _ => sliceLen r)
  case atStart => exact ⟨0, A, cp, a0, b0, c0, d0, by omega, by simp, ((HB0.out.below HBE.out).alloc HBE.out.size _), by omega, HST.out, Is.new w1 _ _, HBE.out.alloc HBE.out.size _⟩
  case round =>
    have hgw : w.heap.size ≤ w1.heap.size := HBE.out.size
    obtain ⟨i, A1, c1, a, b, c, d, hi8, rfl, hby, hcp1, heat, hi, hbe⟩ := hrel
    generalize w1.heap.size = g at *
    have hok : St.ok ⟨a, b, c, d⟩ := by rw [← heat]; exact eat_ok (start_ok HKO.out) HO.out i
    have HI := Lib.hid hi; have HBY := Lib.hid hby; have HBE := Lib.hid hbe; have HEAT := Lib.hid heat; have HOK := hide hok
    have hcp2 : c1 ≤ 9223372036854775807 ∨ True := .inr trivial
    clear hi hby hbe heat hok hcp2
    by_cases hlt : 8 ≤ l.length - 8 * i
    · obtain ⟨m, hmm⟩ : ∃ m, le (pad (l.drop (8 * i)) 8) = m := ⟨_, rfl⟩
      have HML : Hid (m < 18446744073709551616) := hide (by rw [← hmm]; exact wordN_lt l HO.out i)
      obtain ⟨a9, b9, c9, d9, hab⟩ : ∃ a' b' c' d', absorb ⟨a, b, c, d⟩ m = ⟨a', b', c', d'⟩ := ⟨_, _, _, _, rfl⟩
      have HE9 : Hid (eat (start key) l (i + 1) = ⟨a9, b9, c9, d9⟩) := hide (by rw [eat, HEAT.out, ← hab, ← hmm]; rfl)
      have HAB := Lib.hid hab; have HM := Lib.hid hmm
      clear hab hmm
      go_wp2_with fail
      refine Lin.wp_region_lin_tail Lin.keeps (n := 51) 5 (fun slotq => match slotq with | 16 => Lin.Spec.val (.agg #[.int .u64 (a : Int), .int .u64 (b : Int), .int .u64 (c : Int), .int .u64 (d : Int)]) | 17 => Lin.Spec.val (.slice A1 (l.length - 8 * i) c1) | 18 => Lin.Spec.val (W8 (pad (l.drop (8 * i)) 8)) | 19 => Lin.Spec.val (.int .u64 (m : Int)) | 20 => Lin.Spec.val (.agg #[.int .u64 (a9 : Int), .int .u64 (b9 : Int), .int .u64 (c9 : Int), .int .u64 (d9 : Int)]) | _ => Lin.Spec.any) (by kernel_rfl) rfl (by kernel_rfl) ⟨?_, ?_, ?_, ?_, ?_, trivial⟩ ?_
      · intro ρ wq hb ho hc hd
        have hC : ∀ v, ρ (.const v) = v := fun v => hc _ (by intro t e; cases e)
        have hF : ∀ f, ρ (.func f) = .func (.func f) #[] #[] := fun f => hc _ (by intro t e; cases e)
        have h5 : ρ (.tmp 5) = .pointer (some ⟨g, 0, none⟩) := ho 5 (by kernel_rfl)
        have hi5 := HI.out.below hb HI.out.lt
        have q0 := hi5.cell 0
        have q1 := hi5.cell 1
        have q2 := hi5.cell 2
        have q3 := hi5.cell 3
        simp at q0 q1 q2 q3
        exact Lin.Runs.value Lin.keeps (v := .agg #[.int .u64 (a : Int), .int .u64 (b : Int), .int .u64 (c : Int), .int .u64 (d : Int)]) (by simp [execOp, go_sem, hC, hF, h5, q0, q1, q2, q3]) rfl
      · intro ρ wq hb ho hc hd
        have hC : ∀ v, ρ (.const v) = v := fun v => hc _ (by intro t e; cases e)
        have hF : ∀ f, ρ (.func f) = .func (.func f) #[] #[] := fun f => hc _ (by intro t e; cases e)
        have h6 : ρ (.tmp 6) = .slice A1 (l.length - 8 * i) c1 := ho 6 (by kernel_rfl)
        exact Lin.Runs.value Lin.keeps (Lin.exec_move rfl) h6
      · intro ρ wq hb ho hc hd
        have hC : ∀ v, ρ (.const v) = v := fun v => hc _ (by intro t e; cases e)
        have hF : ∀ f, ρ (.func f) = .func (.func f) #[] #[] := fun f => hc _ (by intro t e; cases e)
        have h17 : ρ (.tmp 17) = .slice A1 (l.length - 8 * i) c1 := hd 17 (by kernel_rfl)
        refine Lin.Runs.call Lin.keeps (f := 122) (args := #[.slice A1 (l.length - 8 * i) c1]) (by simp [execOp, go_sem, hC, hF, h17]) ?_
        have h := load_any A1 (l.length - 8 * i) c1 (l.drop (8 * i)) wq _ (HBY.out.below (hb.mono HBE.out.size)) (Nat.le_trans HBE.out.size hb.size) (by rw [List.length_drop])
        exact h.mono fun e w2 ⟨he, hb2⟩ => ⟨_, he, hb2, rfl⟩
      · intro ρ wq hb ho hc hd
        have hC : ∀ v, ρ (.const v) = v := fun v => hc _ (by intro t e; cases e)
        have hF : ∀ f, ρ (.func f) = .func (.func f) #[] #[] := fun f => hc _ (by intro t e; cases e)
        have h18 : ρ (.tmp 18) = W8 (pad (l.drop (8 * i)) 8) := hd 18 (by kernel_rfl)
        refine Lin.Runs.call Lin.keeps (f := 123) (args := #[W8 (pad (l.drop (8 * i)) 8)]) (by simp [execOp, go_sem, hC, hF, h18]) ?_
        exact (value_lit wq (pad_len _ _) (pad_ok (HO.out.drop _) 8) HM.out).mono fun e w2 ⟨he, hb2⟩ => ⟨_, he, hb2, rfl⟩
      · intro ρ wq hb ho hc hd
        have hC : ∀ v, ρ (.const v) = v := fun v => hc _ (by intro t e; cases e)
        have hF : ∀ f, ρ (.func f) = .func (.func f) #[] #[] := fun f => hc _ (by intro t e; cases e)
        have h16 : ρ (.tmp 16) = .agg #[.int .u64 (a : Int), .int .u64 (b : Int), .int .u64 (c : Int), .int .u64 (d : Int)] := hd 16 (by kernel_rfl)
        have h19 : ρ (.tmp 19) = .int .u64 (m : Int) := hd 19 (by kernel_rfl)
        refine Lin.Runs.call Lin.keeps (f := 121) (args := #[.agg #[.int .u64 (a : Int), .int .u64 (b : Int), .int .u64 (c : Int), .int .u64 (d : Int)], .int .u64 (m : Int)]) (by simp [execOp, go_sem, hC, hF, h16, h19]) ?_
        exact (absorb_lit m wq HOK.out HML.out HAB.out).mono fun e w2 ⟨he, hb2⟩ => ⟨_, he, hb2, rfl⟩
      · intro vals w2 hb2 hv
        have e20 : vals 20 = .agg #[.int .u64 (a9 : Int), .int .u64 (b9 : Int), .int .u64 (c9 : Int), .int .u64 (d9 : Int)] := hv 20 (by kernel_rfl)
        change wpList _ _ _ [_] _ _
        simp only [Lin.putAll, Option.getD_some, List.take_succ_cons, List.take_zero, List.drop_succ_cons, List.drop_zero]
        rw [e20]
        have hi2 := HI.out.below hb2 HI.out.lt
        have z0 := hi2.cell 0
        have z1 := hi2.cell 1
        have z2 := hi2.cell 2
        have z3 := hi2.cell 3
        have y0 := hi2.free 0
        have y1 := hi2.free 1
        have y2 := hi2.free 2
        have y3 := hi2.free 3
        simp at z0 z1 z2 z3
        have HI2 := Lib.hid hi2
        have HB2 := hide (HBE.out.trans (hb2.mono HBE.out.size))
        have HBY2 := hide (HBY.out.below (hb2.mono HBE.out.size))
        clear hi2 hb2 hv
        go_simp
        generalize vals = vv
        go_wp2_with fail
        go_roundw
        case rel => exact ⟨i + 1, _, _, a9, b9, c9, d9, by omega, slice_len (by omega), drop_if HBY2.out (by omega) hgw, by omega, HE9.out, four_put HI2.out, below4 HB2.out hgw⟩
        case measure => simp [sliceLen]; try omega
    · obtain rfl : i = l.length / 8 := by omega
      have hO8 : Octets (pad (l.drop (8 * (l.length / 8))) 8) := pad_ok (HO.out.drop _) 8
      have hlast : lastW l = (pad (l.drop (8 * (l.length / 8))) 8).set 7 ((l.length % 256 : Nat) : Int) := rfl
      have hpad : pad (l.drop (8 * (l.length / 8))) 8 = [at0 (pad (l.drop (8 * (l.length / 8))) 8) 0, at0 (pad (l.drop (8 * (l.length / 8))) 8) 1, at0 (pad (l.drop (8 * (l.length / 8))) 8) 2, at0 (pad (l.drop (8 * (l.length / 8))) 8) 3, at0 (pad (l.drop (8 * (l.length / 8))) 8) 4, at0 (pad (l.drop (8 * (l.length / 8))) 8) 5, at0 (pad (l.drop (8 * (l.length / 8))) 8) 6, at0 (pad (l.drop (8 * (l.length / 8))) 8) 7] := rfl
      rw [hpad] at hlast
      have hl8 : Octets (lastW l) := lastW_ok HO.out
      have hload := fun hW => load_any A1 (l.length - 8 * (l.length / 8)) c1 (l.drop (8 * (l.length / 8))) wr w.heap.size (HBY.out) hW (by rw [List.length_drop])
      unfold W8 at hload
      generalize at0 (pad (l.drop (8 * (l.length / 8))) 8) 0 = p0 at *
      generalize at0 (pad (l.drop (8 * (l.length / 8))) 8) 1 = p1 at *
      generalize at0 (pad (l.drop (8 * (l.length / 8))) 8) 2 = p2 at *
      generalize at0 (pad (l.drop (8 * (l.length / 8))) 8) 3 = p3 at *
      generalize at0 (pad (l.drop (8 * (l.length / 8))) 8) 4 = p4 at *
      generalize at0 (pad (l.drop (8 * (l.length / 8))) 8) 5 = p5 at *
      generalize at0 (pad (l.drop (8 * (l.length / 8))) 8) 6 = p6 at *
      generalize at0 (pad (l.drop (8 * (l.length / 8))) 8) 7 = p7 at *
      have hlast2 : lastW l = [p0, p1, p2, p3, p4, p5, p6, (l.length : Int) % 256] := by rw [hlast]; simp
      rw [hlast2] at hl8
      obtain ⟨m, hmm⟩ : ∃ m, le [p0, p1, p2, p3, p4, p5, p6, (l.length : Int) % 256] = m := ⟨_, rfl⟩
      have hml : m < 18446744073709551616 := by rw [← hmm, ← hlast2]; exact lastW_lt HO.out
      obtain ⟨a9, b9, c9, d9, hab⟩ : ∃ a' b' c' d', absorb ⟨a, b, c, d⟩ m = ⟨a', b', c', d'⟩ := ⟨_, _, _, _, rfl⟩
      have hok9 := absorb_ok HOK.out hml
      rw [hab] at hok9
      have fx : bits .xor .u64 (c9 : Int) 255 = ((c9 ^^^ 255 : Nat) : Int) := u64_xor_nat c9 255 hok9.2.2.1 (by omega)
      have k0 : St.ok ⟨a9, b9, c9 ^^^ 255, d9⟩ := ⟨hok9.1, hok9.2.1, xor_lt64 hok9.2.2.1 (by omega), hok9.2.2.2⟩
      have hfin : sip key l = (rnd (rnd (rnd (rnd ⟨a9, b9, c9 ^^^ 255, d9⟩)))).a ^^^ (rnd (rnd (rnd (rnd ⟨a9, b9, c9 ^^^ 255, d9⟩)))).b ^^^ (rnd (rnd (rnd (rnd ⟨a9, b9, c9 ^^^ 255, d9⟩)))).c ^^^ (rnd (rnd (rnd (rnd ⟨a9, b9, c9 ^^^ 255, d9⟩)))).d := by
        unfold sip fin
        rw [HEAT.out, hlast2, hmm, hab]
      generalize c9 ^^^ 255 = cx at *
      have k1 := rnd_ok k0
      obtain ⟨ra1, rb1, rc1, rd1, er1⟩ : ∃ a' b' c' d', rnd ⟨a9, b9, cx, d9⟩ = ⟨a', b', c', d'⟩ := ⟨_, _, _, _, rfl⟩
      have HR1 := hide (fun W => round_lit k0 er1 W)
      rw [er1] at k1 hfin
      have k2 := rnd_ok k1
      obtain ⟨ra2, rb2, rc2, rd2, er2⟩ : ∃ a' b' c' d', rnd ⟨ra1, rb1, rc1, rd1⟩ = ⟨a', b', c', d'⟩ := ⟨_, _, _, _, rfl⟩
      have HR2 := hide (fun W => round_lit k1 er2 W)
      rw [er2] at k2 hfin
      have k3 := rnd_ok k2
      obtain ⟨ra3, rb3, rc3, rd3, er3⟩ : ∃ a' b' c' d', rnd ⟨ra2, rb2, rc2, rd2⟩ = ⟨a', b', c', d'⟩ := ⟨_, _, _, _, rfl⟩
      have HR3 := hide (fun W => round_lit k2 er3 W)
      rw [er3] at k3 hfin
      have k4 := rnd_ok k3
      obtain ⟨ra4, rb4, rc4, rd4, er4⟩ : ∃ a' b' c' d', rnd ⟨ra3, rb3, rc3, rd3⟩ = ⟨a', b', c', d'⟩ := ⟨_, _, _, _, rfl⟩
      have HR4 := hide (fun W => round_lit k3 er4 W)
      rw [er4] at k4 hfin
      simp only at hfin
      have x1 := u64_xor_nat ra4 rb4 k4.1 k4.2.1
      have x2 := u64_xor_nat (ra4 ^^^ rb4) rc4 (xor_lt64 k4.1 k4.2.1) k4.2.2.1
      have x3 := u64_xor_nat (ra4 ^^^ rb4 ^^^ rc4) rd4 (xor_lt64 (xor_lt64 k4.1 k4.2.1) k4.2.2.1) k4.2.2.2
      rw [← hfin] at x3
      generalize ra4 ^^^ rb4 ^^^ rc4 = y2' at *
      generalize ra4 ^^^ rb4 = y1' at *
      have HAB := Lib.hid hab; have HM := Lib.hid hmm; have HML := hide hml; have HO8 := Lib.hid hl8; have HLOAD := hide hload
      clear hab hmm hml hl8 hlast hlast2 hpad hO8 hload k0 k1 k2 k3 k4 er1 er2 er3 er4 hfin hok9 hlt
      have hzz := HBE.out.size
      go_wp2_with fail
      refine (unhide HLOAD (by omega)).mono ?_
      rintro e w2 ⟨rfl, hb2⟩
      have HI2 := hide (HI.out.below hb2 HI.out.lt)
      have HB2 := hide (HBE.out.trans (hb2.mono HBE.out.size))
      have hlen : IntKind.u8.wrap (l.length : Int) = (l.length : Int) % 256 := IntKind.wrap_u8 _
      clear hb2
      go_wp2_with fail
      refine Lin.wp_region_lin_tail Lin.keeps (n := 51) 4 (fun slotq => match slotq with | 27 => Lin.Spec.val (.agg #[.int .u64 (a : Int), .int .u64 (b : Int), .int .u64 (c : Int), .int .u64 (d : Int)]) | 28 => Lin.Spec.val (.agg #[.int .u8 p0, .int .u8 p1, .int .u8 p2, .int .u8 p3, .int .u8 p4, .int .u8 p5, .int .u8 p6, .int .u8 ((l.length : Int) % 256)]) | 29 => Lin.Spec.val (.int .u64 (m : Int)) | 30 => Lin.Spec.val (.agg #[.int .u64 (a9 : Int), .int .u64 (b9 : Int), .int .u64 (c9 : Int), .int .u64 (d9 : Int)]) | _ => Lin.Spec.any) (by kernel_rfl) rfl (by kernel_rfl) ⟨?_, ?_, ?_, ?_, trivial⟩ ?_
      · intro ρ wq hb ho hc hd
        have hC : ∀ v, ρ (.const v) = v := fun v => hc _ (by intro t e; cases e)
        have hF : ∀ f, ρ (.func f) = .func (.func f) #[] #[] := fun f => hc _ (by intro t e; cases e)
        have h5 : ρ (.tmp 5) = .pointer (some ⟨g, 0, none⟩) := ho 5 (by kernel_rfl)
        have hi5 := (HI2.out.alloc (.cells #[.int .u8 p0, .int .u8 p1, .int .u8 p2, .int .u8 p3, .int .u8 p4, .int .u8 p5, .int .u8 p6, .int .u8 ((l.length : Int) % 256)] 190)).below hb (by have := HI2.out.lt; simp; omega)
        have q0 := hi5.cell 0
        have q1 := hi5.cell 1
        have q2 := hi5.cell 2
        have q3 := hi5.cell 3
        simp at q0 q1 q2 q3
        exact Lin.Runs.value Lin.keeps (v := .agg #[.int .u64 (a : Int), .int .u64 (b : Int), .int .u64 (c : Int), .int .u64 (d : Int)]) (by simp [execOp, go_sem, hC, hF, h5, q0, q1, q2, q3]) rfl
      · intro ρ wq hb ho hc hd
        have hC : ∀ v, ρ (.const v) = v := fun v => hc _ (by intro t e; cases e)
        have hF : ∀ f, ρ (.func f) = .func (.func f) #[] #[] := fun f => hc _ (by intro t e; cases e)
        have h7 : ρ (.tmp 7) = .pointer (some ⟨w2.heap.size, 0, none⟩) := ho 7 (by kernel_rfl)
        have hi5 := (Is.new w2 190 #[.int .u8 p0, .int .u8 p1, .int .u8 p2, .int .u8 p3, .int .u8 p4, .int .u8 p5, .int .u8 p6, .int .u8 ((l.length : Int) % 256)]).below hb (by simp)
        have q0 := hi5.cell 0
        have q1 := hi5.cell 1
        have q2 := hi5.cell 2
        have q3 := hi5.cell 3
        have q4 := hi5.cell 4
        have q5 := hi5.cell 5
        have q6 := hi5.cell 6
        have q7 := hi5.cell 7
        simp at q0 q1 q2 q3 q4 q5 q6 q7
        exact Lin.Runs.value Lin.keeps (v := .agg #[.int .u8 p0, .int .u8 p1, .int .u8 p2, .int .u8 p3, .int .u8 p4, .int .u8 p5, .int .u8 p6, .int .u8 ((l.length : Int) % 256)]) (by simp [execOp, go_sem, hC, hF, h7, q0, q1, q2, q3, q4, q5, q6, q7]) rfl
      · intro ρ wq hb ho hc hd
        have hC : ∀ v, ρ (.const v) = v := fun v => hc _ (by intro t e; cases e)
        have hF : ∀ f, ρ (.func f) = .func (.func f) #[] #[] := fun f => hc _ (by intro t e; cases e)
        have h28 : ρ (.tmp 28) = .agg #[.int .u8 p0, .int .u8 p1, .int .u8 p2, .int .u8 p3, .int .u8 p4, .int .u8 p5, .int .u8 p6, .int .u8 ((l.length : Int) % 256)] := hd 28 (by kernel_rfl)
        refine Lin.Runs.call Lin.keeps (f := 123) (args := #[.agg #[.int .u8 p0, .int .u8 p1, .int .u8 p2, .int .u8 p3, .int .u8 p4, .int .u8 p5, .int .u8 p6, .int .u8 ((l.length : Int) % 256)]]) (by simp [execOp, go_sem, hC, hF, h28]) ?_
        exact (value_lit (l := [p0, p1, p2, p3, p4, p5, p6, (l.length : Int) % 256]) wq rfl HO8.out HM.out).mono fun e w2 ⟨he, hb2⟩ => ⟨_, he, hb2, rfl⟩
      · intro ρ wq hb ho hc hd
        have hC : ∀ v, ρ (.const v) = v := fun v => hc _ (by intro t e; cases e)
        have hF : ∀ f, ρ (.func f) = .func (.func f) #[] #[] := fun f => hc _ (by intro t e; cases e)
        have h27 : ρ (.tmp 27) = .agg #[.int .u64 (a : Int), .int .u64 (b : Int), .int .u64 (c : Int), .int .u64 (d : Int)] := hd 27 (by kernel_rfl)
        have h29 : ρ (.tmp 29) = .int .u64 (m : Int) := hd 29 (by kernel_rfl)
        refine Lin.Runs.call Lin.keeps (f := 121) (args := #[.agg #[.int .u64 (a : Int), .int .u64 (b : Int), .int .u64 (c : Int), .int .u64 (d : Int)], .int .u64 (m : Int)]) (by simp [execOp, go_sem, hC, hF, h27, h29]) ?_
        exact (absorb_lit m wq HOK.out HML.out HAB.out).mono fun e w2 ⟨he, hb2⟩ => ⟨_, he, hb2, rfl⟩
      · intro vals w4 hb4 hv
        have e30 : vals 30 = .agg #[.int .u64 (a9 : Int), .int .u64 (b9 : Int), .int .u64 (c9 : Int), .int .u64 (d9 : Int)] := hv 30 (by kernel_rfl)
        change wpList _ _ _ [_] _ _
        simp only [Lin.putAll, Option.getD_some, List.take_succ_cons, List.take_zero, List.drop_succ_cons, List.drop_zero]
        rw [e30]
        have hi4 := (HI2.out.alloc (.cells #[.int .u8 p0, .int .u8 p1, .int .u8 p2, .int .u8 p3, .int .u8 p4, .int .u8 p5, .int .u8 p6, .int .u8 ((l.length : Int) % 256)] 190)).below hb4 (by have := HI2.out.lt; simp; omega)
        have z0 := hi4.cell 0
        have z1 := hi4.cell 1
        have z2 := hi4.cell 2
        have z3 := hi4.cell 3
        have y0 := hi4.free 0
        have y1 := hi4.free 1
        have y2 := hi4.free 2
        have y3 := hi4.free 3
        simp at z0 z1 z2 z3
        have HI4 := Lib.hid hi4
        have HB4 := hide ((HB2.out.alloc HB2.out.size (.cells #[.int .u8 p0, .int .u8 p1, .int .u8 p2, .int .u8 p3, .int .u8 p4, .int .u8 p5, .int .u8 p6, .int .u8 ((l.length : Int) % 256)] 190)).trans (hb4.mono (by have := HB2.out.size; simp; omega)))
        clear hi4 hb4 hv
        go_simp
        generalize vals = vv
        have q0 : (((((w4.setCell ⟨g, 0, none⟩ (.int .u64 (a9 : Int))).setCell ⟨g, 1, none⟩ (.int .u64 (b9 : Int))).setCell ⟨g, 2, none⟩ (.int .u64 (c9 : Int))).setCell ⟨g, 3, none⟩ (.int .u64 (d9 : Int))).setCell ⟨g, 2, none⟩ (.int .u64 (cx : Int))).cell? ⟨g, 0, none⟩ = some (.int .u64 (a9 : Int)) := ((four_put HI4.out).put 2 _).cell 0
        have q1 : (((((w4.setCell ⟨g, 0, none⟩ (.int .u64 (a9 : Int))).setCell ⟨g, 1, none⟩ (.int .u64 (b9 : Int))).setCell ⟨g, 2, none⟩ (.int .u64 (c9 : Int))).setCell ⟨g, 3, none⟩ (.int .u64 (d9 : Int))).setCell ⟨g, 2, none⟩ (.int .u64 (cx : Int))).cell? ⟨g, 1, none⟩ = some (.int .u64 (b9 : Int)) := ((four_put HI4.out).put 2 _).cell 1
        have q2 : (((((w4.setCell ⟨g, 0, none⟩ (.int .u64 (a9 : Int))).setCell ⟨g, 1, none⟩ (.int .u64 (b9 : Int))).setCell ⟨g, 2, none⟩ (.int .u64 (c9 : Int))).setCell ⟨g, 3, none⟩ (.int .u64 (d9 : Int))).setCell ⟨g, 2, none⟩ (.int .u64 (cx : Int))).cell? ⟨g, 2, none⟩ = some (.int .u64 (cx : Int)) := ((four_put HI4.out).put 2 _).cell 2
        have q3 : (((((w4.setCell ⟨g, 0, none⟩ (.int .u64 (a9 : Int))).setCell ⟨g, 1, none⟩ (.int .u64 (b9 : Int))).setCell ⟨g, 2, none⟩ (.int .u64 (c9 : Int))).setCell ⟨g, 3, none⟩ (.int .u64 (d9 : Int))).setCell ⟨g, 2, none⟩ (.int .u64 (cx : Int))).cell? ⟨g, 3, none⟩ = some (.int .u64 (d9 : Int)) := ((four_put HI4.out).put 2 _).cell 3
        go_wp2_with fail
        refine (unhide HR1 _).mono ?_
        rintro e w5 ⟨rfl, hb5⟩
        have HI5 := hide (((four_put HI4.out).put 2 _).below hb5 ((four_put HI4.out).put 2 _).lt)
        have HB5 := hide (((below4 HB4.out hgw).setCell (p := ⟨g, 2, none⟩) hgw _).trans (hb5.mono (by have := HB4.out.size; simpa using this)))
        clear hb5 z0 z1 z2 z3 y0 y1 y2 y3 q0 q1 q2 q3
        go_wp2_with fail
        refine (unhide HR2 _).mono ?_
        rintro e w6 ⟨rfl, hb6⟩
        have HI6 := hide (HI5.out.below hb6 HI5.out.lt)
        have HB6 := hide (HB5.out.trans (hb6.mono HB5.out.size))
        clear hb6
        go_wp2_with fail
        refine (unhide HR3 _).mono ?_
        rintro e w7 ⟨rfl, hb7⟩
        have HI7 := hide (HI6.out.below hb7 HI6.out.lt)
        have HB7 := hide (HB6.out.trans (hb7.mono HB6.out.size))
        clear hb7
        go_wp2_with fail
        refine (unhide HR4 _).mono ?_
        rintro e w8 ⟨rfl, hb8⟩
        have hi8 := HI7.out.below hb8 HI7.out.lt
        have z0 := hi8.cell 0
        have z1 := hi8.cell 1
        have z2 := hi8.cell 2
        have z3 := hi8.cell 3
        have y0 := hi8.free 0
        have y1 := hi8.free 1
        have y2 := hi8.free 2
        have y3 := hi8.free 3
        simp at z0 z1 z2 z3
        have HB8 := hide (HB7.out.trans (hb8.mono HB7.out.size))
        clear hi8 hb8
        go_wp2_with fail
        go_ret
        exact ⟨rfl, below4 HB8.out hgw⟩
end Go.Proofs.Ythjkjohmaemmiaa
