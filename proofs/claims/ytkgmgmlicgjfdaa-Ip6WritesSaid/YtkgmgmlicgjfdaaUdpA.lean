/-
  The chapter's example of layer 7, and the law's words. Helper of the claim UdpReads. No condition.
-/
import Derived.Test.YtkgmgmlicgjfdaaUdp
namespace Go.Proofs.Ytkgmgmlicgjfdaa
open Go.ChangeShapes Go.WideShapes Go.ChangeAt Go.RowKit
set_option linter.unusedVariables false
set_option maxRecDepth 100000

theorem isb_lit (W : World) (l : List Int) (hl : l.length ≤ 1000) : IsB l l.length (.slice (some ⟨W.heap.size, 0, none⟩) l.length l.length) (W.alloc (.cells (u8s l).toArray 5)) :=
  ⟨_, _, rfl, rfl, (Bytes.lit W l).more (by simp), Nat.le_refl _, by unfold maxLen; omega, fun h => by cases h⟩
/-- An ID that was taken. -/
def Took7 (W : World) (g : Nat) (l : List Int) (i n : Nat) (w : World) (e : Ending) (w' : World) : Prop :=
  ∃ A c, e = .returned (.tuple #[.slice A n c, .int .i64 0]) ∧ OwnB w' w.heap.size (.slice A n c) ((l.drop (i + 1)).take n) ∧ RS W g l (i + 1 + n) w' ∧ w.grownBy w' (some g)
set_option maxHeartbeats 1000000 in
theorem takeid_ok {W : World} {g i : Nat} {l : List Int} {w : World} (n : Nat) (h : RS W g l i w) (ho : Octets l) (hm : l.length ≤ 3000) (hn : nw l i 1 = (n : Int)) (h20 : n ≤ 20) (hl : i + 1 + n ≤ l.length) :
    Calls Try.prog 148 #[.pointer (some ⟨g, 0, none⟩)] w (Took7 W g l i n w) := by
  have R0 := hide h; have HO := hide ho; have HN := hide hn
  clear h ho hn
  go_enter Try.func148, Try.ntmps148
  go_wp2_with fail
  refine (byte_q (i + 1) (n : Int) R0.out HO.out rfl (by omega) HN.out).mono ?_
  rintro e w1 ⟨rfl, h1, hg1⟩
  have R1 := hide h1; have HG1 := Lib.hid hg1
  clear h1 hg1
  go_wp2_with fail
  refine (part_q n (i + 1 + n) R1.out rfl hl (by omega)).mono ?_
  rintro e w2 ⟨A, c, rfl, hown, h2, hg2⟩
  have R2 := hide h2; have HG2 := Lib.hid hg2; have HO2 := hide hown
  clear h2 hg2 hown
  go_wp2_with fail
  refine (bad_q R2.out).mono ?_
  rintro e w3 ⟨rfl, rfl⟩
  go_wp2_with fail
  go_ret2
  exact ⟨A, c, rfl, HO2.out.lower HG1.out.size, R2.out, only_trans HG1.out HG2.out⟩

def L7 : List Int := [192, 0, 0, 0, 1, 2, 171, 205, 0]
theorem L7_ok : Octets L7 := Octets.ofAll (by decide)
/-- What the example shows. -/
def Shown (W : World) (e : Ending) (w' : World) : Prop := ∃ v u, e = .returned (.tuple #[.agg #[.bool true, .int .u32 1, v, u, .bool true], .int .i64 0]) ∧ Below W.heap.size W w' ∧ OwnP W.heap.size [171, 205] 2 v w' ∧ ∃ A c, u = .slice A 0 c
set_option maxHeartbeats 2000000 in
theorem showlong7 {W : World} {g : Nat} {w : World} (h : RS W g L7 1 w) :
    Calls Try.prog 128 #[.int .u8 192, .pointer (some ⟨g, 0, none⟩)] w (Shown W) := by
  have R0 := hide (h.alloc (.cells #[.bool false, .int .u32 0, .slice none 0 0, .slice none 0 0, .bool false] 139))
  have hgl := h.1.lt
  have hr0 := hide (Is.new w 139 #[.bool false, .int .u32 0, .slice none 0 0, .slice none 0 0, .bool false])
  clear h
  go_enter Try.func128, Try.ntmps128
  go_wp2_with fail
  refine (long_q 5 1 R0.out L7_ok rfl (by decide) (by decide)).mono ?_
  rintro e w1 ⟨rfl, h1, hg1⟩
  have hr1 := hide (hr0.out.only hg1 (by intro h; injection h with h; omega))
  have R1 := hide (h1.alloc (.cells #[.bool true, .int .u32 1, .slice none 0 0, .slice none 0 0, .bool false] 139))
  have hp1 := hide (Is.new w1 139 #[.bool true, .int .u32 1, .slice none 0 0, .slice none 0 0, .bool false])
  have hr1' := hide (hr1.out.alloc (.cells #[.bool true, .int .u32 1, .slice none 0 0, .slice none 0 0, .bool false] 139))
  have hrl1 := hr1.out.lt
  have hgp : g < w1.heap.size := h1.1.lt
  clear h1 hg1 hr1 R0 hr0
  go_wp2_with fail
  refine (takeid_ok 2 R1.out L7_ok (by decide) (by decide) (by decide) (by decide)).mono ?_
  rintro e w2 ⟨A2, c2, rfl, ho2, h2, hg2⟩
  have R2 := hide h2
  have hr2 := hide (hr1'.out.only hg2 (by intro h; injection h with h; omega))
  have hp2 := hide (hp1.out.only hg2 (by intro h; injection h with h; omega))
  have HO2 := hide (ho2.lower (base' := W.heap.size) R1.out.2.1.size)
  have hbase : w1.heap.size < w2.heap.size := hp2.out.lt
  have HO2b := hide (ho2.lower (base' := w1.heap.size + 1) (by simp))
  clear ho2 h2 hg2 R1 hr1' hp1
  generalize hp : w1.heap.size = p at *
  clear hp
  have p0 := hp2.out.cell 0
  have p1 := hp2.out.cell 1
  have p2 := hp2.out.cell 2
  have p3 := hp2.out.cell 3
  have p4 := hp2.out.cell 4
  have fp := hp2.out.free
  simp at p0 p1 p2 p3 p4 fp
  go_wp2_with fail
  have R3 := hide (R2.out.set (b := p) (o := 2) hgp (.slice A2 2 c2))
  have hr3 := hide (hr2.out.other (p := ⟨p, 2, none⟩) (by show _ ≠ p; omega) (.slice A2 2 c2))
  have hp3 := hide (hp2.out.put 2 (.slice A2 2 c2))
  have HO3 := hide (HO2b.out.set1 (g := p) (i := 2) (by omega) (.slice A2 2 c2))
  clear R2 hr2 hp2 p0 p1 p2 p3 p4 fp HO2 HO2b
  generalize w2.setCell ⟨p, 2, none⟩ (.slice A2 2 c2) = w3 at *
  refine (takeid_ok 0 R3.out L7_ok (by decide) (by decide) (by decide) (by decide)).mono ?_
  rintro e w4 ⟨A4, c4, rfl, ho4, h4, hg4⟩
  have R4 := hide h4
  have hr4 := hr3.out.only hg4 (by intro h; injection h with h; omega)
  have hp4 := hp3.out.only hg4 (by intro h; injection h with h; omega)
  have hne4 : (Value.slice A2 2 c2).ownBlock = none ∨ (Value.slice A2 2 c2).ownBlock ≠ some g := by
    cases hq : (Value.slice A2 2 c2).ownBlock with
    | none => exact .inl rfl
    | some k => right; intro h; injection h with h; subst h; have := (World.ownsRow.lt HO3.out k hq).1; omega
  have HO4 := hide (HO3.out.kept hg4 hne4)
  have hbit : bits BinOp.and IntKind.u8 192 48 = 0 := by kernel_rfl
  have p0 := hp4.cell 0
  have p1 := hp4.cell 1
  have p2 := hp4.cell 2
  have p3 := hp4.cell 3
  have p4 := hp4.cell 4
  have fp := hp4.free
  have r0 := hr4.cell 0
  have r1 := hr4.cell 1
  have r2 := hr4.cell 2
  have r3 := hr4.cell 3
  have r4 := hr4.cell 4
  have fr := hr4.free
  have lr := hr4.lt
  have lp := hp4.lt
  simp at p0 p1 p2 p3 p4 fp r0 r1 r2 r3 r4 fr
  have hpr : p ≠ w.heap.size := by omega
  clear ho4 h4 hg4 hne4 hr4 hp4 R3 hr3 hp3 HO3
  go_wp2_with fail
  refine bodyPost_ret (v := .tuple #[.agg #[.bool true, .int .u32 1, .slice A2 2 c2, .slice A4 0 c4, .bool true], .int .i64 0]) (by simp [results, Try.results128, go_sem, hbit, r0, r1, r2, r3, r4]) rfl ⟨_, _, rfl, ?_, ?_, _, _, rfl⟩
  · have ob := R4.out.bel
    have obs := R4.out.2.2
    repeat' first | with_reducible exact ob | with_reducible apply Below.set1
    all_goals omega
  · have obs := R4.out.2.2
    have ob : OwnP (p + 1) [171, 205] 2 (.slice A2 2 c2) w4 := ⟨_, _, rfl, HO4.out⟩
    have key : ∀ X : World, OwnP (p + 1) [171, 205] 2 (.slice A2 2 c2) X → OwnP W.heap.size [171, 205] 2 (.slice A2 2 c2) X := fun X h => by
      obtain ⟨A, c, e, h⟩ := h; exact ⟨A, c, e, h.lower (by omega)⟩
    apply key
    repeat' first | with_reducible exact ob | with_reducible apply OwnP.set1
    all_goals omega
set_option maxHeartbeats 2000000 in
theorem show7 (A : Option Addr) (c : Nat) (w : World) (hi : IsB L7 9 (.slice A 9 c) w) :
    Calls Try.prog 92 #[.slice A 9 c, .int .i64 8] w (Shown w) := by
  have HI := hide hi
  clear hi
  go_enter Try.func92, Try.ntmps92
  go_wp2_with fail
  have hr0 := Is.new w 139 #[.bool false, .int .u32 0, .slice none 0 0, .slice none 0 0, .bool false]
  have hw0 : Below w.heap.size w (w.alloc (.cells #[.bool false, .int .u32 0, .slice none 0 0, .slice none 0 0, .bool false] 139)) := (Below.refl _ _).alloc (Nat.le_refl _) _
  have HI0 := hide (HI.out.st hw0)
  have hlt : w.heap.size < (w.alloc (.cells #[.bool false, .int .u32 0, .slice none 0 0, .slice none 0 0, .bool false] 139)).heap.size := by simp
  generalize w.alloc (.cells #[.bool false, .int .u32 0, .slice none 0 0, .slice none 0 0, .bool false] 139) = W at *
  have HR0 := hide hr0; have HW0 := Lib.hid hw0
  clear hr0 hw0
  refine (read_q HI0.out (by omega)).mono ?_
  rintro e w1 ⟨g, rfl, h1⟩
  have R1 := hide h1; clear h1
  go_wp2_with fail
  refine (byte_q 1 192 R1.out L7_ok rfl (by decide) (by decide)).mono ?_
  rintro e w2 ⟨rfl, h2, _⟩
  have R2 := hide h2; clear h2 R1
  go_wp2_with fail
  refine (showlong7 R2.out).mono ?_
  rintro e w3 ⟨v, u, rfl, hb, hv, A4, c4, rfl⟩
  obtain ⟨A3, c3, rfl⟩ := hv.shape
  have HV := hide hv
  have HB := Lib.hid (HW0.out.trans (hb.mono HW0.out.size))
  have hr4 := HR0.out.below hb hlt
  have r0 := hr4.cell 0
  have r1 := hr4.cell 1
  have r2 := hr4.cell 2
  have r3 := hr4.cell 3
  have r4 := hr4.cell 4
  have fr := hr4.free
  have lr := hr4.lt
  simp at r0 r1 r2 r3 r4 fr
  clear hv hb hr4 R2
  go_wp2_with fail
  refine bodyPost_ret (v := .tuple #[.agg #[.bool true, .int .u32 1, .slice A3 2 c3, .slice A4 0 c4, .bool true], .int .i64 0]) (by simp [results, Try.results92, go_sem, r0, r1, r2, r3, r4]) rfl ⟨_, _, rfl, ?_, ?_, _, _, rfl⟩
  · have ob := HB.out
    repeat' first | with_reducible exact ob | with_reducible apply Below.set1
    all_goals omega
  · have ob := HV.out
    have key : ∀ X : World, OwnP W.heap.size [171, 205] 2 (.slice A3 2 c3) X → OwnP w.heap.size [171, 205] 2 (.slice A3 2 c3) X := fun X h => by
      obtain ⟨A, c, e, h⟩ := h; exact ⟨A, c, e, h.lower (by omega)⟩
    apply key
    repeat' first | with_reducible exact ob | with_reducible apply OwnP.set1
    all_goals omega
set_option maxHeartbeats 2000000 in
theorem awake07 (w : World) : Calls Try.prog 18 #[] w fun e w' => e = .returned (.bool true) ∧ Below w.heap.size w w' := by
  go_enter Try.func18, Try.ntmps18
  go_wp2_with fail
  refine (show7 (some ⟨w.heap.size, 0, none⟩) 9 _ (isb_lit w L7 (by decide))).mono ?_
  rintro e w1 ⟨v, u, rfl, hb, hv, A4, c4, rfl⟩
  obtain ⟨A3, c3, rfl⟩ := hv.shape
  have HB := Lib.hid (((Below.refl w.heap.size w).alloc (Nat.le_refl _) _).trans (hb.mono (by simp)))
  have kc : ∀ o, (convert 22 9 (.slice A3 2 c3)).run Try.prog (w1.alloc o) = .ok (.string (strOfNums [171, 205])) (w1.alloc o) := fun o => (hv.isb.alloc o).conv
  have hz := hb.size
  simp at hz
  clear hb hv
  have hs : (strOfNums [171, 205]).toList = [171, 205] := by decide +kernel
  go_wp2_with fail
  go_ret
  exact ⟨rfl, HB.out.alloc (by omega) _⟩
end Go.Proofs.Ytkgmgmlicgjfdaa
