/-
  Parse of package tcp where all is well. Helper of the claim TcpReads. No condition.
-/
import Derived.Test.YtkgmgmlicgjfdaaTcp
namespace Go.Proofs.Ytkgmgmlicgjfdaa
open Go.ChangeShapes Go.WideShapes Go.ChangeAt Go.RowKit
set_option linter.unusedVariables false
set_option maxRecDepth 100000
set_option maxHeartbeats 4000000 in
theorem tparse_ok (A : Option Addr) (c : Nat) (l : List Int) (y : Int) (w : World) (hi : IsB l l.length (.slice A l.length c) w) (ho : Octets l) (hm : l.length ≤ 3000) (i j : Nat) (hy : at0 l 12 = y) (hsz : y / 16 * 4 = 20 + (i : Int)) (hq : y % 16 = 0) (hj : 20 + i + j = l.length) :
    Calls Try.prog 30 #[.slice A l.length c] w (Sg w (nw l 0 2) (nw l 2 2) (nw l 4 4) (nw l 8 4) (nw l 13 1) (nw l 14 2) (nw l 16 2) (nw l 18 2) ((l.drop 20).take i) i (l.drop (20 + i)) j 0) := by
  have hby : Bytes w w.heap.size A l := by obtain ⟨A', c', e, _, h, _⟩ := hi; injection e with e; subst e; exact h
  obtain ⟨bl, ol, rfl, hbl, hcl⟩ := hby.cells (by omega)
  have dc := hcl 12 (by omega)
  have yb := ho 12
  rw [hy] at dc yb
  obtain ⟨y0, y1⟩ := yb
  have hand := u8_mask15 y0 y1
  have hl12 : 12 < l.length := by omega
  have hij : 20 + (i : Int) ≤ (l.length : Int) := by omega
  have hij2 : 20 + i ≤ l.length := by omega
  have HJ := Lib.hid hj
  have HY := hide (show nw l 12 1 = y from by rw [nw_one (by omega) ho]; exact hy)
  have b0 := nw2_bd (i := 0) (by omega) ho
  have b2 := nw2_bd (i := 2) (by omega) ho
  have b4 := nw4_bd (i := 4) (by omega) ho
  have b8 := nw4_bd (i := 8) (by omega) ho
  have b13 := nw1_bd (i := 13) (by omega) ho
  have b14 := nw2_bd (i := 14) (by omega) ho
  have b16 := nw2_bd (i := 16) (by omega) ho
  have b18 := nw2_bd (i := 18) (by omega) ho
  obtain ⟨xa, hxa⟩ : ∃ x, nw l 0 2 = x := ⟨_, rfl⟩
  rw [hxa] at b0
  obtain ⟨xb, hxb⟩ : ∃ x, nw l 2 2 = x := ⟨_, rfl⟩
  rw [hxb] at b2
  obtain ⟨xs, hxs⟩ : ∃ x, nw l 4 4 = x := ⟨_, rfl⟩
  rw [hxs] at b4
  obtain ⟨xk, hxk⟩ : ∃ x, nw l 8 4 = x := ⟨_, rfl⟩
  rw [hxk] at b8
  obtain ⟨xf, hxf⟩ : ∃ x, nw l 13 1 = x := ⟨_, rfl⟩
  rw [hxf] at b13
  obtain ⟨xn, hxn⟩ : ∃ x, nw l 14 2 = x := ⟨_, rfl⟩
  rw [hxn] at b14
  obtain ⟨xm, hxm⟩ : ∃ x, nw l 16 2 = x := ⟨_, rfl⟩
  rw [hxm] at b16
  obtain ⟨xg, hxg⟩ : ∃ x, nw l 18 2 = x := ⟨_, rfl⟩
  rw [hxg] at b18
  rw [hxa, hxb, hxs, hxk, hxf, hxn, hxm, hxg]
  have Hxa := hide hxa
  have Hxb := hide hxb
  have Hxs := hide hxs
  have Hxk := hide hxk
  have Hxf := hide hxf
  have Hxn := hide hxn
  have Hxm := hide hxm
  have Hxg := hide hxg
  clear hxa hxb hxs hxk hxf hxn hxm hxg
  have HI := hide hi; have HO := hide ho
  clear hi ho hcl hby hy hj
  go_enter Try.func30, Try.ntmps30
  go_wp2_with fail
  have hr0 := Is.new w 41 #[.int .u16 0, .int .u16 0, .int .u32 0, .int .u32 0, .int .u8 0, .int .u16 0, .int .u16 0, .int .u16 0, .slice none 0 0, .slice none 0 0]
  have hw0 : Below w.heap.size w (w.alloc (.cells #[.int .u16 0, .int .u16 0, .int .u32 0, .int .u32 0, .int .u8 0, .int .u16 0, .int .u16 0, .int .u16 0, .slice none 0 0, .slice none 0 0] 41)) := (Below.refl _ _).alloc (Nat.le_refl _) _
  have HI0 := hide (HI.out.st hw0)
  have hlt : w.heap.size < (w.alloc (.cells #[.int .u16 0, .int .u16 0, .int .u32 0, .int .u32 0, .int .u8 0, .int .u16 0, .int .u16 0, .int .u16 0, .slice none 0 0, .slice none 0 0] 41)).heap.size := by simp
  generalize w.alloc (.cells #[.int .u16 0, .int .u16 0, .int .u32 0, .int .u32 0, .int .u8 0, .int .u16 0, .int .u16 0, .int .u16 0, .slice none 0 0, .slice none 0 0] 41) = W at *
  have HR0 := hide hr0; have HW0 := Lib.hid hw0
  clear hr0 hw0 dc
  refine (read_q HI0.out (by omega)).mono ?_
  rintro e w1 ⟨g, rfl, h1⟩
  have R1 := hide h1; clear h1
  go_wp2_with fail
  refine (word_q 2 xa R1.out HO.out rfl (by omega) Hxa.out).mono ?_
  rintro e w2 ⟨rfl, h1, _⟩
  have R2 := hide h1; clear h1 R1
  go_wp2_with fail
  refine (word_q 4 xb R2.out HO.out rfl (by omega) Hxb.out).mono ?_
  rintro e w3 ⟨rfl, h1, _⟩
  have R3 := hide h1; clear h1 R2
  go_wp2_with fail
  refine (long_q 8 xs R3.out HO.out rfl (by omega) Hxs.out).mono ?_
  rintro e w4 ⟨rfl, h1, _⟩
  have R4 := hide h1; clear h1 R3
  go_wp2_with fail
  refine (long_q 12 xk R4.out HO.out rfl (by omega) Hxk.out).mono ?_
  rintro e w5 ⟨rfl, h1, _⟩
  have R5 := hide h1; clear h1 R4
  have h3w : w.heap.size < w5.heap.size := Nat.lt_of_lt_of_le hlt R5.out.2.1.size
  have hgp : g < w5.heap.size := R5.out.1.lt
  go_wp2_with fail
  have R6 := hide (R5.out.alloc (.cells #[.int .u16 xa, .int .u16 xb, .int .u32 xs, .int .u32 xk, .int .u8 0, .int .u16 0, .int .u16 0, .int .u16 0, .slice none 0 0, .slice none 0 0] 41))
  have HP6 := hide (Is.new w5 41 #[.int .u16 xa, .int .u16 xb, .int .u32 xs, .int .u32 xk, .int .u8 0, .int .u16 0, .int .u16 0, .int .u16 0, .slice none 0 0, .slice none 0 0])
  clear R5
  generalize w5.alloc (.cells #[.int .u16 xa, .int .u16 xb, .int .u32 xs, .int .u32 xk, .int .u8 0, .int .u16 0, .int .u16 0, .int .u16 0, .slice none 0 0, .slice none 0 0] 41) = w6 at *
  generalize w5.heap.size = p at *
  have hpg : some p ≠ some g := by intro h; injection h with h; omega
  refine (byte_q 13 y R6.out HO.out rfl (by omega) HY.out).mono ?_
  rintro e w7 ⟨rfl, h1, hg⟩
  have R7 := hide h1; have HP7 := hide (HP6.out.only hg hpg)
  clear h1 hg R6 HP6
  go_wp2_with fail
  refine (byte_q 14 xf R7.out HO.out rfl (by omega) Hxf.out).mono ?_
  rintro e w8 ⟨rfl, h1, hg⟩
  have R8 := hide h1; have HP8 := hide (HP7.out.only hg hpg)
  clear h1 hg R7 HP7
  go_wp2_with fail
  refine (word_q 16 xn R8.out HO.out rfl (by omega) Hxn.out).mono ?_
  rintro e w9 ⟨rfl, h1, hg⟩
  have R9 := hide h1; have HP9 := hide (HP8.out.only hg hpg)
  clear h1 hg R8 HP8
  go_wp2_with fail
  refine (word_q 18 xm R9.out HO.out rfl (by omega) Hxm.out).mono ?_
  rintro e w10 ⟨rfl, h1, hg⟩
  have R10 := hide h1; have HP10 := hide (HP9.out.only hg hpg)
  clear h1 hg R9 HP9
  go_wp2_with fail
  refine (word_q 20 xg R10.out HO.out rfl (by omega) Hxg.out).mono ?_
  rintro e w11 ⟨rfl, h1, hg⟩
  have R11 := hide h1; have HP11 := hide (HP10.out.only hg hpg)
  clear h1 hg R10 HP10
  have p0 := HP11.out.cell 0
  have p1 := HP11.out.cell 1
  have p2 := HP11.out.cell 2
  have p3 := HP11.out.cell 3
  have p4 := HP11.out.cell 4
  have p5 := HP11.out.cell 5
  have p6 := HP11.out.cell 6
  have p7 := HP11.out.cell 7
  have p8 := HP11.out.cell 8
  have p9 := HP11.out.cell 9
  have fp := HP11.out.free
  have lp := HP11.out.lt
  simp at p0 p1 p2 p3 p4 p5 p6 p7 p8 p9 fp
  go_wp2_with fail
  have R12 := hide ((((R11.out.set (b := p) (o := 4) hgp (.int .u8 xf)).set (b := p) (o := 5) hgp (.int .u16 xn)).set (b := p) (o := 6) hgp (.int .u16 xm)).set (b := p) (o := 7) hgp (.int .u16 xg))
  have HP12 := hide ((((HP11.out.put 4 (.int .u8 xf)).put 5 (.int .u16 xn)).put 6 (.int .u16 xm)).put 7 (.int .u16 xg))
  clear p0 p1 p2 p3 p4 p5 p6 p7 p8 p9 fp lp R11 HP11
  generalize (((w11.setCell ⟨p, 4, none⟩ (.int .u8 xf)).setCell ⟨p, 5, none⟩ (.int .u16 xn)).setCell ⟨p, 6, none⟩ (.int .u16 xm)).setCell ⟨p, 7, none⟩ (.int .u16 xg) = w12 at *
  rw [show (20 + (i : Int) - 20) = (i : Int) from by omega]
  refine (part_q i (20 + i) R12.out rfl hij2 (by omega)).mono ?_
  rintro e w13 ⟨A13, c13, rfl, ho13, h1, hg⟩
  have R13 := hide h1; have HP13 := hide (HP12.out.only hg hpg)
  have HO13 := hide (ho13.lower (base' := p + 1) (by have := HP12.out.lt; omega))
  clear h1 hg ho13 R12 HP12
  go_wp2_with fail
  refine (rest_q j R13.out HJ.out (by omega)).mono ?_
  rintro e w14 ⟨A14, c14, rfl, ho14, h1, hg⟩
  have R14 := hide h1
  have hp14 := HP13.out.only hg hpg
  have hr14 := HR0.out.below h1.bel hlt
  have HO14 := hide (ho14.lower (base' := p + 1) (by have := HP13.out.lt; omega))
  have hgb : g < p + 1 := by omega
  have hne4 : (Value.slice A13 i c13).ownBlock = none ∨ (Value.slice A13 i c13).ownBlock ≠ some g := by
    cases hq : (Value.slice A13 i c13).ownBlock with
    | none => exact .inl rfl
    | some k => right; intro h; injection h with h; subst h; have := (World.ownsRow.lt HO13.out k hq).1; omega
  have HO15 := hide (HO13.out.kept hg hne4)
  have e6 : ((l.drop (20 + i)).take j) = l.drop (20 + i) := List.take_of_length_le (by rw [List.length_drop]; have := HJ.out; omega)
  have E6 := Lib.hid e6
  simp only [List.setIfInBounds_toArray, List.set_cons_zero, List.set_cons_succ] at hp14
  have p0 := hp14.cell 0
  have p1 := hp14.cell 1
  have p2 := hp14.cell 2
  have p3 := hp14.cell 3
  have p4 := hp14.cell 4
  have p5 := hp14.cell 5
  have p6 := hp14.cell 6
  have p7 := hp14.cell 7
  have p8 := hp14.cell 8
  have p9 := hp14.cell 9
  have fp := hp14.free
  have lp := hp14.lt
  simp at p0 p1 p2 p3 p4 p5 p6 p7 p8 p9 fp
  have r0 := hr14.cell 0
  have r1 := hr14.cell 1
  have r2 := hr14.cell 2
  have r3 := hr14.cell 3
  have r4 := hr14.cell 4
  have r5 := hr14.cell 5
  have r6 := hr14.cell 6
  have r7 := hr14.cell 7
  have r8 := hr14.cell 8
  have r9 := hr14.cell 9
  have fr := hr14.free
  have lr := hr14.lt
  simp at r0 r1 r2 r3 r4 r5 r6 r7 r8 r9 fr
  have hpr : p ≠ w.heap.size := by omega
  clear hp14 hr14 h1 hg ho14 R13 HP13 HO13 hne4 e6
  go_wp2_with fail
  refine bodyPost_ret (v := .tuple #[sg6 xa xb xs xk xf xn xm xg (.slice A13 i c13) (.slice A14 j c14), .int .i64 0]) (by simp [results, Try.results30, go_sem, sg6, r0, r1, r2, r3, r4, r5, r6, r7, r8, r9]) rfl ⟨_, _, rfl, ?_, IsB.own (base := p + 1) ?_, IsB.own (base := p + 1) ?_⟩
  · have ob := HW0.out.trans (R14.out.bel.mono HW0.out.size)
    repeat' first | with_reducible exact ob | with_reducible apply Below.set1
    all_goals omega
  · have ob := HO15.out
    repeat' first | with_reducible exact ob | with_reducible apply OwnB.set1
    all_goals omega
  · have ob := HO14.out
    rw [E6.out] at ob
    repeat' first | with_reducible exact ob | with_reducible apply OwnB.set1
    all_goals omega
end Go.Proofs.Ytkgmgmlicgjfdaa
