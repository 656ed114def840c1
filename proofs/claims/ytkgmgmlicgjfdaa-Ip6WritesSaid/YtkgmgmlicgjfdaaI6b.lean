/-
  Headers in bytes, and packets: package ip6 and its reference. Helper of the claims of layer 5. No condition.
-/
import Derived.Test.YtkgmgmlicgjfdaaI6a
import Derived.Test.YtkgmgmlicgjfdaaVpt
namespace Go.Proofs.Ytkgmgmlicgjfdaa
open Go.ChangeShapes Go.WideShapes Go.ChangeAt Go.RowKit
set_option linter.unusedVariables false
set_option maxRecDepth 100000
theorem OwnP.low6 {B B' : Nat} {l : List Int} {n : Nat} {v : Value} {w : World} (h : OwnP B l n v w) (hB : B' ≤ B) : OwnP B' l n v w := by
  obtain ⟨A, c, e, h1⟩ := h; exact ⟨A, c, e, h1.lower hB⟩
def hl6 (cl la le ne hq sh sl dh dl : Nat) : List Int := be (1610612736 + cl * 1048576 + la) 4 ++ be le 2 ++ be ne 1 ++ be hq 1 ++ (be sh 8 ++ be sl 8) ++ (be dh 8 ++ be dl 8)
theorem hl6_len (cl la le ne hq sh sl dh dl : Nat) : (hl6 cl la le ne hq sh sl dh dl).length = 40 := by simp [hl6, be_len]
set_option maxHeartbeats 4000000 in
theorem cbytes6 (cl la le ne hq sh sl dh dl : Nat) (hcl : cl ≤ 255) (hla : la < 1048576) (hle : le ≤ 65535) (hne : ne ≤ 255) (hho : hq ≤ 255) (hsh : sh < 18446744073709551616) (hsl : sl < 18446744073709551616) (hdh : dh < 18446744073709551616) (hdl : dl < 18446744073709551616) (w : World) : Calls Try.prog 84 #[hv6 (cl : Int) (la : Int) (le : Int) (ne : Int) (hq : Int) true (sh : Int) (sl : Int) true (dh : Int) (dl : Int)] w fun e w' => ∃ v, e = .returned v ∧ Below w.heap.size w w' ∧ OwnP w.heap.size (hl6 cl la le ne hq sh sl dh dl) 40 v w' := by
  unfold hv6
  have hb0 : Below w.heap.size w (w.alloc (.cells #[.int .u8 (cl : Int), .int .u32 (la : Int), .int .i64 (le : Int), .int .u8 (ne : Int), .int .u8 (hq : Int), .bool true, .int .u64 (sh : Int), .int .u64 (sl : Int), .bool true, .int .u64 (dh : Int), .int .u64 (dl : Int)] 126)) := (Below.refl _ _).alloc (Nat.le_refl _) _
  have hg0 := Is.new w 126 #[.int .u8 (cl : Int), .int .u32 (la : Int), .int .i64 (le : Int), .int .u8 (ne : Int), .int .u8 (hq : Int), .bool true, .int .u64 (sh : Int), .int .u64 (sl : Int), .bool true, .int .u64 (dh : Int), .int .u64 (dl : Int)]
  go_enter Try.func84, Try.ntmps84
  go_wp2_with fail
  generalize w.alloc (.cells #[.int .u8 (cl : Int), .int .u32 (la : Int), .int .i64 (le : Int), .int .u8 (ne : Int), .int .u8 (hq : Int), .bool true, .int .u64 (sh : Int), .int .u64 (sl : Int), .bool true, .int .u64 (dh : Int), .int .u64 (dl : Int)] 126) = W at *
  refine (cright6 cl la (le : Int) ne hq true sh sl true dh dl _).mono ?_
  rintro e w1 ⟨rfl, hb1⟩
  rw [show right6 la (le : Int) true true = true from by simp [right6, hla]; omega]
  have HB := Lib.hid (hb0.trans (hb1.mono hb0.size)); have hg1 := hg0.below hb1 hg0.lt
  clear hb0 hg0 hb1
  have a0 := hg1.cell 0
  have a1 := hg1.cell 1
  have a2 := hg1.cell 2
  have a3 := hg1.cell 3
  have a4 := hg1.cell 4
  have a5 := hg1.cell 5
  have a6 := hg1.cell 6
  have a7 := hg1.cell 7
  have a8 := hg1.cell 8
  have a9 := hg1.cell 9
  have a10 := hg1.cell 10
  simp at a0 a1 a2 a3 a4 a5 a6 a7 a8 a9 a10
  have HG := hide hg1
  have HZ := Lib.hid (show w.heap.size + 1 ≤ w1.heap.size from hg1.lt)
  clear hg1
  have HJ1 := Lib.hid (show bits .or .u64 1610612736 ((cl : Int) * 1048576) = ((1610612736 + cl * 1048576 : Nat) : Int) from by
    have h := or_join 28 6 (cl * 1048576) (by omega) (by omega)
    rw [show ((2 ^ 28 * 6 : Nat) : Int) = 1610612736 from rfl] at h
    simpa using h)
  have HJ2 := Lib.hid (show bits .or .u64 ((1610612736 + cl * 1048576 : Nat) : Int) (la : Int) = ((1610612736 + cl * 1048576 + la : Nat) : Int) from by
    have h := or_join 20 (1536 + cl) la (by omega) (by omega)
    rw [show 2 ^ 20 * (1536 + cl) = 1610612736 + cl * 1048576 from by omega] at h
    exact h)
  go_wp2_with fail
  rw [HJ1.out, HJ2.out]
  refine (put_nil (1610612736 + cl * 1048576 + la) 4 4 _ (by omega) (by omega) (by omega) rfl).mono ?_
  rintro e w2 ⟨A2, c2, rfl, ho, hb⟩
  have HI := hide (IsB.own ho); have HO := hide (ho.lower HZ.out)
  have HB9 := Lib.hid (HB.out.trans (hb.mono (HB.out.size))); have HG9 := hide (HG.out.below hb (HG.out.lt)); have HZ9 := Lib.hid (Nat.le_trans HZ.out hb.size)
  clear HB HG HZ a0 a1 a2 a3 a4 a5 a6 a7 a8 a9 a10 ho hb
  have HB := HB9; have HG := HG9; have HZ := HZ9
  clear HB9 HG9 HZ9
  have a0 := HG.out.cell 0
  have a1 := HG.out.cell 1
  have a2 := HG.out.cell 2
  have a3 := HG.out.cell 3
  have a4 := HG.out.cell 4
  have a5 := HG.out.cell 5
  have a6 := HG.out.cell 6
  have a7 := HG.out.cell 7
  have a8 := HG.out.cell 8
  have a9 := HG.out.cell 9
  have a10 := HG.out.cell 10
  simp at a0 a1 a2 a3 a4 a5 a6 a7 a8 a9 a10
  go_wp2_with fail
  refine (put_k le 2 2 6 HI.out (by omega) (by omega) (by omega) (by omega) rfl rfl).mono ?_
  rintro e w3 ⟨A3, c3, rfl, ho, hb⟩
  clear HI HO
  have HI := hide (IsB.own ho); have HO := hide (ho.lower HZ.out)
  have HB9 := Lib.hid (HB.out.trans (hb.mono (HB.out.size))); have HG9 := hide (HG.out.below hb (HG.out.lt)); have HZ9 := Lib.hid (Nat.le_trans HZ.out hb.size)
  clear HB HG HZ a0 a1 a2 a3 a4 a5 a6 a7 a8 a9 a10 ho hb
  have HB := HB9; have HG := HG9; have HZ := HZ9
  clear HB9 HG9 HZ9
  have a0 := HG.out.cell 0
  have a1 := HG.out.cell 1
  have a2 := HG.out.cell 2
  have a3 := HG.out.cell 3
  have a4 := HG.out.cell 4
  have a5 := HG.out.cell 5
  have a6 := HG.out.cell 6
  have a7 := HG.out.cell 7
  have a8 := HG.out.cell 8
  have a9 := HG.out.cell 9
  have a10 := HG.out.cell 10
  simp at a0 a1 a2 a3 a4 a5 a6 a7 a8 a9 a10
  go_wp2_with fail
  refine (put_k ne 1 1 7 HI.out (by omega) (by omega) (by omega) (by omega) rfl rfl).mono ?_
  rintro e w4 ⟨A4, c4, rfl, ho, hb⟩
  clear HI HO
  have HI := hide (IsB.own ho); have HO := hide (ho.lower HZ.out)
  have HB9 := Lib.hid (HB.out.trans (hb.mono (HB.out.size))); have HG9 := hide (HG.out.below hb (HG.out.lt)); have HZ9 := Lib.hid (Nat.le_trans HZ.out hb.size)
  clear HB HG HZ a0 a1 a2 a3 a4 a5 a6 a7 a8 a9 a10 ho hb
  have HB := HB9; have HG := HG9; have HZ := HZ9
  clear HB9 HG9 HZ9
  have a0 := HG.out.cell 0
  have a1 := HG.out.cell 1
  have a2 := HG.out.cell 2
  have a3 := HG.out.cell 3
  have a4 := HG.out.cell 4
  have a5 := HG.out.cell 5
  have a6 := HG.out.cell 6
  have a7 := HG.out.cell 7
  have a8 := HG.out.cell 8
  have a9 := HG.out.cell 9
  have a10 := HG.out.cell 10
  simp at a0 a1 a2 a3 a4 a5 a6 a7 a8 a9 a10
  go_wp2_with fail
  refine (put_k hq 1 1 8 HI.out (by omega) (by omega) (by omega) (by omega) rfl rfl).mono ?_
  rintro e w5 ⟨A5, c5, rfl, ho, hb⟩
  clear HI HO
  have HI := hide (IsB.own ho); have HO := hide (ho.lower HZ.out)
  have HB9 := Lib.hid (HB.out.trans (hb.mono (HB.out.size))); have HG9 := hide (HG.out.below hb (HG.out.lt)); have HZ9 := Lib.hid (Nat.le_trans HZ.out hb.size)
  clear HB HG HZ a0 a1 a2 a3 a4 a5 a6 a7 a8 a9 a10 ho hb
  have HB := HB9; have HG := HG9; have HZ := HZ9
  clear HB9 HG9 HZ9
  have a0 := HG.out.cell 0
  have a1 := HG.out.cell 1
  have a2 := HG.out.cell 2
  have a3 := HG.out.cell 3
  have a4 := HG.out.cell 4
  have a5 := HG.out.cell 5
  have a6 := HG.out.cell 6
  have a7 := HG.out.cell 7
  have a8 := HG.out.cell 8
  have a9 := HG.out.cell 9
  have a10 := HG.out.cell 10
  simp at a0 a1 a2 a3 a4 a5 a6 a7 a8 a9 a10
  go_wp2_with fail
  refine (abytes6 sh sl _ (by omega) (by omega)).mono ?_
  rintro e w6 ⟨v, rfl, hb, A6, c6, rfl, hx⟩
  have HX := hide (IsB.own hx); have HO9 := hide (HO.out.below hb); have ho := True.intro
  clear HO hx HI
  have HO := HO9
  clear HO9
  have HB9 := Lib.hid (HB.out.trans (hb.mono (HB.out.size))); have HG9 := hide (HG.out.below hb (HG.out.lt)); have HZ9 := Lib.hid (Nat.le_trans HZ.out hb.size)
  clear HB HG HZ a0 a1 a2 a3 a4 a5 a6 a7 a8 a9 a10 ho hb
  have HB := HB9; have HG := HG9; have HZ := HZ9
  clear HB9 HG9 HZ9
  have a0 := HG.out.cell 0
  have a1 := HG.out.cell 1
  have a2 := HG.out.cell 2
  have a3 := HG.out.cell 3
  have a4 := HG.out.cell 4
  have a5 := HG.out.cell 5
  have a6 := HG.out.cell 6
  have a7 := HG.out.cell 7
  have a8 := HG.out.cell 8
  have a9 := HG.out.cell 9
  have a10 := HG.out.cell 10
  simp at a0 a1 a2 a3 a4 a5 a6 a7 a8 a9 a10
  have hzz : w.heap.size + 1 ≤ w6.heap.size := HZ.out
  go_wp2_with (first
    | ((with_reducible show wpList _ _ _ (⟨some 36, _, _, _, _, _⟩ :: _) _ _)
       go_loud (refine app_k (.tmp 32) (.tmp 35) _ rfl rfl Try.underlying22 info8 (v := .slice A5 8 c5) (base := w.heap.size + 1) (xs := be (1610612736 + cl * 1048576 + la) 4 ++ be le 2 ++ be ne 1 ++ be hq 1) (k := 8) (k' := 24) (l := be sh 8 ++ be sl 8) (m := 16) rfl HO.out (by simp [be_len]) rfl HX.out rfl (by omega) hzz ?_)
       intro A7 c7 w7 ho hg7
       have hb : Below (w.heap.size + 1) w6 w7 := (Below.refl _ _).grown hg7 hzz (fun q hq => (World.ownsRow.lt HO.out q hq).1)
       clear HO HX hzz hg7
       have HO := hide ho
       have HB9 := Lib.hid (HB.out.trans (hb.mono (Nat.le_succ _))); have HG9 := hide (HG.out.below hb (Nat.lt_succ_self _)); have HZ9 := Lib.hid (Nat.le_trans HZ.out hb.size)
       clear HB HG HZ a0 a1 a2 a3 a4 a5 a6 a7 a8 a9 a10 ho hb
       have HB := HB9; have HG := HG9; have HZ := HZ9
       clear HB9 HG9 HZ9
       have a0 := HG.out.cell 0
       have a1 := HG.out.cell 1
       have a2 := HG.out.cell 2
       have a3 := HG.out.cell 3
       have a4 := HG.out.cell 4
       have a5 := HG.out.cell 5
       have a6 := HG.out.cell 6
       have a7 := HG.out.cell 7
       have a8 := HG.out.cell 8
       have a9 := HG.out.cell 9
       have a10 := HG.out.cell 10
       simp at a0 a1 a2 a3 a4 a5 a6 a7 a8 a9 a10))
  refine (abytes6 dh dl _ (by omega) (by omega)).mono ?_
  rintro e w8 ⟨v, rfl, hb, A8, c8, rfl, hx⟩
  have HX := hide (IsB.own hx); have HO9 := hide (HO.out.below hb); have ho := True.intro
  clear HO hx 
  have HO := HO9
  clear HO9
  have HB9 := Lib.hid (HB.out.trans (hb.mono (HB.out.size))); have HG9 := hide (HG.out.below hb (HG.out.lt)); have HZ9 := Lib.hid (Nat.le_trans HZ.out hb.size)
  clear HB HG HZ a0 a1 a2 a3 a4 a5 a6 a7 a8 a9 a10 ho hb
  have HB := HB9; have HG := HG9; have HZ := HZ9
  clear HB9 HG9 HZ9
  have a0 := HG.out.cell 0
  have a1 := HG.out.cell 1
  have a2 := HG.out.cell 2
  have a3 := HG.out.cell 3
  have a4 := HG.out.cell 4
  have a5 := HG.out.cell 5
  have a6 := HG.out.cell 6
  have a7 := HG.out.cell 7
  have a8 := HG.out.cell 8
  have a9 := HG.out.cell 9
  have a10 := HG.out.cell 10
  simp at a0 a1 a2 a3 a4 a5 a6 a7 a8 a9 a10
  have hzz : w.heap.size + 1 ≤ w8.heap.size := HZ.out
  go_wp2_with (first
    | ((with_reducible show wpList _ _ _ (⟨some 41, _, _, _, _, _⟩ :: _) _ _)
       go_loud (refine app_k (.tmp 37) (.tmp 40) _ rfl rfl Try.underlying22 info8 (v := .slice A7 24 c7) (base := w.heap.size + 1) (xs := be (1610612736 + cl * 1048576 + la) 4 ++ be le 2 ++ be ne 1 ++ be hq 1 ++ (be sh 8 ++ be sl 8)) (k := 24) (k' := 40) (l := be dh 8 ++ be dl 8) (m := 16) rfl HO.out (by simp [be_len]) rfl HX.out rfl (by omega) hzz ?_)
       intro A9 c9 w9 ho hg7
       have hb : Below (w.heap.size + 1) w8 w9 := (Below.refl _ _).grown hg7 hzz (fun q hq => (World.ownsRow.lt HO.out q hq).1)
       clear HO HX hzz hg7
       have HO := hide ho
       have HB9 := Lib.hid (HB.out.trans (hb.mono (Nat.le_succ _))); have HG9 := hide (HG.out.below hb (Nat.lt_succ_self _)); have HZ9 := Lib.hid (Nat.le_trans HZ.out hb.size)
       clear HB HG HZ a0 a1 a2 a3 a4 a5 a6 a7 a8 a9 a10 ho hb
       have HB := HB9; have HG := HG9; have HZ := HZ9
       clear HB9 HG9 HZ9
       have a0 := HG.out.cell 0
       have a1 := HG.out.cell 1
       have a2 := HG.out.cell 2
       have a3 := HG.out.cell 3
       have a4 := HG.out.cell 4
       have a5 := HG.out.cell 5
       have a6 := HG.out.cell 6
       have a7 := HG.out.cell 7
       have a8 := HG.out.cell 8
       have a9 := HG.out.cell 9
       have a10 := HG.out.cell 10
       simp at a0 a1 a2 a3 a4 a5 a6 a7 a8 a9 a10))
  go_ret
  exact ⟨_, rfl, HB.out, OwnP.low6 (B := w.heap.size + 1) ⟨A9, c9, rfl, HO.out⟩ (Nat.le_succ _)⟩
end Go.Proofs.Ytkgmgmlicgjfdaa
