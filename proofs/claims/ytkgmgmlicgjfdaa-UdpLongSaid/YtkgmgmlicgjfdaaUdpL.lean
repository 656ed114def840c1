/-
  What the calls of package udp on a datagram return, for the claim UdpLong. Helper. No condition.
-/
import Derived.Test.YtkgmgmlicgjfdaaUdpA
import Derived.BigRegion
import Derived.IntWalk
import Derived.Deep.CutRange
namespace Go.Proofs.Ytkgmgmlicgjfdaa
open Go.ChangeShapes Go.WideShapes Go.ChangeAt Go.RowKit
set_option linter.unusedVariables false
set_option maxRecDepth 100000
set_option maxHeartbeats 1000000 in
theorem right7_yes (s d m : Int) (A : Option Addr) (n c : Nat) (w : World) (hn : n ≤ 65527) :
    Calls Try.prog 15 #[.agg #[.int .u16 s, .int .u16 d, .int .u16 m, .slice A n c]] w fun e w' => e = .returned (.bool true) ∧ Below w.heap.size w w' := by
  have q : (n : Int) ≤ 65527 := by omega
  go_enter Try.func15, Try.ntmps15
  go_wp2_with fail
  go_ret
  exact ⟨by simp [q], (Below.refl _ _).alloc (Nat.le_refl _) _⟩
set_option maxHeartbeats 1000000 in
theorem right7_no (s d m : Int) (A : Option Addr) (n c : Nat) (w : World) (hn : 65527 < n) :
    Calls Try.prog 15 #[.agg #[.int .u16 s, .int .u16 d, .int .u16 m, .slice A n c]] w fun e w' => e = .returned (.bool false) ∧ Below w.heap.size w w' := by
  have q : ¬ (n : Int) ≤ 65527 := by omega
  go_enter Try.func15, Try.ntmps15
  go_wp2_with fail
  go_ret
  exact ⟨by simp [hn], (Below.refl _ _).alloc (Nat.le_refl _) _⟩
set_option maxHeartbeats 1000000 in
theorem bytes7_no (s d m : Int) (A : Option Addr) (n c : Nat) (w : World) (hn : 65527 < n) :
    Calls Try.prog 16 #[.agg #[.int .u16 s, .int .u16 d, .int .u16 m, .slice A n c]] w fun e w' => e = .returned (.slice none 0 0) ∧ Below w.heap.size w w' := by
  go_enter Try.func16, Try.ntmps16
  go_wp2_with fail
  refine (right7_no s d m A n c _ hn).mono ?_
  rintro e w1 ⟨rfl, hb⟩
  have HB := Lib.hid (((Below.refl w.heap.size w).alloc (Nat.le_refl _) _).trans (hb.mono (by simp)))
  clear hb
  go_wp2_with fail
  go_ret
  exact ⟨rfl, HB.out⟩
set_option maxHeartbeats 1000000 in
theorem fine7_no (s d m : Int) (A : Option Addr) (n c : Nat) (x y : Value) (xs ys : Array Value) (hx : x = .agg xs) (hy : y = .agg ys) (w : World) (hn : 65527 < n) :
    Calls Try.prog 17 #[.agg #[.int .u16 s, .int .u16 d, .int .u16 m, .slice A n c], x, y] w fun e w' => e = .returned (.bool false) ∧ Below w.heap.size w w' := by
  subst hx; subst hy
  go_enter Try.func17, Try.ntmps17
  go_wp2_with fail
  refine (right7_no s d m A n c _ hn).mono ?_
  rintro e w1 ⟨rfl, hb⟩
  have HB := Lib.hid (((((Below.refl w.heap.size w).alloc (Nat.le_refl _) _).alloc (by simp) _).alloc (by simp; omega) _).trans (hb.mono (by simp; omega)))
  clear hb
  go_wp2_with fail
  go_ret
  exact ⟨rfl, HB.out⟩
set_option maxHeartbeats 2000000 in
theorem bytes7_yes (s d m : Nat) (A : Option Addr) (n c : Nat) (l : List Int) (w : World) (hv : IsB l n (.slice A n c) w) (hn : n ≤ 65527) (hs : s ≤ 65535) (hd : d ≤ 65535) (hm : m ≤ 65535) :
    Calls Try.prog 16 #[.agg #[.int .u16 s, .int .u16 d, .int .u16 m, .slice A n c]] w (GivesK w (be s 2 ++ be d 2 ++ be (8 + n) 2 ++ be m 2 ++ l) (8 + n)) := by
  have HV := hide hv
  clear hv
  go_enter Try.func16, Try.ntmps16
  go_wp2_with fail
  refine (right7_yes s d m A n c _ hn).mono ?_
  rintro e w0 ⟨rfl, hb0⟩
  have hm0 := (Is.new w 25 #[.int .u16 s, .int .u16 d, .int .u16 m, .slice A n c]).below hb0 (by simp)
  have HB0 := Lib.hid (((Below.refl w.heap.size w).alloc (Nat.le_refl _) _).trans (hb0.mono (by simp)))
  have d0 := hm0.cell 0
  simp at d0
  have HM0 := hide hm0
  clear hb0 hm0
  go_wp2_with fail
  refine (put_nil s 2 2 _ (by omega) (by omega) (by omega) (by decide)).mono ?_
  rintro e w1 ⟨A1, c2, rfl, ho, hb1⟩
  have HB1 := Lib.hid (HB0.out.trans (hb1.mono HB0.out.size))
  have HI1 := hide (IsB.own ho)
  have hm1 := HM0.out.below hb1 HM0.out.lt
  have d1 := hm1.cell 1
  simp at d1
  have HM1 := hide hm1
  clear ho hb1 hm1 d0 HM0 HB0
  go_wp2_with fail
  refine (put_k d 2 2 4 HI1.out (by omega) (by omega) (by omega) (by omega) (by decide) (by omega)).mono ?_
  rintro e w2 ⟨A2, c3, rfl, ho, hb1⟩
  have HB2 := Lib.hid (HB1.out.trans (hb1.mono HB1.out.size))
  have HI2 := hide (IsB.own ho)
  have hm2 := HM1.out.below hb1 HM1.out.lt
  have d2 := hm2.cell 3
  simp at d2
  have HM2 := hide hm2
  clear ho hb1 hm2 d1 HM1 HB1 HI1
  go_wp2_with fail
  rw [show (8 : Int) + (n : Int) = ((8 + n : Nat) : Int) from by omega]
  refine (put_k (8 + n) 2 2 6 HI2.out (by omega) (by omega) (by omega) (by omega) (by decide) (by omega)).mono ?_
  rintro e w3 ⟨A3, c4, rfl, ho, hb1⟩
  have HB3 := Lib.hid (HB2.out.trans (hb1.mono HB2.out.size))
  have HI3 := hide (IsB.own ho)
  have hm3 := HM2.out.below hb1 HM2.out.lt
  have d3 := hm3.cell 2
  simp at d3
  have HM3 := hide hm3
  clear ho hb1 hm3 d2 HM2 HB2 HI2
  go_wp2_with fail
  refine (put_k m 2 2 8 HI3.out (by omega) (by omega) (by omega) (by omega) (by decide) (by omega)).mono ?_
  rintro e w4 ⟨A4, c5, rfl, ho, hb1⟩
  have HB4 := Lib.hid (HB3.out.trans (hb1.mono HB3.out.size))
  have HO4 := hide (ho.lower (base' := w.heap.size) HB3.out.size)
  have hm4 := HM3.out.below hb1 HM3.out.lt
  have d4 := hm4.cell 3
  simp at d4
  clear ho hb1 hm4 d3 HM3 HB3 HI3
  go_wp2_with (at_builtin; refine app_k _ _ _ rfl rfl Try.underlying22 info8 (v := .slice A4 8 c5) (base := w.heap.size) (xs := be s 2 ++ be d 2 ++ be (8 + n) 2 ++ be m 2) (k := 8) (k' := 8 + n) (l := l) rfl HO4.out (by simp [be_len]) rfl (HV.out.st HB4.out) rfl (by omega) HB4.out.size ?_; intro A9 c9 w9 ho hg)
  go_ret
  refine ⟨A9, c9, rfl, ?_, grown_own HB4.out hg HO4.out⟩
  have h := ho
  simp at h ⊢
  exact h
/-- Two datagrams of zeros in memory. -/
def Two7 (w : World) (a b : Nat) (u v : Value) (wx : World) : Prop :=
  ∃ g h A B, u = .pointer (some ⟨g, 0, none⟩) ∧ v = .pointer (some ⟨h, 0, none⟩) ∧ Is wx g 25 #[.int .u16 0, .int .u16 0, .int .u16 0, .slice A a a] ∧ Is wx h 25 #[.int .u16 0, .int .u16 0, .int .u16 0, .slice B b b] ∧
    IsB (List.replicate a 0) a (.slice A a a) wx ∧ Below w.heap.size w wx
theorem two7_mk {w wx : World} {a b g h : Nat} {A B : Option Addr} (h1 : Is wx g 25 #[.int .u16 0, .int .u16 0, .int .u16 0, .slice A a a]) (h2 : Is wx h 25 #[.int .u16 0, .int .u16 0, .int .u16 0, .slice B b b])
    (h3 : IsB (List.replicate a 0) a (.slice A a a) wx) (h4 : Below w.heap.size w wx) : Two7 w a b (.pointer (some ⟨g, 0, none⟩)) (.pointer (some ⟨h, 0, none⟩)) wx := ⟨g, h, A, B, rfl, rfl, h1, h2, h3, h4⟩
theorem isnew_at {w : World} {g : Nat} {t : TypeId} {cs : Array Value} (h : w.heap.size = g) : Is (w.alloc (.cells cs t)) g t cs := by subst h; exact Is.new w t cs
theorem isb_zeros {w : World} {g a : Nat} (h : Is w g 5 (Array.replicate a (.int .u8 0))) (ha : a ≤ 100000000) : IsB (List.replicate a 0) a (.slice (some ⟨g, 0, none⟩) a a) w :=
  ⟨_, _, rfl, by simp, fun h0 => ⟨g, 0, rfl, h.lt, fun i j hi hj => by
    obtain rfl : j = 0 := by omega
    have hi' : i < a := by simpa using hi
    rw [Nat.zero_add, Nat.mul_one, Nat.add_zero, h.cell]
    simp [hi', at0, List.getD]⟩, Nat.le_refl _, by unfold maxLen; omega, fun h => by cases h⟩
end Go.Proofs.Ytkgmgmlicgjfdaa
