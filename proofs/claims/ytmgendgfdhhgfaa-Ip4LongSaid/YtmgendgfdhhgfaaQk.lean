/-
  Packet of package ip4. Helper of the claims of layer 4.
-/
import Derived.Test.YtmgendgfdhhgfaaQj
namespace Go.Proofs.Ytmgendgfdhhgfaa
open Go.ChangeShapes Go.WideShapes Go.ChangeAt Go.RowKit
set_option linter.unusedSimpArgs false
set_option linter.unusedVariables false
set_option maxRecDepth 100000
set_option maxHeartbeats 8000000 in
theorem packet4_yes (ts id : Nat) (l0 : Int) (st mo : Bool) (ofs tt pr sm sl dl : Nat) (m : Nat) (o l : List Int) (A : Option Addr) (n c : Nat) (Al : Option Addr) (k cl : Nat) (w : World) (hts : ts ≤ 255) (hid : id ≤ 65535) (hofs : ofs ≤ 8191) (htt : tt ≤ 255) (hpr : pr ≤ 255) (hsl : sl ≤ 4294967295) (hdl : dl ≤ 4294967295) (hk : 20 + n + k ≤ 65535) (hm : n = 4 * m) (hm10 : m ≤ 10) (ho : Octets o) (hv : IsB o n (.slice A n c) w) (hu : IsB l k (.slice Al k cl) w) :
    Calls Try.prog 13 #[hv4 (ts : Int) l0 (id : Int) st mo (ofs : Int) (tt : Int) (pr : Int) (sm : Int) false 0 (sl : Int) false 0 (dl : Int) (.slice A n c), .slice Al k cl] w fun e w' => ∃ v, e = .returned (.tuple #[v, .int .i64 0]) ∧ Below w.heap.size w w' ∧ OwnP w.heap.size (hl4 m ts (20 + n + k) id (pl4 st mo ofs) tt pr (ckof (hl4 m ts (20 + n + k) id (pl4 st mo ofs) tt pr 0 sl dl ++ o)) sl dl ++ o ++ l) (20 + n + k) v w' := by
  have HB := Lib.hid ((Below.refl w.heap.size w).alloc (Nat.le_refl _) (.cells #[.int .u8 (ts : Int), .int .i64 l0, .int .u16 (id : Int), .bool st, .bool mo, .int .i64 (ofs : Int), .int .u8 (tt : Int), .int .u8 (pr : Int), .int .u16 (sm : Int), .bool false, .int .u64 0, .int .u64 (sl : Int), .bool false, .int .u64 0, .int .u64 (dl : Int), .slice A n c] 28))
  have P1 := hide (Is.new w 28 #[.int .u8 (ts : Int), .int .i64 l0, .int .u16 (id : Int), .bool st, .bool mo, .int .i64 (ofs : Int), .int .u8 (tt : Int), .int .u8 (pr : Int), .int .u16 (sm : Int), .bool false, .int .u64 0, .int .u64 (sl : Int), .bool false, .int .u64 0, .int .u64 (dl : Int), .slice A n c])
  have HV := hide (hv.st HB.out); have HU := hide (hu.st HB.out); have HV0 := hide hv; have HU0 := hide hu
  have SZ := hide (fun W => size4 (ts : Int) l0 (id : Int) st mo (ofs : Int) (tt : Int) (pr : Int) (sm : Int) false 0 (sl : Int) false 0 (dl : Int) A n c W (by omega))
  have RY := hide (fun W => right4_yes (ts : Int) ((20 + n + k : Nat) : Int) (id : Int) st mo (ofs : Int) (tt : Int) (pr : Int) (sm : Int) (sl : Int) (dl : Int) A n c W (by omega) (by omega) (by omega) (by omega) (by omega) (by omega) (by omega) (by omega) (by omega) (by omega))
  have BY := hide (fun W hW => bytes4_yes ts (20 + n + k) id st mo ofs tt pr sm sl dl m o A n c W hts (by omega) hid hofs htt hpr hsl hdl (by omega) hm hm10 ho hW)
  have K65 := Lib.hid hk; have N40 := Lib.hid (show n ≤ 40 by omega)
  obtain ⟨r, hr⟩ : ∃ r, 20 + n = r := ⟨_, rfl⟩
  have hsum : ((20 + n : Nat) : Int) + (k : Int) = ((20 + n + k : Nat) : Int) := by omega
  obtain ⟨t, ht⟩ : ∃ t, 20 + n + k = t := ⟨_, rfl⟩
  rw [ht] at hsum RY BY
  rw [hr] at hsum SZ BY
  have t65 : ¬ (65535 : Int) < (t : Int) := by omega
  have t65b : t ≤ 65535 := by omega
  have HT := Lib.hid ht; have HR := Lib.hid hr
  have LO := Lib.hid (show o.length = n from by obtain ⟨_, _, _, e, _⟩ := hv; exact e)
  clear hv hu hm ho hk hr ht
  unfold hv4 at SZ RY BY ⊢
  go_enter Try.func13, Try.ntmps13
  go_wp2_with fail
  generalize w.alloc (.cells #[.int .u8 (ts : Int), .int .i64 l0, .int .u16 (id : Int), .bool st, .bool mo, .int .i64 (ofs : Int), .int .u8 (tt : Int), .int .u8 (pr : Int), .int .u16 (sm : Int), .bool false, .int .u64 0, .int .u64 (sl : Int), .bool false, .int .u64 0, .int .u64 (dl : Int), .slice A n c] 28) = W at *
  refine (unhide SZ _).mono ?_
  rintro e w1 ⟨rfl, hb⟩
  have HB1 := Lib.hid (HB.out.trans (hb.mono HB.out.size)); have P2 := hide (P1.out.below hb P1.out.lt); have HV1 := hide (HV.out.st hb); have HU1 := hide (HU.out.st hb)
  clear hb HB P1 HV HU
  have P3 : Hid (Is (w1.setCell ⟨w.heap.size, 1, none⟩ (.int .i64 (t : Int))) w.heap.size 28 #[.int .u8 (ts : Int), .int .i64 (t : Int), .int .u16 (id : Int), .bool st, .bool mo, .int .i64 (ofs : Int), .int .u8 (tt : Int), .int .u8 (pr : Int), .int .u16 (sm : Int), .bool false, .int .u64 0, .int .u64 (sl : Int), .bool false, .int .u64 0, .int .u64 (dl : Int), .slice A n c]) := hide (P2.out.put 1 (.int .i64 (t : Int)))
  have HB3 := Lib.hid (Below.set1 HB1.out (Nat.le_refl _) (i := 1) (.int .i64 (t : Int)))
  have HV3 := hide (HV0.out.st HB3.out); have HU3 := hide (HU0.out.st HB3.out)
  have c1 := P2.out.cell 1; have f1 := P2.out.free 1; have g1l := P2.out.lt
  simp at c1
  clear HV1 HU1 HB1
  have P4 := P3
  have a0 := P3.out.cell 0
  have a1 := P3.out.cell 1
  have a2 := P3.out.cell 2
  have a3 := P3.out.cell 3
  have a4 := P3.out.cell 4
  have a5 := P3.out.cell 5
  have a6 := P3.out.cell 6
  have a7 := P3.out.cell 7
  have a8 := P3.out.cell 8
  have a9 := P3.out.cell 9
  have a10 := P3.out.cell 10
  have a11 := P3.out.cell 11
  have a12 := P3.out.cell 12
  have a13 := P3.out.cell 13
  have a14 := P3.out.cell 14
  have a15 := P3.out.cell 15
  simp at a0 a1 a2 a3 a4 a5 a6 a7 a8 a9 a10 a11 a12 a13 a14 a15
  go_wp2_with fail
  generalize w1.setCell ⟨w.heap.size, 1, none⟩ (.int .i64 (t : Int)) = W3 at *
  refine (unhide RY _).mono ?_
  rintro e w4 ⟨rfl, hb⟩
  have HB4 := Lib.hid (HB3.out.trans (hb.mono HB3.out.size)); have P5 := hide (P3.out.below hb P3.out.lt); have HV4 := hide (HV3.out.st hb); have HU4 := hide (HU3.out.st hb)
  clear hb HB3 P3 P4 HV3 HU3 c1 f1 g1l P2
  clear a0 a1 a2 a3 a4 a5 a6 a7 a8 a9 a10 a11 a12 a13 a14 a15
  have a0 := P5.out.cell 0
  have a1 := P5.out.cell 1
  have a2 := P5.out.cell 2
  have a3 := P5.out.cell 3
  have a4 := P5.out.cell 4
  have a5 := P5.out.cell 5
  have a6 := P5.out.cell 6
  have a7 := P5.out.cell 7
  have a8 := P5.out.cell 8
  have a9 := P5.out.cell 9
  have a10 := P5.out.cell 10
  have a11 := P5.out.cell 11
  have a12 := P5.out.cell 12
  have a13 := P5.out.cell 13
  have a14 := P5.out.cell 14
  have a15 := P5.out.cell 15
  simp at a0 a1 a2 a3 a4 a5 a6 a7 a8 a9 a10 a11 a12 a13 a14 a15
  go_wp2_with fail
  clear a0 a1 a2 a3 a4 a5 a6 a7 a8 a9 a10 a11 a12 a13 a14 a15
  refine (unhide BY _ HV4.out).mono ?_
  rintro e w5 ⟨v5, rfl, hb, A5, c5, rfl, hb5⟩
  have HO5 := hide hb5
  have HB5 := Lib.hid (HB4.out.trans (hb.mono HB4.out.size)); have HU5 := hide (HU4.out.st hb)
  have HZ5 := Lib.hid (show w.heap.size ≤ w4.heap.size from HB4.out.size)
  have hz5 : w4.heap.size ≤ w5.heap.size := hb.size
  have LR := Lib.hid (show (hl4 m ts t id (pl4 st mo ofs) tt pr (ckof (hl4 m ts t id (pl4 st mo ofs) tt pr 0 sl dl ++ o)) sl dl ++ o).length = r from by rw [List.length_append, hl4_len, LO.out, HR.out])
  clear hb hb5 HB4 HU4 P5 HV4
  go_wp2_with (
    (with_reducible show wpList _ _ _ (⟨some 21, _, _, _, _, _⟩ :: _) _ _)
    go_loud (refine app_k (.tmp 19) (.tmp 20) _ rfl rfl Try.underlying22 info8 (v := .slice A5 r c5) (base := w4.heap.size) (xs := hl4 m ts t id (pl4 st mo ofs) tt pr (ckof (hl4 m ts t id (pl4 st mo ofs) tt pr 0 sl dl ++ o)) sl dl ++ o) (k := r) (k' := t) (l := l) (m := k) rfl HO5.out LR.out rfl HU5.out (by have := HT.out; have := HR.out; omega) (by omega) hz5 ?_)
    intro A6 c6 w6 ho hg
    have HB6 := Lib.hid (HB5.out.trans (((Below.refl w4.heap.size w5).grown hg hz5 (fun q hq => (World.ownsRow.lt HO5.out q hq).1)).mono HZ5.out))
    have HO6 := hide ho
    clear ho hg)
  refine bodyPost_ret (v := .tuple #[.slice A6 t c6, .int .i64 0]) (by simp [results, Try.results13, go_sem]) rfl ⟨_, rfl, HB6.out, ?_⟩
  rw [HT.out]
  exact ⟨_, _, rfl, HO6.out.lower HZ5.out⟩
end Go.Proofs.Ytmgendgfdhhgfaa
