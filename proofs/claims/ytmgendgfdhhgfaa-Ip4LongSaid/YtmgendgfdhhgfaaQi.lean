/-
  Headers of IPv4 in bytes. Helper of the claims of layer 4.
-/
import Derived.Test.YtmgendgfdhhgfaaQh
import Derived.Test.YtmgendgfdhhgfaaAk
import Derived.Test.YtmgendgfdhhgfaaGrow
namespace Go.Proofs.Ytmgendgfdhhgfaa
open Go.ChangeShapes Go.WideShapes Go.ChangeAt Go.RowKit
set_option linter.unusedSimpArgs false
set_option linter.unusedVariables false
set_option maxRecDepth 100000
def pl4 (st mo : Bool) (ofs : Nat) : Nat := ofs + (if st = true then 16384 else 0) + (if mo = true then 8192 else 0)
theorem pl4_le {st mo : Bool} {ofs : Nat} (h : ofs ≤ 8191) : pl4 st mo ofs ≤ 32767 := by unfold pl4; cases st <;> cases mo <;> simp <;> omega
def hl4 (m ts le id pl tt pr ck sl dl : Nat) : List Int := be (69 + m) 1 ++ be ts 1 ++ be le 2 ++ be id 2 ++ be pl 2 ++ be tt 1 ++ be pr 1 ++ be ck 2 ++ be sl 4 ++ be dl 4
theorem hl4_len (m ts le id pl tt pr ck sl dl : Nat) : (hl4 m ts le id pl tt pr ck sl dl).length = 20 := by simp [hl4, be_len]
theorem hl4_ok (m ts le id pl tt pr ck sl dl : Nat) : Octets (hl4 m ts le id pl tt pr ck sl dl) := by
  unfold hl4
  exact (((((((((be_ok _ _).app (be_ok _ _)).app (be_ok _ _)).app (be_ok _ _)).app (be_ok _ _)).app (be_ok _ _)).app (be_ok _ _)).app (be_ok _ _)).app (be_ok _ _)).app (be_ok _ _)
theorem or_hi {a : Nat} (k i : Nat) (h : a < 2 ^ i) (hk : k < 9 * 2 ^ i) (h2 : k = 2 ^ i * (k / 2 ^ i)) (hi : i ≤ 20) : bits .or .i64 (a : Int) (k : Int) = ((a + k : Nat) : Int) := by
  have hp : 2 ^ i ≤ 2 ^ 20 := Nat.pow_le_pow_right (by omega) hi
  have := (bits_nat .i64 63 (by decide) wraps_i64 a k (by omega) (by omega)).2
  rw [this, Nat.or_comm, h2, ← Nat.two_pow_add_eq_or_of_lt h, Nat.add_comm]
set_option maxHeartbeats 2000000 in
theorem place4 (ts le id : Nat) (st mo : Bool) (ofs tt pr sm sl dl : Nat) (A : Option Addr) (n c : Nat) (hofs : ofs ≤ 8191) (w : World) :
    Calls Try.prog 104 #[hv4 (ts : Int) (le : Int) (id : Int) st mo (ofs : Int) (tt : Int) (pr : Int) (sm : Int) false 0 (sl : Int) false 0 (dl : Int) (.slice A n c)] w fun e w' => e = .returned (.int .i64 ((pl4 st mo ofs : Nat) : Int)) ∧ Below w.heap.size w w' := by
  have HB := Lib.hid ((Below.refl w.heap.size w).alloc (Nat.le_refl _) (.cells #[.int .u8 (ts : Int), .int .i64 (le : Int), .int .u16 (id : Int), .bool st, .bool mo, .int .i64 (ofs : Int), .int .u8 (tt : Int), .int .u8 (pr : Int), .int .u16 (sm : Int), .bool false, .int .u64 0, .int .u64 (sl : Int), .bool false, .int .u64 0, .int .u64 (dl : Int), .slice A n c] 28))
  have o1 : bits .or .i64 (ofs : Int) 16384 = ((ofs + 16384 : Nat) : Int) := or_hi 16384 14 (by omega) (by omega) (by omega) (by omega)
  have o2 : bits .or .i64 (ofs : Int) 8192 = ((ofs + 8192 : Nat) : Int) := or_hi 8192 13 (by omega) (by omega) (by omega) (by omega)
  have o3 : bits .or .i64 ((ofs : Int) + 16384) 8192 = (ofs : Int) + 16384 + 8192 := by
    rw [show (ofs : Int) + 16384 = ((ofs + 16384 : Nat) : Int) from rfl, show ((ofs + 16384 : Nat) : Int) + 8192 = ((ofs + 16384 + 8192 : Nat) : Int) from rfl]
    have := (bits_nat .i64 63 (by decide) wraps_i64 (ofs + 16384) 8192 (by omega) (by omega)).2
    rw [show ((8192 : Nat) : Int) = 8192 from rfl] at this
    rw [this]
    have e1 : ofs + 16384 = 2 ^ 14 * 1 + ofs := by omega
    have e2 : ofs + 16384 + 8192 = 2 ^ 13 * 3 + ofs := by omega
    rw [e2, e1, Nat.two_pow_add_eq_or_of_lt (show ofs < 2 ^ 14 by omega), Nat.two_pow_add_eq_or_of_lt (show ofs < 2 ^ 13 by omega), Nat.or_assoc, Nat.or_comm ofs, ← Nat.or_assoc]
    rfl
  have P1 := hide (Is.new w 28 #[.int .u8 (ts : Int), .int .i64 (le : Int), .int .u16 (id : Int), .bool st, .bool mo, .int .i64 (ofs : Int), .int .u8 (tt : Int), .int .u8 (pr : Int), .int .u16 (sm : Int), .bool false, .int .u64 0, .int .u64 (sl : Int), .bool false, .int .u64 0, .int .u64 (dl : Int), .slice A n c])
  unfold hv4
  have W1 := Lib.hid (pl4_le (st := st) (mo := mo) hofs)
  go_enter Try.func104, Try.ntmps104
  cases st <;> cases mo
  all_goals
    go_wp2_with fail
    go_ret
    exact ⟨ret_int (by simp [pl4]), HB.out⟩
set_option maxHeartbeats 8000000 in
theorem enc4 (ts le id : Nat) (st mo : Bool) (ofs tt pr sm sl dl : Nat) (m ck : Nat) (o : List Int) (A : Option Addr) (n c : Nat) (w : World) (hts : ts ≤ 255) (hle : le ≤ 65535) (hid : id ≤ 65535) (hofs : ofs ≤ 8191) (htt : tt ≤ 255) (hpr : pr ≤ 255) (hsl : sl ≤ 4294967295) (hdl : dl ≤ 4294967295) (hck : ck ≤ 65535) (hm : n = 4 * m) (hm10 : m ≤ 10) (hv : IsB o n (.slice A n c) w) :
    Calls Try.prog 66 #[hv4 (ts : Int) (le : Int) (id : Int) st mo (ofs : Int) (tt : Int) (pr : Int) (sm : Int) false 0 (sl : Int) false 0 (dl : Int) (.slice A n c), .int .u16 (ck : Int)] w fun e w' => ∃ v, e = .returned v ∧ Below w.heap.size w w' ∧ OwnP w.heap.size (hl4 m ts le id (pl4 st mo ofs) tt pr ck sl dl ++ o) (20 + n) v w' := by
  have HQ0 := hide hv
  have hb0 : Below w.heap.size w (w.alloc (.cells #[.int .u8 (ts : Int), .int .i64 (le : Int), .int .u16 (id : Int), .bool st, .bool mo, .int .i64 (ofs : Int), .int .u8 (tt : Int), .int .u8 (pr : Int), .int .u16 (sm : Int), .bool false, .int .u64 0, .int .u64 (sl : Int), .bool false, .int .u64 0, .int .u64 (dl : Int), .slice A n c] 28)) := (Below.refl _ _).alloc (Nat.le_refl _) _
  have hg0 := Is.new w 28 #[.int .u8 (ts : Int), .int .i64 (le : Int), .int .u16 (id : Int), .bool st, .bool mo, .int .i64 (ofs : Int), .int .u8 (tt : Int), .int .u8 (pr : Int), .int .u16 (sm : Int), .bool false, .int .u64 0, .int .u64 (sl : Int), .bool false, .int .u64 0, .int .u64 (dl : Int), .slice A n c]
  have n1000 : n ≤ 1000 := by omega
  have ofl : o.length = n := by obtain ⟨_, _, _, e, _⟩ := hv; exact e
  have OFL := Lib.hid ofl
  have PLE := Lib.hid (pl4_le (st := st) (mo := mo) hofs)
  have q4 : ((20 + n : Nat) : Int) / 4 = ((5 + m : Nat) : Int) := by omega
  have q4t : ((20 + n : Nat) : Int).tdiv 4 = ((5 + m : Nat) : Int) := by rw [Int.tdiv_eq_ediv_of_nonneg (by omega)]; exact q4
  have q5 : bits .or .i64 64 ((5 + m : Nat) : Int) = ((69 + m : Nat) : Int) := by
    have := (bits_nat .i64 63 (by decide) wraps_i64 64 (5 + m) (by omega) (by omega)).2
    rw [show ((64 : Nat) : Int) = 64 from rfl] at this
    rw [this, show (64 : Nat) = 2 ^ 6 * 1 from rfl, ← Nat.two_pow_add_eq_or_of_lt (show 5 + m < 2 ^ 6 by omega)]
    omega
  have Q4 := Lib.hid q4; have Q4T := Lib.hid q4t; have Q5 := Lib.hid q5
  have M10 := Lib.hid hm10
  obtain ⟨r, hr⟩ : ∃ r, 20 + n = r := ⟨_, rfl⟩
  rw [hr] at q4 q4t
  obtain ⟨sm5, hs5⟩ : ∃ x, 5 + m = x := ⟨_, rfl⟩
  rw [hs5] at q4 q4t q5
  obtain ⟨f9, hf9⟩ : ∃ x, 69 + m = x := ⟨_, rfl⟩
  rw [hf9] at q5
  have SZ := hide (fun W => size4 (ts : Int) (le : Int) (id : Int) st mo (ofs : Int) (tt : Int) (pr : Int) (sm : Int) false 0 (sl : Int) false 0 (dl : Int) A n c W n1000)
  have PL := hide (fun W => place4 ts le id st mo ofs tt pr sm sl dl A n c hofs W)
  rw [hr] at SZ
  have r70 : r ≤ 70 := by omega
  have f90 : f9 ≤ 79 := by omega
  have HR := Lib.hid hr; have HF9 := Lib.hid hf9
  clear hv hm hm10 hr hs5 hf9 Q4 Q4T Q5 ofl
  unfold hv4
  go_enter Try.func66, Try.ntmps66
  go_wp2_with fail
  generalize w.alloc (.cells #[.int .u8 (ts : Int), .int .i64 (le : Int), .int .u16 (id : Int), .bool st, .bool mo, .int .i64 (ofs : Int), .int .u8 (tt : Int), .int .u8 (pr : Int), .int .u16 (sm : Int), .bool false, .int .u64 0, .int .u64 (sl : Int), .bool false, .int .u64 0, .int .u64 (dl : Int), .slice A n c] 28) = W at *
  have HG := hide hg0; have HB := Lib.hid hb0; have HZ := Lib.hid (show w.heap.size + 1 ≤ W.heap.size from hg0.lt)
  have HQ := hide (HQ0.out.st hb0)
  clear hg0 hb0
  unfold hv4 at SZ PL
  refine (unhide SZ _).mono ?_
  rintro e w1 ⟨rfl, hb⟩
  have ho := True.intro
  have HB9 := Lib.hid (HB.out.trans (hb.mono (HB.out.size))); have HG9 := hide (HG.out.below hb (HG.out.lt)); have HZ9 := Lib.hid (Nat.le_trans HZ.out hb.size)
  have HQ9 := hide (HQ0.out.st HB9.out)
  clear HB HG HZ HQ ho hb
  have HB := HB9; have HG := HG9; have HZ := HZ9; have HQ := HQ9
  clear HB9 HG9 HZ9 HQ9
  go_wp2_with fail
  refine (put_nil f9 1 1 _ (by omega) (by omega) (by omega) rfl).mono ?_
  rintro e w2 ⟨A2, c2, rfl, ho, hb⟩
  have HI := hide (IsB.own ho); have HO := hide (ho.lower HZ.out)
  have HB9 := Lib.hid (HB.out.trans (hb.mono (HB.out.size))); have HG9 := hide (HG.out.below hb (HG.out.lt)); have HZ9 := Lib.hid (Nat.le_trans HZ.out hb.size)
  have HQ9 := hide (HQ0.out.st HB9.out)
  clear HB HG HZ HQ ho hb
  have HB := HB9; have HG := HG9; have HZ := HZ9; have HQ := HQ9
  clear HB9 HG9 HZ9 HQ9
  have a0 := HG.out.cell 0
  simp at a0
  go_wp2_with fail
  clear a0
  refine (put_k ts 1 1 2 HI.out (by omega) (by omega) (by omega) (by omega) rfl rfl).mono ?_
  rintro e w3 ⟨A3, c3, rfl, ho, hb⟩
  clear HI HO
  have HI := hide (IsB.own ho); have HO := hide (ho.lower HZ.out)
  have HB9 := Lib.hid (HB.out.trans (hb.mono (HB.out.size))); have HG9 := hide (HG.out.below hb (HG.out.lt)); have HZ9 := Lib.hid (Nat.le_trans HZ.out hb.size)
  have HQ9 := hide (HQ0.out.st HB9.out)
  clear HB HG HZ HQ ho hb
  have HB := HB9; have HG := HG9; have HZ := HZ9; have HQ := HQ9
  clear HB9 HG9 HZ9 HQ9
  have a1 := HG.out.cell 1
  simp at a1
  go_wp2_with fail
  clear a1
  refine (put_k le 2 2 4 HI.out (by omega) (by omega) (by omega) (by omega) rfl rfl).mono ?_
  rintro e w4 ⟨A4, c4, rfl, ho, hb⟩
  clear HI HO
  have HI := hide (IsB.own ho); have HO := hide (ho.lower HZ.out)
  have HB9 := Lib.hid (HB.out.trans (hb.mono (HB.out.size))); have HG9 := hide (HG.out.below hb (HG.out.lt)); have HZ9 := Lib.hid (Nat.le_trans HZ.out hb.size)
  have HQ9 := hide (HQ0.out.st HB9.out)
  clear HB HG HZ HQ ho hb
  have HB := HB9; have HG := HG9; have HZ := HZ9; have HQ := HQ9
  clear HB9 HG9 HZ9 HQ9
  have a2 := HG.out.cell 2
  simp at a2
  go_wp2_with fail
  clear a2
  refine (put_k id 2 2 6 HI.out (by omega) (by omega) (by omega) (by omega) rfl rfl).mono ?_
  rintro e w5 ⟨A5, c5, rfl, ho, hb⟩
  clear HI HO
  have HI := hide (IsB.own ho); have HO := hide (ho.lower HZ.out)
  have HB9 := Lib.hid (HB.out.trans (hb.mono (HB.out.size))); have HG9 := hide (HG.out.below hb (HG.out.lt)); have HZ9 := Lib.hid (Nat.le_trans HZ.out hb.size)
  have HQ9 := hide (HQ0.out.st HB9.out)
  clear HB HG HZ HQ ho hb
  have HB := HB9; have HG := HG9; have HZ := HZ9; have HQ := HQ9
  clear HB9 HG9 HZ9 HQ9
  have a0 := HG.out.cell 0
  have a1 := HG.out.cell 1
  have a2 := HG.out.cell 2
  have a3 := HG.out.cell 3
  have a4 := HG.out.cell 4
  have a5 := HG.out.cell 5
  have a6 := HG.out.cell 6
  have a7 := HG.out.cell 7
  have a8 := HG.out.cell 8
  have a9 := HG.out.cell 9
  have a10 := HG.out.cell 10
  have a11 := HG.out.cell 11
  have a12 := HG.out.cell 12
  have a13 := HG.out.cell 13
  have a14 := HG.out.cell 14
  have a15 := HG.out.cell 15
  simp at a0 a1 a2 a3 a4 a5 a6 a7 a8 a9 a10 a11 a12 a13 a14 a15
  go_wp2_with fail
  clear a0 a1 a2 a3 a4 a5 a6 a7 a8 a9 a10 a11 a12 a13 a14 a15
  refine (unhide PL _).mono ?_
  rintro e wp ⟨rfl, hb⟩
  have ho := True.intro
  have HO9 := hide (HO.out.below hb); have HI9 := hide (HI.out.st hb)
  clear HO HI
  have HO := HO9; have HI := HI9
  clear HO9 HI9
  have HB9 := Lib.hid (HB.out.trans (hb.mono (HB.out.size))); have HG9 := hide (HG.out.below hb (HG.out.lt)); have HZ9 := Lib.hid (Nat.le_trans HZ.out hb.size)
  have HQ9 := hide (HQ0.out.st HB9.out)
  clear HB HG HZ HQ ho hb
  have HB := HB9; have HG := HG9; have HZ := HZ9; have HQ := HQ9
  clear HB9 HG9 HZ9 HQ9
  have pw : IntKind.u64.wrap ((pl4 st mo ofs : Nat) : Int) = ((pl4 st mo ofs : Nat) : Int) := IntWalk.u64_in _ (by have := PLE.out; omega)
  go_wp2_with fail
  refine (put_k (pl4 st mo ofs) 2 2 8 HI.out (by omega) (by have := PLE.out; omega) (by omega) (by omega) rfl rfl).mono ?_
  rintro e w6 ⟨A6, c6, rfl, ho, hb⟩
  clear HI HO
  have HI := hide (IsB.own ho); have HO := hide (ho.lower HZ.out)
  have HB9 := Lib.hid (HB.out.trans (hb.mono (HB.out.size))); have HG9 := hide (HG.out.below hb (HG.out.lt)); have HZ9 := Lib.hid (Nat.le_trans HZ.out hb.size)
  have HQ9 := hide (HQ0.out.st HB9.out)
  clear HB HG HZ HQ ho hb
  have HB := HB9; have HG := HG9; have HZ := HZ9; have HQ := HQ9
  clear HB9 HG9 HZ9 HQ9
  have a6 := HG.out.cell 6
  simp at a6
  go_wp2_with fail
  clear a6
  refine (put_k tt 1 1 9 HI.out (by omega) (by omega) (by omega) (by omega) rfl rfl).mono ?_
  rintro e w7 ⟨A7, c7, rfl, ho, hb⟩
  clear HI HO
  have HI := hide (IsB.own ho); have HO := hide (ho.lower HZ.out)
  have HB9 := Lib.hid (HB.out.trans (hb.mono (HB.out.size))); have HG9 := hide (HG.out.below hb (HG.out.lt)); have HZ9 := Lib.hid (Nat.le_trans HZ.out hb.size)
  have HQ9 := hide (HQ0.out.st HB9.out)
  clear HB HG HZ HQ ho hb
  have HB := HB9; have HG := HG9; have HZ := HZ9; have HQ := HQ9
  clear HB9 HG9 HZ9 HQ9
  have a7 := HG.out.cell 7
  simp at a7
  go_wp2_with fail
  clear a7
  refine (put_k pr 1 1 10 HI.out (by omega) (by omega) (by omega) (by omega) rfl rfl).mono ?_
  rintro e w8 ⟨A8, c8, rfl, ho, hb⟩
  clear HI HO
  have HI := hide (IsB.own ho); have HO := hide (ho.lower HZ.out)
  have HB9 := Lib.hid (HB.out.trans (hb.mono (HB.out.size))); have HG9 := hide (HG.out.below hb (HG.out.lt)); have HZ9 := Lib.hid (Nat.le_trans HZ.out hb.size)
  have HQ9 := hide (HQ0.out.st HB9.out)
  clear HB HG HZ HQ ho hb
  have HB := HB9; have HG := HG9; have HZ := HZ9; have HQ := HQ9
  clear HB9 HG9 HZ9 HQ9
  go_wp2_with fail
  refine (put_k ck 2 2 12 HI.out (by omega) (by omega) (by omega) (by omega) rfl rfl).mono ?_
  rintro e w9 ⟨A9, c9, rfl, ho, hb⟩
  clear HI HO
  have HI := hide (IsB.own ho); have HO := hide (ho.lower HZ.out)
  have HB9 := Lib.hid (HB.out.trans (hb.mono (HB.out.size))); have HG9 := hide (HG.out.below hb (HG.out.lt)); have HZ9 := Lib.hid (Nat.le_trans HZ.out hb.size)
  have HQ9 := hide (HQ0.out.st HB9.out)
  clear HB HG HZ HQ ho hb
  have HB := HB9; have HG := HG9; have HZ := HZ9; have HQ := HQ9
  clear HB9 HG9 HZ9 HQ9
  have a9 := HG.out.cell 9
  have a10 := HG.out.cell 10
  have a11 := HG.out.cell 11
  simp at a9 a10 a11
  go_wp2_with fail
  clear a9 a10 a11
  refine (abytes4 0 sl _ (by omega)).mono ?_
  rintro e w20 ⟨v, rfl, hb, A20, c20, rfl, hx⟩
  have HX := hide (IsB.own hx); have HO9 := hide (HO.out.below hb); have ho := True.intro
  clear HO hx HI
  have HO := HO9
  clear HO9
  have HB9 := Lib.hid (HB.out.trans (hb.mono (HB.out.size))); have HG9 := hide (HG.out.below hb (HG.out.lt)); have HZ9 := Lib.hid (Nat.le_trans HZ.out hb.size)
  have HQ9 := hide (HQ0.out.st HB9.out)
  clear HB HG HZ HQ ho hb
  have HB := HB9; have HG := HG9; have HZ := HZ9; have HQ := HQ9
  clear HB9 HG9 HZ9 HQ9
  have hzz : w.heap.size + 1 ≤ w20.heap.size := HZ.out
  go_wp2_with (first
    | ((with_reducible show wpList _ _ _ (⟨some 50, _, _, _, _, _⟩ :: _) _ _)
       go_loud (refine app_k (.tmp 46) (.tmp 49) _ rfl rfl Try.underlying22 info8 (v := .slice A9 12 c9) (base := w.heap.size + 1) (xs := be f9 1 ++ be ts 1 ++ be le 2 ++ be id 2 ++ be (pl4 st mo ofs) 2 ++ be tt 1 ++ be pr 1 ++ be ck 2) (k := 12) (k' := 16) (l := be sl 4) (m := 4) rfl HO.out (by simp [be_len]) rfl HX.out rfl (by omega) hzz ?_)
       intro A21 c21 w21 ho hg7
       have hb : Below (w.heap.size + 1) w20 w21 := (Below.refl _ _).grown hg7 hzz (fun q hq => (World.ownsRow.lt HO.out q hq).1)
       clear HO HX hzz hg7
       have HO := hide ho
       have HB9 := Lib.hid (HB.out.trans (hb.mono (Nat.le_succ _))); have HG9 := hide (HG.out.below hb (Nat.lt_succ_self _)); have HZ9 := Lib.hid (Nat.le_trans HZ.out hb.size)
       have HQ9 := hide (HQ0.out.st HB9.out)
       clear HB HG HZ HQ ho hb
       have HB := HB9; have HG := HG9; have HZ := HZ9; have HQ := HQ9
       clear HB9 HG9 HZ9 HQ9
       have a12 := HG.out.cell 12
       have a13 := HG.out.cell 13
       have a14 := HG.out.cell 14
       simp at a12 a13 a14))
  have a12 := HG.out.cell 12
  have a13 := HG.out.cell 13
  have a14 := HG.out.cell 14
  simp at a12 a13 a14
  go_wp2_with fail
  clear a12 a13 a14
  refine (abytes4 0 dl _ (by omega)).mono ?_
  rintro e w22 ⟨v, rfl, hb, A22, c22, rfl, hx⟩
  have HX := hide (IsB.own hx); have HO9 := hide (HO.out.below hb); have ho := True.intro
  clear HO hx 
  have HO := HO9
  clear HO9
  have HB9 := Lib.hid (HB.out.trans (hb.mono (HB.out.size))); have HG9 := hide (HG.out.below hb (HG.out.lt)); have HZ9 := Lib.hid (Nat.le_trans HZ.out hb.size)
  have HQ9 := hide (HQ0.out.st HB9.out)
  clear HB HG HZ HQ ho hb
  have HB := HB9; have HG := HG9; have HZ := HZ9; have HQ := HQ9
  clear HB9 HG9 HZ9 HQ9
  have hzz : w.heap.size + 1 ≤ w22.heap.size := HZ.out
  go_wp2_with (first
    | ((with_reducible show wpList _ _ _ (⟨some 55, _, _, _, _, _⟩ :: _) _ _)
       go_loud (refine app_k (.tmp 51) (.tmp 54) _ rfl rfl Try.underlying22 info8 (v := .slice A21 16 c21) (base := w.heap.size + 1) (xs := be f9 1 ++ be ts 1 ++ be le 2 ++ be id 2 ++ be (pl4 st mo ofs) 2 ++ be tt 1 ++ be pr 1 ++ be ck 2 ++ be sl 4) (k := 16) (k' := 20) (l := be dl 4) (m := 4) rfl HO.out (by simp [be_len]) rfl HX.out rfl (by omega) hzz ?_)
       intro A23 c23 w23 ho hg7
       have hb : Below (w.heap.size + 1) w22 w23 := (Below.refl _ _).grown hg7 hzz (fun q hq => (World.ownsRow.lt HO.out q hq).1)
       clear HO HX hzz hg7
       have HO := hide ho
       have HB9 := Lib.hid (HB.out.trans (hb.mono (Nat.le_succ _))); have HG9 := hide (HG.out.below hb (Nat.lt_succ_self _)); have HZ9 := Lib.hid (Nat.le_trans HZ.out hb.size)
       have HQ9 := hide (HQ0.out.st HB9.out)
       clear HB HG HZ HQ ho hb
       have HB := HB9; have HG := HG9; have HZ := HZ9; have HQ := HQ9
       clear HB9 HG9 HZ9 HQ9
       have a15 := HG.out.cell 15
       simp at a15
       have hzl : w.heap.size + 1 ≤ w23.heap.size := HZ.out)
    | ((with_reducible show wpList _ _ _ (⟨some 59, _, _, _, _, _⟩ :: _) _ _)
       go_loud (refine app_k (.tmp 56) (.tmp 58) _ rfl rfl Try.underlying22 info8 (v := .slice A23 20 c23) (base := w.heap.size + 1) (xs := be f9 1 ++ be ts 1 ++ be le 2 ++ be id 2 ++ be (pl4 st mo ofs) 2 ++ be tt 1 ++ be pr 1 ++ be ck 2 ++ be sl 4 ++ be dl 4) (k := 20) (k' := 20 + n) (l := o) (m := n) rfl HO.out (by simp [be_len]) rfl HQ.out rfl (by omega) hzl ?_)
       intro A30 c30 w30 ho hg7
       have hb : Below (w.heap.size + 1) w23 w30 := (Below.refl _ _).grown hg7 hzl (fun q hq => (World.ownsRow.lt HO.out q hq).1)
       have HBZ := Lib.hid (HB.out.trans (hb.mono (Nat.le_succ _)))
       clear HO hg7
       have HO := hide ho))
  go_ret
  exact ⟨_, rfl, HBZ.out, OwnP.lowk (B := w.heap.size + 1) ⟨_, _, rfl, by unfold hl4; rw [HF9.out]; exact HO.out⟩ (Nat.le_succ _)⟩
end Go.Proofs.Ytmgendgfdhhgfaa
