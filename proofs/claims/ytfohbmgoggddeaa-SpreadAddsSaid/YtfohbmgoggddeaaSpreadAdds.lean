/-
  SpreadAdds (P41.4) answers true and leaves its arguments as they were, for every key and all bytes: the Sum of the XOR of two byte strings of equal length is the XOR of their Sums. No condition.
-/
import Derived.Test.YtfohbmgoggddeaaRows
import Derived.WalkKit
import Derived.ProofKit
import Derived.OpenShut
import Derived.ShutString
import Derived.ChangeOld
import Derived.Below
import Derived.Test.YtfohbmgoggddeaaSpread
import Derived.Outline
import Derived.Deep.RegionHeld3
import Derived.Deep.AppendLies
import Derived.StillTactics
import Derived.OwnWalk
import Derived.Laws.Pointers
import Derived.StillTailTactics
import Derived.Laws.BitsAllLaws
namespace Go.Proofs.Ytfohbmgoggddeaa.spreadAdds
open Go.ChangeShapes Go.WideShapes Go.ChangeAt Go.RowKit
open Go.ChangeMaps (open_string shut_string)
open Go.Proofs.Ytfohbmgoggddeaa
set_option linter.unusedVariables false

theorem own : ownKnob Try.prog.godebug = none := by kernel_rfl
theorem laidOut : laidOutB Try.prog = true := by kernel_rfl

/-! ### Plain mathematics: the sums are linear -/
def xorN (a b : List Int) (n : Nat) : List Int := (List.range n).map fun i => (((at0 a i).toNat ^^^ (at0 b i).toNat : Nat) : Int)
theorem xorN_len (a b : List Int) (n : Nat) : (xorN a b n).length = n := by simp [xorN]
theorem xorN_at {a b : List Int} {n i : Nat} (h : i < n) : at0 (xorN a b n) i = (((at0 a i).toNat ^^^ (at0 b i).toNat : Nat) : Int) := by simp [xorN, at0, List.getD, h]
theorem xorN_succ (a b : List Int) (n : Nat) : xorN a b (n + 1) = xorN a b n ++ [(((at0 a n).toNat ^^^ (at0 b n).toNat : Nat) : Int)] := by simp [xorN, List.range_succ]
theorem xor_lt {x y : Int} (hx : 0 ≤ x ∧ x ≤ 255) (hy : 0 ≤ y ∧ y ≤ 255) : x.toNat ^^^ y.toNat < 256 := Nat.xor_lt_two_pow (n := 8) (by omega) (by omega)
theorem xorN_ok {a b : List Int} {n : Nat} (ha : Octets a) (hb : Octets b) : Octets (xorN a b n) := fun k => by
  by_cases h : k < n
  · rw [xorN_at h]; have := xor_lt (ha k) (hb k); omega
  · simp [at0, List.getD, List.getElem?_eq_none (show (xorN a b n).length ≤ k by rw [xorN_len]; omega)]
theorem bit_div (x k : Nat) : x / 2 ^ k % 2 = (x.testBit k).toNat := by rw [Nat.testBit_eq_decide_div_mod_eq]; by_cases h : x / 2 ^ k % 2 = 1 <;> simp [h] <;> omega
theorem bitN_xor {a b : List Int} {n : Nat} (ha : a.length = n) (hb : b.length = n) (i : Nat) : bitN (xorN a b n) i = if bitN a i = bitN b i then 0 else 1 := by
  unfold bitN
  rw [xorN_len, ha, hb]
  by_cases h : i < 8 * n
  · rw [if_pos h, if_pos h, if_pos h, xorN_at (by omega), Int.toNat_natCast, bit_div, bit_div, bit_div, Nat.testBit_xor]
    cases (at0 a (i / 8)).toNat.testBit (7 - i % 8) <;> cases (at0 b (i / 8)).toNat.testBit (7 - i % 8) <;> rfl
  · rw [if_neg h, if_neg h, if_neg h]; rfl
theorem linear (key : List Int) {a b : List Int} {n : Nat} (ha : a.length = n) (hb : b.length = n) (i : Nat) : tsum key (xorN a b n) i = tsum key a i ^^^ tsum key b i := by
  induction i with
  | zero => simp [tsum]
  | succ i ih =>
    have h1 := bitN_le a i
    have h2 := bitN_le b i
    simp only [tsum]
    rw [bitN_xor ha hb, ih]
    generalize tsum key a i = p
    generalize tsum key b i = q
    generalize win key (i + 32) = x
    by_cases ca : bitN a i = 1 <;> by_cases cb : bitN b i = 1
    · rw [if_pos (show bitN a i = bitN b i by omega), if_pos ca, if_pos cb]
      simp only [Nat.zero_ne_one, if_false]
      rw [Nat.xor_assoc p x, ← Nat.xor_assoc x q, Nat.xor_comm x q, Nat.xor_assoc q x, Nat.xor_self, Nat.xor_zero]
    · rw [if_neg (show ¬ bitN a i = bitN b i by omega), if_pos ca, if_neg cb]
      simp only [if_true]
      rw [Nat.xor_assoc, Nat.xor_assoc, Nat.xor_comm q x]
    · rw [if_neg (show ¬ bitN a i = bitN b i by omega), if_neg ca, if_pos cb]
      simp only [if_true]
      rw [Nat.xor_assoc]
    · rw [if_pos (show bitN a i = bitN b i by omega), if_neg ca, if_neg cb]
      simp only [Nat.zero_ne_one, if_false]

/-! ### The walk -/
def u8s (l : List Int) : List Value := l.map fun n => .int .u8 n
theorem bytes_own {w : World} {base n cap : Nat} {A : Option Addr} {l : List Int} (h : w.ownsRow base 5 1 (.slice A n cap) n (u8s l)) (hn : l.length = n) : Bytes w w.heap.size A l := by
  subst hn
  exact arr_of_own h fun i j hi hj => by
    obtain rfl : j = 0 := by omega
    simp [u8s, at0, List.getD, hi]
theorem bytes_take {w : World} {B : Nat} {A : Option Addr} {l : List Int} (h : Bytes w B A l) (n : Nat) (hn : n ≤ l.length) : Bytes w B A (l.take n) := fun h0 => by
  rw [List.length_take] at h0
  obtain ⟨b, off, hA, hb, hc⟩ := h (by omega)
  refine ⟨b, off, hA, hb, fun i j hi hj => ?_⟩
  rw [List.length_take] at hi
  rw [hc i j (by omega) hj]
  simp [at0, List.getD, show i < n by omega]
theorem octets_take {l : List Int} (h : Octets l) (k : Nat) : Octets (l.take k) := fun j => by
  by_cases hj : j < k
  · have := h j; simpa [at0, List.getD, List.getElem?_take, hj] using this
  · simp [at0, List.getD, List.getElem?_take, hj]
theorem xorN_take (a b : List Int) (n : Nat) : xorN (a.take n) (b.take n) n = xorN a b n := by
  unfold xorN
  apply List.map_congr_left
  intro i hi
  have : i < n := List.mem_range.1 hi
  simp [at0, List.getD, this]
theorem info8 : (Try.prog.info? 5).map (fun i => (i.zero, i.size, i.bytes)) = some (some (.int .u8 0), 1, 1) := by kernel_rfl
theorem hide {p : Prop} (h : p) : Hid p := h
theorem unhide {p : Prop} (h : Hid p) : p := h
def Rel (w : World) (a b : List Int) (n : Nat) (v i : Value) (wr : World) : Prop := ∃ k : Nat, k ≤ n ∧ i = .int .i64 k ∧ wr.ownsRow w.heap.size 5 1 v k (u8s (xorN a b k)) ∧ Below w.heap.size w wr

set_option maxRecDepth 100000 in
set_option maxHeartbeats 4000000 in
theorem walk_none (K A B : Option Addr) (ck ca cb : Nat) (key a b : List Int) (w : World) (h : 60 < key.length ∨ 100 < a.length ∨ 100 < b.length) (h1 : key.length ≤ maxLen) (h2 : a.length ≤ maxLen) (h3 : b.length ≤ maxLen) :
    Calls Try.prog 8 #[.slice K key.length ck, .slice A a.length ca, .slice B b.length cb] w fun e w' => e = .returned (.bool true) ∧ Below w.heap.size w w' := by
  unfold maxLen at h1 h2 h3
  by_cases c1 : 60 < key.length
  · go_enter Try.func8, Try.ntmps8
    go_wp2_with fail
    refine (awake41 _).mono ?_
    rintro e w1 ⟨rfl, hb⟩
    go_wp2_with fail
    go_ret
    exact ⟨rfl, hb⟩
  by_cases c2 : 100 < a.length
  · go_enter Try.func8, Try.ntmps8
    go_wp2_with fail
    refine (awake41 _).mono ?_
    rintro e w1 ⟨rfl, hb⟩
    go_wp2_with fail
    go_ret
    exact ⟨rfl, hb⟩
  have c3 : 100 < b.length := by omega
  go_enter Try.func8, Try.ntmps8
  go_wp2_with fail
  refine (awake41 _).mono ?_
  rintro e w1 ⟨rfl, hb⟩
  go_wp2_with fail
  go_ret
  exact ⟨rfl, hb⟩

set_option maxRecDepth 100000 in
set_option maxHeartbeats 4000000 in
theorem walk_lt (K A B : Option Addr) (ck ca cb : Nat) (key a b : List Int) (w : World) (hk : Bytes w w.heap.size K key) (ha : Bytes w w.heap.size A a) (hb : Bytes w w.heap.size B b) (ok : Octets key) (oa : Octets a) (ob : Octets b) (h1 : key.length ≤ 60) (h2 : a.length ≤ 100) (h3 : b.length ≤ 100) (la : a.length ≤ ca) (lb : b.length ≤ cb) (hc : b.length < a.length) :
    Calls Try.prog 8 #[.slice K key.length ck, .slice A a.length ca, .slice B b.length cb] w fun e w' => e = .returned (.bool true) ∧ Below w.heap.size w w' := by
  have HK := Lib.hid hk; have HA := Lib.hid ha; have HB := Lib.hid hb; have OK := Lib.hid ok; have OA := Lib.hid oa; have OB := Lib.hid ob
  obtain ⟨i0, hi0, hz0, hz1, hz2⟩ := info_parts info8
  clear hk ha hb ok oa ob
  go_enter Try.func8, Try.ntmps8
  go_wp2_with fail
  go_loopw [8, 9] (fun v i wr => Rel w a b b.length v i wr) (fun _ i _ => b.length - (intOf i).toNat)
  case atStart => exact ⟨0, Nat.zero_le _, rfl, World.ownsRow_nil _ _ _ _, Below.refl _ _⟩
  case round =>
    obtain ⟨k, hk, rfl, hown, hbel⟩ := hrel
    by_cases hlt : k < b.length
    · obtain ⟨b1, o1, rfl, hb1, hc1⟩ := HA.out.cells (by omega)
      obtain ⟨b2, o2, rfl, hb2, hc2⟩ := HB.out.cells (by omega)
      have d1 := (hbel.cell (p := ⟨b1, o1 + k, none⟩) hb1).trans (hc1 k (by omega))
      have d2 := (hbel.cell (p := ⟨b2, o2 + k, none⟩) hb2).trans (hc2 k (by omega))
      have hx := OA.out k
      have hy := OB.out k
      have hxl := xor_lt hx hy
      have HS := Lib.hid (xorN_succ a b k)
      have ab1 := own_far hown hb1
      have ab2 := own_far hown hb2
      have bl := hbel.size
      have HBE := Lib.hid hbel
      clear hc1 hc2 hbel
      generalize at0 a k = x at *
      generalize at0 b k = y at *
      have hxor : bits .xor .u8 x y = ((x.toNat ^^^ y.toNat : Nat) : Int) := u8_xor x y hx.1 (by omega) hy.1 (by omega)
      have i1 : (0 : Int) ≤ (k : Int) := Int.natCast_nonneg _
      have i2 : (k : Int) < (a.length : Int) := by omega
      have i3 : (k : Int) < (b.length : Int) := by omega
      generalize x.toNat ^^^ y.toNat = z at *
      go_wp2_with fail
      go_region_held3 (fun w' => w'.cell? ⟨b1, o1 + k, none⟩ = some (.int .u8 x) ∧ w'.cell? ⟨b2, o2 + k, none⟩ = some (.int .u8 y))
        (first
          | go_keep
          | (go_split_ands
             refine ⟨?_, ?_⟩
             · (rw [hgrow.cell_far _ (by simp; omega) (Ne.symm ab1)]; assumption)
             · (rw [hgrow.cell_far _ (by simp; omega) (Ne.symm ab2)]; assumption)))
        ((refine step_append_lies _ (by rfl) _ _ _ (by rfl) w.heap.size 5 i0 _ 1 1 Try.underlying47 hi0 hz0 hz1 hz2 rfl (by omega) _ k (u8s (xorN a b k)) (by rfl) ((hown.alloc _).drew)
            ⟨wr.heap.size, 0, none⟩ 1 1 [.int .u8 (z : Int)] (by rfl) (by rfl) (World.news_of_block (cs := #[.int .u8 (z : Int)]) (t := 5) (fr := (0, 0)) (heap_alloc_new wr _)) (by simp [Value.oneCell'])
            (by omega) (by unfold maxLen; omega) (by omega) (by simp; omega) (wr.heap.size + 1) (by simp) ?_; intro gg cap w1 hown1 hgrow hat hlt1))
      have hb1' := below_grown HBE.out hgrow hown.lt
      rw [show u8s (xorN a b k) ++ [Value.int .u8 (z : Int)] = u8s (xorN a b (k + 1)) from by rw [HS.out]; simp [u8s]] at hown1
      have HO := Lib.hid hown1
      have HB1 := Lib.hid hb1'
      clear hown1 hb1' hgrow hown
      go_wp2
      go_roundw
      case rel => exact ⟨k + 1, by omega, by go_num, HO.out, HB1.out⟩
      case measure => simp [intOf]; omega
    · obtain rfl : k = b.length := by omega
      obtain ⟨C, cc, rfl⟩ := own_shape hown
      have hz := hbel.size
      have hA2 := bytes_take (HA.out.below hbel |>.more hz) b.length (by omega)
      have hB2 := bytes_take (HB.out.below hbel |>.more hz) b.length (by omega)
      have tA : (a.take b.length).length = b.length := by rw [List.length_take]; omega
      have tB : (b.take b.length).length = b.length := by rw [List.length_take]; omega
      have s1 := sum_any K C ck cc key (xorN a b b.length) (wr.drew) wr.heap.size ((HK.out.below hbel).more hz) OK.out (bytes_own hown (xorN_len _ _ _)) (xorN_ok OA.out OB.out) (by omega) (by rw [xorN_len]; omega)
      have s2 := sum_any K A ck ca key (a.take b.length) (wr.drew) wr.heap.size ((HK.out.below hbel).more hz) OK.out hA2 (octets_take OA.out _) (by omega) (by omega)
      have s3 := sum_any K B ck cb key (b.take b.length) (wr.drew) wr.heap.size ((HK.out.below hbel).more hz) OK.out hB2 (octets_take OB.out _) (by omega) (by omega)
      rw [xorN_len] at s1
      rw [tA] at s2
      rw [tB] at s3
      have hlin := linear key tA tB (8 * b.length)
      rw [xorN_take] at hlin
      have HL := Lib.hid hlin
      have hx := u32_xor_nat _ _ (tsum_lt key (a.take b.length) (8 * b.length)) (tsum_lt key (b.take b.length) (8 * b.length))
      rw [← hlin] at hx
      have hbw : Below w.heap.size w wr.drew := hbel.drew
      have hzw : w.heap.size ≤ wr.drew.heap.size := hz
      have HBW := Lib.hid hbw
      have S1 := hide s1; have S2 := hide s2; have S3 := hide s3
      clear s1 s2 s3 hlin hbw tA tB hA2 hB2 hown hbel
      generalize tsum key (xorN a b b.length) (8 * b.length) = t1 at *
      generalize tsum key (a.take b.length) (8 * b.length) = t2 at *
      generalize tsum key (b.take b.length) (8 * b.length) = t3 at *
      have hca : b.length ≤ ca := by omega
      have hcb : b.length ≤ cb := by omega
      go_wp2_with fail
      go_still_tail 16, (by kernel_rfl)
      still_call ((unhide S1).mono fun _ _ h => ⟨h.1, h.2.symm⟩)
      repeat still_step
      still_call ((unhide S2).mono fun _ _ h => ⟨h.1, h.2.symm⟩)
      repeat still_step
      still_call ((unhide S3).mono fun _ _ h => ⟨h.1, h.2.symm⟩)
      repeat still_step
      refine wpStill_nil ?_
      change wpList _ _ _ _ _ wr.drew
      go_wp2_with fail
      refine (awake41 _).mono ?_
      rintro e w3 ⟨rfl, hb3⟩
      go_wp2_with fail
      go_ret
      exact ⟨rfl, HBW.out.trans (hb3.mono hzw)⟩
set_option maxRecDepth 100000 in
set_option maxHeartbeats 4000000 in
theorem walk_ge (K A B : Option Addr) (ck ca cb : Nat) (key a b : List Int) (w : World) (hk : Bytes w w.heap.size K key) (ha : Bytes w w.heap.size A a) (hb : Bytes w w.heap.size B b) (ok : Octets key) (oa : Octets a) (ob : Octets b) (h1 : key.length ≤ 60) (h2 : a.length ≤ 100) (h3 : b.length ≤ 100) (la : a.length ≤ ca) (lb : b.length ≤ cb) (hc : a.length ≤ b.length) :
    Calls Try.prog 8 #[.slice K key.length ck, .slice A a.length ca, .slice B b.length cb] w fun e w' => e = .returned (.bool true) ∧ Below w.heap.size w w' := by
  have HK := Lib.hid hk; have HA := Lib.hid ha; have HB := Lib.hid hb; have OK := Lib.hid ok; have OA := Lib.hid oa; have OB := Lib.hid ob
  obtain ⟨i0, hi0, hz0, hz1, hz2⟩ := info_parts info8
  clear hk ha hb ok oa ob
  go_enter Try.func8, Try.ntmps8
  go_wp2_with fail
  go_loopw [8, 9] (fun v i wr => Rel w a b a.length v i wr) (fun _ i _ => a.length - (intOf i).toNat)
  case atStart => exact ⟨0, Nat.zero_le _, rfl, World.ownsRow_nil _ _ _ _, Below.refl _ _⟩
  case round =>
    obtain ⟨k, hk, rfl, hown, hbel⟩ := hrel
    by_cases hlt : k < a.length
    · obtain ⟨b1, o1, rfl, hb1, hc1⟩ := HA.out.cells (by omega)
      obtain ⟨b2, o2, rfl, hb2, hc2⟩ := HB.out.cells (by omega)
      have d1 := (hbel.cell (p := ⟨b1, o1 + k, none⟩) hb1).trans (hc1 k (by omega))
      have d2 := (hbel.cell (p := ⟨b2, o2 + k, none⟩) hb2).trans (hc2 k (by omega))
      have hx := OA.out k
      have hy := OB.out k
      have hxl := xor_lt hx hy
      have HS := Lib.hid (xorN_succ a b k)
      have ab1 := own_far hown hb1
      have ab2 := own_far hown hb2
      have bl := hbel.size
      have HBE := Lib.hid hbel
      clear hc1 hc2 hbel
      generalize at0 a k = x at *
      generalize at0 b k = y at *
      have hxor : bits .xor .u8 x y = ((x.toNat ^^^ y.toNat : Nat) : Int) := u8_xor x y hx.1 (by omega) hy.1 (by omega)
      have i1 : (0 : Int) ≤ (k : Int) := Int.natCast_nonneg _
      have i2 : (k : Int) < (a.length : Int) := by omega
      have i3 : (k : Int) < (b.length : Int) := by omega
      generalize x.toNat ^^^ y.toNat = z at *
      go_wp2_with fail
      go_region_held3 (fun w' => w'.cell? ⟨b1, o1 + k, none⟩ = some (.int .u8 x) ∧ w'.cell? ⟨b2, o2 + k, none⟩ = some (.int .u8 y))
        (first
          | go_keep
          | (go_split_ands
             refine ⟨?_, ?_⟩
             · (rw [hgrow.cell_far _ (by simp; omega) (Ne.symm ab1)]; assumption)
             · (rw [hgrow.cell_far _ (by simp; omega) (Ne.symm ab2)]; assumption)))
        ((refine step_append_lies _ (by rfl) _ _ _ (by rfl) w.heap.size 5 i0 _ 1 1 Try.underlying47 hi0 hz0 hz1 hz2 rfl (by omega) _ k (u8s (xorN a b k)) (by rfl) ((hown.alloc _).drew)
            ⟨wr.heap.size, 0, none⟩ 1 1 [.int .u8 (z : Int)] (by rfl) (by rfl) (World.news_of_block (cs := #[.int .u8 (z : Int)]) (t := 5) (fr := (0, 0)) (heap_alloc_new wr _)) (by simp [Value.oneCell'])
            (by omega) (by unfold maxLen; omega) (by omega) (by simp; omega) (wr.heap.size + 1) (by simp) ?_; intro gg cap w1 hown1 hgrow hat hlt1))
      have hb1' := below_grown HBE.out hgrow hown.lt
      rw [show u8s (xorN a b k) ++ [Value.int .u8 (z : Int)] = u8s (xorN a b (k + 1)) from by rw [HS.out]; simp [u8s]] at hown1
      have HO := Lib.hid hown1
      have HB1 := Lib.hid hb1'
      clear hown1 hb1' hgrow hown
      go_wp2
      go_roundw
      case rel => exact ⟨k + 1, by omega, by go_num, HO.out, HB1.out⟩
      case measure => simp [intOf]; omega
    · obtain rfl : k = a.length := by omega
      obtain ⟨C, cc, rfl⟩ := own_shape hown
      have hz := hbel.size
      have hA2 := bytes_take (HA.out.below hbel |>.more hz) a.length (by omega)
      have hB2 := bytes_take (HB.out.below hbel |>.more hz) a.length (by omega)
      have tA : (a.take a.length).length = a.length := by rw [List.length_take]; omega
      have tB : (b.take a.length).length = a.length := by rw [List.length_take]; omega
      have s1 := sum_any K C ck cc key (xorN a b a.length) (wr.drew) wr.heap.size ((HK.out.below hbel).more hz) OK.out (bytes_own hown (xorN_len _ _ _)) (xorN_ok OA.out OB.out) (by omega) (by rw [xorN_len]; omega)
      have s2 := sum_any K A ck ca key (a.take a.length) (wr.drew) wr.heap.size ((HK.out.below hbel).more hz) OK.out hA2 (octets_take OA.out _) (by omega) (by omega)
      have s3 := sum_any K B ck cb key (b.take a.length) (wr.drew) wr.heap.size ((HK.out.below hbel).more hz) OK.out hB2 (octets_take OB.out _) (by omega) (by omega)
      rw [xorN_len] at s1
      rw [tA] at s2
      rw [tB] at s3
      have hlin := linear key tA tB (8 * a.length)
      rw [xorN_take] at hlin
      have HL := Lib.hid hlin
      have hx := u32_xor_nat _ _ (tsum_lt key (a.take a.length) (8 * a.length)) (tsum_lt key (b.take a.length) (8 * a.length))
      rw [← hlin] at hx
      have hbw : Below w.heap.size w wr.drew := hbel.drew
      have hzw : w.heap.size ≤ wr.drew.heap.size := hz
      have HBW := Lib.hid hbw
      have S1 := hide s1; have S2 := hide s2; have S3 := hide s3
      clear s1 s2 s3 hlin hbw tA tB hA2 hB2 hown hbel
      generalize tsum key (xorN a b a.length) (8 * a.length) = t1 at *
      generalize tsum key (a.take a.length) (8 * a.length) = t2 at *
      generalize tsum key (b.take a.length) (8 * a.length) = t3 at *
      have hca : a.length ≤ ca := by omega
      have hcb : a.length ≤ cb := by omega
      go_wp2_with fail
      go_still_tail 16, (by kernel_rfl)
      still_call ((unhide S1).mono fun _ _ h => ⟨h.1, h.2.symm⟩)
      repeat still_step
      still_call ((unhide S2).mono fun _ _ h => ⟨h.1, h.2.symm⟩)
      repeat still_step
      still_call ((unhide S3).mono fun _ _ h => ⟨h.1, h.2.symm⟩)
      repeat still_step
      refine wpStill_nil ?_
      change wpList _ _ _ _ _ wr.drew
      go_wp2_with fail
      refine (awake41 _).mono ?_
      rintro e w3 ⟨rfl, hb3⟩
      go_wp2_with fail
      go_ret
      exact ⟨rfl, HBW.out.trans (hb3.mono hzw)⟩

theorem walk (K A B : Option Addr) (ck ca cb : Nat) (key a b : List Int) (w : World) (hk : Bytes w w.heap.size K key) (ha : Bytes w w.heap.size A a) (hb : Bytes w w.heap.size B b) (ok : Octets key) (oa : Octets a) (ob : Octets b) (h1 : key.length ≤ maxLen) (h2 : a.length ≤ maxLen) (h3 : b.length ≤ maxLen) (la : a.length ≤ ca) (lb : b.length ≤ cb) :
    Calls Try.prog 8 #[.slice K key.length ck, .slice A a.length ca, .slice B b.length cb] w fun e w' => e = .returned (.bool true) ∧ Below w.heap.size w w' := by
  by_cases c : 60 < key.length ∨ 100 < a.length ∨ 100 < b.length
  · exact walk_none K A B ck ca cb key a b w c h1 h2 h3
  · by_cases d : b.length < a.length
    · exact walk_lt K A B ck ca cb key a b w hk ha hb ok oa ob (by omega) (by omega) (by omega) la lb d
    · exact walk_ge K A B ck ca cb key a b w hk ha hb ok oa ob (by omega) (by omega) (by omega) la lb (by omega)

/-! ### The step from the walk to the row -/
set_option maxRecDepth 100000 in
theorem lifted (os : Os) (started : os.Started) (H : Type) (enc : TypeId × Value → H) :
    ReturnsInHanded {} Try.checked os 8 .any (Rows.spreadAddsSpec.pre6 enc Try.prog Try.f8 Rows.spreadAddsRow.domain false) (Rows.spreadAddsSpec.post enc Try.prog Try.f8 false true false false) := by
  refine returnsInHanded_of_change (C := Try.checked) own started (by kernel_rfl) Try.func8
    (ChangeSpec.witness6 (enc := enc) (C := Try.checked) false ⟨#[], #[.slice none 0 0, .slice none 0 0, .slice none 0 0], []⟩ 8 (by kernel_rfl) (by kernel_rfl) (by kernel_rfl) (by kernel_rfl)) ?_
  intro W base args ds gs before hval0 hW hcnd _
  have hval : ∀ (j : Nat) t v, Try.f8.params[j]? = some t → args[j]? = some v → Value.okWide Try.prog W .any base t v := hval0
  have hW' := hW
  obtain ⟨p, q, hA0, hV, rfl, hfz, hnd⟩ := hW
  have hA : DataW.TrodAll enc Try.prog W 0 (fun _ => true) true Try.f8.params.toList args.toList ds p := hA0
  rw [Try.params8] at hA hval
  obtain ⟨v0, vs0, d0, ds0, p0, q0, hargs, rfl, rfl, h0, r0⟩ := trodAll_cons hA
  obtain ⟨v1, vs1, d1, ds1, p1, q1, rfl, rfl, rfl, h1, r1⟩ := trodAll_cons r0
  obtain ⟨v2, vs2, d2, ds2, p2, q2, rfl, rfl, rfl, h2, r2⟩ := trodAll_cons r1
  obtain ⟨rfl, rfl, rfl⟩ := trodAll_nil r2
  obtain rfl : args = #[v0, v1, v2] := by cases args; simp_all
  obtain ⟨rfl, rfl⟩ := trodVars_none hV
  have k0 := h0
  have lt0 : ∀ x ∈ p0, x.block < W.heap.size := by obtain ⟨m, hm⟩ := k0; exact DataW.trod_lt m _ _ _ hm
  have ok0 := hval 0 47 v0 rfl rfl
  have k1 := h1
  have lt1 : ∀ x ∈ p1, x.block < W.heap.size := by obtain ⟨m, hm⟩ := k1; exact DataW.trod_lt m _ _ _ hm
  have ok1 := hval 1 47 v1 rfl rfl
  have k2 := h2
  have lt2 : ∀ x ∈ p2, x.block < W.heap.size := by obtain ⟨m, hm⟩ := k2; exact DataW.trod_lt m _ _ _ hm
  have ok2 := hval 2 47 v2 rfl rfl
  clear hA0 hval0
  obtain ⟨K, nk, ck, rfl⟩ := okWide_slice Try.underlying47 ok0
  obtain ⟨key, rfl, lk, mk, hk, ok⟩ := open_bytes_of (e := 5) Try.underlying47 Try.underlying5 (by kernel_rfl) h0
  obtain ⟨A, na, ca, rfl⟩ := okWide_slice Try.underlying47 ok1
  obtain ⟨a, rfl, la, ma, ha, oa⟩ := open_bytes_of (e := 5) Try.underlying47 Try.underlying5 (by kernel_rfl) h1
  obtain ⟨B, nb, cb, rfl⟩ := okWide_slice Try.underlying47 ok2
  obtain ⟨b, rfl, lb, mb, hb, ob⟩ := open_bytes_of (e := 5) Try.underlying47 Try.underlying5 (by kernel_rfl) h2
  refine (walk K A B ck ca cb key a b W hk ha hb ok oa ob mk ma mb la lb).mono fun e W' ⟨he, bel⟩ => ?_
  subst he
  exact ⟨_, rfl, _, _, _, [], _, [], hW', trodAll_mk1 (shut_bool Try.underlying4 _), (trodAll_cons_mk (Below.trod laidOut (by kernel_rfl) (of_decide_eq_true (by kernel_rfl)) k0 bel lt0) (trodAll_cons_mk (Below.trod laidOut (by kernel_rfl) (of_decide_eq_true (by kernel_rfl)) k1 bel lt1) (trodAll_cons_mk (Below.trod laidOut (by kernel_rfl) (of_decide_eq_true (by kernel_rfl)) k2 bel lt2) trodAll_mk0))), rfl, bel.frame _, fun h => by cases h⟩

theorem over : Rows.spreadAddsRow.holds Try.pinned (OpenSpec.ofChange Rows.spreadAddsSpec) :=
  OpenClaim.holds_of_wide 8 Try.f8 rfl rfl rfl rfl rfl rfl rfl ⟨rfl, rfl, rfl, rfl, rfl⟩ rfl rfl rfl rfl rfl (by kernel_rfl) Try.func8 (by kernel_rfl)
    (of_decide_eq_true (by kernel_rfl)) (by unfold Func.isWrapper; first | (rw [if_pos (by decide +kernel)]; kernel_rfl) | (rw [if_neg (by decide +kernel)]; exact ⟨rfl, rfl⟩))
    (fun os started H enc _ => lifted os started H enc)

theorem proved : Rows.SpreadAddsSaid := over
#print axioms proved
end Go.Proofs.Ytfohbmgoggddeaa.spreadAdds
