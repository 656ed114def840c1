/-
  Headers of IPv4: the value, and the addresses of four bytes. Helper of the claims of layer 4.
-/
import Derived.Test.YtmgendgfdhhgfaaAk
import Derived.Test.YtmgendgfdhhgfaaSl
import Derived.Test.YtmgendgfdhhgfaaSuz
import Derived.Test.YtmgendgfdhhgfaaLin5
namespace Go.Proofs.Ytmgendgfdhhgfaa
open Go.ChangeShapes Go.WideShapes Go.ChangeAt Go.RowKit
set_option linter.unusedSimpArgs false
set_option linter.unusedVariables false
set_option maxRecDepth 100000
/-- A header as a value; program and reference lay the same fields. -/
def hv4 (ts le id : Int) (st mo : Bool) (ofs tt pr sm : Int) (s6 : Bool) (sh sl : Int) (d6 : Bool) (dh dl : Int) (vo : Value) : Value := .agg #[.int .u8 ts, .int .i64 le, .int .u16 id, .bool st, .bool mo, .int .i64 ofs, .int .u8 tt, .int .u8 pr, .int .u16 sm, .bool s6, .int .u64 sh, .int .u64 sl, .bool d6, .int .u64 dh, .int .u64 dl, vo]
theorem is_raw {w : World} {g : Nat} {t : TypeId} {cs : Array Value} (h : Is w g t cs) : w.heap[g]? = some (.cells cs t (0, 0)) := by unfold Is at h; exact h
theorem is_row6 {w : World} {g : Nat} {t : TypeId} {cs cs' : Array Value} (h : Is w g t cs) : Is (w.setRow g cs') g t cs' := by
  unfold Is at *
  exact setRow_heap w g cs cs' t (0, 0) h
def hz4 : Value := .agg #[.int .u8 0, .int .i64 0, .int .u16 0, .bool false, .bool false, .int .i64 0, .int .u8 0, .int .u8 0, .int .u16 0, .bool false, .int .u64 0, .int .u64 0, .bool false, .int .u64 0, .int .u64 0, .slice none 0 0]
theorem num_q {W : World} {g i : Nat} {l : List Int} {w : World} (n j : Nat) (x : Int) (h : RS W g l i w) (ho : Octets l) (hj : i + n = j) (hn : j ≤ l.length) (h8 : n ≤ 8) (hx : nw l i n = x) :
    Calls Try.prog 112 #[.pointer (some ⟨g, 0, none⟩), .int .i64 (n : Int)] w (RNext W g l j w (.int .u64 x)) := by
  subst hx
  exact (num_ok g _ false n w h.1 (ho.drop i) (by rw [List.length_drop]; omega) h8).mono fun e w' ⟨h1, h2, h3⟩ => ⟨h1, h.step h2 h3 hj, h3⟩
set_option maxHeartbeats 2000000 in
/-- Four bytes are an address. -/
theorem aof4 (L : List Int) (lo : Int) (v : Value) (w : World) (ho : Octets L) (hx : nw L 0 4 = lo) (hv : IsB L 4 v w) :
    Calls Try.prog 99 #[v] w fun e w' => e = .returned (.tuple #[.agg #[.bool false, .int .u64 0, .int .u64 lo], .int .i64 0]) ∧ Below w.heap.size w w' := by
  have LN := Lib.hid (show L.length = 4 from by obtain ⟨_, _, _, e, _⟩ := hv; exact e)
  have OK := Lib.hid ho; have HX := Lib.hid hx
  obtain ⟨A, c, rfl⟩ := hv.shape
  have hb0 : Below w.heap.size w (w.alloc (.cells #[.bool false, .int .u64 0, .int .u64 0] 26)) := (Below.refl _ _).alloc (Nat.le_refl _) _
  have hg0 := Is.new w 26 #[.bool false, .int .u64 0, .int .u64 0]
  have HV := hide (hv.st hb0)
  clear hv ho hx
  go_enter Try.func99, Try.ntmps99
  go_wp2_with fail
  generalize w.alloc (.cells #[.bool false, .int .u64 0, .int .u64 0] 26) = W at *
  refine (read_q HV.out (by omega)).mono ?_
  rintro e w1 ⟨g, rfl, h1⟩
  have R1 := hide h1; clear h1
  have HG := hide hg0; have HB := Lib.hid hb0
  clear hg0 hb0
  go_wp2_with fail
  refine (num_q 4 4 lo R1.out OK.out rfl (by rw [LN.out]; omega) (by omega) HX.out).mono ?_
  rintro e w2 ⟨rfl, h1, _⟩
  have HBW := Lib.hid h1.bel; clear h1 R1
  have hg4 := HG.out.below HBW.out HG.out.lt
  have z0 := hg4.cell 0
  have z1 := hg4.cell 1
  have z2 := hg4.cell 2
  have y0 := hg4.free 0
  have y1 := hg4.free 1
  have y2 := hg4.free 2
  have zl := hg4.lt
  simp at z0 z1 z2
  have HB4 := Lib.hid (HB.out.trans (HBW.out.mono HB.out.size))
  clear hg4
  go_wp2_with fail
  refine bodyPost_ret (v := .tuple #[.agg #[.bool false, .int .u64 0, .int .u64 lo], .int .i64 0]) (by simp [results, Try.results99, go_sem, z0, z1, z2, zl]) rfl ⟨rfl, ?_⟩
  have ob := HB4.out
  repeat' first | with_reducible exact ob | with_reducible apply Below.set1
  all_goals simp
/-! Sums over bytes, said of IsB -/
theorem lit1_is {w : World} {t : TypeId} {A : Option Addr} {n c : Nat} {l : List Int} (h : IsB l n (.slice A n c) w) (ho : Octets l) : S2.Parts (w.alloc (.cells #[.slice A n c] t)) (w.alloc (.cells #[.slice A n c] t)).heap.size (some ⟨w.heap.size, 0, none⟩) [⟨A, c, l⟩] := by
  have h2 := h.alloc (.cells #[.slice A n c] t)
  obtain ⟨A', c', e, hl, hb, _⟩ := h2
  injection e with e1 e2 e3
  subst hl; subst e1; subst e3
  exact S2.parts_one (p := ⟨A, c, l⟩) (t := t) (Is.new w t #[.slice A l.length c]) hb ho
theorem sum_of1 {w : World} {t : TypeId} {A : Option Addr} {n c : Nat} {l : List Int} (h : IsB l n (.slice A n c) w) (ho : Octets l) (hm : n ≤ 1000000) :
    Calls Try.prog 67 #[.slice (some ⟨w.heap.size, 0, none⟩) 1 1] (w.alloc (.cells #[.slice A n c] t)) fun e w' => e = .returned (.int .u16 (S2.sumOf l)) ∧ w.alloc (.cells #[.slice A n c] t) = w' := by
  have hl : l.length = n := by obtain ⟨_, _, _, e, _⟩ := h; exact e
  have := S2.of_any (some ⟨w.heap.size, 0, none⟩) 1 [⟨A, c, l⟩] _ _ (lit1_is (t := t) h ho) (by simp) (by rw [S2.joined_one]; show l.length ≤ _; omega) (by rw [S2.joined_one]; exact ho)
  rw [S2.joined_one] at this
  exact this
theorem sum_right1 {w : World} {t : TypeId} {A : Option Addr} {n c : Nat} {l : List Int} (h : IsB l n (.slice A n c) w) (ho : Octets l) (hm : n ≤ 1000000) (hs : S2.sumOf l = 0) :
    Calls Try.prog 60 #[.slice (some ⟨w.heap.size, 0, none⟩) 1 1] (w.alloc (.cells #[.slice A n c] t)) fun e w' => e = .returned (.bool true) ∧ w.alloc (.cells #[.slice A n c] t) = w' := by
  have hl : l.length = n := by obtain ⟨_, _, _, e, _⟩ := h; exact e
  exact S2.right_yes (some ⟨w.heap.size, 0, none⟩) 1 [⟨A, c, l⟩] _ _ (lit1_is (t := t) h ho) (by simp) (by rw [S2.joined_one]; show l.length ≤ _; omega) (by rw [S2.joined_one]; exact ho) (by rw [S2.joined_one]; exact hs)
theorem sum_wrong1 {w : World} {t : TypeId} {A : Option Addr} {n c : Nat} {l : List Int} (h : IsB l n (.slice A n c) w) (ho : Octets l) (hm : n ≤ 1000000) (hs : S2.sumOf l ≠ 0) :
    Calls Try.prog 60 #[.slice (some ⟨w.heap.size, 0, none⟩) 1 1] (w.alloc (.cells #[.slice A n c] t)) fun e w' => e = .returned (.bool false) ∧ w.alloc (.cells #[.slice A n c] t) = w' := by
  have hl : l.length = n := by obtain ⟨_, _, _, e, _⟩ := h; exact e
  exact S2.right_no2 (some ⟨w.heap.size, 0, none⟩) 1 [⟨A, c, l⟩] _ _ (lit1_is (t := t) h ho) (by simp) (by rw [S2.joined_one]; show l.length ≤ _; omega) (by rw [S2.joined_one]; exact ho) (by rw [S2.joined_one]; exact hs)
theorem rsum_q {l : List Int} {n : Nat} {v : Value} {w : World} (h : IsB l n v w) (ho : Octets l) (hm : n ≤ 1000000) : Calls Try.prog 64 #[v] w fun e w' => e = .returned (.int .u16 (S2.sumOf l)) ∧ w = w' := by
  obtain ⟨A, c, rfl, rfl, h2, _⟩ := h
  exact S2.rof_any A c l w _ h2 ho hm
/-! What the bits of bytes 6 and 7 say -/
def stB (p : Int) : Bool := decide (p / 16384 % 2 = 1)
def moB (p : Int) : Bool := decide (p / 8192 % 2 = 1)
theorem wraps_i64 (n : Int) (h₀ : 0 ≤ n) (h₁ : n < 2 ^ 63) : IntKind.i64.wrap n = n := by rw [IntKind.wrap_i64]; omega
theorem nat_bit (x i : Nat) : x &&& 2 ^ i = if x / 2 ^ i % 2 = 1 then 2 ^ i else 0 := by
  apply Nat.eq_of_testBit_eq
  intro j
  rw [Nat.testBit_and, Nat.testBit_two_pow]
  by_cases h : x / 2 ^ i % 2 = 1
  · rw [if_pos h, Nat.testBit_two_pow]
    by_cases hj : i = j
    · subst hj
      have : x.testBit i = true := by rw [Nat.testBit_eq_decide_div_mod_eq]; simp [h]
      simp [this]
    · simp [hj]
  · rw [if_neg h, Nat.zero_testBit]
    by_cases hj : i = j
    · subst hj
      have : x.testBit i = false := by rw [Nat.testBit_eq_decide_div_mod_eq]; simp [h]
      simp [this]
    · simp [hj]
theorem bit_st {p : Int} (h0 : 0 ≤ p) (h1 : p < 65536) : bits .and .i64 p 16384 = if stB p = true then 16384 else 0 := by
  obtain ⟨n, rfl⟩ := Int.eq_ofNat_of_zero_le h0
  have := (bits_nat .i64 63 (by decide) wraps_i64 n 16384 (by omega) (by omega)).1
  rw [show ((16384 : Nat) : Int) = 16384 from rfl, show (16384 : Nat) = 2 ^ 14 from rfl, nat_bit] at this
  rw [this]
  unfold stB
  by_cases h : n / 2 ^ 14 % 2 = 1
  · rw [if_pos h, if_pos (by simp; omega)]; rfl
  · rw [if_neg h, if_neg (by simp; omega)]; rfl
theorem bit_mo {p : Int} (h0 : 0 ≤ p) (h1 : p < 65536) : bits .and .i64 p 8192 = if moB p = true then 8192 else 0 := by
  obtain ⟨n, rfl⟩ := Int.eq_ofNat_of_zero_le h0
  have := (bits_nat .i64 63 (by decide) wraps_i64 n 8192 (by omega) (by omega)).1
  rw [show ((8192 : Nat) : Int) = 8192 from rfl, show (8192 : Nat) = 2 ^ 13 from rfl, nat_bit] at this
  rw [this]
  unfold moB
  by_cases h : n / 2 ^ 13 % 2 = 1
  · rw [if_pos h, if_pos (by simp; omega)]; rfl
  · rw [if_neg h, if_neg (by simp; omega)]; rfl
theorem bit_un {x : Int} (h0 : 0 ≤ x) (h1 : x ≤ 255) : bits .and .i64 (x * 256) 32768 = if 128 ≤ x then 32768 else 0 := by
  obtain ⟨n, rfl⟩ := Int.eq_ofNat_of_zero_le h0
  have := (bits_nat .i64 63 (by decide) wraps_i64 (n * 256) 32768 (by omega) (by omega)).1
  rw [show ((32768 : Nat) : Int) = 32768 from rfl, show (32768 : Nat) = 2 ^ 15 from rfl, nat_bit, Int.natCast_mul] at this
  rw [show ((n : Int) * 256) = (n : Int) * ((256 : Nat) : Int) from rfl, this]
  by_cases h : n * 256 / 2 ^ 15 % 2 = 1
  · rw [if_pos h, if_pos (by omega)]; rfl
  · rw [if_neg h, if_neg (by omega)]; rfl
theorem bit_of {p : Int} (h0 : 0 ≤ p) (h1 : p < 65536) : bits .and .i64 p 8191 = p % 8192 := bits_mask .i64 63 (by decide) wraps_i64 13 (by decide) p h0 (by omega)
theorem bit_lo {x : Int} (h0 : 0 ≤ x) (h1 : x ≤ 255) : bits .and .u8 x 15 = x % 16 := bits_mask .u8 8 (by decide) wraps_u8 4 (by decide) x h0 (by omega)
theorem bit_jn {x y : Int} (h0 : 0 ≤ x) (h1 : x ≤ 255) (h2 : 0 ≤ y) (h3 : y ≤ 255) : bits .or .i64 (x * 256) y = x * 256 + y := by
  obtain ⟨n, rfl⟩ := Int.eq_ofNat_of_zero_le h0
  obtain ⟨m, rfl⟩ := Int.eq_ofNat_of_zero_le h2
  have := (bits_nat .i64 63 (by decide) wraps_i64 (n * 256) m (by omega) (by omega)).2
  rw [Int.natCast_mul] at this
  rw [show ((n : Int) * 256) = (n : Int) * ((256 : Nat) : Int) from rfl, this, show n * 256 = 2 ^ 8 * n from by omega, ← Nat.two_pow_add_eq_or_of_lt (show m < 2 ^ 8 by omega)]
  omega
end Go.Proofs.Ytmgendgfdhhgfaa
