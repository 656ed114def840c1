/-
  The functions of package spread that Sum goes through: what each call returns. Helper of the claims on layer 41.
-/
import Derived.Test.YthjkjohmaemmiaaRows
import Derived.Test.YthjkjohmaemmiaaBase
import Derived.Laws.BitsAllLaws
import Derived.BigQuiet
import Derived.Deep.QuietTactic
import Derived.Outline
import Derived.StillTailTactics
import Derived.Laws.Bits128
namespace Go.Proofs.Ythjkjohmaemmiaa
open Go.ChangeShapes Go.WideShapes Go.ChangeAt Go.RowKit
set_option linter.unusedSimpArgs false
set_option linter.unusedVariables false

/-! ### Plain mathematics -/
/-- Bit i of bytes, the most significant one of each byte first. -/
def bitN (l : List Int) (i : Nat) : Nat := if i < 8 * l.length then (at0 l (i / 8)).toNat / 2 ^ (7 - i % 8) % 2 else 0
theorem bitN_le (l : List Int) (i : Nat) : bitN l i ≤ 1 := by unfold bitN; split <;> omega
/-- The window of 32 bits that ends ahead of bit j. -/
def win (key : List Int) : Nat → Nat | 0 => 0 | j + 1 => 2 * win key j % 4294967296 + bitN key j
theorem win_lt (key : List Int) (j : Nat) : win key j < 4294967296 := by
  cases j with
  | zero => simp [win]
  | succ j => have := bitN_le key j; simp only [win]; omega
def tsum (key b : List Int) : Nat → Nat | 0 => 0 | i + 1 => if bitN b i = 1 then tsum key b i ^^^ win key (i + 32) else tsum key b i
theorem tsum_lt (key b : List Int) (i : Nat) : tsum key b i < 4294967296 := by
  induction i with
  | zero => simp [tsum]
  | succ i ih =>
    simp only [tsum]
    split
    · exact Nat.xor_lt_two_pow (n := 32) ih (win_lt key _)
    · exact ih
theorem u32_bit {x : Int} (h0 : 0 ≤ x) (h1 : x ≤ 255) : bits .and .u32 x 1 = x % 2 := by
  rw [u32_and x 1 h0 (by omega) (by omega) (by omega), show (1 : Int).toNat = 1 from rfl, nat_mask1]; omega
theorem bit_no {l : List Int} {i : Nat} (h : ¬ i < 8 * l.length) : ((bitN l i : Nat) : Int) = 0 := by unfold bitN; rw [if_neg h]; rfl
theorem win_or (key : List Int) (j : Nat) : bits .or .u32 ((win key j : Nat) * 2 % 4294967296 : Int) ((bitN key j : Nat) : Int) = ((win key (j + 1) : Nat) : Int) := by
  have h1 := win_lt key j
  have h2 := bitN_le key j
  rw [u32_or _ _ (by omega) (by omega) (by omega) (by omega), nat_join 1 _ _ (by omega) (by omega)]
  simp only [win]; omega
theorem sum_xor (key b : List Int) (i : Nat) : bits .xor .u32 ((tsum key b i : Nat) : Int) ((win key (i + 32) : Nat) : Int) = ((tsum key b i ^^^ win key (i + 32) : Nat) : Int) :=
  u32_xor_nat _ _ (tsum_lt _ _ _) (win_lt _ _)

set_option maxHeartbeats 1000000 in
theorem bit_any (A : Option Addr) (c : Nat) (l : List Int) (n : Int) (w : World) (B : Nat) (h : Bytes w B A l) (ho : Octets l) (hm : l.length ≤ 1000000) (n0 : 0 ≤ n) (n1 : n ≤ 100000000) :
    Calls Try.prog 64 #[.slice A l.length c, .int .i64 n] w fun e w' => e = .returned (.int .u32 ((bitN l n.toNat : Nat) : Int)) ∧ w = w' := by
  obtain ⟨i, rfl⟩ := Int.eq_ofNat_of_zero_le n0
  rw [Int.toNat_natCast]
  by_cases hlt : i < 8 * l.length
  · obtain ⟨b, off, rfl, hb, hc⟩ := h.cells (by omega)
    have d0 := hc (i / 8) (by omega)
    obtain ⟨x0, x1⟩ := ho (i / 8)
    have hbit : bitN l i = (at0 l (i / 8)).toNat / 2 ^ (7 - i % 8) % 2 := by unfold bitN; rw [if_pos hlt]
    generalize at0 l (i / 8) = x at *
    have HB := Lib.hid hbit
    clear hbit hc h ho
    have k0 : (0 : Int) ≤ (i : Int) / 8 := by omega
    have k1 : (i : Int) / 8 < (l.length : Int) := by omega
    have hr : i % 8 = 0 ∨ i % 8 = 1 ∨ i % 8 = 2 ∨ i % 8 = 3 ∨ i % 8 = 4 ∨ i % 8 = 5 ∨ i % 8 = 6 ∨ i % 8 = 7 := by omega
    rcases hr with hr | hr | hr | hr | hr | hr | hr | hr
    · have hi : (i : Int) % 8 = 0 := by omega
      have ha : bits .and .u32 (x / 128) 1 = x / 128 % 2 := u32_bit (by omega) (by omega)
      have hfin : x / 128 % 2 = ((bitN l i : Nat) : Int) := by rw [HB.out, hr, show (2 : Nat) ^ (7 - 0) = 128 from rfl]; omega
      have HF := Lib.hid hfin
      clear hfin hr HB
      go_enter Try.func64, Try.ntmps64
      go_wp2
      go_ret
      exact ⟨ret_int HF.out, rfl⟩
    · have hi : (i : Int) % 8 = 1 := by omega
      have ha : bits .and .u32 (x / 64) 1 = x / 64 % 2 := u32_bit (by omega) (by omega)
      have hfin : x / 64 % 2 = ((bitN l i : Nat) : Int) := by rw [HB.out, hr, show (2 : Nat) ^ (7 - 1) = 64 from rfl]; omega
      have HF := Lib.hid hfin
      clear hfin hr HB
      go_enter Try.func64, Try.ntmps64
      go_wp2
      go_ret
      exact ⟨ret_int HF.out, rfl⟩
    · have hi : (i : Int) % 8 = 2 := by omega
      have ha : bits .and .u32 (x / 32) 1 = x / 32 % 2 := u32_bit (by omega) (by omega)
      have hfin : x / 32 % 2 = ((bitN l i : Nat) : Int) := by rw [HB.out, hr, show (2 : Nat) ^ (7 - 2) = 32 from rfl]; omega
      have HF := Lib.hid hfin
      clear hfin hr HB
      go_enter Try.func64, Try.ntmps64
      go_wp2
      go_ret
      exact ⟨ret_int HF.out, rfl⟩
    · have hi : (i : Int) % 8 = 3 := by omega
      have ha : bits .and .u32 (x / 16) 1 = x / 16 % 2 := u32_bit (by omega) (by omega)
      have hfin : x / 16 % 2 = ((bitN l i : Nat) : Int) := by rw [HB.out, hr, show (2 : Nat) ^ (7 - 3) = 16 from rfl]; omega
      have HF := Lib.hid hfin
      clear hfin hr HB
      go_enter Try.func64, Try.ntmps64
      go_wp2
      go_ret
      exact ⟨ret_int HF.out, rfl⟩
    · have hi : (i : Int) % 8 = 4 := by omega
      have ha : bits .and .u32 (x / 8) 1 = x / 8 % 2 := u32_bit (by omega) (by omega)
      have hfin : x / 8 % 2 = ((bitN l i : Nat) : Int) := by rw [HB.out, hr, show (2 : Nat) ^ (7 - 4) = 8 from rfl]; omega
      have HF := Lib.hid hfin
      clear hfin hr HB
      go_enter Try.func64, Try.ntmps64
      go_wp2
      go_ret
      exact ⟨ret_int HF.out, rfl⟩
    · have hi : (i : Int) % 8 = 5 := by omega
      have ha : bits .and .u32 (x / 4) 1 = x / 4 % 2 := u32_bit (by omega) (by omega)
      have hfin : x / 4 % 2 = ((bitN l i : Nat) : Int) := by rw [HB.out, hr, show (2 : Nat) ^ (7 - 5) = 4 from rfl]; omega
      have HF := Lib.hid hfin
      clear hfin hr HB
      go_enter Try.func64, Try.ntmps64
      go_wp2
      go_ret
      exact ⟨ret_int HF.out, rfl⟩
    · have hi : (i : Int) % 8 = 6 := by omega
      have ha : bits .and .u32 (x / 2) 1 = x / 2 % 2 := u32_bit (by omega) (by omega)
      have hfin : x / 2 % 2 = ((bitN l i : Nat) : Int) := by rw [HB.out, hr, show (2 : Nat) ^ (7 - 6) = 2 from rfl]; omega
      have HF := Lib.hid hfin
      clear hfin hr HB
      go_enter Try.func64, Try.ntmps64
      go_wp2
      go_ret
      exact ⟨ret_int HF.out, rfl⟩
    · have hi : (i : Int) % 8 = 7 := by omega
      have ha : bits .and .u32 (x) 1 = x % 2 := u32_bit (by omega) (by omega)
      have hfin : x % 2 = ((bitN l i : Nat) : Int) := by rw [HB.out, hr, show (2 : Nat) ^ (7 - 7) = 1 from rfl]; omega
      have HF := Lib.hid hfin
      clear hfin hr HB
      go_enter Try.func64, Try.ntmps64
      go_wp2
      go_ret
      exact ⟨ret_int HF.out, rfl⟩
  · have HB := Lib.hid (bit_no hlt)
    clear h
    go_enter Try.func64, Try.ntmps64
    go_wp2
    go_ret
    exact ⟨ret_int HB.out.symm, rfl⟩
def Win (key : List Int) (v i : Value) : Prop := ∃ j : Nat, j ≤ 32 ∧ i = .int .i64 j ∧ v = .int .u32 ((win key j : Nat) : Int)
def Run (key b : List Int) (v s i : Value) : Prop := ∃ j : Nat, j ≤ 8 * b.length ∧ i = .int .i64 j ∧ v = .int .u32 ((win key (j + 32) : Nat) : Int) ∧ s = .int .u32 ((tsum key b j : Nat) : Int)
set_option maxHeartbeats 1000000 in
theorem sum_any (K A : Option Addr) (c d : Nat) (key l : List Int) (w : World) (B : Nat) (hk : Bytes w B K key) (hok : Octets key) (h : Bytes w B A l) (ho : Octets l) (hkm : key.length ≤ 1000000) (hm : l.length ≤ 1000000) :
    Calls Try.prog 15 #[.slice K key.length c, .slice A l.length d] w fun e w' => e = .returned (.int .u32 ((tsum key l (8 * l.length) : Nat) : Int)) ∧ w = w' := by
  have HK := Lib.hid hk; have HOK := Lib.hid hok; have HA := Lib.hid h; have HO := Lib.hid ho
  clear hk hok h ho
  go_enter Try.func15, Try.ntmps15
  go_wp2
  go_loop [5, 9] (fun v i => Win key v i) (fun _ i => (32 - intOf i).toNat)
  case atStart => exact ⟨0, by omega, rfl, rfl⟩
  case round =>
    obtain ⟨j, hj, rfl, rfl⟩ := hrel
    have hw := win_lt key j
    by_cases hlt : j < 32
    · have hor := win_or key j
      go_wp2_with fail
      refine (bit_any K c key _ _ _ HK.out HOK.out hkm (by omega) (by omega)).mono ?_; rintro e w' ⟨rfl, rfl⟩
      rw [Int.toNat_natCast]
      go_wp2_with fail
      go_round
      case rel => exact ⟨j + 1, by omega, by go_num, rfl⟩
      case measure => simp [intOf]; omega
    · obtain rfl : j = 32 := by omega
      clear hj hlt
      go_wp2_with fail
      go_loop [5, 7, 22] (fun v s i => Run key l v s i) (fun _ _ i => 8 * l.length - (intOf i).toNat)
      case atStart => exact ⟨0, by omega, rfl, rfl, rfl⟩
      case round =>
        obtain ⟨j, hj, rfl, rfl, rfl⟩ := hrel
        have hw := win_lt key (j + 32)
        have ht := tsum_lt key l j
        by_cases hlt : j < 8 * l.length
        · have hor := win_or key (j + 32)
          have hx := sum_xor key l j
          have hb := bitN_le l j
          by_cases h1 : bitN l j = 1
          · have HS := Lib.hid (show tsum key l (j + 1) = tsum key l j ^^^ win key (j + 32) by simp only [tsum]; rw [if_pos h1])
            go_wp2_with fail
            refine (bit_any A d l _ _ _ HA.out HO.out hm (by omega) (by omega)).mono ?_; rintro e w' ⟨rfl, rfl⟩
            rw [Int.toNat_natCast, h1]
            clear h1
            go_wp2_with fail
            refine (bit_any K c key _ _ _ HK.out HOK.out hkm (by omega) (by omega)).mono ?_; rintro e w' ⟨rfl, rfl⟩
            rw [show ((j : Int) + 32).toNat = j + 32 from by omega]
            go_wp2_with fail
            go_round
            case rel => exact ⟨j + 1, by omega, by go_num, by rw [show j + 1 + 32 = j + 32 + 1 from by omega], by rw [HS.out]⟩
            case measure => simp [intOf]; omega
          · have h0 : bitN l j = 0 := by omega
            have HS := Lib.hid (show tsum key l (j + 1) = tsum key l j by simp only [tsum]; rw [if_neg h1])
            go_wp2_with fail
            refine (bit_any A d l _ _ _ HA.out HO.out hm (by omega) (by omega)).mono ?_; rintro e w' ⟨rfl, rfl⟩
            rw [Int.toNat_natCast, h0]
            clear h0 h1
            go_wp2_with fail
            refine (bit_any K c key _ _ _ HK.out HOK.out hkm (by omega) (by omega)).mono ?_; rintro e w' ⟨rfl, rfl⟩
            rw [show ((j : Int) + 32).toNat = j + 32 from by omega]
            go_wp2_with fail
            go_round
            case rel => exact ⟨j + 1, by omega, by go_num, by rw [show j + 1 + 32 = j + 32 + 1 from by omega], by rw [HS.out]⟩
            case measure => simp [intOf]; omega
        · obtain rfl : j = 8 * l.length := by omega
          go_wp2_with fail
          go_ret
          exact ⟨rfl, rfl⟩

/-! ### Tables -/
def i64s (l : List Int) : List Value := l.map fun n => .int .i64 n
theorem i64s_get {l : List Int} {k : Nat} (h : k < l.length) : (i64s l)[k]? = some (.int .i64 (at0 l k)) := by simp [i64s, at0, List.getD, h]
theorem i64s_set (l : List Int) (k : Nat) (x : Int) : (i64s l).set k (.int .i64 x) = i64s (l.set k x) := by unfold i64s; rw [List.map_set]
/-- A slice of ints at A that reads as l. -/
def Ints (w : World) (B : Nat) (A : Option Addr) (l : List Int) : Prop := Arr w B 1 A l.length fun i _ => .int .i64 (at0 l i)
theorem Ints.cells {w : World} {B : Nat} {A : Option Addr} {l : List Int} (h : Ints w B A l) (h0 : 0 < l.length) :
    ∃ b off, A = some ⟨b, off, none⟩ ∧ b < B ∧ ∀ k, k < l.length → w.cell? ⟨b, off + k, none⟩ = some (.int .i64 (at0 l k)) := by
  obtain ⟨b, off, hA, hb, hc⟩ := h h0
  exact ⟨b, off, hA, hb, fun k hk => by simpa using hc k 0 hk (by omega)⟩
/-- The first i places given out in turn, the others 0. -/
def placed (n : Nat) (to : List Int) (i : Nat) : List Int := (List.range n).map fun j => if j < i then at0 to (j % to.length) else 0
theorem placed_len (n : Nat) (to : List Int) (i : Nat) : (placed n to i).length = n := by simp [placed]
theorem placed_at {n i k : Nat} {to : List Int} (hk : k < n) : at0 (placed n to i) k = if k < i then at0 to (k % to.length) else 0 := by simp [placed, at0, List.getD, hk]
theorem placed_step {n i : Nat} {to : List Int} : (placed n to i).set i (at0 to (i % to.length)) = placed n to (i + 1) := by
  apply List.ext_getElem?
  intro j
  rw [List.getElem?_set]
  by_cases h : i = j
  · subst h
    by_cases hn : i < n
    · rw [if_pos rfl, if_pos (by rw [placed_len]; exact hn)]; simp [placed, hn]
    · rw [if_pos rfl, if_neg (by rw [placed_len]; exact hn)]; simp [placed, hn]
  · rw [if_neg h]
    by_cases hj : j < n
    · simp only [placed, List.getElem?_map, List.getElem?_range hj, Option.map_some]
      congr 1
      by_cases h1 : j < i
      · rw [if_pos h1, if_pos (by omega)]
      · rw [if_neg h1, if_neg (by omega)]
    · rw [List.getElem?_eq_none (by rw [placed_len]; omega), List.getElem?_eq_none (by rw [placed_len]; omega)]
theorem placed_zero (n : Nat) (to : List Int) : i64s (placed n to 0) = List.replicate n (.int .i64 0) := by
  apply List.ext_getElem?
  intro j
  by_cases hj : j < n
  · simp [i64s, placed, hj]
  · rw [List.getElem?_eq_none (by simp [i64s, placed]; omega), List.getElem?_eq_none (by simp; omega)]
theorem info3 : (Try.prog.info? 3).map (fun i => (i.zero, i.size, i.bytes)) = some (some (.int .i64 0), 1, 8) := by kernel_rfl
theorem make_ints (W : World) (n : Nat) (hn : n ≤ 1000000) : (Instr.makeSlice 90 (.int .i64 (n : Int)) (.int .i64 (n : Int))).run Try.prog W = .ok (.slice (some ⟨W.heap.size, 0, none⟩) n n) (W.alloc (.cells (Array.replicate n (.int .i64 0)) 3)) := by
  obtain ⟨ib, hib, hz0, hz1, hz2⟩ := info_parts info3
  have := run_make (P := Try.prog) W 90 3 ib (.int .i64 0) Try.underlying90 hib hz0 .i64 .i64 n n (by omega) (by omega) (by rw [hz2]; omega) (by omega)
  rw [hz1] at this
  rw [this, Int.toNat_natCast, Nat.mul_one]
  show Result.ok _ (W.alloc (.cells (madeCells #[.int .i64 0] n) _)) = _
  rw [made_one]
theorem own_new (W : World) (n : Nat) (base : Nat) (hb : base ≤ W.heap.size) (hn : n ≤ 1000000) : (W.alloc (.cells (Array.replicate n (.int .i64 0)) 3)).ownsRow base 3 1 (.slice (some ⟨W.heap.size, 0, none⟩) n n) n (i64s (placed n [] 0)) := by
  rw [placed_zero]
  exact ⟨by simp, .inr ⟨W.heap.size, n, _, rfl, hb, heap_alloc_new W _, Nat.le_refl _, by unfold maxLen; omega, by simp, by simp⟩⟩
def NewRel (w : World) (n : Nat) (to : List Int) (i : Value) (wr : World) : Prop :=
  ∃ k : Nat, k ≤ n ∧ i = .int .i64 k ∧ wr.ownsRow w.heap.size 3 1 (.slice (some ⟨w.heap.size + 1, 0, none⟩) n n) n (i64s (placed n to k)) ∧
    Is wr (w.heap.size + 2) 111 #[.slice (some ⟨w.heap.size + 1, 0, none⟩) n n] ∧ Is wr w.heap.size 111 #[.slice none 0 0] ∧ Below w.heap.size w wr

set_option maxRecDepth 100000 in
set_option maxHeartbeats 2000000 in
theorem new_ok (n : Nat) (A : Option Addr) (c : Nat) (to : List Int) (w : World) (h : Ints w w.heap.size A to) (h0 : 0 < to.length) (hm : to.length ≤ 1000000) (n0 : 1 ≤ n) (n1 : n ≤ 4096) (hpow : bits .and .i64 (n : Int) ((n : Int) - 1) = 0) :
    Calls Try.prog 62 #[.int .i64 (n : Int), .slice A to.length c] w fun e w' => e = .returned (.tuple #[.agg #[.slice (some ⟨w.heap.size + 1, 0, none⟩) n n], .int .i64 0]) ∧
      w'.ownsRow w.heap.size 3 1 (.slice (some ⟨w.heap.size + 1, 0, none⟩) n n) n (i64s (placed n to n)) ∧ Below w.heap.size w w' := by
  have hmk := fun W => make_ints W n (by omega)
  have hn0 : ((to.length : Int) == 0) = false := by rw [beq_eq_false_iff_ne]; omega
  have HA := Lib.hid h
  clear h
  go_enter Try.func62, Try.ntmps62
  go_wp2_with fail
  go_loopw [33] (fun i wr => NewRel w n to i wr) (fun i _ => n - (intOf i).toNat)
  case atStart =>
    have ho := own_new (w.alloc (.cells #[.slice none 0 0] 111)) n w.heap.size (by simp) (by omega)
    have hs : (w.alloc (.cells #[.slice none 0 0] 111)).heap.size = w.heap.size + 1 := by simp
    rw [hs] at ho
    have hp : placed n [] 0 = placed n to 0 := by unfold placed; simp
    rw [hp] at ho
    have hi := Is.new ((w.alloc (.cells #[.slice none 0 0] 111)).alloc (.cells (Array.replicate n (.int .i64 0)) 3)) 111 #[.slice (some ⟨w.heap.size + 1, 0, none⟩) n n]
    have hs2 : ((w.alloc (.cells #[.slice none 0 0] 111)).alloc (.cells (Array.replicate n (.int .i64 0)) 3)).heap.size = w.heap.size + 2 := by simp
    rw [hs2] at hi
    exact ⟨0, Nat.zero_le _, rfl, ho.alloc _, hi, ((Is.new _ _ _).alloc _).alloc _, (((Below.refl _ _).alloc (Nat.le_refl _) _).alloc (by simp) _).alloc (by simp; omega) _⟩
  case round =>
    obtain ⟨k, hk, rfl, ho, hi, hz, hb⟩ := hrel
    have c0 := hi.cell 0
    have z0 := hz.cell 0
    have zf := hz.free 0
    simp at c0 z0
    have zl := hz.lt
    have il := hi.lt
    have HO := Lib.hid ho; have HI := Lib.hid hi; have HZ := Lib.hid hz; have HB := Lib.hid hb
    clear ho hi hz hb
    by_cases hlt : k < n
    · obtain ⟨b, off, rfl, hbl, hc⟩ := HA.out.cells h0
      have hmod : k % to.length < to.length := Nat.mod_lt _ h0
      have d0 := (HB.out.cell (p := ⟨b, off + k % to.length, none⟩) hbl).trans (hc (k % to.length) hmod)
      have e0 := (HO.out.cellAt k (by omega)).trans (i64s_get (by rw [placed_len]; exact hlt))
      have ef := HO.out.frozenAt k
      have m0 : (0 : Int) ≤ (k : Int) % (to.length : Int) := by omega
      have m1 : (k : Int) % (to.length : Int) < (to.length : Int) := by omega
      have k0 : (0 : Int) ≤ (k : Int) := by omega
      have k1 : (k : Int) < (n : Int) := by omega
      have hne : ¬ to.length = 0 := by omega
      have d1 : wr.cell? ⟨b, off + ((k : Int) % (to.length : Int)).toNat, none⟩ = some (.int .i64 (at0 to (k % to.length))) := by rw [show ((k : Int) % (to.length : Int)).toNat = k % to.length from by omega]; exact d0
      have hrem : (k : Int).tmod (to.length : Int) = ((k % to.length : Nat) : Int) := by rw [Int.tmod_eq_emod_of_nonneg k0]; rfl
      have hwr : IntKind.i64.wrap ((k % to.length : Nat) : Int) = ((k % to.length : Nat) : Int) := IntWalk.i64_in _ (by omega)
      have hst := (HO.out.stored k (.int .i64 (at0 to (k % to.length)))).1
      rw [i64s_set, placed_step] at hst
      have HS := Lib.hid hst
      clear hst hc
      generalize at0 to (k % to.length) = x at *
      generalize at0 (placed n to k) k = y at *
      go_wp2_with fail
      go_still_tail 11, (by kernel_rfl)
      change wpList _ _ _ _ _ wr.drew
      go_wp2_with fail
      go_roundw
      case rel => exact ⟨k + 1, by omega, by go_num, HS.out, (HI.out.other (by simp) _).drew, (HZ.out.other (by simp) _).drew, (HB.out.setCell (by simp) _).drew⟩
      case measure => simp [intOf]; omega
    · obtain rfl : k = n := by omega
      go_wp2_with fail
      refine bodyPost_ret (v := .tuple #[.agg #[.slice (some ⟨w.heap.size + 1, 0, none⟩) k k], .int .i64 0]) (by simp [results, Try.results62, go_sem, z0]) rfl ⟨rfl, ?_, ?_⟩
      · exact own_set HO.out (by simp [Value.ownBlock]) _
      · exact HB.out.setCell (Nat.le_refl _) _

theorem new_at (H n : Nat) (A : Option Addr) (c : Nat) (to : List Int) (w : World) (hH : w.heap.size = H) (h : Ints w w.heap.size A to) (h0 : 0 < to.length) (hm : to.length ≤ 1000000) (n0 : 1 ≤ n) (n1 : n ≤ 4096) (hpow : bits .and .i64 (n : Int) ((n : Int) - 1) = 0) :
    Calls Try.prog 62 #[.int .i64 (n : Int), .slice A to.length c] w fun e w' => e = .returned (.tuple #[.agg #[.slice (some ⟨H + 1, 0, none⟩) n n], .int .i64 0]) ∧
      w'.ownsRow H 3 1 (.slice (some ⟨H + 1, 0, none⟩) n n) n (i64s (placed n to n)) ∧ Below w.heap.size w w' := by
  subst hH; exact new_ok n A c to w h h0 hm n0 n1 hpow
theorem pick_tab (g n : Nat) (l : List Int) (s : Int) (w : World) (base cap : Nat) (h : w.ownsRow base 3 1 (.slice (some ⟨g, 0, none⟩) n cap) n (i64s l)) (hl : l.length = n) (n0 : 1 ≤ n) (n1 : n ≤ 4096) (s0 : 0 ≤ s) (s1 : s ≤ 4294967295) :
    Calls Try.prog 63 #[.agg #[.slice (some ⟨g, 0, none⟩) n cap], .int .u32 s] w fun e w' => e = .returned (.int .i64 (at0 l (s.toNat % n))) ∧ Below w.heap.size w w' := by
  have hg := (h.lt g rfl).2
  have hn0 : ((n : Int) == 0) = false := by rw [beq_eq_false_iff_ne]; omega
  have hmod : s.toNat % n < n := Nat.mod_lt _ (by omega)
  have d0 := (h.cellAt (s.toNat % n) (by omega)).trans (i64s_get (by omega))
  have e0 : (s % (n : Int)).toNat = s.toNat % n := by rw [Int.toNat_emod s0 (by omega)]; rfl
  have d1 : w.cell? ⟨g, (s % (n : Int)).toNat, none⟩ = some (.int .i64 (at0 l (s.toNat % n))) := by rw [e0]; exact d0
  have m0 : 0 ≤ s % (n : Int) := Int.emod_nonneg _ (by omega)
  have m1 : s % (n : Int) < (n : Int) := Int.emod_lt_of_pos _ (by omega)
  have hrem : s.tmod (n : Int) = s % (n : Int) := Int.tmod_eq_emod_of_nonneg s0
  have hwr : IntKind.i64.wrap s = s := IntWalk.i64_in _ (by omega)
  have hwm : IntKind.i64.wrap (s % (n : Int)) = s % (n : Int) := IntWalk.i64_in _ (by omega)
  have hne : ¬ n = 0 := by omega
  clear h d0 hmod e0
  generalize at0 l (s.toNat % n) = x at *
  go_enter Try.func63, Try.ntmps63
  go_wp2_with fail
  go_quiet (fail)
  go_wp2_with fail
  go_ret
  exact ⟨rfl, below_drewN ((Below.refl _ _).alloc (Nat.le_refl _) _) _⟩

set_option maxHeartbeats 1000000 in
theorem awake41 (w : World) : Calls Try.prog 13 #[] w fun e w' => e = .returned (.bool true) ∧ Below w.heap.size w w' := by
  have hi := Is.new w 3 #[.int .i64 7, .int .i64 8]
  have hint : Ints (w.alloc (.cells #[.int .i64 7, .int .i64 8] 3)) (w.alloc (.cells #[.int .i64 7, .int .i64 8] 3)).heap.size (some ⟨w.heap.size, 0, none⟩) [7, 8] := fun _ => by
    refine ⟨w.heap.size, 0, rfl, by simp, fun i j hi' hj => ?_⟩
    rw [Nat.zero_add, hi.cell]
    obtain rfl : j = 0 := by omega
    match i, hi' with
    | 0, _ => rfl
    | 1, _ => rfl
  have HI := Lib.hid hint
  clear hi hint
  go_enter Try.func13, Try.ntmps13
  go_wp2_with fail
  refine (new_at (w.heap.size + 1) 4 _ _ [7, 8] _ (by simp) HI.out (by simp) (by simp) (by omega) (by omega) (by decide)).mono ?_
  rintro e w1 ⟨rfl, ho, hb⟩
  have HO := Lib.hid ho
  have hb1 := ((Below.refl _ _).alloc (Nat.le_refl _) (.cells #[.int .i64 7, .int .i64 8] 3)).trans (hb.mono (by simp))
  have HB := Lib.hid hb1
  clear ho hb hb1
  go_wp2_with fail
  refine (pick_tab _ _ _ 0 _ _ _ (HO.out.alloc _) (placed_len _ _ _) (by omega) (by omega) (by omega) (by omega)).mono ?_
  rintro e w2 ⟨rfl, hb2⟩
  have e0 : at0 (placed 4 [7, 8] 4) ((0 : Int).toNat % 4) = 7 := by decide
  rw [e0]
  clear e0
  have hs2 : Is w2 w1.heap.size 111 #[.slice (some ⟨w.heap.size + 1 + 1, 0, none⟩) 4 4] := (Is.new w1 _ _).below hb2 (by simp)
  have ho2 := own_below (HO.out.alloc _) hb2
  have HO2 := Lib.hid ho2
  have s0 := hs2.cell 0
  simp at s0
  have HB2 := Lib.hid ((HB.out.alloc HB.out.size (.cells #[.slice (some ⟨w.heap.size + 1 + 1, 0, none⟩) 4 4] 111)).trans (hb2.mono (by have := HB.out.size; simp; omega)))
  clear hs2 ho2 hb2
  go_wp2_with fail
  refine (pick_tab _ _ _ 5 _ _ _ HO2.out (placed_len _ _ _) (by omega) (by omega) (by omega) (by omega)).mono ?_
  rintro e w3 ⟨rfl, hb3⟩
  have e0 : at0 (placed 4 [7, 8] 4) ((5 : Int).toNat % 4) = 8 := by decide
  rw [e0]
  clear e0
  go_wp2_with fail
  go_ret
  exact ⟨rfl, HB2.out.trans (hb3.mono HB2.out.size)⟩
end Go.Proofs.Ythjkjohmaemmiaa
