/-
  The functions of package sum and its reference: what each call returns. Helper of the claims that use checksums.
-/
import Derived.Test.YtmgendgfdhhgfaaRows
import Derived.Test.YtmgendgfdhhgfaaBase
import Derived.Laws.BitsAllLaws
import Derived.BigQuiet
import Derived.Deep.QuietTactic
import Derived.Outline
namespace Go.Proofs.Ytmgendgfdhhgfaa
open Go.ChangeShapes Go.WideShapes Go.ChangeAt Go.RowKit
set_option linter.unusedSimpArgs false
set_option linter.unusedVariables false

namespace S2
theorem hide {p : Prop} (h : p) : Hid p := h
theorem unhide {p : Prop} (h : Hid p) : p := h
/-! ### Plain mathematics: sums of 16-bit words with end-around carry -/
/-- The one number from 1 to 65535 that n is modulo 65535; 0 of 0. -/
def fold16 (n : Int) : Int := if n ≤ 0 then 0 else (n - 1) % 65535 + 1
theorem fold16_bd (n : Int) : 0 ≤ fold16 n ∧ fold16 n ≤ 65535 := by unfold fold16; split <;> omega
theorem fold16_small {n : Int} (h0 : 0 ≤ n) (h : n ≤ 65535) : fold16 n = n := by unfold fold16; split <;> omega
theorem fold16_step {n : Int} (h : 65535 < n) : fold16 (n % 65536 + n / 65536) = fold16 n := by unfold fold16; split <;> split <;> omega
def plus16 (a b : Int) : Int := if 65535 < a + b then a + b - 65535 else a + b
theorem plus16_fold {a b : Int} (a0 : 0 ≤ a) (a1 : a ≤ 65535) (b0 : 0 ≤ b) (b1 : b ≤ 65535) : plus16 a b = fold16 (a + b) := by unfold plus16 fold16; split <;> split <;> omega
theorem fold16_add {a b : Int} (a0 : 0 ≤ a) (b0 : 0 ≤ b) : fold16 (fold16 a + b) = fold16 (a + b) := by unfold fold16; split <;> split <;> (try split) <;> omega
theorem plus16_bd {a b : Int} (a0 : 0 ≤ a) (a1 : a ≤ 65535) (b0 : 0 ≤ b) (b1 : b ≤ 65535) : 0 ≤ plus16 a b ∧ plus16 a b ≤ 65535 := by unfold plus16; split <;> omega
/-- The checksum behind one word that became another. -/
def upd (s was now : Int) : Int := 65535 - fold16 ((65535 - s) + (65535 - was) + now)
theorem upd_bd (s was now : Int) : 0 ≤ upd s was now ∧ upd s was now ≤ 65535 := by unfold upd; have := fold16_bd ((65535 - s) + (65535 - was) + now); omega
theorem u64_mask16 {n : Int} (h0 : 0 ≤ n) (h1 : n ≤ 18446744073709551615) : bits .and .u64 n 65535 = n % 65536 := by
  rw [u64_and n 65535 h0 (by omega) (by omega) (by omega), show (65535 : Int).toNat = 65535 from rfl, nat_mask16]; omega

def FoldRel (n : Int) (v : Value) : Prop := ∃ m : Int, 0 ≤ m ∧ m ≤ n ∧ v = .int .u64 m ∧ fold16 m = fold16 n
set_option maxHeartbeats 400000 in
theorem fold_any (n : Int) (w : World) (h0 : 0 ≤ n) (h1 : n ≤ 9223372036854775807) :
    Calls Try.prog 106 #[.int .u64 n] w fun e w' => e = .returned (.int .u16 (fold16 n)) ∧ w = w' := by
  go_enter Try.func106, Try.ntmps106
  go_wp2
  go_loop [0] (fun v => FoldRel n v) (fun v => (intOf v).toNat)
  case atStart => exact ⟨n, h0, Int.le_refl _, rfl, rfl⟩
  case round =>
    obtain ⟨m, m0, m1, rfl, hf⟩ := hrel
    have HF := Lib.hid hf
    clear hf
    by_cases c : 65535 < m
    · have ha := u64_mask16 m0 (by omega)
      go_wp2
      go_round
      case rel => exact ⟨m % 65536 + m / 65536, by omega, by omega, rfl, by rw [fold16_step c]; exact HF.out⟩
      case measure => simp [intOf]; omega
    · go_wp2
      go_ret
      exact ⟨ret_int (by rw [← HF.out, fold16_small m0 (by omega)]), rfl⟩
theorem nat_not16 (a : Nat) (h : a < 65536) : 65535 ^^^ a = 65535 - a := by
  apply Nat.eq_of_testBit_eq
  intro i
  have e1 : (65535 : Nat) = 2 ^ 16 - 1 := rfl
  have e2 : 65535 - a = 2 ^ 16 - (a + 1) := by omega
  rw [Nat.testBit_xor, e2, Nat.testBit_two_pow_sub_succ (by omega), e1, Nat.testBit_two_pow_sub_one]
  by_cases hi : i < 16
  · simp [hi]
  · have : a.testBit i = false := Nat.testBit_lt_two_pow (Nat.lt_of_lt_of_le (show a < 2 ^ 16 by omega) (Nat.pow_le_pow_right (by omega) (by omega)))
    simp [hi, this]
theorem not16 {n : Int} (h0 : 0 ≤ n) (h1 : n ≤ 65535) : bits .xor .u16 IntKind.u16.max n = 65535 - n := by
  rw [show IntKind.u16.max = 65535 from by decide, u16_xor _ _ (by omega) (by omega) h0 (by omega), show (65535 : Int).toNat = 65535 from rfl, nat_not16 _ (by omega)]
  omega

set_option maxHeartbeats 400000 in
theorem update_any (s was now : Int) (w : World) (a0 : 0 ≤ s) (a1 : s ≤ 65535) (b0 : 0 ≤ was) (b1 : was ≤ 65535) (c0 : 0 ≤ now) (c1 : now ≤ 65535) :
    Calls Try.prog 98 #[.int .u16 s, .int .u16 was, .int .u16 now] w fun e w' => e = .returned (.int .u16 (upd s was now)) ∧ w = w' := by
  have hu := upd_bd s was now
  have ha := fold16_bd ((65535 - s) + (65535 - was) + now)
  obtain ⟨ha0, ha1⟩ := ha
  have e1 := not16 a0 a1
  have e2 := not16 b0 b1
  have e3 := not16 ha0 ha1
  have g1 : IntKind.u64.wrap (65535 - s) = 65535 - s := IntWalk.u64_in _ (by omega)
  have g2 : IntKind.u64.wrap (65535 - was) = 65535 - was := IntWalk.u64_in _ (by omega)
  have g3 : IntKind.u64.wrap (65535 - s + (65535 - was)) = 65535 - s + (65535 - was) := IntWalk.u64_in _ (by omega)
  have g4 : IntKind.u64.wrap (65535 - s + (65535 - was) + now) = 65535 - s + (65535 - was) + now := IntWalk.u64_in _ (by omega)
  go_enter Try.func98, Try.ntmps98
  go_wp2_with (go_at_call 106; refine (fold_any _ _ (by omega) (by omega)).mono ?_; rintro e w' ⟨rfl, rfl⟩)
  go_ret
  exact ⟨rfl, rfl⟩

theorem plus_any (a b : Int) (w : World) (a0 : 0 ≤ a) (a1 : a ≤ 65535) (b0 : 0 ≤ b) (b1 : b ≤ 65535) :
    Calls Try.prog 102 #[.int .u32 a, .int .u32 b] w fun e w' => e = .returned (.int .u32 (plus16 a b)) ∧ w = w' := by
  by_cases c : 65535 < a + b
  · have e : a + b - 65535 = plus16 a b := by unfold plus16; rw [if_pos c]
    have E := Lib.hid e
    clear e
    go_enter Try.func102, Try.ntmps102
    go_wp2
    go_ret
    exact ⟨ret_int E.out, rfl⟩
  · have e : a + b = plus16 a b := by unfold plus16; rw [if_neg c]
    have E := Lib.hid e
    clear e
    go_enter Try.func102, Try.ntmps102
    go_wp2
    go_ret
    exact ⟨ret_int E.out, rfl⟩

structure Chg where
  was : Int
  now : Int
instance : Inhabited Chg := ⟨⟨0, 0⟩⟩
def chg (l : List Chg) (k : Nat) : Chg := l.getD k default
def Chgs (w : World) (B : Nat) (A : Option Addr) (l : List Chg) : Prop := Arr w B 2 A l.length fun i j => if j = 0 then .int .u16 (chg l i).was else .int .u16 (chg l i).now
def WordsOk (l : List Chg) : Prop := ∀ k, 0 ≤ (chg l k).was ∧ (chg l k).was ≤ 65535 ∧ 0 ≤ (chg l k).now ∧ (chg l k).now ≤ 65535
def updAll (s : Int) (l : List Chg) : Int := l.foldl (fun s c => upd s c.was c.now) s
theorem updAll_bd (s : Int) (l : List Chg) (h0 : 0 ≤ s) (h1 : s ≤ 65535) : 0 ≤ updAll s l ∧ updAll s l ≤ 65535 := by
  unfold updAll
  induction l generalizing s with
  | nil => exact ⟨h0, h1⟩
  | cons c l ih => exact ih _ (upd_bd _ _ _).1 (upd_bd _ _ _).2
theorem updAll_snoc (s : Int) (l : List Chg) (k : Nat) (h : k < l.length) : updAll s (l.take (k + 1)) = upd (updAll s (l.take k)) (chg l k).was (chg l k).now := by
  have e : chg l k = l[k] := by simp [chg, List.getD, h]
  rw [List.take_succ_eq_append_getElem h, e]; unfold updAll; rw [List.foldl_append]; rfl
def AllRel (w : World) (s : Int) (l : List Chg) (v i : Value) (wr : World) : Prop :=
  ∃ k : Nat, k ≤ l.length ∧ i = .int .i64 k ∧ v = .int .u16 (updAll s (l.take k)) ∧ Below w.heap.size w wr

def stepT (p : Int × Bool) (x : Int) : Int × Bool := (if p.2 then p.1 + x * 256 else p.1 + x, !p.2)
/-- All words of the bytes added, and whether the next byte is a word's high one. -/
def tot (l : List Int) : Int × Bool := l.foldl stepT (0, true)
theorem tot_snoc (l : List Int) (x : Int) : tot (l ++ [x]) = stepT (tot l) x := by unfold tot; rw [List.foldl_append]; rfl
theorem tot_par (l : List Int) : (tot l).2 = decide (l.length % 2 = 0) := by
  have key : ∀ (l : List Int) (p : Int × Bool), (l.foldl stepT p).2 = if l.length % 2 = 0 then p.2 else !p.2 := by
    intro l
    induction l with
    | nil => intro p; simp
    | cons x l ih =>
      intro p
      rw [List.foldl_cons, ih]
      simp only [stepT, List.length_cons]
      by_cases h : l.length % 2 = 0
      · rw [if_pos h, if_neg (by omega)]
      · rw [if_neg h, if_pos (by omega)]; simp
  unfold tot; rw [key]; split <;> simp [*]
theorem octets_snoc {l : List Int} {x : Int} (h : Octets (l ++ [x])) : Octets l ∧ 0 ≤ x ∧ x ≤ 255 := by
  refine ⟨fun k => ?_, ?_⟩
  · by_cases hk : k < l.length
    · have := h k; simpa [at0, List.getD, List.getElem?_append_left hk] using this
    · simp [at0, List.getD, List.getElem?_eq_none (Nat.le_of_not_lt hk)]
  · have := h l.length; simpa [at0, List.getD] using this
theorem tot_bd (l : List Int) (h : Octets l) : 0 ≤ (tot l).1 ∧ (tot l).1 ≤ 65280 * (l.length : Int) := by
  have key : ∀ n (l : List Int), l.length = n → Octets l → 0 ≤ (tot l).1 ∧ (tot l).1 ≤ 65280 * (n : Int) := by
    intro n
    induction n with
    | zero => intro l hl _; obtain rfl := List.eq_nil_of_length_eq_zero hl; simp [tot]
    | succ n ih =>
      intro l hl ho
      obtain ⟨l', x, rfl⟩ : ∃ l' x, l = l' ++ [x] := ⟨l.dropLast, l.getLast (by intro e; simp [e] at hl), (List.dropLast_concat_getLast _).symm⟩
      obtain ⟨h1, h2, h3⟩ := octets_snoc ho
      have := ih l' (by simpa using hl) h1
      rw [tot_snoc]
      unfold stepT
      split <;> simp only <;> omega
  exact key l.length l rfl h
theorem tot_hi {l : List Int} {k : Nat} (h : k < l.length) (hp : (tot (l.take k)).2 = true) : tot (l.take (k + 1)) = ((tot (l.take k)).1 + at0 l k * 256, false) := by
  rw [take_at0 h, tot_snoc]; unfold stepT; rw [hp]; rfl
theorem tot_lo {l : List Int} {k : Nat} (h : k < l.length) (hp : (tot (l.take k)).2 = false) : tot (l.take (k + 1)) = ((tot (l.take k)).1 + at0 l k, true) := by
  rw [take_at0 h, tot_snoc]; unfold stepT; rw [hp]; rfl
theorem octets_take {l : List Int} (h : Octets l) (k : Nat) : Octets (l.take k) := fun j => by
  by_cases hj : j < k
  · have := h j; simpa [at0, List.getD, List.getElem?_take, hj] using this
  · simp [at0, List.getD, List.getElem?_take, hj]
theorem octets_append {l m : List Int} (h : Octets l) (g : Octets m) : Octets (l ++ m) := fun j => by
  by_cases hj : j < l.length
  · have := h j; simpa [at0, List.getD, List.getElem?_append_left hj] using this
  · have := g (j - l.length); simpa [at0, List.getD, List.getElem?_append_right (Nat.le_of_not_lt hj)] using this
/-- The checksum of bytes. -/
def sumOf (l : List Int) : Int := 65535 - fold16 (tot l).1
theorem sumOf_bd (l : List Int) : 0 ≤ sumOf l ∧ sumOf l ≤ 65535 := by unfold sumOf; have := fold16_bd (tot l).1; omega

def RefRel (l : List Int) (s i : Value) : Prop := ∃ k : Nat, 2 * k ≤ l.length + 1 ∧ i = .int .i64 (2 * k : Nat) ∧ s = .int .u32 (fold16 (tot (l.take (2 * k))).1)
set_option maxHeartbeats 800000 in
theorem rof_any (A : Option Addr) (c : Nat) (l : List Int) (w : World) (B : Nat) (h : Bytes w B A l) (ho : Octets l) (hm : l.length ≤ 1000000) :
    Calls Try.prog 64 #[.slice A l.length c] w fun e w' => e = .returned (.int .u16 (sumOf l)) ∧ w = w' := by
  have HO := Lib.hid ho
  clear ho
  go_enter Try.func64, Try.ntmps64
  go_wp2
  go_loop [3, 4] (fun s i => RefRel l s i) (fun _ i => l.length + 1 - (intOf i).toNat)
  case atStart => exact ⟨0, by omega, rfl, rfl⟩
  case round =>
    obtain ⟨k, hk, rfl, rfl⟩ := hrel
    have hb := tot_bd (l.take (2 * k)) (octets_take HO.out _)
    obtain ⟨b0, _⟩ := hb
    obtain ⟨f0, f1⟩ := fold16_bd (tot (l.take (2 * k))).1
    by_cases hlt : 2 * k < l.length
    · obtain ⟨b, off, rfl, hbl, hc⟩ := h.cells (by omega)
      have d0 := hc (2 * k) hlt
      obtain ⟨x0, x1⟩ := HO.out (2 * k)
      have hp : (tot (l.take (2 * k))).2 = true := by rw [tot_par, List.length_take, Nat.min_eq_left (by omega)]; simp
      have HT := Lib.hid (tot_hi hlt hp)
      by_cases hlt2 : 2 * k + 1 < l.length
      · have d1 := hc (2 * k + 1) hlt2
        obtain ⟨y0, y1⟩ := HO.out (2 * k + 1)
        have HU := Lib.hid (tot_lo hlt2 (by rw [HT.out]))
        have hfin : plus16 (fold16 (tot (l.take (2 * k))).1) (at0 l (2 * k) * 256 + at0 l (2 * k + 1)) = fold16 (tot (l.take (2 * (k + 1)))).1 := by
          rw [show 2 * (k + 1) = 2 * k + 1 + 1 from by omega, HU.out, HT.out, plus16_fold f0 f1 (by omega) (by omega), fold16_add b0 (by omega)]
          simp only [Int.add_assoc]
        have HF := Lib.hid hfin
        clear hc h hfin hp
        generalize at0 l (2 * k) = x at *
        generalize at0 l (2 * k + 1) = y at *
        generalize fold16 (tot (l.take (2 * k))).1 = z at *
        go_wp2_with fail
        refine (plus_any _ _ _ f0 f1 (by omega) (by omega)).mono ?_; rintro e w' ⟨rfl, rfl⟩
        go_wp2_with fail
        go_round
        case rel => exact ⟨k + 1, by omega, by go_num, by rw [HF.out]⟩
        case measure => simp [intOf]; omega
      · have hfin : plus16 (fold16 (tot (l.take (2 * k))).1) (at0 l (2 * k) * 256) = fold16 (tot (l.take (2 * (k + 1)))).1 := by
          have e1 : l.take (2 * (k + 1)) = l.take (2 * k + 1) := by rw [List.take_of_length_le (by omega), List.take_of_length_le (by omega)]
          rw [e1, HT.out, plus16_fold f0 f1 (by omega) (by omega), fold16_add b0 (by omega)]
        have HF := Lib.hid hfin
        clear hc h hfin hp
        generalize at0 l (2 * k) = x at *
        generalize fold16 (tot (l.take (2 * k))).1 = z at *
        go_wp2_with fail
        refine (plus_any _ _ _ f0 f1 (by omega) (by omega)).mono ?_; rintro e w' ⟨rfl, rfl⟩
        go_wp2_with fail
        go_round
        case rel => exact ⟨k + 1, by omega, by go_num, by rw [HF.out]⟩
        case measure => simp [intOf]; omega
    · have HE := Lib.hid (show fold16 (tot (l.take (2 * k))).1 = fold16 (tot l).1 by rw [List.take_of_length_le (by omega)])
      clear h
      generalize fold16 (tot (l.take (2 * k))).1 = z at *
      go_wp2_with fail
      go_ret
      exact ⟨ret_int (by rw [HE.out]; unfold sumOf; rfl), rfl⟩

structure Part where
  A : Option Addr
  c : Nat
  l : List Int
instance : Inhabited Part := ⟨⟨none, 0, []⟩⟩
def prt (ps : List Part) (k : Nat) : Part := ps.getD k default
/-- A slice of slices of bytes. -/
def Parts (w : World) (B : Nat) (A : Option Addr) (ps : List Part) : Prop :=
  Arr w B 1 A ps.length (fun i _ => .slice (prt ps i).A (prt ps i).l.length (prt ps i).c) ∧ ∀ i, i < ps.length → Bytes w B (prt ps i).A (prt ps i).l ∧ Octets (prt ps i).l
def joined (ps : List Part) : List Int := ps.flatMap fun p => p.l
theorem joined_snoc (ps : List Part) (k : Nat) (h : k < ps.length) : joined (ps.take (k + 1)) = joined (ps.take k) ++ (prt ps k).l := by
  have e : prt ps k = ps[k] := by simp [prt, List.getD, h]
  rw [List.take_succ_eq_append_getElem h, e]; unfold joined; rw [List.flatMap_append]; simp
theorem joined_le (ps : List Part) (k : Nat) : (joined (ps.take k)).length ≤ (joined ps).length := by
  have : joined ps = joined (ps.take k) ++ joined (ps.drop k) := by unfold joined; rw [← List.flatMap_append, List.take_append_drop]
  rw [this, List.length_append]; omega
def OutRel (ps : List Part) (n h i : Value) : Prop := ∃ k : Nat, k ≤ ps.length ∧ i = .int .i64 k ∧ n = .int .u64 (tot (joined (ps.take k))).1 ∧ h = .bool (tot (joined (ps.take k))).2 ∧ Octets (joined (ps.take k))
def InRel (pre l : List Int) (n h i : Value) : Prop := ∃ m : Nat, m ≤ l.length ∧ i = .int .i64 m ∧ n = .int .u64 (tot (pre ++ l.take m)).1 ∧ h = .bool (tot (pre ++ l.take m)).2

set_option maxHeartbeats 1000000 in
theorem total_any (A : Option Addr) (c : Nat) (ps : List Part) (w : World) (B : Nat) (h : Parts w B A ps) (hm : ps.length ≤ 1000000) (hj : (joined ps).length ≤ 1000000) :
    Calls Try.prog 107 #[.slice A ps.length c] w fun e w' => e = .returned (.int .u64 (tot (joined ps)).1) ∧ w = w' := by
  obtain ⟨hp, hq⟩ := h
  have HP := Lib.hid hp
  have HQ := Lib.hid hq
  have HJ := Lib.hid (joined_le ps)
  clear hp hq
  go_enter Try.func107, Try.ntmps107
  go_wp2
  go_loop [3, 4, 11] (fun n h i => OutRel ps n h i) (fun _ _ i => ps.length - (intOf i).toNat)
  case atStart => exact ⟨0, Nat.zero_le _, rfl, rfl, rfl, fun k => by simp [joined, at0]⟩
  case round =>
    obtain ⟨k, hk, rfl, rfl, rfl, ho⟩ := hrel
    have HO := Lib.hid ho
    clear ho
    by_cases hlt : k < ps.length
    · obtain ⟨b, off, rfl, hbl, hc⟩ := HP.out (by omega)
      have d0 : w.cell? ⟨b, off + k, none⟩ = some (.slice (prt ps k).A (prt ps k).l.length (prt ps k).c) := by simpa using hc k 0 hlt (by omega)
      obtain ⟨hb1, ho1⟩ := HQ.out k hlt
      have HB := Lib.hid hb1
      have HO1 := Lib.hid ho1
      have HS := Lib.hid (joined_snoc ps k hlt)
      have hlen : (joined (ps.take k)).length + (prt ps k).l.length ≤ 1000000 := by
        have := HJ.out (k + 1); rw [HS.out, List.length_append] at this; omega
      clear hc hb1 ho1
      generalize prt ps k = p at *
      obtain ⟨A2, c2, l2⟩ := p
      simp only at d0 hlen HB HO1 HS
      generalize joined (ps.take k) = pre at *
      generalize hnx : joined (ps.take (k + 1)) = nxt at *
      have HNX := Lib.hid hnx
      clear hnx
      obtain ⟨t0, t1⟩ := tot_bd pre HO.out
      go_wp2_with fail
      go_loop [3, 4, 17] (fun n h i => InRel pre l2 n h i) (fun _ _ i => l2.length - (intOf i).toNat)
      case atStart => exact ⟨0, Nat.zero_le _, rfl, by simp, by simp⟩
      case round =>
        obtain ⟨m, hm2, rfl, rfl, rfl⟩ := hrel
        have hot := octets_append HO.out (octets_take HO1.out m)
        obtain ⟨s0, s1⟩ := tot_bd _ hot
        rw [List.length_append, List.length_take] at s1
        have s2 : (tot (pre ++ l2.take m)).1 ≤ 65280000000 := by omega
        clear s1 hot
        by_cases hlt2 : m < l2.length
        · obtain ⟨b2, off2, rfl, _, hc2⟩ := HB.out.cells (by omega)
          have d2 := hc2 m hlt2
          obtain ⟨x0, x1⟩ := HO1.out m
          have HT := Lib.hid (show tot (pre ++ l2.take (m + 1)) = stepT (tot (pre ++ l2.take m)) (at0 l2 m) by rw [take_at0 hlt2, ← List.append_assoc, tot_snoc])
          clear hc2
          generalize at0 l2 m = x at *
          generalize tot (pre ++ l2.take m) = q at *
          obtain ⟨z, hi⟩ := q
          simp only at s0 s2
          cases hi
          · go_wp2_with fail
            go_round
            case rel => exact ⟨m + 1, by omega, by go_num, by rw [HT.out]; rfl, by rw [HT.out]; rfl⟩
            case measure => simp [intOf]; omega
          · go_wp2_with fail
            go_round
            case rel => exact ⟨m + 1, by omega, by go_num, by rw [HT.out]; rfl, by rw [HT.out]; rfl⟩
            case measure => simp [intOf]; omega
        · have HE := Lib.hid (show tot (pre ++ l2.take m) = tot nxt by rw [HS.out, List.take_of_length_le (by omega)])
          have HN := Lib.hid (show Octets nxt by rw [HS.out]; exact octets_append HO.out HO1.out)
          generalize hq : tot (pre ++ l2.take m) = q at *
          clear hq
          go_wp2_with fail
          go_round
          case rel => exact ⟨k + 1, by omega, by go_num, by rw [HNX.out, HE.out], by rw [HNX.out, HE.out], by rw [HNX.out]; exact HN.out⟩
          case measure => simp [intOf]; omega
    · obtain rfl : k = ps.length := by omega
      rw [List.take_length]
      go_wp2_with fail
      go_ret
      exact ⟨rfl, rfl⟩

set_option maxHeartbeats 400000 in
theorem of_any (A : Option Addr) (c : Nat) (ps : List Part) (w : World) (B : Nat) (h : Parts w B A ps) (hm : ps.length ≤ 1000000) (hj : (joined ps).length ≤ 1000000) (ho : Octets (joined ps)) :
    Calls Try.prog 67 #[.slice A ps.length c] w fun e w' => e = .returned (.int .u16 (sumOf (joined ps))) ∧ w = w' := by
  obtain ⟨t0, t1⟩ := tot_bd _ ho
  obtain ⟨f0, f1⟩ := fold16_bd (tot (joined ps)).1
  have e1 := not16 f0 f1
  have hc := total_any A c ps w B h hm hj
  have t2 : (tot (joined ps)).1 ≤ 65280000000 := by omega
  clear t1
  have HC := hide hc
  have hs : 65535 - fold16 (tot (joined ps)).1 = sumOf (joined ps) := rfl
  have HS := Lib.hid hs
  clear hc h ho hj hs
  generalize (tot (joined ps)).1 = z at *
  go_enter Try.func67, Try.ntmps67
  go_wp2_with fail
  refine (unhide HC).mono ?_; rintro e w' ⟨rfl, rfl⟩
  go_wp2_with fail
  refine (fold_any _ _ t0 (by omega)).mono ?_; rintro e w' ⟨rfl, rfl⟩
  go_wp2_with fail
  go_ret
  exact ⟨ret_int HS.out, rfl⟩
theorem right_yes (A : Option Addr) (c : Nat) (ps : List Part) (w : World) (B : Nat) (h : Parts w B A ps) (hm : ps.length ≤ 1000000) (hj : (joined ps).length ≤ 1000000) (ho : Octets (joined ps)) (hs : sumOf (joined ps) = 0) :
    Calls Try.prog 60 #[.slice A ps.length c] w fun e w' => e = .returned (.bool true) ∧ w = w' := by
  have hc := of_any A c ps w B h hm hj ho
  rw [hs] at hc
  have HC := hide hc
  clear hc h ho hj hs
  go_enter Try.func60, Try.ntmps60
  go_wp2_with fail
  refine (unhide HC).mono ?_; rintro e w' ⟨rfl, rfl⟩
  go_wp2_with fail
  go_ret
  exact ⟨rfl, rfl⟩
theorem right_no2 (A : Option Addr) (c : Nat) (ps : List Part) (w : World) (B : Nat) (h : Parts w B A ps) (hm : ps.length ≤ 1000000) (hj : (joined ps).length ≤ 1000000) (ho : Octets (joined ps)) (hs : sumOf (joined ps) ≠ 0) :
    Calls Try.prog 60 #[.slice A ps.length c] w fun e w' => e = .returned (.bool false) ∧ w = w' := by
  have hc := of_any A c ps w B h hm hj ho
  generalize sumOf (joined ps) = z at *
  have hz : (z == 0) = false := by rw [beq_eq_false_iff_ne]; exact hs
  have HC := hide hc
  clear hc h ho hj hs
  go_enter Try.func60, Try.ntmps60
  go_wp2_with fail
  refine (unhide HC).mono ?_; rintro e w' ⟨rfl, rfl⟩
  go_wp2_with fail
  go_ret
  exact ⟨rfl, rfl⟩
/-- One part alone: a slice of one slice, in a block of its own. -/
theorem parts_one {w : World} {g : Nat} {t : TypeId} {p : Part} (h : Is w g t #[.slice p.A p.l.length p.c]) (hb : Bytes w w.heap.size p.A p.l) (ho : Octets p.l) : Parts w w.heap.size (some ⟨g, 0, none⟩) [p] := by
  refine ⟨fun _ => ⟨g, 0, rfl, h.lt, fun i j hi hj => ?_⟩, fun i hi => ?_⟩
  · obtain rfl : i = 0 := by simpa using hi
    obtain rfl : j = 0 := by omega
    rw [h.cell]; rfl
  · obtain rfl : i = 0 := by simpa using hi
    exact ⟨hb, ho⟩
theorem joined_one (p : Part) : joined [p] = p.l := by simp [joined]

theorem open_bytes {H : Type} {enc : TypeId × Value → H} {held : Bool} {spare : Nat → Bool} {w : World} {A : Option Addr} {n c : Nat} {d : DataW H} {p : List MemPlace} (h : DataW.Trod enc Try.prog w 0 spare held 22 (.slice A n c) d p) :
    ∃ l : List Int, l.length = n ∧ n ≤ c ∧ n ≤ maxLen ∧ Bytes w w.heap.size A l ∧ Octets l :=
  open_bytes_of Try.underlying22 Try.underlying5 (by kernel_rfl) h
def wake2 : List Int := [69, 0, 0, 115, 0, 0, 64, 0, 64, 17, 0, 0, 192, 168, 0, 1, 192, 168, 0, 199]
theorem wake2_ok : Octets wake2 := by
  intro k
  by_cases h : k < 20
  · have : ∀ j, j < 20 → 0 ≤ at0 wake2 j ∧ at0 wake2 j ≤ 255 := by decide
    exact this k h
  · simp [at0, List.getD, List.getElem?_eq_none (show wake2.length ≤ k from Nat.le_of_not_lt h)]
theorem wake2_sum : sumOf wake2 = 47201 := by decide
theorem bytes_of_is {w : World} {g : Nat} {t : TypeId} {l : List Int} (h : Is w g t (l.map fun n => Value.int .u8 n).toArray) : Bytes w w.heap.size (some ⟨g, 0, none⟩) l := fun _ => by
  refine ⟨g, 0, rfl, h.lt, fun i j hi hj => ?_⟩
  obtain rfl : j = 0 := by omega
  rw [h.cell]; simp [at0, List.getD, hi]
end S2
end Go.Proofs.Ytmgendgfdhhgfaa
