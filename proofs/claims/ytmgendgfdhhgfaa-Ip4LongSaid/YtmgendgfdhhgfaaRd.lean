/-
  The Reader of package octet: what each call returns and what is left. Helper of the claims that take numbers from bytes.
-/
import Derived.Test.YtmgendgfdhhgfaaOct
namespace Go.Proofs.Ytmgendgfdhhgfaa
open Go.ChangeShapes Go.WideShapes Go.ChangeAt Go.RowKit
set_option linter.unusedSimpArgs false
set_option linter.unusedVariables false

/-- Block g is a Reader: l is left, b says whether it is bad; the bytes lie in older blocks. -/
def RD (w : World) (g : Nat) (l : List Int) (b : Bool) : Prop :=
  ∃ A c, Is w g 174 #[.slice A l.length c, .bool b] ∧ Bytes w g A l ∧ l.length ≤ c ∧ c ≤ maxLen ∧ (A = none → c = 0)
theorem RD.lt {w : World} {g : Nat} {l : List Int} {b : Bool} (h : RD w g l b) : g < w.heap.size := by obtain ⟨A, c, h, _⟩ := h; exact h.lt
theorem RD.kept {w w' : World} {g : Nat} {l : List Int} {b : Bool} {B : Nat} (h : RD w g l b) (hb : Below B w w') (hg : g < B) : RD w' g l b := by
  obtain ⟨A, c, h1, h2, h3⟩ := h
  exact ⟨A, c, h1.below hb hg, fun h0 => by
    obtain ⟨b, off, e, hl, hc⟩ := h2 h0
    exact ⟨b, off, e, hl, fun i j hi hj => (hb.cell (p := ⟨b, _, none⟩) (Nat.lt_trans hl hg)).trans (hc i j hi hj)⟩, h3⟩
theorem RD.below {w w' : World} {g : Nat} {l : List Int} {b : Bool} (h : RD w g l b) (hb : Below w.heap.size w w') : RD w' g l b := h.kept hb h.lt
theorem RD.drew {w : World} {g : Nat} {l : List Int} {b : Bool} (h : RD w g l b) : RD w.drew g l b := h
theorem RD.drewN {w : World} {g : Nat} {l : List Int} {b : Bool} (h : RD w g l b) (n : Nat) : RD (w.drewN n) g l b := h
theorem RD.alloc {w : World} {g : Nat} {l : List Int} {b : Bool} (h : RD w g l b) (o : Obj) : RD (w.alloc o) g l b := h.below ((Below.refl _ w).alloc (Nat.le_refl _) o)
def Reads (w : World) (l : List Int) (e : Ending) (w' : World) : Prop := ∃ g, e = .returned (.pointer (some ⟨g, 0, none⟩)) ∧ RD w' g l false ∧ Below w.heap.size w w' ∧ w.heap.size ≤ g

set_option maxRecDepth 100000 in
set_option maxHeartbeats 1000000 in
theorem read_any (A : Option Addr) (c : Nat) (l : List Int) (w : World) (B : Nat) (h : Bytes w B A l) (hB : B ≤ w.heap.size) (hm : l.length ≤ 90000000) (hA : A = none → c = 0) :
    Calls Try.prog 80 #[.slice A l.length c] w (Reads w l) := by
  have HA := Lib.hid h
  have HN := Lib.hid hA
  clear h hA
  go_enter Try.func80, Try.ntmps80
  go_wp2_with fail
  refine (clone_any A c l _ B HA.out hB hm HN.out).mono ?_
  rintro e w1 ⟨A1, c1, rfl, ho, hb⟩
  have HO := Lib.hid ho; have HB := Lib.hid hb
  clear ho hb
  go_wp2_with fail
  go_ret
  obtain ⟨k1, k2, k3⟩ := HO.out.cap
  exact ⟨w1.heap.size, rfl, ⟨A1, c1, Is.new w1 _ _, HO.out.bytes.alloc (Nat.le_refl _) _, k1, k2, k3⟩, HB.out.alloc HB.out.size _, HB.out.size⟩

/-- take and what it leaves. -/
def Took (w : World) (g : Nat) (l : List Int) (b : Bool) (n : Nat) (e : Ending) (w' : World) : Prop :=
  ∃ A c, e = .returned (.slice A n c) ∧ Bytes w' g A (l.take n) ∧ (A = none → c = 0) ∧ RD w' g (l.drop n) b ∧ w.grownBy w' (some g)
def Failed (w : World) (g : Nat) (v : Value) (e : Ending) (w' : World) : Prop := e = .returned v ∧ RD w' g [] true ∧ w.grownBy w' (some g)

set_option maxRecDepth 100000 in
set_option maxHeartbeats 1000000 in
theorem take_ok (g : Nat) (l : List Int) (b : Bool) (n : Nat) (w : World) (h : RD w g l b) (hn : n ≤ l.length) :
    Calls Try.prog 123 #[.pointer (some ⟨g, 0, none⟩), .int .i64 (n : Int)] w (Took w g l b n) := by
  obtain ⟨A, c, hi, hb, hc, hm, hA⟩ := h
  have c0 := hi.cell 0
  have c1 := hi.cell 1
  have f0 := hi.free 0
  have f1 := hi.free 1
  simp at c0 c1
  have hlt := hi.lt
  have HI := Lib.hid hi; have HB := Lib.hid hb; have HA := Lib.hid hA
  unfold maxLen at hm
  clear hi hb hA
  have n0 : ¬ ((n : Int) < 0) := by omega
  have n1 : ¬ l.length < n := by omega
  go_enter Try.func123, Try.ntmps123
  go_wp2_with fail
  · go_ret
    have hd : l.drop n = [] := List.drop_eq_nil_of_le (by omega)
    have hi2 := HI.out.put 0 (.slice A (l.length - n) 0)
    exact ⟨A, n, rfl, bytes_take (HB.out.set (Nat.le_refl _) _) n, fun h0 => by have := HA.out h0; omega, ⟨A, 0, by rw [List.length_drop]; exact hi2, by rw [hd]; exact Bytes.nil _ _ _, by rw [hd]; exact Nat.le_refl _, by unfold maxLen; omega, fun _ => rfl⟩, only_set (only_refl w (some g)) (.inl rfl) _⟩
  · go_ret
    have hd := bytes_drop HB.out n c hc
    rw [if_neg ‹¬ c = n›] at hd
    have hi2 := HI.out.put 0 (.slice (Option.map (fun x => x.add n) A) (l.length - n) (c - n))
    exact ⟨A, c, rfl, bytes_take (HB.out.set (Nat.le_refl _) _) n, HA.out, ⟨Option.map (fun x => x.add n) A, c - n, by rw [List.length_drop]; exact hi2, hd.set (Nat.le_refl _) _, by rw [List.length_drop]; omega, by unfold maxLen; omega, fun h0 => by have := HA.out (by simpa using h0); omega⟩, only_set (only_refl w (some g)) (.inl rfl) _⟩
theorem RD.fail {w : World} {g : Nat} {x y : Value} (h : Is w g 174 #[x, y]) : RD ((w.setCell ⟨g, 0, none⟩ (.slice none 0 0)).setCell ⟨g, 1, none⟩ (.bool true)) g [] true :=
  ⟨none, 0, (h.put 0 _).put 1 _, Bytes.nil _ _ _, Nat.le_refl _, by unfold maxLen; omega, fun _ => rfl⟩
theorem only_set2 (w : World) (g : Nat) (x y : Value) : w.grownBy ((w.setCell ⟨g, 0, none⟩ x).setCell ⟨g, 1, none⟩ y) (some g) :=
  only_set (p := ⟨g, 1, none⟩) (only_set (p := ⟨g, 0, none⟩) (only_refl w (some g)) (.inl rfl) _) (.inl rfl) _
set_option maxRecDepth 100000 in
set_option maxHeartbeats 1000000 in
theorem take_bad (g : Nat) (l : List Int) (b : Bool) (n : Int) (w : World) (h : RD w g l b) (hn : n < 0 ∨ (l.length : Int) < n) :
    Calls Try.prog 123 #[.pointer (some ⟨g, 0, none⟩), .int .i64 n] w (Failed w g (.slice none 0 0)) := by
  obtain ⟨A, c, hi, hb, hc, hm, hA⟩ := h
  have c0 := hi.cell 0
  have c1 := hi.cell 1
  have f0 := hi.free 0
  have f1 := hi.free 1
  simp at c0 c1
  have hlt := hi.lt
  have HI := Lib.hid hi
  unfold maxLen at hm
  clear hi hb hA
  rcases hn with hn | hn
  all_goals
    (try have hn2 : ¬ n < 0 := by omega)
    go_enter Try.func123, Try.ntmps123
    go_wp2_with fail
    go_ret
    exact ⟨rfl, RD.fail HI.out, only_set2 _ _ _ _⟩

/-- A number that was taken. -/
def Num_ (w : World) (g : Nat) (l : List Int) (b : Bool) (n : Nat) (v : Value) (e : Ending) (w' : World) : Prop := e = .returned v ∧ RD w' g (l.drop n) b ∧ w.grownBy w' (some g)
def NumRel (l : List Int) (n : Nat) (v i : Value) : Prop := ∃ k : Nat, k ≤ n ∧ i = .int .i64 k ∧ v = .int .u64 (numW (l.take k))
set_option maxRecDepth 100000 in
set_option maxHeartbeats 1000000 in
theorem num_ok (g : Nat) (l : List Int) (b : Bool) (n : Nat) (w : World) (h : RD w g l b) (ho : Octets l) (hn : n ≤ l.length) (h8 : n ≤ 8) :
    Calls Try.prog 112 #[.pointer (some ⟨g, 0, none⟩), .int .i64 (n : Int)] w (Num_ w g l b n (.int .u64 (numW (l.take n)))) := by
  have HR := Lib.hid h
  have HO := Lib.hid ho
  clear h ho
  have n1 : ¬ (8 < (n : Int)) := by omega
  go_enter Try.func112, Try.ntmps112
  go_wp2_with fail
  refine (take_ok g l b n w HR.out hn).mono ?_
  rintro e w1 ⟨A, c, rfl, hb, hA, hrd, hg⟩
  have HB := Lib.hid hb; have HD := Lib.hid hrd; have HG := Lib.hid hg
  clear hb hA hrd hg HR
  go_wp2_with fail
  go_loop [5, 14] (fun v i => NumRel l n v i) (fun _ i => (n - intOf i).toNat)
  case atStart => exact ⟨0, Nat.zero_le _, rfl, rfl⟩
  case round =>
    obtain ⟨k, hk, rfl, rfl⟩ := hrel
    obtain ⟨m0, m1⟩ := numW_bd (l.take k)
    by_cases hlt : k < n
    · obtain ⟨b1, o1, rfl, hb1, hc1⟩ := HB.out.cells (by rw [List.length_take]; omega)
      have d1 := hc1 k (by rw [List.length_take]; omega)
      rw [at0_take hlt] at d1
      have HS := Lib.hid (numW_take l k (by omega))
      have HW := Lib.hid (or_wrap (n := numW (l.take k)) (HO.out k))
      clear hc1
      generalize numW (l.take k) = m at *
      generalize at0 l k = x at *
      go_wp2_with fail
      go_round
      case rel => exact ⟨k + 1, by omega, by go_num, by rw [HW.out, HS.out]⟩
      case measure => simp [intOf]; omega
    · obtain rfl : k = n := by omega
      go_wp2_with fail
      go_ret
      exact ⟨rfl, HD.out, HG.out⟩
set_option maxRecDepth 100000 in
set_option maxHeartbeats 1000000 in
theorem num_bad (g : Nat) (l : List Int) (b : Bool) (n : Int) (w : World) (h : RD w g l b) (hn : n < 0 ∨ (l.length : Int) < n ∨ 8 < n) :
    Calls Try.prog 112 #[.pointer (some ⟨g, 0, none⟩), .int .i64 n] w (Failed w g (.int .u64 0)) := by
  have HR := Lib.hid h
  clear h
  by_cases h8 : 8 < n
  · go_enter Try.func112, Try.ntmps112
    go_wp2_with fail
    refine (take_bad g l b _ w HR.out (.inl (by omega))).mono ?_
    rintro e w1 ⟨rfl, hrd, hg⟩
    have HD := Lib.hid hrd; have HG := Lib.hid hg
    clear hrd hg HR
    go_wp2_with fail
    go_loop [5, 14] (fun v i => NumRel l 0 v i) (fun _ i => (0 - intOf i).toNat)
    case atStart => exact ⟨0, Nat.zero_le _, rfl, rfl⟩
    case round =>
      obtain ⟨k, hk, rfl, rfl⟩ := hrel
      obtain rfl : k = 0 := by omega
      go_wp2_with fail
      go_ret
      exact ⟨rfl, HD.out, HG.out⟩
  · have hn' : n < 0 ∨ (l.length : Int) < n := by omega
    go_enter Try.func112, Try.ntmps112
    go_wp2_with fail
    refine (take_bad g l b _ w HR.out hn').mono ?_
    rintro e w1 ⟨rfl, hrd, hg⟩
    have HD := Lib.hid hrd; have HG := Lib.hid hg
    clear hrd hg HR
    go_wp2_with fail
    go_loop [5, 14] (fun v i => NumRel l 0 v i) (fun _ i => (0 - intOf i).toNat)
    case atStart => exact ⟨0, Nat.zero_le _, rfl, rfl⟩
    case round =>
      obtain ⟨k, hk, rfl, rfl⟩ := hrel
      obtain rfl : k = 0 := by omega
      go_wp2_with fail
      go_ret
      exact ⟨rfl, HD.out, HG.out⟩

theorem numW_one {l : List Int} (h : 1 ≤ l.length) (ho : Octets l) : numW (l.take 1) = at0 l 0 := by
  have := numW_take l 0 (by omega)
  have h0 := ho 0
  simp only [List.take_zero, numW_nil, Nat.zero_add] at this
  rw [this]; omega
theorem numW_two {l : List Int} (h : 2 ≤ l.length) (ho : Octets l) : numW (l.take 2) = at0 l 0 * 256 + at0 l 1 := by
  have := numW_take l 1 (by omega)
  have h0 := ho 0
  have h1 := ho 1
  rw [numW_one (by omega) ho] at this
  rw [this]; omega
theorem numW_four {l : List Int} (h : 4 ≤ l.length) (ho : Octets l) : numW (l.take 4) = ((at0 l 0 * 256 + at0 l 1) * 256 + at0 l 2) * 256 + at0 l 3 := by
  have a := numW_take l 2 (by omega)
  have b := numW_take l 3 (by omega)
  have h0 := ho 0
  have h1 := ho 1
  have h2 := ho 2
  have h3 := ho 3
  rw [numW_two (by omega) ho] at a
  have e : (at0 l 0 * 256 + at0 l 1) * 256 + at0 l 2 < 16777216 := by omega
  rw [Int.emod_eq_of_lt (by omega) (by omega)] at a
  rw [a] at b
  rw [b]; omega

set_option maxRecDepth 100000 in
set_option maxHeartbeats 1000000 in
theorem byte_ok (g : Nat) (l : List Int) (b : Bool) (w : World) (h : RD w g l b) (ho : Octets l) (hn : 1 ≤ l.length) :
    Calls Try.prog 88 #[.pointer (some ⟨g, 0, none⟩)] w (Num_ w g l b 1 (.int .u8 (numW (l.take 1)))) := by
  have HR := Lib.hid h
  have HO := Lib.hid ho
  have hv : 0 ≤ numW (l.take 1) ∧ numW (l.take 1) < 256 := by
    have e := numW_one hn ho
    have h0 := ho 0; have h1 := ho 1; have h2 := ho 2; have h3 := ho 3
    rw [e]; omega
  obtain ⟨v0, v1⟩ := hv
  clear h ho
  go_enter Try.func88, Try.ntmps88
  go_wp2_with fail
  refine (num_ok g l b 1 w HR.out HO.out hn (by omega)).mono ?_
  rintro e w1 ⟨rfl, hrd, hg⟩
  have HD := Lib.hid hrd; have HG := Lib.hid hg
  clear hrd hg HR
  generalize numW (l.take 1) = v at *
  go_wp2_with fail
  go_ret
  exact ⟨rfl, HD.out, HG.out⟩
set_option maxRecDepth 100000 in
set_option maxHeartbeats 1000000 in
theorem byte_bad (g : Nat) (l : List Int) (b : Bool) (w : World) (h : RD w g l b) (hn : l.length < 1) :
    Calls Try.prog 88 #[.pointer (some ⟨g, 0, none⟩)] w (Failed w g (.int .u8 0)) := by
  have HR := Lib.hid h
  clear h
  go_enter Try.func88, Try.ntmps88
  go_wp2_with fail
  refine (num_bad g l b 1 w HR.out (by omega)).mono ?_
  rintro e w1 ⟨rfl, hrd, hg⟩
  have HD := Lib.hid hrd; have HG := Lib.hid hg
  clear hrd hg HR
  go_wp2_with fail
  go_ret
  exact ⟨rfl, HD.out, HG.out⟩
set_option maxRecDepth 100000 in
set_option maxHeartbeats 1000000 in
theorem word_ok (g : Nat) (l : List Int) (b : Bool) (w : World) (h : RD w g l b) (ho : Octets l) (hn : 2 ≤ l.length) :
    Calls Try.prog 81 #[.pointer (some ⟨g, 0, none⟩)] w (Num_ w g l b 2 (.int .u16 (numW (l.take 2)))) := by
  have HR := Lib.hid h
  have HO := Lib.hid ho
  have hv : 0 ≤ numW (l.take 2) ∧ numW (l.take 2) < 65536 := by
    have e := numW_two hn ho
    have h0 := ho 0; have h1 := ho 1; have h2 := ho 2; have h3 := ho 3
    rw [e]; omega
  obtain ⟨v0, v1⟩ := hv
  clear h ho
  go_enter Try.func81, Try.ntmps81
  go_wp2_with fail
  refine (num_ok g l b 2 w HR.out HO.out hn (by omega)).mono ?_
  rintro e w1 ⟨rfl, hrd, hg⟩
  have HD := Lib.hid hrd; have HG := Lib.hid hg
  clear hrd hg HR
  generalize numW (l.take 2) = v at *
  go_wp2_with fail
  go_ret
  exact ⟨rfl, HD.out, HG.out⟩
set_option maxRecDepth 100000 in
set_option maxHeartbeats 1000000 in
theorem word_bad (g : Nat) (l : List Int) (b : Bool) (w : World) (h : RD w g l b) (hn : l.length < 2) :
    Calls Try.prog 81 #[.pointer (some ⟨g, 0, none⟩)] w (Failed w g (.int .u16 0)) := by
  have HR := Lib.hid h
  clear h
  go_enter Try.func81, Try.ntmps81
  go_wp2_with fail
  refine (num_bad g l b 2 w HR.out (by omega)).mono ?_
  rintro e w1 ⟨rfl, hrd, hg⟩
  have HD := Lib.hid hrd; have HG := Lib.hid hg
  clear hrd hg HR
  go_wp2_with fail
  go_ret
  exact ⟨rfl, HD.out, HG.out⟩
set_option maxRecDepth 100000 in
set_option maxHeartbeats 1000000 in
theorem long_ok (g : Nat) (l : List Int) (b : Bool) (w : World) (h : RD w g l b) (ho : Octets l) (hn : 4 ≤ l.length) :
    Calls Try.prog 89 #[.pointer (some ⟨g, 0, none⟩)] w (Num_ w g l b 4 (.int .u32 (numW (l.take 4)))) := by
  have HR := Lib.hid h
  have HO := Lib.hid ho
  have hv : 0 ≤ numW (l.take 4) ∧ numW (l.take 4) < 4294967296 := by
    have e := numW_four hn ho
    have h0 := ho 0; have h1 := ho 1; have h2 := ho 2; have h3 := ho 3
    rw [e]; omega
  obtain ⟨v0, v1⟩ := hv
  clear h ho
  go_enter Try.func89, Try.ntmps89
  go_wp2_with fail
  refine (num_ok g l b 4 w HR.out HO.out hn (by omega)).mono ?_
  rintro e w1 ⟨rfl, hrd, hg⟩
  have HD := Lib.hid hrd; have HG := Lib.hid hg
  clear hrd hg HR
  generalize numW (l.take 4) = v at *
  go_wp2_with fail
  go_ret
  exact ⟨rfl, HD.out, HG.out⟩
set_option maxRecDepth 100000 in
set_option maxHeartbeats 1000000 in
theorem long_bad (g : Nat) (l : List Int) (b : Bool) (w : World) (h : RD w g l b) (hn : l.length < 4) :
    Calls Try.prog 89 #[.pointer (some ⟨g, 0, none⟩)] w (Failed w g (.int .u32 0)) := by
  have HR := Lib.hid h
  clear h
  go_enter Try.func89, Try.ntmps89
  go_wp2_with fail
  refine (num_bad g l b 4 w HR.out (by omega)).mono ?_
  rintro e w1 ⟨rfl, hrd, hg⟩
  have HD := Lib.hid hrd; have HG := Lib.hid hg
  clear hrd hg HR
  go_wp2_with fail
  go_ret
  exact ⟨rfl, HD.out, HG.out⟩

set_option maxRecDepth 100000 in
set_option maxHeartbeats 1000000 in
theorem left_any (g : Nat) (l : List Int) (b : Bool) (w : World) (h : RD w g l b) :
    Calls Try.prog 113 #[.pointer (some ⟨g, 0, none⟩)] w fun e w' => e = .returned (.int .i64 l.length) ∧ w = w' := by
  obtain ⟨A, c, hi, hb, hc, hm, hA⟩ := h
  have c0 := hi.cell 0
  simp at c0
  clear hi hb hA
  go_enter Try.func113, Try.ntmps113
  go_wp2_with fail
  go_ret
  exact ⟨rfl, rfl⟩
/-- Bytes that were taken: a copy of the call's own. -/
def Part (w : World) (g : Nat) (l : List Int) (b : Bool) (n : Nat) (e : Ending) (w' : World) : Prop :=
  ∃ A c, e = .returned (.slice A n c) ∧ OwnB w' w.heap.size (.slice A n c) (l.take n) ∧ RD w' g (l.drop n) b ∧ w.grownBy w' (some g)
theorem only_then {a b c : World} {g : Nat} (h : a.grownBy b (some g)) (k : Below b.heap.size b c) : a.grownBy c (some g) := only_trans h (only_below k _)
set_option maxRecDepth 100000 in
set_option maxHeartbeats 1000000 in
theorem bytes_ok (g : Nat) (l : List Int) (b : Bool) (n : Nat) (w : World) (h : RD w g l b) (hn : n ≤ l.length) (hm : l.length ≤ 90000000) :
    Calls Try.prog 100 #[.pointer (some ⟨g, 0, none⟩), .int .i64 (n : Int)] w (Part w g l b n) := by
  have HR := Lib.hid h
  clear h
  go_enter Try.func100, Try.ntmps100
  go_wp2_with fail
  refine (take_ok g l b n w HR.out hn).mono ?_
  rintro e w1 ⟨A, c, rfl, hb, hA, hrd, hg⟩
  have HB := Lib.hid hb; have HD := Lib.hid hrd; have HG := Lib.hid hg; have HN := Lib.hid hA
  clear hb hA hrd hg HR
  have ht : (l.take n).length = n := by rw [List.length_take]; omega
  have hcl := clone_any A c (l.take n) w1 g HB.out (Nat.le_of_lt HD.out.lt) (by omega) HN.out
  rw [ht] at hcl
  have HC := Lib.hid hcl; have HT := Lib.hid ht
  clear hcl ht
  go_wp2_with fail
  refine HC.out.mono ?_
  rintro e w2 ⟨A2, c2, rfl, ho, hb⟩
  rw [HT.out] at ho
  have HO := Lib.hid ho; have HB2 := Lib.hid hb
  clear ho hb
  go_wp2_with fail
  go_ret
  exact ⟨A2, c2, rfl, HO.out.lower HG.out.size, HD.out.below HB2.out, only_then HG.out HB2.out⟩
set_option maxRecDepth 100000 in
set_option maxHeartbeats 1000000 in
theorem bytes_bad (g : Nat) (l : List Int) (b : Bool) (n : Int) (w : World) (h : RD w g l b) (hn : n < 0 ∨ (l.length : Int) < n) :
    Calls Try.prog 100 #[.pointer (some ⟨g, 0, none⟩), .int .i64 n] w (fun e w' => ∃ A c, e = .returned (.slice A 0 c) ∧ OwnB w' w.heap.size (.slice A 0 c) [] ∧ RD w' g [] true ∧ w.grownBy w' (some g)) := by
  have HR := Lib.hid h
  clear h
  go_enter Try.func100, Try.ntmps100
  go_wp2_with fail
  refine (take_bad g l b n w HR.out hn).mono ?_
  rintro e w1 ⟨rfl, hrd, hg⟩
  have HD := Lib.hid hrd; have HG := Lib.hid hg
  clear hrd hg HR
  go_wp2_with fail
  refine (clone_any none 0 [] w1 0 (Bytes.nil _ _ _) (Nat.zero_le _) (by simp) (fun _ => rfl)).mono ?_
  rintro e w2 ⟨A2, c2, rfl, ho, hb⟩
  have HO := Lib.hid ho; have HB2 := Lib.hid hb
  clear ho hb
  go_wp2_with fail
  go_ret
  exact ⟨A2, c2, rfl, HO.out.lower HG.out.size, HD.out.below HB2.out, only_then HG.out HB2.out⟩
set_option maxRecDepth 100000 in
set_option maxHeartbeats 1000000 in
theorem rest_any (g : Nat) (l : List Int) (b : Bool) (w : World) (h : RD w g l b) (hm : l.length ≤ 90000000) :
    Calls Try.prog 90 #[.pointer (some ⟨g, 0, none⟩)] w (Part w g l b l.length) := by
  have HR := Lib.hid h
  clear h
  go_enter Try.func90, Try.ntmps90
  go_wp2_with fail
  refine (left_any g l b w HR.out).mono ?_
  rintro e w1 ⟨rfl, rfl⟩
  go_wp2_with fail
  refine (bytes_ok g l b l.length w HR.out (Nat.le_refl _) hm).mono ?_
  rintro e w2 ⟨A2, c2, rfl, ho, hr, hg⟩
  have HO := Lib.hid ho; have HB2 := Lib.hid hr; have HG := Lib.hid hg
  clear ho hr hg
  go_wp2_with fail
  go_ret
  exact ⟨A2, c2, rfl, HO.out, HB2.out, HG.out⟩
end Go.Proofs.Ytmgendgfdhhgfaa
