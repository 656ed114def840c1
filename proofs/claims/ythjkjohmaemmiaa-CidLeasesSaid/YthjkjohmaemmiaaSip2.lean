/-
  SipHash-2-4 as plain mathematics, and the functions of package siphash: what each call returns. Helper of the claims on layers 10 and 11.
-/
import Derived.Test.YthjkjohmaemmiaaRd
import Derived.Test.YthjkjohmaemmiaaRef01
import Derived.StillTailTactics
import Derived.Laws.BitsAllLaws
namespace Go.Proofs.Ythjkjohmaemmiaa
open Go.ChangeShapes Go.WideShapes Go.ChangeAt Go.RowKit
set_option linter.unusedSimpArgs false
set_option linter.unusedVariables false

def M64 : Nat := 18446744073709551616
def rotl (x k : Nat) : Nat := (x * 2 ^ k % 18446744073709551616) ||| (x / 2 ^ (64 - k))
theorem rotl_lt {x k : Nat} (hx : x < 18446744073709551616) (hk : k ≤ 64) : rotl x k < 18446744073709551616 :=
  Nat.or_lt_two_pow (n := 64) (Nat.mod_lt _ (by omega)) (Nat.lt_of_le_of_lt (Nat.div_le_self _ _) hx)
structure St where
  a : Nat
  b : Nat
  c : Nat
  d : Nat
def St.ok (s : St) : Prop := s.a < 18446744073709551616 ∧ s.b < 18446744073709551616 ∧ s.c < 18446744073709551616 ∧ s.d < 18446744073709551616
def add64 (x y : Nat) : Nat := (x + y) % 18446744073709551616
theorem add64_lt (x y : Nat) : add64 x y < 18446744073709551616 := Nat.mod_lt _ (by omega)
theorem xor_lt64 {x y : Nat} (hx : x < 18446744073709551616) (hy : y < 18446744073709551616) : x ^^^ y < 18446744073709551616 := Nat.xor_lt_two_pow (n := 64) hx hy
def rnd (s : St) : St :=
  let a1 := add64 s.a s.b
  let b1 := rotl s.b 13 ^^^ a1
  let a2 := rotl a1 32
  let c1 := add64 s.c s.d
  let d1 := rotl s.d 16 ^^^ c1
  let a3 := add64 a2 d1
  let d2 := rotl d1 21 ^^^ a3
  let c2 := add64 c1 b1
  let b2 := rotl b1 17 ^^^ c2
  ⟨a3, b2, rotl c2 32, d2⟩
theorem rnd_ok {s : St} (h : s.ok) : (rnd s).ok := by
  obtain ⟨ha, hb, hc, hd⟩ := h
  have a1 := add64_lt s.a s.b
  have b1 := xor_lt64 (rotl_lt hb (show 13 ≤ 64 by omega)) a1
  have c1 := add64_lt s.c s.d
  have d1 := xor_lt64 (rotl_lt hd (show 16 ≤ 64 by omega)) c1
  have a3 := add64_lt (rotl (add64 s.a s.b) 32) (rotl s.d 16 ^^^ add64 s.c s.d)
  have d2 := xor_lt64 (rotl_lt d1 (show 21 ≤ 64 by omega)) a3
  have c2 := add64_lt (add64 s.c s.d) (rotl s.b 13 ^^^ add64 s.a s.b)
  exact ⟨a3, xor_lt64 (rotl_lt b1 (show 17 ≤ 64 by omega)) c2, rotl_lt c2 (by omega), d2⟩
def absorb (s : St) (m : Nat) : St :=
  let t := rnd (rnd ⟨s.a, s.b, s.c, s.d ^^^ m⟩)
  ⟨t.a ^^^ m, t.b, t.c, t.d⟩
theorem absorb_ok {s : St} {m : Nat} (h : s.ok) (hm : m < 18446744073709551616) : (absorb s m).ok := by
  have h1 : (rnd (rnd ⟨s.a, s.b, s.c, s.d ^^^ m⟩)).ok := rnd_ok (rnd_ok ⟨h.1, h.2.1, h.2.2.1, xor_lt64 h.2.2.2 hm⟩)
  exact ⟨xor_lt64 h1.1 hm, h1.2.1, h1.2.2.1, h1.2.2.2⟩
/-- The value of bytes, the least significant one first. -/
def le : List Int → Nat | [] => 0 | x :: l => x.toNat + 256 * le l
/-- The first n bytes; those that are missing are 0. -/
def pad (l : List Int) (n : Nat) : List Int := (List.range n).map fun i => at0 l i
theorem pad_len (l : List Int) (n : Nat) : (pad l n).length = n := by simp [pad]
theorem pad_at {l : List Int} {n k : Nat} (h : k < n) : at0 (pad l n) k = at0 l k := by simp [pad, at0, List.getD, h]
theorem pad_ok {l : List Int} (h : Octets l) (n : Nat) : Octets (pad l n) := fun k => by
  by_cases hk : k < n
  · rw [pad_at hk]; exact h k
  · rw [at0_out (by rw [pad_len]; omega)]; omega
theorem le_lt (l : List Int) (h : Octets l) : le l < 256 ^ l.length := by
  induction l with
  | nil => simp [le]
  | cons x l ih =>
    have h0 := h 0
    have ht : Octets l := fun k => by have := h (k + 1); simpa [at0] using this
    have := ih ht
    simp [at0] at h0
    rw [le, List.length_cons, Nat.pow_succ]
    omega
/-- Word number i of bytes. -/
def wordN (l : List Int) (i : Nat) : Nat := le (pad (l.drop (8 * i)) 8)
theorem wordN_lt (l : List Int) (h : Octets l) (i : Nat) : wordN l i < 18446744073709551616 := by
  have := le_lt (pad (l.drop (8 * i)) 8) (pad_ok (h.drop _) 8)
  rw [pad_len] at this; exact this
def start (key : List Int) : St := ⟨wordN key 0 ^^^ 8317987319222330741, wordN key 1 ^^^ 7237128888997146477, wordN key 0 ^^^ 7816392313619706465, wordN key 1 ^^^ 8387220255154660723⟩
theorem start_ok {key : List Int} (h : Octets key) : (start key).ok :=
  ⟨xor_lt64 (wordN_lt key h 0) (by omega), xor_lt64 (wordN_lt key h 1) (by omega), xor_lt64 (wordN_lt key h 0) (by omega), xor_lt64 (wordN_lt key h 1) (by omega)⟩
/-- The state when i words of l have been taken in. -/
def eat (s : St) (l : List Int) : Nat → St | 0 => s | i + 1 => absorb (eat s l i) (wordN l i)
theorem eat_ok {s : St} (h : s.ok) {l : List Int} (hl : Octets l) (i : Nat) : (eat s l i).ok := by
  induction i with
  | zero => exact h
  | succ i ih => exact absorb_ok ih (wordN_lt l hl i)
/-- The last word: what is left, and the length in its last byte. -/
def lastW (l : List Int) : List Int := (pad (l.drop (8 * (l.length / 8))) 8).set 7 ((l.length % 256 : Nat) : Int)
def fin (s : St) : Nat :=
  let t := rnd (rnd (rnd (rnd ⟨s.a, s.b, s.c ^^^ 255, s.d⟩)))
  t.a ^^^ t.b ^^^ t.c ^^^ t.d
def sip (key l : List Int) : Nat := fin (absorb (eat (start key) l (l.length / 8)) (le (lastW l)))
theorem lastW_ok {l : List Int} (h : Octets l) : Octets (lastW l) := by
  refine Octets.ofAll fun x hx => ?_
  rcases List.mem_or_eq_of_mem_set hx with hx | rfl
  · exact (pad_ok (h.drop _) 8).all x hx
  · omega
theorem lastW_lt {l : List Int} (h : Octets l) : le (lastW l) < 18446744073709551616 := by
  have := le_lt (lastW l) (lastW_ok h)
  rw [lastW, List.length_set, pad_len] at this; exact this
theorem fin_lt {s : St} (h : s.ok) : fin s < 18446744073709551616 := by
  have h1 : (rnd (rnd (rnd (rnd ⟨s.a, s.b, s.c ^^^ 255, s.d⟩)))).ok := rnd_ok (rnd_ok (rnd_ok (rnd_ok ⟨h.1, h.2.1, xor_lt64 h.2.2.1 (by omega), h.2.2.2⟩)))
  exact xor_lt64 (xor_lt64 (xor_lt64 h1.1 h1.2.1) h1.2.2.1) h1.2.2.2
theorem sip_lt {key l : List Int} (hk : Octets key) (hl : Octets l) : sip key l < 18446744073709551616 := fin_lt (absorb_ok (eat_ok (start_ok hk) hl _) (lastW_lt hl))
theorem sip_example : sip [0, 1, 2, 3, 4, 5, 6, 7, 8, 9, 10, 11, 12, 13, 14, 15] [0, 1, 2, 3, 4, 5, 6, 7, 8, 9, 10, 11, 12, 13, 14] = 11613035633349379557 := by decide +kernel
def St.val (s : St) : Value := .agg #[.int .u64 (s.a : Int), .int .u64 (s.b : Int), .int .u64 (s.c : Int), .int .u64 (s.d : Int)]
set_option maxRecDepth 100000 in
set_option maxHeartbeats 1000000 in
theorem rot13_any (x : Nat) (w : World) (hx : x < 18446744073709551616) :
    Calls Try.prog 142 #[.int .u64 (x : Int), .int .i64 13] w fun e w' => e = .returned (.int .u64 ((rotl x 13 : Nat) : Int)) ∧ w = w' := by
  have hor : bits .or .u64 (IntKind.u64.wrap ((x : Int) * 8192)) ((x : Int) / 2251799813685248) = ((rotl x 13 : Nat) : Int) := by
    rw [IntKind.wrap_u64]
    have h1 : (x : Int) * 8192 % 18446744073709551616 = ((x * 2 ^ 13 % 18446744073709551616 : Nat) : Int) := by omega
    have h2 : (x : Int) / 2251799813685248 = ((x / 2 ^ (64 - 13) : Nat) : Int) := by omega
    rw [h1, h2, u64_or_nat _ _ (Nat.mod_lt _ (by omega)) (Nat.lt_of_le_of_lt (Nat.div_le_self _ _) hx)]
    rfl
  have x0 : (0 : Int) ≤ (x : Int) := by omega
  have x1 : (x : Int) ≤ 18446744073709551615 := by omega
  have hand : bits .and .u64 13 63 = 13 := by decide
  go_enter Try.func142, Try.ntmps142
  go_wp2_with fail
  go_ret
  exact ⟨rfl, rfl⟩
set_option maxRecDepth 100000 in
set_option maxHeartbeats 1000000 in
theorem rot16_any (x : Nat) (w : World) (hx : x < 18446744073709551616) :
    Calls Try.prog 142 #[.int .u64 (x : Int), .int .i64 16] w fun e w' => e = .returned (.int .u64 ((rotl x 16 : Nat) : Int)) ∧ w = w' := by
  have hor : bits .or .u64 (IntKind.u64.wrap ((x : Int) * 65536)) ((x : Int) / 281474976710656) = ((rotl x 16 : Nat) : Int) := by
    rw [IntKind.wrap_u64]
    have h1 : (x : Int) * 65536 % 18446744073709551616 = ((x * 2 ^ 16 % 18446744073709551616 : Nat) : Int) := by omega
    have h2 : (x : Int) / 281474976710656 = ((x / 2 ^ (64 - 16) : Nat) : Int) := by omega
    rw [h1, h2, u64_or_nat _ _ (Nat.mod_lt _ (by omega)) (Nat.lt_of_le_of_lt (Nat.div_le_self _ _) hx)]
    rfl
  have x0 : (0 : Int) ≤ (x : Int) := by omega
  have x1 : (x : Int) ≤ 18446744073709551615 := by omega
  have hand : bits .and .u64 16 63 = 16 := by decide
  go_enter Try.func142, Try.ntmps142
  go_wp2_with fail
  go_ret
  exact ⟨rfl, rfl⟩
set_option maxRecDepth 100000 in
set_option maxHeartbeats 1000000 in
theorem rot17_any (x : Nat) (w : World) (hx : x < 18446744073709551616) :
    Calls Try.prog 142 #[.int .u64 (x : Int), .int .i64 17] w fun e w' => e = .returned (.int .u64 ((rotl x 17 : Nat) : Int)) ∧ w = w' := by
  have hor : bits .or .u64 (IntKind.u64.wrap ((x : Int) * 131072)) ((x : Int) / 140737488355328) = ((rotl x 17 : Nat) : Int) := by
    rw [IntKind.wrap_u64]
    have h1 : (x : Int) * 131072 % 18446744073709551616 = ((x * 2 ^ 17 % 18446744073709551616 : Nat) : Int) := by omega
    have h2 : (x : Int) / 140737488355328 = ((x / 2 ^ (64 - 17) : Nat) : Int) := by omega
    rw [h1, h2, u64_or_nat _ _ (Nat.mod_lt _ (by omega)) (Nat.lt_of_le_of_lt (Nat.div_le_self _ _) hx)]
    rfl
  have x0 : (0 : Int) ≤ (x : Int) := by omega
  have x1 : (x : Int) ≤ 18446744073709551615 := by omega
  have hand : bits .and .u64 17 63 = 17 := by decide
  go_enter Try.func142, Try.ntmps142
  go_wp2_with fail
  go_ret
  exact ⟨rfl, rfl⟩
set_option maxRecDepth 100000 in
set_option maxHeartbeats 1000000 in
theorem rot21_any (x : Nat) (w : World) (hx : x < 18446744073709551616) :
    Calls Try.prog 142 #[.int .u64 (x : Int), .int .i64 21] w fun e w' => e = .returned (.int .u64 ((rotl x 21 : Nat) : Int)) ∧ w = w' := by
  have hor : bits .or .u64 (IntKind.u64.wrap ((x : Int) * 2097152)) ((x : Int) / 8796093022208) = ((rotl x 21 : Nat) : Int) := by
    rw [IntKind.wrap_u64]
    have h1 : (x : Int) * 2097152 % 18446744073709551616 = ((x * 2 ^ 21 % 18446744073709551616 : Nat) : Int) := by omega
    have h2 : (x : Int) / 8796093022208 = ((x / 2 ^ (64 - 21) : Nat) : Int) := by omega
    rw [h1, h2, u64_or_nat _ _ (Nat.mod_lt _ (by omega)) (Nat.lt_of_le_of_lt (Nat.div_le_self _ _) hx)]
    rfl
  have x0 : (0 : Int) ≤ (x : Int) := by omega
  have x1 : (x : Int) ≤ 18446744073709551615 := by omega
  have hand : bits .and .u64 21 63 = 21 := by decide
  go_enter Try.func142, Try.ntmps142
  go_wp2_with fail
  go_ret
  exact ⟨rfl, rfl⟩
set_option maxRecDepth 100000 in
set_option maxHeartbeats 1000000 in
theorem rot32_any (x : Nat) (w : World) (hx : x < 18446744073709551616) :
    Calls Try.prog 142 #[.int .u64 (x : Int), .int .i64 32] w fun e w' => e = .returned (.int .u64 ((rotl x 32 : Nat) : Int)) ∧ w = w' := by
  have hor : bits .or .u64 (IntKind.u64.wrap ((x : Int) * 4294967296)) ((x : Int) / 4294967296) = ((rotl x 32 : Nat) : Int) := by
    rw [IntKind.wrap_u64]
    have h1 : (x : Int) * 4294967296 % 18446744073709551616 = ((x * 2 ^ 32 % 18446744073709551616 : Nat) : Int) := by omega
    have h2 : (x : Int) / 4294967296 = ((x / 2 ^ (64 - 32) : Nat) : Int) := by omega
    rw [h1, h2, u64_or_nat _ _ (Nat.mod_lt _ (by omega)) (Nat.lt_of_le_of_lt (Nat.div_le_self _ _) hx)]
    rfl
  have x0 : (0 : Int) ≤ (x : Int) := by omega
  have x1 : (x : Int) ≤ 18446744073709551615 := by omega
  have hand : bits .and .u64 32 63 = 32 := by decide
  go_enter Try.func142, Try.ntmps142
  go_wp2_with fail
  go_ret
  exact ⟨rfl, rfl⟩

theorem add_wrap (x y : Nat) : ((x : Int) + (y : Int)) % 18446744073709551616 = ((add64 x y : Nat) : Int) := by unfold add64; omega
/-- Four words in a block of their own. -/
def Four (w : World) (g : Nat) (t : TypeId) (s : St) : Prop := Is w g t #[.int .u64 (s.a : Int), .int .u64 (s.b : Int), .int .u64 (s.c : Int), .int .u64 (s.d : Int)]
theorem add_wrap64 (x y : Nat) : IntKind.u64.wrap ((x : Int) + (y : Int)) = ((add64 x y : Nat) : Int) := by rw [IntKind.wrap_u64]; unfold add64; omega
set_option maxRecDepth 100000 in
set_option maxHeartbeats 8000000 in
theorem round_any (a b c d : Nat) (w : World) (h : St.ok ⟨a, b, c, d⟩) :
    Calls Try.prog 124 #[St.val ⟨a, b, c, d⟩] w fun e w' => e = .returned (rnd ⟨a, b, c, d⟩).val ∧ Below w.heap.size w w' := by
  obtain ⟨ha, hb, hc, hd⟩ := h
  simp only at ha hb hc hd
  have E0 : rnd ⟨a, b, c, d⟩ = ⟨add64 (rotl (add64 a b) 32) (rotl d 16 ^^^ add64 c d), rotl (rotl b 13 ^^^ add64 a b) 17 ^^^ add64 (add64 c d) (rotl b 13 ^^^ add64 a b), rotl (add64 (add64 c d) (rotl b 13 ^^^ add64 a b)) 32, rotl (rotl d 16 ^^^ add64 c d) 21 ^^^ add64 (rotl (add64 a b) 32) (rotl d 16 ^^^ add64 c d)⟩ := rfl
  have fa1 := add_wrap64 a b
  have ha1 := add64_lt a b
  generalize add64 a b = a1 at *
  have hp1 := rotl_lt hb (show 13 ≤ 64 by omega)
  have Rp1 := fun W => hide (rot13_any b W hb)
  generalize rotl b 13 = p1 at *
  have fb1 := u64_xor_nat p1 a1 hp1 ha1
  have hb1 := xor_lt64 hp1 ha1
  generalize p1 ^^^ a1 = b1 at *
  have ha2 := rotl_lt ha1 (show 32 ≤ 64 by omega)
  have Ra2 := fun W => hide (rot32_any a1 W ha1)
  generalize rotl a1 32 = a2 at *
  have fc1 := add_wrap64 c d
  have hc1 := add64_lt c d
  generalize add64 c d = c1 at *
  have hp2 := rotl_lt hd (show 16 ≤ 64 by omega)
  have Rp2 := fun W => hide (rot16_any d W hd)
  generalize rotl d 16 = p2 at *
  have fd1 := u64_xor_nat p2 c1 hp2 hc1
  have hd1 := xor_lt64 hp2 hc1
  generalize p2 ^^^ c1 = d1 at *
  have fa3 := add_wrap64 a2 d1
  have ha3 := add64_lt a2 d1
  generalize add64 a2 d1 = a3 at *
  have hp3 := rotl_lt hd1 (show 21 ≤ 64 by omega)
  have Rp3 := fun W => hide (rot21_any d1 W hd1)
  generalize rotl d1 21 = p3 at *
  have fd2 := u64_xor_nat p3 a3 hp3 ha3
  have hd2 := xor_lt64 hp3 ha3
  generalize p3 ^^^ a3 = d2 at *
  have fc2 := add_wrap64 c1 b1
  have hc2 := add64_lt c1 b1
  generalize add64 c1 b1 = c2 at *
  have hp4 := rotl_lt hb1 (show 17 ≤ 64 by omega)
  have Rp4 := fun W => hide (rot17_any b1 W hb1)
  generalize rotl b1 17 = p4 at *
  have fb2 := u64_xor_nat p4 c2 hp4 hc2
  have hb2 := xor_lt64 hp4 hc2
  generalize p4 ^^^ c2 = b2 at *
  have hc3 := rotl_lt hc2 (show 32 ≤ 64 by omega)
  have Rc3 := fun W => hide (rot32_any c2 W hc2)
  generalize rotl c2 32 = c3 at *
  have HE := Lib.hid E0
  clear E0 ha1 hp1 hb1 ha2 hc1 hp2 hd1 ha3 hp3 hd2 hc2 hp4 hb2 hc3 ha hb hc hd
  have HRp1 := fun W => unhide (Rp1 W)
  have HRp1 := hide HRp1
  clear Rp1
  have HRa2 := fun W => unhide (Ra2 W)
  have HRa2 := hide HRa2
  clear Ra2
  have HRp2 := fun W => unhide (Rp2 W)
  have HRp2 := hide HRp2
  clear Rp2
  have HRp3 := fun W => unhide (Rp3 W)
  have HRp3 := hide HRp3
  clear Rp3
  have HRp4 := fun W => unhide (Rp4 W)
  have HRp4 := hide HRp4
  clear Rp4
  have HRc3 := fun W => unhide (Rc3 W)
  have HRc3 := hide HRc3
  clear Rc3
  unfold St.val
  go_enter Try.func124, Try.ntmps124
  go_wp2_with fail
  refine Lin.wp_region_lin_tail Lin.keeps (n := 64) 7 (fun slotq => match slotq with | 9 => Lin.Spec.val (.pointer (some ⟨w.heap.size, 1, none⟩)) | 10 => Lin.Spec.val (.int .u64 (b : Int)) | 11 => Lin.Spec.val (.int .u64 (p1 : Int)) | 12 => Lin.Spec.val (.pointer (some ⟨w.heap.size, 0, none⟩)) | 13 => Lin.Spec.val (.int .u64 (a1 : Int)) | 14 => Lin.Spec.val (.int .u64 (b1 : Int)) | 15 => Lin.Spec.val (.pointer (some ⟨w.heap.size, 1, none⟩)) | _ => Lin.Spec.any) (by kernel_rfl) rfl (by kernel_rfl) ⟨?_, ?_, ?_, ?_, ?_, ?_, ?_, trivial⟩ ?_
  · intro ρ wq hb ho hc hd
    have hC : ∀ v, ρ (.const v) = v := fun v => hc _ (by intro t e; cases e)
    have hF : ∀ f, ρ (.func f) = .func (.func f) #[] #[] := fun f => hc _ (by intro t e; cases e)
    have h1 : ρ (.tmp 1) = .pointer (some ⟨w.heap.size, 0, none⟩) := ho 1 (by kernel_rfl)
    exact Lin.Runs.value Lin.keeps (v := .pointer (some ⟨w.heap.size, 1, none⟩)) (by simp [execOp, go_sem, hC, hF, h1]) rfl
  · intro ρ wq hb ho hc hd
    have hC : ∀ v, ρ (.const v) = v := fun v => hc _ (by intro t e; cases e)
    have hF : ∀ f, ρ (.func f) = .func (.func f) #[] #[] := fun f => hc _ (by intro t e; cases e)
    have h9 : ρ (.tmp 9) = .pointer (some ⟨w.heap.size, 1, none⟩) := hd 9 (by kernel_rfl)
    have dl := (hb.cell (p := ⟨w.heap.size, 1, none⟩) ((Is.new w 186 #[.int .u64 (a1 : Int), .int .u64 (b : Int), .int .u64 (c : Int), .int .u64 (d : Int)]).alloc (.cells #[.int .u64 0, .int .u64 0, .int .u64 0, .int .u64 0] 186)).lt).trans (((Is.new w 186 #[.int .u64 (a1 : Int), .int .u64 (b : Int), .int .u64 (c : Int), .int .u64 (d : Int)]).alloc (.cells #[.int .u64 0, .int .u64 0, .int .u64 0, .int .u64 0] 186)).cell 1)
    simp at dl
    exact Lin.Runs.value Lin.keeps (v := .int .u64 (b : Int)) (by simp [execOp, go_sem, hC, hF, h9, dl]) rfl
  · intro ρ wq hb ho hc hd
    have hC : ∀ v, ρ (.const v) = v := fun v => hc _ (by intro t e; cases e)
    have hF : ∀ f, ρ (.func f) = .func (.func f) #[] #[] := fun f => hc _ (by intro t e; cases e)
    have h10 : ρ (.tmp 10) = .int .u64 (b : Int) := hd 10 (by kernel_rfl)
    refine Lin.Runs.call Lin.keeps (f := 142) (args := #[.int .u64 (b : Int), .int .i64 13]) (by simp [execOp, go_sem, hC, hF, h10]) ((unhide HRp1 wq).mono ?_)
    rintro e w2 ⟨rfl, rfl⟩
    exact ⟨_, rfl, Below.refl _ _, rfl⟩
  · intro ρ wq hb ho hc hd
    have hC : ∀ v, ρ (.const v) = v := fun v => hc _ (by intro t e; cases e)
    have hF : ∀ f, ρ (.func f) = .func (.func f) #[] #[] := fun f => hc _ (by intro t e; cases e)
    have h1 : ρ (.tmp 1) = .pointer (some ⟨w.heap.size, 0, none⟩) := ho 1 (by kernel_rfl)
    exact Lin.Runs.value Lin.keeps (v := .pointer (some ⟨w.heap.size, 0, none⟩)) (by simp [execOp, go_sem, hC, hF, h1]) rfl
  · intro ρ wq hb ho hc hd
    have hC : ∀ v, ρ (.const v) = v := fun v => hc _ (by intro t e; cases e)
    have hF : ∀ f, ρ (.func f) = .func (.func f) #[] #[] := fun f => hc _ (by intro t e; cases e)
    have h12 : ρ (.tmp 12) = .pointer (some ⟨w.heap.size, 0, none⟩) := hd 12 (by kernel_rfl)
    have dl := (hb.cell (p := ⟨w.heap.size, 0, none⟩) ((Is.new w 186 #[.int .u64 (a1 : Int), .int .u64 (b : Int), .int .u64 (c : Int), .int .u64 (d : Int)]).alloc (.cells #[.int .u64 0, .int .u64 0, .int .u64 0, .int .u64 0] 186)).lt).trans (((Is.new w 186 #[.int .u64 (a1 : Int), .int .u64 (b : Int), .int .u64 (c : Int), .int .u64 (d : Int)]).alloc (.cells #[.int .u64 0, .int .u64 0, .int .u64 0, .int .u64 0] 186)).cell 0)
    simp at dl
    exact Lin.Runs.value Lin.keeps (v := .int .u64 (a1 : Int)) (by simp [execOp, go_sem, hC, hF, h12, dl]) rfl
  · intro ρ wq hb ho hc hd
    have hC : ∀ v, ρ (.const v) = v := fun v => hc _ (by intro t e; cases e)
    have hF : ∀ f, ρ (.func f) = .func (.func f) #[] #[] := fun f => hc _ (by intro t e; cases e)
    have h11 : ρ (.tmp 11) = .int .u64 (p1 : Int) := hd 11 (by kernel_rfl)
    have h13 : ρ (.tmp 13) = .int .u64 (a1 : Int) := hd 13 (by kernel_rfl)
    exact Lin.Runs.value Lin.keeps (v := .int .u64 (b1 : Int)) (by simp [execOp, go_sem, hC, hF, h11, h13, fb1]) rfl
  · intro ρ wq hb ho hc hd
    have hC : ∀ v, ρ (.const v) = v := fun v => hc _ (by intro t e; cases e)
    have hF : ∀ f, ρ (.func f) = .func (.func f) #[] #[] := fun f => hc _ (by intro t e; cases e)
    have h1 : ρ (.tmp 1) = .pointer (some ⟨w.heap.size, 0, none⟩) := ho 1 (by kernel_rfl)
    exact Lin.Runs.value Lin.keeps (v := .pointer (some ⟨w.heap.size, 1, none⟩)) (by simp [execOp, go_sem, hC, hF, h1]) rfl
  · intro vals w2 hb2 hv
    have e1 : vals 14 = .int .u64 (b1 : Int) := hv 14 (by kernel_rfl)
    have e2 : vals 15 = .pointer (some ⟨w.heap.size, 1, none⟩) := hv 15 (by kernel_rfl)
    change wpList _ _ _ [_] _ _
    simp only [Lin.putAll, Option.getD_some, List.take_succ_cons, List.take_zero, List.drop_succ_cons, List.drop_zero]
    rw [e1, e2]
    have HI_w2 : Hid (Is w2 w.heap.size 186 #[.int .u64 (a1 : Int), .int .u64 (b : Int), .int .u64 (c : Int), .int .u64 (d : Int)]) := hide (((Is.new w 186 #[.int .u64 (a1 : Int), .int .u64 (b : Int), .int .u64 (c : Int), .int .u64 (d : Int)]).alloc (.cells #[.int .u64 0, .int .u64 0, .int .u64 0, .int .u64 0] 186)).below hb2 ((Is.new w 186 #[.int .u64 (a1 : Int), .int .u64 (b : Int), .int .u64 (c : Int), .int .u64 (d : Int)]).alloc (.cells #[.int .u64 0, .int .u64 0, .int .u64 0, .int .u64 0] 186)).lt)
    have HZ_w2 : Hid (Is w2 (w.heap.size + 1) 186 #[.int .u64 0, .int .u64 0, .int .u64 0, .int .u64 0]) := hide ((show Is ((w.alloc (.cells #[.int .u64 (a1 : Int), .int .u64 (b : Int), .int .u64 (c : Int), .int .u64 (d : Int)] 186)).alloc (.cells #[.int .u64 0, .int .u64 0, .int .u64 0, .int .u64 0] 186)) (w.heap.size + 1) 186 #[.int .u64 0, .int .u64 0, .int .u64 0, .int .u64 0] from by have := Is.new (w.alloc (.cells #[.int .u64 (a1 : Int), .int .u64 (b : Int), .int .u64 (c : Int), .int .u64 (d : Int)] 186)) 186 #[.int .u64 0, .int .u64 0, .int .u64 0, .int .u64 0]; rwa [show (w.alloc (.cells #[.int .u64 (a1 : Int), .int .u64 (b : Int), .int .u64 (c : Int), .int .u64 (d : Int)] 186)).heap.size = w.heap.size + 1 from by simp] at this).below hb2 (show Is ((w.alloc (.cells #[.int .u64 (a1 : Int), .int .u64 (b : Int), .int .u64 (c : Int), .int .u64 (d : Int)] 186)).alloc (.cells #[.int .u64 0, .int .u64 0, .int .u64 0, .int .u64 0] 186)) (w.heap.size + 1) 186 #[.int .u64 0, .int .u64 0, .int .u64 0, .int .u64 0] from by have := Is.new (w.alloc (.cells #[.int .u64 (a1 : Int), .int .u64 (b : Int), .int .u64 (c : Int), .int .u64 (d : Int)] 186)) 186 #[.int .u64 0, .int .u64 0, .int .u64 0, .int .u64 0]; rwa [show (w.alloc (.cells #[.int .u64 (a1 : Int), .int .u64 (b : Int), .int .u64 (c : Int), .int .u64 (d : Int)] 186)).heap.size = w.heap.size + 1 from by simp] at this).lt)
    have HB_w2 : Hid (Below w.heap.size w w2) := hide ((((Below.refl w.heap.size w).alloc (Nat.le_refl _) (.cells #[.int .u64 (a1 : Int), .int .u64 (b : Int), .int .u64 (c : Int), .int .u64 (d : Int)] 186)).alloc (by simp) (.cells #[.int .u64 0, .int .u64 0, .int .u64 0, .int .u64 0] 186)).trans (hb2.mono (((Below.refl w.heap.size w).alloc (Nat.le_refl _) (.cells #[.int .u64 (a1 : Int), .int .u64 (b : Int), .int .u64 (c : Int), .int .u64 (d : Int)] 186)).alloc (by simp) (.cells #[.int .u64 0, .int .u64 0, .int .u64 0, .int .u64 0] 186)).size))
    have z_w2 : w.heap.size + 1 < w2.heap.size := HZ_w2.out.lt
    have c0_w2 := HI_w2.out.cell 0
    have c1_w2 := HI_w2.out.cell 1
    have c2_w2 := HI_w2.out.cell 2
    have c3_w2 := HI_w2.out.cell 3
    have f0_w2 := HI_w2.out.free 0
    have f1_w2 := HI_w2.out.free 1
    have f2_w2 := HI_w2.out.free 2
    have f3_w2 := HI_w2.out.free 3
    have d0_w2 := HZ_w2.out.cell 0
    have d1_w2 := HZ_w2.out.cell 1
    have d2_w2 := HZ_w2.out.cell 2
    have d3_w2 := HZ_w2.out.cell 3
    have g0_w2 := HZ_w2.out.free 0
    have g1_w2 := HZ_w2.out.free 1
    have g2_w2 := HZ_w2.out.free 2
    have g3_w2 := HZ_w2.out.free 3
    simp at c0_w2 c1_w2 c2_w2 c3_w2 d0_w2 d1_w2 d2_w2 d3_w2
    clear hb2 hv
    go_wp2_with fail
    refine (unhide HRa2 _).mono ?_
    rintro e w3 ⟨rfl, rfl⟩
    go_wp2_with fail
    clear c0_w2 c1_w2 c2_w2 c3_w2 f0_w2 f1_w2 f2_w2 f3_w2 d0_w2 d1_w2 d2_w2 d3_w2 g0_w2 g1_w2 g2_w2 g3_w2
    refine Lin.wp_region_lin_tail Lin.keeps (n := 64) 7 (fun slotq => match slotq with | 26 => Lin.Spec.val (.pointer (some ⟨w.heap.size, 3, none⟩)) | 27 => Lin.Spec.val (.int .u64 (d : Int)) | 28 => Lin.Spec.val (.int .u64 (p2 : Int)) | 29 => Lin.Spec.val (.pointer (some ⟨w.heap.size, 2, none⟩)) | 30 => Lin.Spec.val (.int .u64 (c1 : Int)) | 31 => Lin.Spec.val (.int .u64 (d1 : Int)) | 32 => Lin.Spec.val (.pointer (some ⟨w.heap.size, 3, none⟩)) | _ => Lin.Spec.any) (by kernel_rfl) rfl (by kernel_rfl) ⟨?_, ?_, ?_, ?_, ?_, ?_, ?_, trivial⟩ ?_
    · intro ρ wq hb ho hc hd
      have hC : ∀ v, ρ (.const v) = v := fun v => hc _ (by intro t e; cases e)
      have hF : ∀ f, ρ (.func f) = .func (.func f) #[] #[] := fun f => hc _ (by intro t e; cases e)
      have h1 : ρ (.tmp 1) = .pointer (some ⟨w.heap.size, 0, none⟩) := ho 1 (by kernel_rfl)
      exact Lin.Runs.value Lin.keeps (v := .pointer (some ⟨w.heap.size, 3, none⟩)) (by simp [execOp, go_sem, hC, hF, h1]) rfl
    · intro ρ wq hb ho hc hd
      have hC : ∀ v, ρ (.const v) = v := fun v => hc _ (by intro t e; cases e)
      have hF : ∀ f, ρ (.func f) = .func (.func f) #[] #[] := fun f => hc _ (by intro t e; cases e)
      have h26 : ρ (.tmp 26) = .pointer (some ⟨w.heap.size, 3, none⟩) := hd 26 (by kernel_rfl)
      have dl := (hb.cell (p := ⟨w.heap.size, 3, none⟩) (((HI_w2.out.put 1 (.int .u64 (b1 : Int))).put 0 (.int .u64 (a2 : Int))).put 2 (.int .u64 (c1 : Int))).lt).trans ((((HI_w2.out.put 1 (.int .u64 (b1 : Int))).put 0 (.int .u64 (a2 : Int))).put 2 (.int .u64 (c1 : Int))).cell 3)
      simp at dl
      exact Lin.Runs.value Lin.keeps (v := .int .u64 (d : Int)) (by simp [execOp, go_sem, hC, hF, h26, dl]) rfl
    · intro ρ wq hb ho hc hd
      have hC : ∀ v, ρ (.const v) = v := fun v => hc _ (by intro t e; cases e)
      have hF : ∀ f, ρ (.func f) = .func (.func f) #[] #[] := fun f => hc _ (by intro t e; cases e)
      have h27 : ρ (.tmp 27) = .int .u64 (d : Int) := hd 27 (by kernel_rfl)
      refine Lin.Runs.call Lin.keeps (f := 142) (args := #[.int .u64 (d : Int), .int .i64 16]) (by simp [execOp, go_sem, hC, hF, h27]) ((unhide HRp2 wq).mono ?_)
      rintro e w2 ⟨rfl, rfl⟩
      exact ⟨_, rfl, Below.refl _ _, rfl⟩
    · intro ρ wq hb ho hc hd
      have hC : ∀ v, ρ (.const v) = v := fun v => hc _ (by intro t e; cases e)
      have hF : ∀ f, ρ (.func f) = .func (.func f) #[] #[] := fun f => hc _ (by intro t e; cases e)
      have h1 : ρ (.tmp 1) = .pointer (some ⟨w.heap.size, 0, none⟩) := ho 1 (by kernel_rfl)
      exact Lin.Runs.value Lin.keeps (v := .pointer (some ⟨w.heap.size, 2, none⟩)) (by simp [execOp, go_sem, hC, hF, h1]) rfl
    · intro ρ wq hb ho hc hd
      have hC : ∀ v, ρ (.const v) = v := fun v => hc _ (by intro t e; cases e)
      have hF : ∀ f, ρ (.func f) = .func (.func f) #[] #[] := fun f => hc _ (by intro t e; cases e)
      have h29 : ρ (.tmp 29) = .pointer (some ⟨w.heap.size, 2, none⟩) := hd 29 (by kernel_rfl)
      have dl := (hb.cell (p := ⟨w.heap.size, 2, none⟩) (((HI_w2.out.put 1 (.int .u64 (b1 : Int))).put 0 (.int .u64 (a2 : Int))).put 2 (.int .u64 (c1 : Int))).lt).trans ((((HI_w2.out.put 1 (.int .u64 (b1 : Int))).put 0 (.int .u64 (a2 : Int))).put 2 (.int .u64 (c1 : Int))).cell 2)
      simp at dl
      exact Lin.Runs.value Lin.keeps (v := .int .u64 (c1 : Int)) (by simp [execOp, go_sem, hC, hF, h29, dl]) rfl
    · intro ρ wq hb ho hc hd
      have hC : ∀ v, ρ (.const v) = v := fun v => hc _ (by intro t e; cases e)
      have hF : ∀ f, ρ (.func f) = .func (.func f) #[] #[] := fun f => hc _ (by intro t e; cases e)
      have h28 : ρ (.tmp 28) = .int .u64 (p2 : Int) := hd 28 (by kernel_rfl)
      have h30 : ρ (.tmp 30) = .int .u64 (c1 : Int) := hd 30 (by kernel_rfl)
      exact Lin.Runs.value Lin.keeps (v := .int .u64 (d1 : Int)) (by simp [execOp, go_sem, hC, hF, h28, h30, fd1]) rfl
    · intro ρ wq hb ho hc hd
      have hC : ∀ v, ρ (.const v) = v := fun v => hc _ (by intro t e; cases e)
      have hF : ∀ f, ρ (.func f) = .func (.func f) #[] #[] := fun f => hc _ (by intro t e; cases e)
      have h1 : ρ (.tmp 1) = .pointer (some ⟨w.heap.size, 0, none⟩) := ho 1 (by kernel_rfl)
      exact Lin.Runs.value Lin.keeps (v := .pointer (some ⟨w.heap.size, 3, none⟩)) (by simp [execOp, go_sem, hC, hF, h1]) rfl
    · intro vals w4 hb2 hv
      have e1 : vals 31 = .int .u64 (d1 : Int) := hv 31 (by kernel_rfl)
      have e2 : vals 32 = .pointer (some ⟨w.heap.size, 3, none⟩) := hv 32 (by kernel_rfl)
      change wpList _ _ _ [_] _ _
      simp only [Lin.putAll, Option.getD_some, List.take_succ_cons, List.take_zero, List.drop_succ_cons, List.drop_zero]
      rw [e1, e2]
      have HI_w4 : Hid (Is w4 w.heap.size 186 #[.int .u64 (a2 : Int), .int .u64 (b1 : Int), .int .u64 (c1 : Int), .int .u64 (d : Int)]) := hide ((((HI_w2.out.put 1 (.int .u64 (b1 : Int))).put 0 (.int .u64 (a2 : Int))).put 2 (.int .u64 (c1 : Int))).below hb2 (((HI_w2.out.put 1 (.int .u64 (b1 : Int))).put 0 (.int .u64 (a2 : Int))).put 2 (.int .u64 (c1 : Int))).lt)
      have HZ_w4 : Hid (Is w4 (w.heap.size + 1) 186 #[.int .u64 0, .int .u64 0, .int .u64 0, .int .u64 0]) := hide ((((HZ_w2.out.other (p := ⟨w.heap.size, 1, none⟩) (by simp) (.int .u64 (b1 : Int))).other (p := ⟨w.heap.size, 0, none⟩) (by simp) (.int .u64 (a2 : Int))).other (p := ⟨w.heap.size, 2, none⟩) (by simp) (.int .u64 (c1 : Int))).below hb2 (((HZ_w2.out.other (p := ⟨w.heap.size, 1, none⟩) (by simp) (.int .u64 (b1 : Int))).other (p := ⟨w.heap.size, 0, none⟩) (by simp) (.int .u64 (a2 : Int))).other (p := ⟨w.heap.size, 2, none⟩) (by simp) (.int .u64 (c1 : Int))).lt)
      have HB_w4 : Hid (Below w.heap.size w w4) := hide ((((HB_w2.out.setCell (p := ⟨w.heap.size, 1, none⟩) (Nat.le_refl _) (.int .u64 (b1 : Int))).setCell (p := ⟨w.heap.size, 0, none⟩) (Nat.le_refl _) (.int .u64 (a2 : Int))).setCell (p := ⟨w.heap.size, 2, none⟩) (Nat.le_refl _) (.int .u64 (c1 : Int))).trans (hb2.mono (((HB_w2.out.setCell (p := ⟨w.heap.size, 1, none⟩) (Nat.le_refl _) (.int .u64 (b1 : Int))).setCell (p := ⟨w.heap.size, 0, none⟩) (Nat.le_refl _) (.int .u64 (a2 : Int))).setCell (p := ⟨w.heap.size, 2, none⟩) (Nat.le_refl _) (.int .u64 (c1 : Int))).size))
      have z_w4 : w.heap.size + 1 < w4.heap.size := HZ_w4.out.lt
      have c0_w4 := HI_w4.out.cell 0
      have c1_w4 := HI_w4.out.cell 1
      have c2_w4 := HI_w4.out.cell 2
      have c3_w4 := HI_w4.out.cell 3
      have f0_w4 := HI_w4.out.free 0
      have f1_w4 := HI_w4.out.free 1
      have f2_w4 := HI_w4.out.free 2
      have f3_w4 := HI_w4.out.free 3
      have d0_w4 := HZ_w4.out.cell 0
      have d1_w4 := HZ_w4.out.cell 1
      have d2_w4 := HZ_w4.out.cell 2
      have d3_w4 := HZ_w4.out.cell 3
      have g0_w4 := HZ_w4.out.free 0
      have g1_w4 := HZ_w4.out.free 1
      have g2_w4 := HZ_w4.out.free 2
      have g3_w4 := HZ_w4.out.free 3
      simp at c0_w4 c1_w4 c2_w4 c3_w4 d0_w4 d1_w4 d2_w4 d3_w4
      clear hb2 hv
      go_wp2_with fail
      clear c0_w4 c1_w4 c2_w4 c3_w4 f0_w4 f1_w4 f2_w4 f3_w4 d0_w4 d1_w4 d2_w4 d3_w4 g0_w4 g1_w4 g2_w4 g3_w4
      refine Lin.wp_region_lin_tail Lin.keeps (n := 64) 7 (fun slotq => match slotq with | 39 => Lin.Spec.val (.pointer (some ⟨w.heap.size, 3, none⟩)) | 40 => Lin.Spec.val (.int .u64 (d1 : Int)) | 41 => Lin.Spec.val (.int .u64 (p3 : Int)) | 42 => Lin.Spec.val (.pointer (some ⟨w.heap.size, 0, none⟩)) | 43 => Lin.Spec.val (.int .u64 (a3 : Int)) | 44 => Lin.Spec.val (.int .u64 (d2 : Int)) | 45 => Lin.Spec.val (.pointer (some ⟨w.heap.size, 3, none⟩)) | _ => Lin.Spec.any) (by kernel_rfl) rfl (by kernel_rfl) ⟨?_, ?_, ?_, ?_, ?_, ?_, ?_, trivial⟩ ?_
      · intro ρ wq hb ho hc hd
        have hC : ∀ v, ρ (.const v) = v := fun v => hc _ (by intro t e; cases e)
        have hF : ∀ f, ρ (.func f) = .func (.func f) #[] #[] := fun f => hc _ (by intro t e; cases e)
        have h1 : ρ (.tmp 1) = .pointer (some ⟨w.heap.size, 0, none⟩) := ho 1 (by kernel_rfl)
        exact Lin.Runs.value Lin.keeps (v := .pointer (some ⟨w.heap.size, 3, none⟩)) (by simp [execOp, go_sem, hC, hF, h1]) rfl
      · intro ρ wq hb ho hc hd
        have hC : ∀ v, ρ (.const v) = v := fun v => hc _ (by intro t e; cases e)
        have hF : ∀ f, ρ (.func f) = .func (.func f) #[] #[] := fun f => hc _ (by intro t e; cases e)
        have h39 : ρ (.tmp 39) = .pointer (some ⟨w.heap.size, 3, none⟩) := hd 39 (by kernel_rfl)
        have dl := (hb.cell (p := ⟨w.heap.size, 3, none⟩) ((HI_w4.out.put 3 (.int .u64 (d1 : Int))).put 0 (.int .u64 (a3 : Int))).lt).trans (((HI_w4.out.put 3 (.int .u64 (d1 : Int))).put 0 (.int .u64 (a3 : Int))).cell 3)
        simp at dl
        exact Lin.Runs.value Lin.keeps (v := .int .u64 (d1 : Int)) (by simp [execOp, go_sem, hC, hF, h39, dl]) rfl
      · intro ρ wq hb ho hc hd
        have hC : ∀ v, ρ (.const v) = v := fun v => hc _ (by intro t e; cases e)
        have hF : ∀ f, ρ (.func f) = .func (.func f) #[] #[] := fun f => hc _ (by intro t e; cases e)
        have h40 : ρ (.tmp 40) = .int .u64 (d1 : Int) := hd 40 (by kernel_rfl)
        refine Lin.Runs.call Lin.keeps (f := 142) (args := #[.int .u64 (d1 : Int), .int .i64 21]) (by simp [execOp, go_sem, hC, hF, h40]) ((unhide HRp3 wq).mono ?_)
        rintro e w2 ⟨rfl, rfl⟩
        exact ⟨_, rfl, Below.refl _ _, rfl⟩
      · intro ρ wq hb ho hc hd
        have hC : ∀ v, ρ (.const v) = v := fun v => hc _ (by intro t e; cases e)
        have hF : ∀ f, ρ (.func f) = .func (.func f) #[] #[] := fun f => hc _ (by intro t e; cases e)
        have h1 : ρ (.tmp 1) = .pointer (some ⟨w.heap.size, 0, none⟩) := ho 1 (by kernel_rfl)
        exact Lin.Runs.value Lin.keeps (v := .pointer (some ⟨w.heap.size, 0, none⟩)) (by simp [execOp, go_sem, hC, hF, h1]) rfl
      · intro ρ wq hb ho hc hd
        have hC : ∀ v, ρ (.const v) = v := fun v => hc _ (by intro t e; cases e)
        have hF : ∀ f, ρ (.func f) = .func (.func f) #[] #[] := fun f => hc _ (by intro t e; cases e)
        have h42 : ρ (.tmp 42) = .pointer (some ⟨w.heap.size, 0, none⟩) := hd 42 (by kernel_rfl)
        have dl := (hb.cell (p := ⟨w.heap.size, 0, none⟩) ((HI_w4.out.put 3 (.int .u64 (d1 : Int))).put 0 (.int .u64 (a3 : Int))).lt).trans (((HI_w4.out.put 3 (.int .u64 (d1 : Int))).put 0 (.int .u64 (a3 : Int))).cell 0)
        simp at dl
        exact Lin.Runs.value Lin.keeps (v := .int .u64 (a3 : Int)) (by simp [execOp, go_sem, hC, hF, h42, dl]) rfl
      · intro ρ wq hb ho hc hd
        have hC : ∀ v, ρ (.const v) = v := fun v => hc _ (by intro t e; cases e)
        have hF : ∀ f, ρ (.func f) = .func (.func f) #[] #[] := fun f => hc _ (by intro t e; cases e)
        have h41 : ρ (.tmp 41) = .int .u64 (p3 : Int) := hd 41 (by kernel_rfl)
        have h43 : ρ (.tmp 43) = .int .u64 (a3 : Int) := hd 43 (by kernel_rfl)
        exact Lin.Runs.value Lin.keeps (v := .int .u64 (d2 : Int)) (by simp [execOp, go_sem, hC, hF, h41, h43, fd2]) rfl
      · intro ρ wq hb ho hc hd
        have hC : ∀ v, ρ (.const v) = v := fun v => hc _ (by intro t e; cases e)
        have hF : ∀ f, ρ (.func f) = .func (.func f) #[] #[] := fun f => hc _ (by intro t e; cases e)
        have h1 : ρ (.tmp 1) = .pointer (some ⟨w.heap.size, 0, none⟩) := ho 1 (by kernel_rfl)
        exact Lin.Runs.value Lin.keeps (v := .pointer (some ⟨w.heap.size, 3, none⟩)) (by simp [execOp, go_sem, hC, hF, h1]) rfl
      · intro vals w6 hb2 hv
        have e1 : vals 44 = .int .u64 (d2 : Int) := hv 44 (by kernel_rfl)
        have e2 : vals 45 = .pointer (some ⟨w.heap.size, 3, none⟩) := hv 45 (by kernel_rfl)
        change wpList _ _ _ [_] _ _
        simp only [Lin.putAll, Option.getD_some, List.take_succ_cons, List.take_zero, List.drop_succ_cons, List.drop_zero]
        rw [e1, e2]
        have HI_w6 : Hid (Is w6 w.heap.size 186 #[.int .u64 (a3 : Int), .int .u64 (b1 : Int), .int .u64 (c1 : Int), .int .u64 (d1 : Int)]) := hide (((HI_w4.out.put 3 (.int .u64 (d1 : Int))).put 0 (.int .u64 (a3 : Int))).below hb2 ((HI_w4.out.put 3 (.int .u64 (d1 : Int))).put 0 (.int .u64 (a3 : Int))).lt)
        have HZ_w6 : Hid (Is w6 (w.heap.size + 1) 186 #[.int .u64 0, .int .u64 0, .int .u64 0, .int .u64 0]) := hide (((HZ_w4.out.other (p := ⟨w.heap.size, 3, none⟩) (by simp) (.int .u64 (d1 : Int))).other (p := ⟨w.heap.size, 0, none⟩) (by simp) (.int .u64 (a3 : Int))).below hb2 ((HZ_w4.out.other (p := ⟨w.heap.size, 3, none⟩) (by simp) (.int .u64 (d1 : Int))).other (p := ⟨w.heap.size, 0, none⟩) (by simp) (.int .u64 (a3 : Int))).lt)
        have HB_w6 : Hid (Below w.heap.size w w6) := hide (((HB_w4.out.setCell (p := ⟨w.heap.size, 3, none⟩) (Nat.le_refl _) (.int .u64 (d1 : Int))).setCell (p := ⟨w.heap.size, 0, none⟩) (Nat.le_refl _) (.int .u64 (a3 : Int))).trans (hb2.mono ((HB_w4.out.setCell (p := ⟨w.heap.size, 3, none⟩) (Nat.le_refl _) (.int .u64 (d1 : Int))).setCell (p := ⟨w.heap.size, 0, none⟩) (Nat.le_refl _) (.int .u64 (a3 : Int))).size))
        have z_w6 : w.heap.size + 1 < w6.heap.size := HZ_w6.out.lt
        have c0_w6 := HI_w6.out.cell 0
        have c1_w6 := HI_w6.out.cell 1
        have c2_w6 := HI_w6.out.cell 2
        have c3_w6 := HI_w6.out.cell 3
        have f0_w6 := HI_w6.out.free 0
        have f1_w6 := HI_w6.out.free 1
        have f2_w6 := HI_w6.out.free 2
        have f3_w6 := HI_w6.out.free 3
        have d0_w6 := HZ_w6.out.cell 0
        have d1_w6 := HZ_w6.out.cell 1
        have d2_w6 := HZ_w6.out.cell 2
        have d3_w6 := HZ_w6.out.cell 3
        have g0_w6 := HZ_w6.out.free 0
        have g1_w6 := HZ_w6.out.free 1
        have g2_w6 := HZ_w6.out.free 2
        have g3_w6 := HZ_w6.out.free 3
        simp at c0_w6 c1_w6 c2_w6 c3_w6 d0_w6 d1_w6 d2_w6 d3_w6
        clear hb2 hv
        go_wp2_with fail
        clear c0_w6 c1_w6 c2_w6 c3_w6 f0_w6 f1_w6 f2_w6 f3_w6 d0_w6 d1_w6 d2_w6 d3_w6 g0_w6 g1_w6 g2_w6 g3_w6
        refine Lin.wp_region_lin_tail Lin.keeps (n := 64) 7 (fun slotq => match slotq with | 52 => Lin.Spec.val (.pointer (some ⟨w.heap.size, 1, none⟩)) | 53 => Lin.Spec.val (.int .u64 (b1 : Int)) | 54 => Lin.Spec.val (.int .u64 (p4 : Int)) | 55 => Lin.Spec.val (.pointer (some ⟨w.heap.size, 2, none⟩)) | 56 => Lin.Spec.val (.int .u64 (c2 : Int)) | 57 => Lin.Spec.val (.int .u64 (b2 : Int)) | 58 => Lin.Spec.val (.pointer (some ⟨w.heap.size, 1, none⟩)) | _ => Lin.Spec.any) (by kernel_rfl) rfl (by kernel_rfl) ⟨?_, ?_, ?_, ?_, ?_, ?_, ?_, trivial⟩ ?_
        · intro ρ wq hb ho hc hd
          have hC : ∀ v, ρ (.const v) = v := fun v => hc _ (by intro t e; cases e)
          have hF : ∀ f, ρ (.func f) = .func (.func f) #[] #[] := fun f => hc _ (by intro t e; cases e)
          have h1 : ρ (.tmp 1) = .pointer (some ⟨w.heap.size, 0, none⟩) := ho 1 (by kernel_rfl)
          exact Lin.Runs.value Lin.keeps (v := .pointer (some ⟨w.heap.size, 1, none⟩)) (by simp [execOp, go_sem, hC, hF, h1]) rfl
        · intro ρ wq hb ho hc hd
          have hC : ∀ v, ρ (.const v) = v := fun v => hc _ (by intro t e; cases e)
          have hF : ∀ f, ρ (.func f) = .func (.func f) #[] #[] := fun f => hc _ (by intro t e; cases e)
          have h52 : ρ (.tmp 52) = .pointer (some ⟨w.heap.size, 1, none⟩) := hd 52 (by kernel_rfl)
          have dl := (hb.cell (p := ⟨w.heap.size, 1, none⟩) ((HI_w6.out.put 3 (.int .u64 (d2 : Int))).put 2 (.int .u64 (c2 : Int))).lt).trans (((HI_w6.out.put 3 (.int .u64 (d2 : Int))).put 2 (.int .u64 (c2 : Int))).cell 1)
          simp at dl
          exact Lin.Runs.value Lin.keeps (v := .int .u64 (b1 : Int)) (by simp [execOp, go_sem, hC, hF, h52, dl]) rfl
        · intro ρ wq hb ho hc hd
          have hC : ∀ v, ρ (.const v) = v := fun v => hc _ (by intro t e; cases e)
          have hF : ∀ f, ρ (.func f) = .func (.func f) #[] #[] := fun f => hc _ (by intro t e; cases e)
          have h53 : ρ (.tmp 53) = .int .u64 (b1 : Int) := hd 53 (by kernel_rfl)
          refine Lin.Runs.call Lin.keeps (f := 142) (args := #[.int .u64 (b1 : Int), .int .i64 17]) (by simp [execOp, go_sem, hC, hF, h53]) ((unhide HRp4 wq).mono ?_)
          rintro e w2 ⟨rfl, rfl⟩
          exact ⟨_, rfl, Below.refl _ _, rfl⟩
        · intro ρ wq hb ho hc hd
          have hC : ∀ v, ρ (.const v) = v := fun v => hc _ (by intro t e; cases e)
          have hF : ∀ f, ρ (.func f) = .func (.func f) #[] #[] := fun f => hc _ (by intro t e; cases e)
          have h1 : ρ (.tmp 1) = .pointer (some ⟨w.heap.size, 0, none⟩) := ho 1 (by kernel_rfl)
          exact Lin.Runs.value Lin.keeps (v := .pointer (some ⟨w.heap.size, 2, none⟩)) (by simp [execOp, go_sem, hC, hF, h1]) rfl
        · intro ρ wq hb ho hc hd
          have hC : ∀ v, ρ (.const v) = v := fun v => hc _ (by intro t e; cases e)
          have hF : ∀ f, ρ (.func f) = .func (.func f) #[] #[] := fun f => hc _ (by intro t e; cases e)
          have h55 : ρ (.tmp 55) = .pointer (some ⟨w.heap.size, 2, none⟩) := hd 55 (by kernel_rfl)
          have dl := (hb.cell (p := ⟨w.heap.size, 2, none⟩) ((HI_w6.out.put 3 (.int .u64 (d2 : Int))).put 2 (.int .u64 (c2 : Int))).lt).trans (((HI_w6.out.put 3 (.int .u64 (d2 : Int))).put 2 (.int .u64 (c2 : Int))).cell 2)
          simp at dl
          exact Lin.Runs.value Lin.keeps (v := .int .u64 (c2 : Int)) (by simp [execOp, go_sem, hC, hF, h55, dl]) rfl
        · intro ρ wq hb ho hc hd
          have hC : ∀ v, ρ (.const v) = v := fun v => hc _ (by intro t e; cases e)
          have hF : ∀ f, ρ (.func f) = .func (.func f) #[] #[] := fun f => hc _ (by intro t e; cases e)
          have h54 : ρ (.tmp 54) = .int .u64 (p4 : Int) := hd 54 (by kernel_rfl)
          have h56 : ρ (.tmp 56) = .int .u64 (c2 : Int) := hd 56 (by kernel_rfl)
          exact Lin.Runs.value Lin.keeps (v := .int .u64 (b2 : Int)) (by simp [execOp, go_sem, hC, hF, h54, h56, fb2]) rfl
        · intro ρ wq hb ho hc hd
          have hC : ∀ v, ρ (.const v) = v := fun v => hc _ (by intro t e; cases e)
          have hF : ∀ f, ρ (.func f) = .func (.func f) #[] #[] := fun f => hc _ (by intro t e; cases e)
          have h1 : ρ (.tmp 1) = .pointer (some ⟨w.heap.size, 0, none⟩) := ho 1 (by kernel_rfl)
          exact Lin.Runs.value Lin.keeps (v := .pointer (some ⟨w.heap.size, 1, none⟩)) (by simp [execOp, go_sem, hC, hF, h1]) rfl
        · intro vals w8 hb2 hv
          have e1 : vals 57 = .int .u64 (b2 : Int) := hv 57 (by kernel_rfl)
          have e2 : vals 58 = .pointer (some ⟨w.heap.size, 1, none⟩) := hv 58 (by kernel_rfl)
          change wpList _ _ _ [_] _ _
          simp only [Lin.putAll, Option.getD_some, List.take_succ_cons, List.take_zero, List.drop_succ_cons, List.drop_zero]
          rw [e1, e2]
          have HI_w8 : Hid (Is w8 w.heap.size 186 #[.int .u64 (a3 : Int), .int .u64 (b1 : Int), .int .u64 (c2 : Int), .int .u64 (d2 : Int)]) := hide (((HI_w6.out.put 3 (.int .u64 (d2 : Int))).put 2 (.int .u64 (c2 : Int))).below hb2 ((HI_w6.out.put 3 (.int .u64 (d2 : Int))).put 2 (.int .u64 (c2 : Int))).lt)
          have HZ_w8 : Hid (Is w8 (w.heap.size + 1) 186 #[.int .u64 0, .int .u64 0, .int .u64 0, .int .u64 0]) := hide (((HZ_w6.out.other (p := ⟨w.heap.size, 3, none⟩) (by simp) (.int .u64 (d2 : Int))).other (p := ⟨w.heap.size, 2, none⟩) (by simp) (.int .u64 (c2 : Int))).below hb2 ((HZ_w6.out.other (p := ⟨w.heap.size, 3, none⟩) (by simp) (.int .u64 (d2 : Int))).other (p := ⟨w.heap.size, 2, none⟩) (by simp) (.int .u64 (c2 : Int))).lt)
          have HB_w8 : Hid (Below w.heap.size w w8) := hide (((HB_w6.out.setCell (p := ⟨w.heap.size, 3, none⟩) (Nat.le_refl _) (.int .u64 (d2 : Int))).setCell (p := ⟨w.heap.size, 2, none⟩) (Nat.le_refl _) (.int .u64 (c2 : Int))).trans (hb2.mono ((HB_w6.out.setCell (p := ⟨w.heap.size, 3, none⟩) (Nat.le_refl _) (.int .u64 (d2 : Int))).setCell (p := ⟨w.heap.size, 2, none⟩) (Nat.le_refl _) (.int .u64 (c2 : Int))).size))
          have z_w8 : w.heap.size + 1 < w8.heap.size := HZ_w8.out.lt
          have c0_w8 := HI_w8.out.cell 0
          have c1_w8 := HI_w8.out.cell 1
          have c2_w8 := HI_w8.out.cell 2
          have c3_w8 := HI_w8.out.cell 3
          have f0_w8 := HI_w8.out.free 0
          have f1_w8 := HI_w8.out.free 1
          have f2_w8 := HI_w8.out.free 2
          have f3_w8 := HI_w8.out.free 3
          have d0_w8 := HZ_w8.out.cell 0
          have d1_w8 := HZ_w8.out.cell 1
          have d2_w8 := HZ_w8.out.cell 2
          have d3_w8 := HZ_w8.out.cell 3
          have g0_w8 := HZ_w8.out.free 0
          have g1_w8 := HZ_w8.out.free 1
          have g2_w8 := HZ_w8.out.free 2
          have g3_w8 := HZ_w8.out.free 3
          simp at c0_w8 c1_w8 c2_w8 c3_w8 d0_w8 d1_w8 d2_w8 d3_w8
          clear hb2 hv
          go_wp2_with fail
          refine (unhide HRc3 _).mono ?_
          rintro e w9 ⟨rfl, rfl⟩
          go_wp2_with fail
          rw [HE.out]
          refine bodyPost_ret (v := St.val ⟨a3, b2, c3, d2⟩) (by simp [results, Try.results124, go_sem, St.val, c0_w8, c1_w8, c2_w8, c3_w8, d0_w8, d1_w8, d2_w8, d3_w8]) rfl ⟨rfl, ?_⟩
          exact (((((HB_w8.out.setCell (p := ⟨w.heap.size, 1, none⟩) (Nat.le_refl _) _).setCell (p := ⟨w.heap.size, 2, none⟩) (Nat.le_refl _) _).setCell (p := ⟨w.heap.size + 1, 0, none⟩) (Nat.le_succ _) _).setCell (p := ⟨w.heap.size + 1, 1, none⟩) (Nat.le_succ _) _).setCell (p := ⟨w.heap.size + 1, 2, none⟩) (Nat.le_succ _) _).setCell (p := ⟨w.heap.size + 1, 3, none⟩) (Nat.le_succ _) _
end Go.Proofs.Ythjkjohmaemmiaa
