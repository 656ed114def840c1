/-
  What Parse of package tcp and of the document's answer for layer 6 return. Helper of the claim TcpReads. No condition.
-/
import Derived.Test.YtkgmgmlicgjfdaaRq
import Derived.Test.YtkgmgmlicgjfdaaUdp
import Derived.Test.YtkgmgmlicgjfdaaGrow
import Derived.IntWalk
import Derived.Laws.BitsAllLaws
namespace Go.Proofs.Ytkgmgmlicgjfdaa
open Go.ChangeShapes Go.WideShapes Go.ChangeAt Go.RowKit
set_option linter.unusedVariables false
set_option maxRecDepth 100000
theorem u8_mask15 {n : Int} (h0 : 0 ≤ n) (h1 : n ≤ 255) : bits .and .u8 n 15 = n % 16 := by
  rw [u8_and n 15 h0 (by omega) (by omega) (by omega), show (15 : Int).toNat = 15 from rfl, show n.toNat &&& 15 = n.toNat % 16 from Nat.and_two_pow_sub_one_eq_mod n.toNat 4]; omega
/-- A segment as a value. -/
def sg6 (xa xb xs xk xf xn xm xg : Int) (v u : Value) : Value := .agg #[.int .u16 xa, .int .u16 xb, .int .u32 xs, .int .u32 xk, .int .u8 xf, .int .u16 xn, .int .u16 xm, .int .u16 xg, v, u]
/-- A segment that a call gave back, with an error: its options read as o, its load as l. -/
def Sg (w : World) (xa xb xs xk xf xn xm xg : Int) (o : List Int) (i : Nat) (l : List Int) (j : Nat) (x : Int) (e : Ending) (w' : World) : Prop := ∃ v u, e = .returned (.tuple #[sg6 xa xb xs xk xf xn xm xg v u, .int .i64 x]) ∧ Below w.heap.size w w' ∧ IsB o i v w' ∧ IsB l j u w'
def SgErr (w : World) (x : Int) : Ending → World → Prop := Sg w 0 0 0 0 0 0 0 0 [] 0 [] 0 x
set_option maxHeartbeats 1000000 in
theorem tparse_short (A : Option Addr) (c n : Nat) (w : World) (h8 : n < 20) :
    Calls Try.prog 30 #[.slice A n c] w (SgErr w 20) := by
  go_enter Try.func30, Try.ntmps30
  go_wp2_with fail
  exact bodyPost_ret (v := .tuple #[sg6 0 0 0 0 0 0 0 0 (.slice none 0 0) (.slice none 0 0), .int .i64 20]) (by simp [results, Try.results30, go_sem, sg6]) rfl ⟨_, _, rfl, (Below.refl _ _).alloc (Nat.le_refl _) _, IsB.nil0 _, IsB.nil0 _⟩
set_option maxHeartbeats 1000000 in
theorem tparse_form (A : Option Addr) (c : Nat) (l : List Int) (y : Int) (w : World) (hi : IsB l l.length (.slice A l.length c) w) (ho : Octets l) (hm : l.length ≤ 3000) (h20 : 20 ≤ l.length) (hy : at0 l 12 = y) (hq : y / 16 * 4 < 20 ∨ (20 ≤ y / 16 * 4 ∧ y % 16 ≠ 0)) :
    Calls Try.prog 30 #[.slice A l.length c] w (SgErr w 21) := by
  have hby : Bytes w w.heap.size A l := by obtain ⟨A', c', e, _, h, _⟩ := hi; injection e with e; subst e; exact h
  obtain ⟨bl, ol, rfl, hbl, hcl⟩ := hby.cells (by omega)
  have dc := hcl 12 (by omega)
  have yb := ho 12
  rw [hy] at dc yb
  obtain ⟨y0, y1⟩ := yb
  have hand := u8_mask15 y0 y1
  have hl12 : 12 < l.length := by omega
  clear hi ho hcl hby hy
  rcases hq with hq | ⟨hq, hq2⟩
  all_goals
    (try have hb : (y % 16 != 0) = true := by simpa using hq2)
    go_enter Try.func30, Try.ntmps30
    go_wp2_with fail
    exact bodyPost_ret (v := .tuple #[sg6 0 0 0 0 0 0 0 0 (.slice none 0 0) (.slice none 0 0), .int .i64 21]) (by simp [results, Try.results30, go_sem, sg6]) rfl ⟨_, _, rfl, (Below.refl _ _).alloc (Nat.le_refl _) _, IsB.nil0 _, IsB.nil0 _⟩
set_option maxHeartbeats 1000000 in
theorem tparse_long (A : Option Addr) (c : Nat) (l : List Int) (y : Int) (w : World) (hi : IsB l l.length (.slice A l.length c) w) (ho : Octets l) (hm : l.length ≤ 3000) (h20 : 20 ≤ l.length) (hy : at0 l 12 = y) (hq : 20 ≤ y / 16 * 4 ∧ y % 16 = 0) (hl : (l.length : Int) < y / 16 * 4) :
    Calls Try.prog 30 #[.slice A l.length c] w (SgErr w 20) := by
  have hby : Bytes w w.heap.size A l := by obtain ⟨A', c', e, _, h, _⟩ := hi; injection e with e; subst e; exact h
  obtain ⟨bl, ol, rfl, hbl, hcl⟩ := hby.cells (by omega)
  have dc := hcl 12 (by omega)
  have yb := ho 12
  rw [hy] at dc yb
  obtain ⟨y0, y1⟩ := yb
  have hand := u8_mask15 y0 y1
  have hl12 : 12 < l.length := by omega
  clear hi ho hcl hby hy
  obtain ⟨hq, hq2⟩ := hq
  all_goals
    go_enter Try.func30, Try.ntmps30
    go_wp2_with fail
    exact bodyPost_ret (v := .tuple #[sg6 0 0 0 0 0 0 0 0 (.slice none 0 0) (.slice none 0 0), .int .i64 20]) (by simp [results, Try.results30, go_sem, sg6]) rfl ⟨_, _, rfl, (Below.refl _ _).alloc (Nat.le_refl _) _, IsB.nil0 _, IsB.nil0 _⟩
end Go.Proofs.Ytkgmgmlicgjfdaa
