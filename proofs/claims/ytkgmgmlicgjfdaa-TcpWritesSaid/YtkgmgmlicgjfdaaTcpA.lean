/-
  The words of the law of layer 6, and the chapter's example. Helper of the claim TcpReads. No condition.
-/
import Derived.Test.YtkgmgmlicgjfdaaTcp
import Derived.Test.YtkgmgmlicgjfdaaUdpA
namespace Go.Proofs.Ytkgmgmlicgjfdaa
open Go.ChangeShapes Go.WideShapes Go.ChangeAt Go.RowKit
set_option linter.unusedVariables false
set_option maxRecDepth 100000

def Sg1 (w : World) (xa xb xs xk xf xn xm xg : Int) (o : List Int) (i : Nat) (l : List Int) (j : Nat) (e : Ending) (w' : World) : Prop := ∃ v u, e = .returned (sg6 xa xb xs xk xf xn xm xg v u) ∧ Below w.heap.size w w' ∧ IsB o i v w' ∧ IsB l j u w'
set_option maxHeartbeats 1000000 in
theorem of6 (xa xb xs xk xf xn xm xg : Int) (o l : List Int) (i j : Nat) (v u : Value) (w : World) (hv : IsB o i v w) (hu : IsB l j u w) :
    Calls Try.prog 33 #[sg6 xa xb xs xk xf xn xm xg v u] w (Sg1 w xa xb xs xk xf xn xm xg o i l j) := by
  have HV := hide hv; have HU := hide hu
  obtain ⟨A1, c1, rfl⟩ := hv.shape
  obtain ⟨A2, c2, rfl⟩ := hu.shape
  clear hv hu
  unfold sg6
  go_enter Try.func33, Try.ntmps33
  go_wp2_with fail
  exact bodyPost_ret (v := sg6 xa xb xs xk xf xn xm xg (.slice A1 i c1) (.slice A2 j c2)) (by simp [results, Try.results33, go_sem, sg6]) rfl ⟨_, _, rfl, ((Below.refl _ _).alloc (Nat.le_refl _) _).alloc (by simp) _, (HV.out.alloc _).alloc _, (HU.out.alloc _).alloc _⟩
set_option maxHeartbeats 1000000 in
theorem same6 (xa xb xs xk xf xn xm xg : Int) (o l : List Int) (i j i' j' : Nat) (v u v' u' : Value) (w : World) (hv : IsB o i v w) (hu : IsB l j u w) (hv' : IsB o i' v' w) (hu' : IsB l j' u' w) :
    Calls Try.prog 32 #[sg6 xa xb xs xk xf xn xm xg v u, sg6 xa xb xs xk xf xn xm xg v' u'] w fun e w' => e = .returned (.bool true) ∧ Below w.heap.size w w' := by
  have k1 : ∀ o1 o2, (convert 22 9 v).run Try.prog ((w.alloc o1).alloc o2) = .ok (.string (strOfNums o)) ((w.alloc o1).alloc o2) := fun o1 o2 => ((hv.alloc o1).alloc o2).conv
  have k2 : ∀ o1 o2, (convert 22 9 u).run Try.prog ((w.alloc o1).alloc o2) = .ok (.string (strOfNums l)) ((w.alloc o1).alloc o2) := fun o1 o2 => ((hu.alloc o1).alloc o2).conv
  have k3 : ∀ o1 o2, (convert 22 9 v').run Try.prog ((w.alloc o1).alloc o2) = .ok (.string (strOfNums o)) ((w.alloc o1).alloc o2) := fun o1 o2 => ((hv'.alloc o1).alloc o2).conv
  have k4 : ∀ o1 o2, (convert 22 9 u').run Try.prog ((w.alloc o1).alloc o2) = .ok (.string (strOfNums l)) ((w.alloc o1).alloc o2) := fun o1 o2 => ((hu'.alloc o1).alloc o2).conv
  obtain ⟨A1, c1, rfl⟩ := hv.shape
  obtain ⟨A2, c2, rfl⟩ := hu.shape
  obtain ⟨A3, c3, rfl⟩ := hv'.shape
  obtain ⟨A4, c4, rfl⟩ := hu'.shape
  clear hv hu hv' hu'
  unfold sg6
  go_enter Try.func32, Try.ntmps32
  go_wp2_with fail
  go_ret
  exact ⟨by simp, ((Below.refl _ _).alloc (Nat.le_refl _) _).alloc (by simp) _⟩
def L6 : List Int := [1, 1, 8, 10, 0, 0, 0, 1, 0, 0, 0, 2]
def StRel (i : Value) : Prop := ∃ k : Nat, k ≤ 2 ∧ i = .int .i64 (k : Int)
set_option maxHeartbeats 2000000 in
theorem stamps6 (A : Option Addr) (c : Nat) (w : World) (hi : IsB L6 12 (.slice A 12 c) w) :
    Calls Try.prog 21 #[.slice A 12 c] w fun e w' => e = .returned (.tuple #[.int .i64 4, .bool true]) ∧ w = w' := by
  have hby : Bytes w w.heap.size A L6 := by obtain ⟨A', c', e, _, h, _⟩ := hi; injection e with e; subst e; exact h
  obtain ⟨bl, ol, rfl, hbl, hcl⟩ := hby.cells (by decide)
  have c0 : w.cell? ⟨bl, ol, none⟩ = some (.int .u8 1) := hcl 0 (by decide)
  have c1 : w.cell? ⟨bl, ol + 1, none⟩ = some (.int .u8 1) := hcl 1 (by decide)
  have c2 : w.cell? ⟨bl, ol + 2, none⟩ = some (.int .u8 8) := hcl 2 (by decide)
  have c3 : w.cell? ⟨bl, ol + 3, none⟩ = some (.int .u8 10) := hcl 3 (by decide)
  clear hby hcl hi
  go_enter Try.func21, Try.ntmps21
  go_wp2_with fail
  go_loop [4] (fun i => StRel i) (fun i => (12 - intOf i).toNat)
  case atStart => exact ⟨0, by omega, rfl⟩
  case round =>
    obtain ⟨k, hk, rfl⟩ := hrel
    have h3 : k = 0 ∨ k = 1 ∨ k = 2 := by omega
    rcases h3 with rfl | rfl | rfl
    · go_wp2_with fail
      go_round
      case rel => exact ⟨1, by omega, rfl⟩
      case measure => simp [intOf]
    · go_wp2_with fail
      go_round
      case rel => exact ⟨2, by omega, rfl⟩
      case measure => simp [intOf]
    · go_wp2_with fail
      go_ret2
      exact ⟨rfl, rfl⟩
set_option maxHeartbeats 1000000 in
theorem awake06 (w : World) : Calls Try.prog 20 #[] w fun e w' => e = .returned (.bool true) ∧ Below w.heap.size w w' := by
  go_enter Try.func20, Try.ntmps20
  go_wp2_with fail
  refine (stamps6 (some ⟨w.heap.size, 0, none⟩) 12 _ (isb_lit w L6 (by decide))).mono ?_
  rintro e w1 ⟨rfl, rfl⟩
  go_wp2_with fail
  go_ret
  exact ⟨rfl, (Below.refl _ _).alloc (Nat.le_refl _) _⟩
end Go.Proofs.Ytkgmgmlicgjfdaa
