/-
  OctetBack (P1.4) answers true and leaves its arguments as they were, for all numbers and sizes: what Put wrote is read back. No condition.
-/
import Derived.Test.YtkdcaipadejchaaRows
import Derived.WalkKit
import Derived.ProofKit
import Derived.OpenShut
import Derived.ShutString
import Derived.ChangeOld
import Derived.Below
import Derived.Test.YtkdcaipadejchaaOctS
import Derived.Test.YtkdcaipadejchaaLinB
import Derived.Deep.RegionHeld3
namespace Go.Proofs.Ytkdcaipadejchaa.octetBack
open Go.ChangeShapes Go.WideShapes Go.ChangeAt Go.RowKit
open Go.ChangeMaps (open_string shut_string)
open Go.Proofs.Ytkdcaipadejchaa
set_option linter.unusedVariables false

theorem own : ownKnob Try.prog.godebug = none := by kernel_rfl
theorem laidOut : laidOutB Try.prog = true := by kernel_rfl

/-! ### Plain mathematics: numbers in bytes, one behind the other -/
def szk (s : List Int) (k : Nat) : Nat := (at0 s k).toNat % 9
def catB (l s : List Int) : Nat → List Int | 0 => [] | k + 1 => catB l s k ++ be (at0 l k).toNat (szk s k)
def tailB (l s : List Int) : Nat → Nat → List Int | _, 0 => [] | k, d + 1 => be (at0 l k).toNat (szk s k) ++ tailB l s (k + 1) d
theorem cat_tail (l s : List Int) : ∀ (d k : Nat), catB l s (k + d) = catB l s k ++ tailB l s k d
  | 0, k => by simp [tailB]
  | d + 1, k => by rw [show k + (d + 1) = (k + 1) + d by omega, cat_tail l s d (k + 1), catB, tailB, List.append_assoc]
theorem catB_le (l s : List Int) (k : Nat) : (catB l s k).length ≤ 8 * k := by
  induction k with
  | zero => simp [catB]
  | succ k ih => rw [catB, List.length_append, be_len]; have : szk s k < 9 := Nat.mod_lt _ (by omega); omega
theorem catB_ok (l s : List Int) (k : Nat) : Octets (catB l s k) := by
  induction k with
  | zero => exact Octets.nil
  | succ k ih => exact ih.app (be_ok _ _)
theorem tailB_ok (l s : List Int) : ∀ (d k : Nat), Octets (tailB l s k d)
  | 0, _ => Octets.nil
  | d + 1, k => (be_ok _ _).app (tailB_ok l s d (k + 1))
def U64s (w : World) (B : Nat) (A : Option Addr) (l : List Int) : Prop := Arr w B 1 A l.length fun i _ => .int .u64 (at0 l i)
theorem U64s.cells {w : World} {B : Nat} {A : Option Addr} {l : List Int} (h : U64s w B A l) (h0 : 0 < l.length) :
    ∃ b off, A = some ⟨b, off, none⟩ ∧ b < B ∧ ∀ k, k < l.length → w.cell? ⟨b, off + k, none⟩ = some (.int .u64 (at0 l k)) := by
  obtain ⟨b, off, hA, hb, hc⟩ := h h0
  exact ⟨b, off, hA, hb, fun k hk => by simpa using hc k 0 hk (by omega)⟩
def Wide (l : List Int) : Prop := ∀ k, 0 ≤ at0 l k ∧ at0 l k < 18446744073709551616
section
open Go.ChangeShapes Go.WideShapes Go.Deep
variable {H : Type} {enc : TypeId × Value → H} {P : Program} {w : World} {held : Bool} {spare : Nat → Bool}
theorem open_u64s {t e : TypeId} {n c : Nat} {A : Option Addr} {d : DataW H} {p : List MemPlace} (ht : P.underlying t = some (.slice e)) (he : P.underlying e = some (.int .u64)) (hs : P.cellsOf e = 1)
    (h : DataW.Trod enc P w 0 spare held t (.slice A n c) d p) :
    ∃ l : List Int, l.length = n ∧ n ≤ maxLen ∧ U64s w w.heap.size A l ∧ Wide l := by
  obtain ⟨hnc, hcm, hr⟩ := open_els ht hs (by omega) h
  by_cases hn : n = 0
  · subst hn; exact ⟨[], rfl, by omega, fun h => absurd h (by simp), fun k => by simp [at0]⟩
  obtain ⟨b, off, rfl, hb, hi⟩ := hr (by omega)
  have key : ∀ i, i < n → ∃ x : Int, w.cell? ⟨b, off + i * 1, none⟩ = some (.int .u64 x) ∧ 0 ≤ x ∧ x < 18446744073709551616 := by
    intro i hin
    obtain ⟨cs, m, y, hl, hc, htr⟩ := hi i hin
    match cs, hl with
    | [a0], _ =>
      obtain ⟨n0, e0, _, w0⟩ := DataW.trod_int he htr
      injection e0 with e0
      subst e0
      exact ⟨n0, by simpa using hc 0 (by omega), by have := bounds_u64 w0; omega⟩
  obtain ⟨l, hl, hp⟩ := list_of n key
  refine ⟨l, hl, by omega, fun _ => ⟨b, off, rfl, hb, fun i j hi hj => ?_⟩, fun k => ?_⟩
  · obtain rfl : j = 0 := by omega
    exact (hp i (at0 l i) (by simp [at0, List.getD, hi])).1
  · by_cases hk : k < l.length
    · exact (hp k (at0 l k) (by simp [at0, List.getD, hk])).2
    · simp [at0, List.getD, List.getElem?_eq_none (Nat.le_of_not_lt hk)]
end
/-! ### The walk -/
def Rel1 (w : World) (l s : List Int) (N : Nat) (v i : Value) (wr : World) : Prop := ∃ k : Nat, k ≤ N ∧ i = .int .i64 k ∧ IsB (catB l s k) (catB l s k).length v wr ∧ Below w.heap.size w wr
def Rel2 (w : World) (g : Nat) (l s : List Int) (N : Nat) (i : Value) (wr : World) : Prop := ∃ k d : Nat, k + d = N ∧ i = .int .i64 k ∧ RD wr g (tailB l s k d) false ∧ Below w.heap.size w wr
/-- How many numbers there are. -/
def Ends (l s : List Int) (N : Nat) : Prop := N ≤ l.length ∧ N ≤ s.length ∧ N ≤ 50 ∧ (l.length ≤ N ∨ (N < l.length ∧ s.length ≤ N) ∨ (N < l.length ∧ N < s.length ∧ 50 ≤ N))

set_option maxRecDepth 100000 in
set_option maxHeartbeats 4000000 in
theorem walk (A X : Option Addr) (c d : Nat) (l s : List Int) (N : Nat) (w : World) (h : U64s w w.heap.size A l) (hx : Bytes w w.heap.size X s) (hw : Wide l) (ho : Octets s) (hlm : l.length ≤ maxLen) (hsm : s.length ≤ maxLen) (hN : Ends l s N) :
    Calls Try.prog 4 #[.slice A l.length c, .slice X s.length d] w fun e w' => e = .returned (.bool true) ∧ Below w.heap.size w w' := by
  have HA := hide h; have HX := hide hx; have HW := hide hw; have HO := hide ho
  unfold maxLen at hlm hsm
  have HN := hide hN
  obtain ⟨n1, n2, n3, n4⟩ := hN
  clear h hx hw ho
  go_enter Try.func4, Try.ntmps4
  go_wp2_with fail
  go_loopw [5, 6] (fun v i wr => Rel1 w l s N v i wr) (fun _ i _ => (N - intOf i).toNat)
  case atStart => exact ⟨0, Nat.zero_le _, rfl, ⟨none, 0, rfl, rfl, Bytes.nil _ _ _, Nat.le_refl _, by unfold maxLen; omega, fun _ => rfl⟩, Below.refl _ _⟩
  case round =>
    obtain ⟨k, hk, rfl, hv, hb⟩ := hrel
    obtain ⟨A5, c5, rfl, q1, q2, q3, q4, q5⟩ := hv
    have HB1 := Lib.hid hb
    have IV := hide (show IsB (catB l s k) (catB l s k).length (.slice A5 (catB l s k).length c5) wr from ⟨A5, c5, rfl, q1, q2, q3, q4, q5⟩)
    clear hb q1 q2 q3 q4 q5
    by_cases hlt : k < N
    · obtain ⟨bl, ol, rfl, hbl, hcl⟩ := HA.out.cells (by omega)
      obtain ⟨bs, os, rfl, hbs, hcs⟩ := HX.out.cells (by omega)
      have d1 := (HB1.out.cell (p := ⟨bl, ol + k, none⟩) hbl).trans (hcl k (by omega))
      have d2 := (HB1.out.cell (p := ⟨bs, os + k, none⟩) hbs).trans (hcs k (by omega))
      have hxw := HW.out k
      have hyw := HO.out k
      have hcat : catB l s (k + 1) = catB l s k ++ be (at0 l k).toNat ((at0 s k).toNat % 9) := rfl
      have hln := catB_le l s k
      obtain ⟨x, hx⟩ := Int.eq_ofNat_of_zero_le hxw.1
      obtain ⟨y, hy⟩ := Int.eq_ofNat_of_zero_le hyw.1
      rw [hx] at d1 hcat
      rw [hy] at d2 hcat
      rw [Int.toNat_natCast, Int.toNat_natCast] at hcat
      have hxb : x < 18446744073709551616 := by omega
      have hyb : y ≤ 255 := by omega
      have D1 := Lib.hid d1; have D2 := Lib.hid d2; have HC := hide hcat; have HLEN := Lib.hid hln
      have hbl2 : bl < wr.heap.size := Nat.lt_of_lt_of_le hbl HB1.out.size
      have hbs2 : bs < wr.heap.size := Nat.lt_of_lt_of_le hbs HB1.out.size
      have k0 : (0 : Int) ≤ (k : Int) := by omega
      have kl : (k : Int) < (l.length : Int) := by omega
      have ks : (k : Int) < (s.length : Int) := by omega
      have k50 : (k : Int) < 50 := by omega
      clear d1 d2 hcat hcl hcs hxw hyw hx hy hln
      go_wp2_with fail
      refine Lin.wp_region_lin_tail Lin.keeps (n := 89) 12 (fun slotq => match slotq with | 25 => Lin.Spec.val (.slice A5 (catB l s k).length c5) | 26 => Lin.Spec.val (.slice (some ⟨bl, ol, none⟩) l.length c) | 27 => Lin.Spec.val (.int .i64 (k : Int)) | 28 => Lin.Spec.val (.pointer (some ⟨bl, ol + k, none⟩)) | 29 => Lin.Spec.val (.int .u64 (x : Int)) | 30 => Lin.Spec.val (.slice (some ⟨bs, os, none⟩) s.length d) | 31 => Lin.Spec.val (.int .i64 (k : Int)) | 32 => Lin.Spec.val (.pointer (some ⟨bs, os + k, none⟩)) | 33 => Lin.Spec.val (.int .u8 (y : Int)) | 34 => Lin.Spec.val (.int .u8 ((y % 9 : Nat) : Int)) | 35 => Lin.Spec.val (.int .i64 ((y % 9 : Nat) : Int)) | 36 => Lin.Spec.sl (catB l s (k + 1)) (catB l s (k + 1)).length | _ => Lin.Spec.any) (by kernel_rfl) rfl (by kernel_rfl) ⟨?_, ?_, ?_, ?_, ?_, ?_, ?_, ?_, ?_, ?_, ?_, ?_, trivial⟩ ?_
      · intro ρ wq hb ho hc hd
        have hC : ∀ v, ρ (.const v) = v := fun v => hc _ (by intro t e; cases e)
        have hF : ∀ f, ρ (.func f) = .func (.func f) #[] #[] := fun f => hc _ (by intro t e; cases e)
        have h5 : ρ (.tmp 5) = .slice A5 (catB l s k).length c5 := ho 5 (by kernel_rfl)
        exact Lin.Runs.value Lin.keeps (Lin.exec_move rfl) h5
      · intro ρ wq hb ho hc hd
        have hC : ∀ v, ρ (.const v) = v := fun v => hc _ (by intro t e; cases e)
        have hF : ∀ f, ρ (.func f) = .func (.func f) #[] #[] := fun f => hc _ (by intro t e; cases e)
        have h0 : ρ (.tmp 0) = .slice (some ⟨bl, ol, none⟩) l.length c := ho 0 (by kernel_rfl)
        exact Lin.Runs.value Lin.keeps (Lin.exec_move rfl) h0
      · intro ρ wq hb ho hc hd
        have hC : ∀ v, ρ (.const v) = v := fun v => hc _ (by intro t e; cases e)
        have hF : ∀ f, ρ (.func f) = .func (.func f) #[] #[] := fun f => hc _ (by intro t e; cases e)
        have h6 : ρ (.tmp 6) = .int .i64 (k : Int) := ho 6 (by kernel_rfl)
        exact Lin.Runs.value Lin.keeps (Lin.exec_move rfl) h6
      · intro ρ wq hb ho hc hd
        have hC : ∀ v, ρ (.const v) = v := fun v => hc _ (by intro t e; cases e)
        have hF : ∀ f, ρ (.func f) = .func (.func f) #[] #[] := fun f => hc _ (by intro t e; cases e)
        have h26 : ρ (.tmp 26) = .slice (some ⟨bl, ol, none⟩) l.length c := hd 26 (by kernel_rfl)
        have h27 : ρ (.tmp 27) = .int .i64 (k : Int) := hd 27 (by kernel_rfl)
        exact Lin.Runs.value Lin.keeps (v := .pointer (some ⟨bl, ol + k, none⟩)) (by simp [execOp, go_sem, hC, hF, h26, h27, k0, kl]) rfl
      · intro ρ wq hb ho hc hd
        have hC : ∀ v, ρ (.const v) = v := fun v => hc _ (by intro t e; cases e)
        have hF : ∀ f, ρ (.func f) = .func (.func f) #[] #[] := fun f => hc _ (by intro t e; cases e)
        have h28 : ρ (.tmp 28) = .pointer (some ⟨bl, ol + k, none⟩) := hd 28 (by kernel_rfl)
        have dl := (hb.cell (p := ⟨bl, ol + k, none⟩) hbl2).trans D1.out
        exact Lin.Runs.value Lin.keeps (v := .int .u64 (x : Int)) (by simp [execOp, go_sem, hC, hF, h28, dl]) rfl
      · intro ρ wq hb ho hc hd
        have hC : ∀ v, ρ (.const v) = v := fun v => hc _ (by intro t e; cases e)
        have hF : ∀ f, ρ (.func f) = .func (.func f) #[] #[] := fun f => hc _ (by intro t e; cases e)
        have h1 : ρ (.tmp 1) = .slice (some ⟨bs, os, none⟩) s.length d := ho 1 (by kernel_rfl)
        exact Lin.Runs.value Lin.keeps (Lin.exec_move rfl) h1
      · intro ρ wq hb ho hc hd
        have hC : ∀ v, ρ (.const v) = v := fun v => hc _ (by intro t e; cases e)
        have hF : ∀ f, ρ (.func f) = .func (.func f) #[] #[] := fun f => hc _ (by intro t e; cases e)
        have h6 : ρ (.tmp 6) = .int .i64 (k : Int) := ho 6 (by kernel_rfl)
        exact Lin.Runs.value Lin.keeps (Lin.exec_move rfl) h6
      · intro ρ wq hb ho hc hd
        have hC : ∀ v, ρ (.const v) = v := fun v => hc _ (by intro t e; cases e)
        have hF : ∀ f, ρ (.func f) = .func (.func f) #[] #[] := fun f => hc _ (by intro t e; cases e)
        have h30 : ρ (.tmp 30) = .slice (some ⟨bs, os, none⟩) s.length d := hd 30 (by kernel_rfl)
        have h31 : ρ (.tmp 31) = .int .i64 (k : Int) := hd 31 (by kernel_rfl)
        exact Lin.Runs.value Lin.keeps (v := .pointer (some ⟨bs, os + k, none⟩)) (by simp [execOp, go_sem, hC, hF, h30, h31, k0, ks]) rfl
      · intro ρ wq hb ho hc hd
        have hC : ∀ v, ρ (.const v) = v := fun v => hc _ (by intro t e; cases e)
        have hF : ∀ f, ρ (.func f) = .func (.func f) #[] #[] := fun f => hc _ (by intro t e; cases e)
        have h32 : ρ (.tmp 32) = .pointer (some ⟨bs, os + k, none⟩) := hd 32 (by kernel_rfl)
        have ds := (hb.cell (p := ⟨bs, os + k, none⟩) hbs2).trans D2.out
        exact Lin.Runs.value Lin.keeps (v := .int .u8 (y : Int)) (by simp [execOp, go_sem, hC, hF, h32, ds]) rfl
      · intro ρ wq hb ho hc hd
        have hC : ∀ v, ρ (.const v) = v := fun v => hc _ (by intro t e; cases e)
        have hF : ∀ f, ρ (.func f) = .func (.func f) #[] #[] := fun f => hc _ (by intro t e; cases e)
        have h33 : ρ (.tmp 33) = .int .u8 (y : Int) := hd 33 (by kernel_rfl)
        exact Lin.Runs.value Lin.keeps (v := .int .u8 ((y % 9 : Nat) : Int)) (by simp [execOp, go_sem, hC, hF, h33]; first | rfl | omega | (rw [Int.tmod_eq_emod_of_nonneg (by omega)]; omega)) rfl
      · intro ρ wq hb ho hc hd
        have hC : ∀ v, ρ (.const v) = v := fun v => hc _ (by intro t e; cases e)
        have hF : ∀ f, ρ (.func f) = .func (.func f) #[] #[] := fun f => hc _ (by intro t e; cases e)
        have h34 : ρ (.tmp 34) = .int .u8 ((y % 9 : Nat) : Int) := hd 34 (by kernel_rfl)
        exact Lin.Runs.value Lin.keeps (v := .int .i64 ((y % 9 : Nat) : Int)) (by simp [execOp, go_sem, hC, hF, h34]; first | rfl | omega | exact IntWalk.i64_in _ (by omega)) rfl
      · intro ρ wq hb ho hc hd
        have hC : ∀ v, ρ (.const v) = v := fun v => hc _ (by intro t e; cases e)
        have hF : ∀ f, ρ (.func f) = .func (.func f) #[] #[] := fun f => hc _ (by intro t e; cases e)
        have h25 : ρ (.tmp 25) = .slice A5 (catB l s k).length c5 := hd 25 (by kernel_rfl)
        have h29 : ρ (.tmp 29) = .int .u64 (x : Int) := hd 29 (by kernel_rfl)
        have h35 : ρ (.tmp 35) = .int .i64 ((y % 9 : Nat) : Int) := hd 35 (by kernel_rfl)
        refine Lin.Runs.call Lin.keeps (f := 19) (args := #[.slice A5 (catB l s k).length c5, .int .u64 (x : Int), .int .i64 ((y % 9 : Nat) : Int)]) (by simp [execOp, go_sem, hC, hF, hc, h25, h29, h35]) ?_
        have h := put_p x ((y % 9 : Nat) : Int) (IV.out.st hb) (by have := HLEN.out; omega) hxb (by omega) (by omega)
        rw [sz8_mid (k := y % 9) (by omega), ← HC.out] at h
        exact h
      · intro vals w2 hb2 hv
        have h5 : IsB (catB l s (k + 1)) (catB l s (k + 1)).length (vals 36) w2 := hv 36 (by kernel_rfl)
        change wpList _ _ _ [_] _ _
        simp only [Lin.putAll, Option.getD_some, List.take_succ_cons, List.take_zero, List.drop_succ_cons, List.drop_zero]
        have HB2 := Lib.hid (HB1.out.trans (hb2.mono HB1.out.size))
        have H5 := hide h5
        clear hv hb2 h5
        go_simp
        generalize vals = vv at *
        go_wp2_with fail
        go_roundw
        case rel => exact ⟨k + 1, by omega, by go_num, H5.out, HB2.out⟩
        case measure => simp [intOf]; omega
    · obtain rfl : k = N := by omega
      have hlen := catB_le l s k
      have e0 := cat_tail l s k 0
      rw [Nat.zero_add, show catB l s 0 = [] from rfl, List.nil_append] at e0
      have E0 := Lib.hid e0
      clear e0
      have B5 : Hid (Bytes wr wr.heap.size A5 (catB l s k)) := by obtain ⟨A, c, e, _, h, _⟩ := IV.out; injection e with e; subst e; exact hide h
      have N5 : Hid (A5 = none → c5 = 0) := by obtain ⟨A, c, e, _, _, _, _, h⟩ := IV.out; injection e with e1 e2 e3; subst e1; subst e3; exact hide h
      rcases n4 with h4 | ⟨h4, h5⟩ | ⟨h4, h5, h6⟩
      all_goals
        go_wp2_with fail
        refine (read_any A5 c5 (catB l s k) wr _ B5.out (Nat.le_refl _) (by omega) N5.out).mono ?_
        rintro e w1 ⟨g, rfl, hr, hb1, hg⟩
        have hgw : w.heap.size ≤ g := Nat.le_trans HB1.out.size hg
        have HB2 := Lib.hid (HB1.out.trans (hb1.mono HB1.out.size))
        rw [E0.out] at hr
        have HR := Lib.hid hr
        clear hr hb1 hg
        go_wp2_with fail
        go_loopw [8] (fun i wr => Rel2 w g l s k i wr) (fun i _ => (k - intOf i).toNat)
        case atStart => exact ⟨0, k, by omega, rfl, HR.out, HB2.out⟩
        case round =>
          obtain ⟨q, d', hq, rfl, hr, hb⟩ := hrel
          have HR2 := Lib.hid hr; have HB3 := Lib.hid hb
          clear hr hb HR HB2
          by_cases hlt : q < k
          · obtain ⟨d2, rfl⟩ : ∃ d2, d' = d2 + 1 := ⟨d' - 1, by omega⟩
            obtain ⟨bl, ol, rfl, hbl, hcl⟩ := HA.out.cells (by omega)
            obtain ⟨bs, os, rfl, hbs, hcs⟩ := HX.out.cells (by omega)
            have d1 := (HB3.out.cell (p := ⟨bl, ol + q, none⟩) hbl).trans (hcl q (by omega))
            have dd2 := (HB3.out.cell (p := ⟨bs, os + q, none⟩) hbs).trans (hcs q (by omega))
            have hxw := HW.out q
            have hyw := HO.out q
            have htl : tailB l s q (d2 + 1) = be (at0 l q).toNat ((at0 s q).toNat % 9) ++ tailB l s (q + 1) d2 := rfl
            obtain ⟨x, hx⟩ := Int.eq_ofNat_of_zero_le hxw.1
            obtain ⟨y, hy⟩ := Int.eq_ofNat_of_zero_le hyw.1
            rw [hx] at d1 htl
            rw [hy] at dd2 htl
            rw [Int.toNat_natCast, Int.toNat_natCast] at htl
            rw [htl] at HR2
            have hxb : x < 18446744073709551616 := by omega
            have hyb : y ≤ 255 := by omega
            have D1 := Lib.hid d1; have D2 := Lib.hid dd2
            have hz : y % 9 ≤ 8 := by omega
            have hrd := HR2.out.lt
            have ngl : bl ≠ g := by omega
            have ngs : bs ≠ g := by omega
            have hblq : bl < wr.heap.size := Nat.lt_of_lt_of_le hbl HB3.out.size
            have hbsq : bs < wr.heap.size := Nat.lt_of_lt_of_le hbs HB3.out.size
            have q0 : (0 : Int) ≤ (q : Int) := by omega
            have ql : (q : Int) < (l.length : Int) := by omega
            have qs : (q : Int) < (s.length : Int) := by omega
            have q50 : (q : Int) < 50 := by omega
            have hrem : (y : Int).tmod 9 = ((y % 9 : Nat) : Int) := by rw [Int.tmod_eq_emod_of_nonneg (by omega)]; omega
            have hrem2 : (y : Int) % 9 = ((y % 9 : Nat) : Int) := by omega
            have hwz : IntKind.i64.wrap ((y % 9 : Nat) : Int) = ((y % 9 : Nat) : Int) := IntWalk.i64_in _ (by omega)
            have hnum := num_ok g (be x (y % 9) ++ tailB l s (q + 1) d2) false (y % 9) wr.drew HR2.out ((be_ok _ _).app (tailB_ok _ _ _ _)) (by rw [List.length_append, be_len]; omega) hz
            have htake : (be x (y % 9) ++ tailB l s (q + 1) d2).take (y % 9) = be x (y % 9) := List.take_left' (be_len _ _)
            have hdrop : (be x (y % 9) ++ tailB l s (q + 1) d2).drop (y % 9) = tailB l s (q + 1) d2 := List.drop_left' (be_len _ _)
            unfold Num_ at hnum
            rw [htake, hdrop] at hnum
            have hby := fun W => rbytes_p x ((y % 9 : Nat) : Int) W hxb
            rw [sz8_mid hz] at hby
            have HNUM := hide hnum; have HBY := hide hby; have HQ := Lib.hid hq
            clear d1 dd2 htl hx hy hxw hyw hcl hcs hnum htake hdrop hby hq hlt
            generalize hzz : y % 9 = z at *
            clear hzz
            go_wp2_with fail
            go_region_held3 (fun w' => w'.cell? ⟨bl, ol + q, none⟩ = some (.int .u64 (x : Int)) ∧ w'.cell? ⟨bs, os + q, none⟩ = some (.int .u8 (y : Int)))
              (first
                | exact ⟨D1.out, D2.out⟩
                | exact ⟨(World.cell?_of_block (hgr.block bl hblq (by simpa using ngl))).trans D1.out, (World.cell?_of_block (hgr.block bs hbsq (by simpa using ngs))).trans D2.out⟩
                | exact ⟨(hbb.cell (p := ⟨bl, ol + q, none⟩) (Nat.lt_of_lt_of_le hblq hgr.size)).trans ((World.cell?_of_block (hgr.block bl hblq (by simpa using ngl))).trans D1.out), (hbb.cell (p := ⟨bs, os + q, none⟩) (Nat.lt_of_lt_of_le hbsq hgr.size)).trans ((World.cell?_of_block (hgr.block bs hbsq (by simpa using ngs))).trans D2.out)⟩)
              (first
                | (go_at_call 23; refine (unhide HNUM).mono ?_; rintro e w3 ⟨rfl, hr3, hgr⟩)
                | (go_at_call 18; refine (unhide HBY _).mono ?_; rintro e w4 ⟨v4, rfl, hbb, hv4⟩)
                | (go_at_call 24; refine (rnum_p hv4 (be_ok _ _) (by rw [be_len]; omega)).mono ?_; rintro e w5 ⟨rfl, rfl⟩))
            have hz1 := HB3.out.size
            have hr4 := hr3.below hbb
            have hb4 := (below_only HB3.out.drew hgr hgw).trans (hbb.mono (Nat.le_trans hz1 hgr.size))
            have HR4 := Lib.hid hr4; have HB4 := Lib.hid hb4
            clear hr3 hgr hbb hv4 hr4 hb4 HNUM HBY
            go_wp2_with fail
            go_roundw
            case rel => exact ⟨q + 1, d2, by have := HQ.out; omega, by go_num, HR4.out, HB4.out⟩
            case measure => simp [intOf]; have := HQ.out; omega
          · obtain rfl : q = k := by omega
            obtain rfl : d' = 0 := by omega
            go_wp2_with fail
            refine (left_any g [] false _ HR2.out).mono ?_
            rintro e w2 ⟨rfl, rfl⟩
            go_wp2_with fail
            refine (bad_any g [] false _ HR2.out).mono ?_
            rintro e w2 ⟨rfl, rfl⟩
            go_wp2_with fail
            refine (awake01 _).mono ?_
            rintro e w2 ⟨rfl, hb2⟩
            have HB5 := Lib.hid (HB3.out.trans (hb2.mono HB3.out.size))
            clear hb2
            go_wp2_with fail
            go_ret
            exact ⟨rfl, HB5.out⟩
theorem ends_of (l s : List Int) : ∃ N, Ends l s N := by
  by_cases h1 : l.length ≤ s.length ∧ l.length ≤ 50
  · exact ⟨l.length, Nat.le_refl _, h1.1, h1.2, .inl (Nat.le_refl _)⟩
  · by_cases h2 : s.length ≤ 50 ∧ s.length < l.length
    · exact ⟨s.length, by omega, Nat.le_refl _, h2.1, .inr (.inl ⟨h2.2, Nat.le_refl _⟩)⟩
    · exact ⟨50, by omega, by omega, Nat.le_refl _, .inr (.inr ⟨by omega, by omega, Nat.le_refl _⟩)⟩
theorem walk_all (A X : Option Addr) (c d : Nat) (l s : List Int) (w : World) (h : U64s w w.heap.size A l) (hx : Bytes w w.heap.size X s) (hw : Wide l) (ho : Octets s) (hlm : l.length ≤ maxLen) (hsm : s.length ≤ maxLen) :
    Calls Try.prog 4 #[.slice A l.length c, .slice X s.length d] w fun e w' => e = .returned (.bool true) ∧ Below w.heap.size w w' := by
  obtain ⟨N, hN⟩ := ends_of l s
  exact walk A X c d l s N w h hx hw ho hlm hsm hN

/-! ### The step from the walk to the row -/
set_option maxRecDepth 100000 in
theorem lifted (os : Os) (started : os.Started) (H : Type) (enc : TypeId × Value → H) :
    ReturnsInHanded {} Try.checked os 4 .any (Rows.octetBackSpec.pre6 enc Try.prog Try.f4 Rows.octetBackRow.domain false) (Rows.octetBackSpec.post enc Try.prog Try.f4 false true false false) := by
  refine returnsInHanded_of_change (C := Try.checked) own started (by kernel_rfl) Try.func4
    (ChangeSpec.witness6 (enc := enc) (C := Try.checked) false ⟨#[], #[.slice none 0 0, .slice none 0 0], []⟩ 8 (by kernel_rfl) (by kernel_rfl) (by kernel_rfl) (by kernel_rfl)) ?_
  intro W base args ds gs before hval0 hW hcnd _
  have hval : ∀ (j : Nat) t v, Try.f4.params[j]? = some t → args[j]? = some v → Value.okWide Try.prog W .any base t v := hval0
  have hW' := hW
  obtain ⟨p, q, hA0, hV, rfl, hfz, hnd⟩ := hW
  have hA : DataW.TrodAll enc Try.prog W 0 (fun _ => true) true Try.f4.params.toList args.toList ds p := hA0
  rw [Try.params4] at hA hval
  obtain ⟨v0, vs0, d0, ds0, p0, q0, hargs, rfl, rfl, h0, r0⟩ := trodAll_cons hA
  obtain ⟨v1, vs1, d1, ds1, p1, q1, rfl, rfl, rfl, h1, r1⟩ := trodAll_cons r0
  obtain ⟨rfl, rfl, rfl⟩ := trodAll_nil r1
  obtain rfl : args = #[v0, v1] := by cases args; simp_all
  obtain ⟨rfl, rfl⟩ := trodVars_none hV
  have k0 := h0
  have lt0 : ∀ x ∈ p0, x.block < W.heap.size := by obtain ⟨m, hm⟩ := k0; exact DataW.trod_lt m _ _ _ hm
  have ok0 := hval 0 35 v0 rfl rfl
  have k1 := h1
  have lt1 : ∀ x ∈ p1, x.block < W.heap.size := by obtain ⟨m, hm⟩ := k1; exact DataW.trod_lt m _ _ _ hm
  have ok1 := hval 1 22 v1 rfl rfl
  clear hA0 hval0
  obtain ⟨A, na, c, rfl⟩ := okWide_slice Try.underlying35 ok0
  obtain ⟨l, rfl, ml, hl, wl⟩ := open_u64s (e := 23) Try.underlying35 Try.underlying23 (by kernel_rfl) h0
  obtain ⟨X, nx, d, rfl⟩ := okWide_slice Try.underlying22 ok1
  obtain ⟨s, rfl, os, hs, hbs⟩ := open_isb (e := 5) Try.underlying22 Try.underlying5 (by kernel_rfl) h1
  refine (walk_all A X c d l s W hl hbs wl os ml hs.maxlen).mono fun e W' ⟨he, bel⟩ => ?_
  subst he
  exact ⟨_, rfl, _, _, _, [], _, [], hW', trodAll_mk1 (shut_bool Try.underlying4 _), (trodAll_cons_mk (Below.trod laidOut (by kernel_rfl) (of_decide_eq_true (by kernel_rfl)) k0 bel lt0) (trodAll_cons_mk (Below.trod laidOut (by kernel_rfl) (of_decide_eq_true (by kernel_rfl)) k1 bel lt1) trodAll_mk0)), rfl, bel.frame _, fun h => by cases h⟩

theorem over : Rows.octetBackRow.holds Try.pinned (OpenSpec.ofChange Rows.octetBackSpec) :=
  OpenClaim.holds_of_wide 4 Try.f4 rfl rfl rfl rfl rfl rfl rfl ⟨rfl, rfl, rfl, rfl, rfl⟩ rfl rfl rfl rfl rfl (by kernel_rfl) Try.func4 (by kernel_rfl)
    (of_decide_eq_true (by kernel_rfl)) (by unfold Func.isWrapper; first | (rw [if_pos (by decide +kernel)]; kernel_rfl) | (rw [if_neg (by decide +kernel)]; exact ⟨rfl, rfl⟩))
    (fun os started H enc _ => lifted os started H enc)

theorem proved : Rows.OctetBackSaid := over
#print axioms proved
end Go.Proofs.Ytkdcaipadejchaa.octetBack
