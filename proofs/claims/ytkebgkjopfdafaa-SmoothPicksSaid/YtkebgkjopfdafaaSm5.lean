/-
  Pick of package smooth, one after another; awake of layer 19. Helper of the claims SmoothShares and SmoothPicks. No condition.
-/
import Derived.Test.YtkebgkjopfdafaaSm4
namespace Go.Proofs.Ytkebgkjopfdafaa
open Go.ChangeShapes Go.WideShapes Go.ChangeAt Go.RowKit
set_option linter.unusedSimpArgs false
set_option linter.unusedVariables false
set_option maxRecDepth 100000
/-- What a Pick may change: the block of the balancer, and its shares from B on. -/
structure PkW (gs B : Nat) (w w' : World) : Prop where
  os : w'.os = w.os
  tape : w'.tape = w.tape
  output : w'.output = w.output
  size : w.heap.size ≤ w'.heap.size
  block : ∀ i, i < w.heap.size → i ≠ gs → (i < B ∨ ∀ cs, ¬ Is w i 136 cs) → w'.heap[i]? = w.heap[i]?
theorem PkW.is {gs B i : Nat} {t : TypeId} {cs : Array Value} {w w' : World} (k : PkW gs B w w') (h : Is w i t cs) (hg : i ≠ gs) (ht : t ≠ 136) : Is w' i t cs :=
  (k.block i h.lt hg (.inr fun cs' h' => h.differ h' ht rfl)).trans h
theorem PkW.own {gs B b e s n : Nat} {v : Value} {xs : List Value} {w w' : World} (k : PkW gs B w w') (h : w.ownsRow b e s v n xs) (he : e ≠ 136) (hg : v.ownBlock ≠ some gs) : w'.ownsRow b e s v n xs := by
  obtain ⟨h1, h2⟩ := h
  refine ⟨h1, ?_⟩
  rcases h2 with ⟨a, b⟩ | ⟨g, cap, cur, rfl, hb, hh, rest⟩
  · exact .inl ⟨a, b⟩
  · exact .inr ⟨g, cap, cur, rfl, hb, k.is (cs := cur) hh (fun e => hg (by rw [← e]; rfl)) he, rest⟩
theorem PkW.below {gs B n : Nat} {w w' : World} (k : PkW gs B w w') (h1 : n ≤ gs) (h2 : n ≤ B) (h3 : n ≤ w.heap.size) : Below n w w' :=
  ⟨k.os, k.tape, k.output, k.size, fun i hi => k.block i (by omega) (by omega) (.inl (by omega))⟩
/-- The balancer behind k picks among the same candidates. -/
def SmS (kl : List Cand) (m : Nat) (wt : Nat → Int) (gs B k : Nat) (w : World) : Prop :=
  (k = 0 ∧ Is w gs 62 #[.slice none 0 0]) ∨ (0 < k ∧ ∃ g cap, Is w gs 62 #[.slice (some ⟨g, 0, none⟩) m cap] ∧ w.ownsRow B 136 3 (.slice (some ⟨g, 0, none⟩) m cap) m (shc kl (Sm.st wt m (Sm.S wt m) k) m))
theorem SmS.alloc {kl : List Cand} {m : Nat} {wt : Nat → Int} {gs B k : Nat} {w : World} (h : SmS kl m wt gs B k w) (o : Obj) : SmS kl m wt gs B k (w.alloc o) := by
  rcases h with ⟨h1, h2⟩ | ⟨h1, g, cap, h2, h3⟩
  · exact .inl ⟨h1, h2.alloc o⟩
  · exact .inr ⟨h1, g, cap, h2.alloc o, World.ownsRow.alloc h3 o⟩
theorem S_low {f : Nat → Int} (u : Int) : ∀ m, (∀ i, i < m → -u ≤ f i) → -((m : Int) * u) ≤ Sm.S f m
  | 0, _ => by simp [Sm.S]
  | m + 1, h => by
    have := S_low u m (fun i hi => h i (by omega))
    have := h m (by omega)
    simp only [Sm.S]
    rw [show ((m + 1 : Nat) : Int) * u = m * u + u from by rw [Int.natCast_add, Int.add_mul]; simp]
    omega
theorem S_up {f : Nat → Int} (u : Int) (hu : 0 ≤ u) : ∀ m, (∀ i, i < m → -u ≤ f i) → ∀ i, i < m → f i - (m : Int) * u ≤ Sm.S f m
  | 0, _, i, hi => by omega
  | m + 1, h, i, hi => by
    have h1 := S_low u m (fun i hi => h i (by omega))
    have h2 := h m (by omega)
    simp only [Sm.S]
    rw [show ((m + 1 : Nat) : Int) * u = m * u + u from by rw [Int.natCast_add, Int.add_mul]; simp]
    rcases Nat.lt_or_ge i m with hm | hm
    · have := S_up u hu m (fun i hi => h i (by omega)) i hm; omega
    · obtain rfl : i = m := by omega
      omega
theorem st_bound {wt : Nat → Int} {m : Nat} (h0 : 0 < m) (h30 : m ≤ 30) (hw : ∀ i, i < m → 0 < wt i ∧ wt i ≤ 100) (k i : Nat) (hi : i < m) : -1000000 < Sm.st wt m (Sm.S wt m) k i ∧ Sm.st wt m (Sm.S wt m) k i < 1000000 := by
  have hr := S_range m hw
  have hl := Sm.st_low (w := wt) (m := m) (W := Sm.S wt m) h0 rfl (fun i hi => (hw i hi).1) k
  have hs := Sm.st_sum (w := wt) (m := m) (W := Sm.S wt m) h0 rfl k
  have hu := S_up (f := Sm.st wt m (Sm.S wt m) k) 3000 (by omega) m (fun i hi => by have := hl i hi; omega) i hi
  have := hl i hi
  rw [hs] at hu
  omega
theorem pick_step (gs c m k B : Nat) (A : Option Addr) (l kl : List Cand) (wt : Nat → Int) (w : World) (h : Cands w w.heap.size A l) (hl : l.length ≤ 30) (hkl : kp l l.length = kl) (hm : kl.length = m) (h0 : 0 < m) (h30 : m ≤ 30)
    (hw : ∀ i, i < m → (nth kl i).weight = wt i ∧ 0 < wt i ∧ wt i ≤ 100) (hB : B ≤ w.heap.size) (hS : SmS kl m wt gs B k w) :
    Calls Try.prog 33 #[.pointer (some ⟨gs, 0, none⟩), .slice A l.length c] w fun e w' => e = .returned (.tuple #[(nth kl (Sm.bk wt m (Sm.S wt m) k)).val, .bool true]) ∧ SmS kl m wt gs B (k + 1) w' ∧ PkW gs B w w' := by
  rcases hS with ⟨rfl, hs⟩ | ⟨hk, g, cap, hs, ho⟩
  · refine (pick_first gs c m A l kl wt w h hl hkl hm h0 h30 hw hs).mono ?_
    rintro e w' ⟨rfl, g, cap, h1, h2, h3⟩
    exact ⟨rfl, .inr ⟨by omega, g, cap, h1, own_lower h2 hB⟩, ⟨h3.os, h3.tape, h3.output, h3.size, fun i hi hg _ => h3.block i hi hg⟩⟩
  · refine (pick_known gs c g B cap m A l kl (Sm.st wt m (Sm.S wt m) k) wt w h hl hkl hm h0 h30 hw (fun i hi => st_bound h0 h30 (fun i hi => (hw i hi).2) k i hi) hs ho).mono ?_
    rintro e w' ⟨rfl, h1, h2, h3⟩
    refine ⟨rfl, .inr ⟨by omega, g, cap, h1, h2⟩, ⟨h3.os, h3.tape, h3.output, h3.size, fun i hi _ hx => h3.block i hi fun e => ?_⟩⟩
    subst e
    rcases hx with hx | hx
    · have := own_in5 ho (k := i) rfl; omega
    · rcases ho.2 with ⟨h', _⟩ | ⟨g', cap', cur, h', hb, hg, _⟩
      · cases h'
      · injection h' with a1 _ _; injection a1 with a1; injection a1 with a1; subst a1
        exact hx cur hg
def l19 : List Cand := [⟨0, 1, 5, 0⟩, ⟨1, 2, 1, 0⟩, ⟨2, 3, 1, 0⟩]
def w19 (i : Nat) : Int := (nth l19 i).weight
def want19 (k : Nat) : Int := ([1, 1, 2, 1, 3, 1, 1] : List Int).getD k 0
theorem told19 : ∀ k, k < 7 → (nth l19 (Sm.bk w19 3 (Sm.S w19 3) k)).backend = want19 k := by decide +kernel
theorem want_at : ∀ k, k < 7 → (#[.int .i64 1, .int .i64 1, .int .i64 2, .int .i64 1, .int .i64 3, .int .i64 1, .int .i64 1] : Array Value)[k]? = some (.int .i64 (want19 k))
  | 0, _ => rfl
  | 1, _ => rfl
  | 2, _ => rfl
  | 3, _ => rfl
  | 4, _ => rfl
  | 5, _ => rfl
  | 6, _ => rfl
  | k + 7, h => by omega
def AwR (w : World) (gs gl gw : Nat) (v : Value) (wr : World) : Prop :=
  ∃ k : Nat, k ≤ 7 ∧ v = .int .i64 (k : Int) ∧ SmS l19 3 w19 gs w.heap.size k wr ∧ Is wr gl 29 #[.int .i64 0, .int .i64 1, .int .i64 5, .int .u32 0, .int .i64 1, .int .i64 2, .int .i64 1, .int .u32 0, .int .i64 2, .int .i64 3, .int .i64 1, .int .u32 0] ∧ Is wr gw 3 #[.int .i64 1, .int .i64 1, .int .i64 2, .int .i64 1, .int .i64 3, .int .i64 1, .int .i64 1] ∧ Below w.heap.size w wr
set_option maxHeartbeats 4000000 in
theorem awake19 (w : World) : Calls Try.prog 31 #[] w fun e w' => e = .returned (.bool true) ∧ Below w.heap.size w w' := by
  have HB0 := Lib.hid (show Below w.heap.size w (((w.alloc (.cells #[.slice none 0 0] 62)).alloc (.cells #[.int .i64 0, .int .i64 1, .int .i64 5, .int .u32 0, .int .i64 1, .int .i64 2, .int .i64 1, .int .u32 0, .int .i64 2, .int .i64 3, .int .i64 1, .int .u32 0] 29)).alloc (.cells #[.int .i64 1, .int .i64 1, .int .i64 2, .int .i64 1, .int .i64 3, .int .i64 1, .int .i64 1] 3)) from (((Below.refl _ _).alloc (Nat.le_refl _) _).alloc (by simp) _).alloc (by simp; omega) _)
  have S0 := Lib.hid (((Is.new w 62 #[.slice none 0 0]).alloc (.cells #[.int .i64 0, .int .i64 1, .int .i64 5, .int .u32 0, .int .i64 1, .int .i64 2, .int .i64 1, .int .u32 0, .int .i64 2, .int .i64 3, .int .i64 1, .int .u32 0] 29)).alloc (.cells #[.int .i64 1, .int .i64 1, .int .i64 2, .int .i64 1, .int .i64 3, .int .i64 1, .int .i64 1] 3))
  have L0 := (Is.new (w.alloc (.cells #[.slice none 0 0] 62)) 29 #[.int .i64 0, .int .i64 1, .int .i64 5, .int .u32 0, .int .i64 1, .int .i64 2, .int .i64 1, .int .u32 0, .int .i64 2, .int .i64 3, .int .i64 1, .int .u32 0]).alloc (.cells #[.int .i64 1, .int .i64 1, .int .i64 2, .int .i64 1, .int .i64 3, .int .i64 1, .int .i64 1] 3)
  have V0 := Is.new ((w.alloc (.cells #[.slice none 0 0] 62)).alloc (.cells #[.int .i64 0, .int .i64 1, .int .i64 5, .int .u32 0, .int .i64 1, .int .i64 2, .int .i64 1, .int .u32 0, .int .i64 2, .int .i64 3, .int .i64 1, .int .u32 0] 29)) 3 #[.int .i64 1, .int .i64 1, .int .i64 2, .int .i64 1, .int .i64 3, .int .i64 1, .int .i64 1]
  rw [show (w.alloc (.cells #[.slice none 0 0] 62)).heap.size = w.heap.size + 1 from by simp] at L0
  rw [show ((w.alloc (.cells #[.slice none 0 0] 62)).alloc (.cells #[.int .i64 0, .int .i64 1, .int .i64 5, .int .u32 0, .int .i64 1, .int .i64 2, .int .i64 1, .int .u32 0, .int .i64 2, .int .i64 3, .int .i64 1, .int .u32 0] 29)).heap.size = w.heap.size + 1 + 1 from by simp] at V0
  have L0 := Lib.hid L0; have V0 := Lib.hid V0
  go_enter Try.func31, Try.ntmps31
  go_wp2_with fail
  generalize (((w.alloc (.cells #[.slice none 0 0] 62)).alloc (.cells #[.int .i64 0, .int .i64 1, .int .i64 5, .int .u32 0, .int .i64 1, .int .i64 2, .int .i64 1, .int .u32 0, .int .i64 2, .int .i64 3, .int .i64 1, .int .u32 0] 29)).alloc (.cells #[.int .i64 1, .int .i64 1, .int .i64 2, .int .i64 1, .int .i64 3, .int .i64 1, .int .i64 1] 3)) = V at *
  have GL := Lib.hid (show w.heap.size ≠ w.heap.size + 1 ∧ w.heap.size ≠ w.heap.size + 1 + 1 from by omega)
  go_loopw [15] (fun v wr => AwR w w.heap.size (w.heap.size + 1) (w.heap.size + 1 + 1) v wr) (fun v _ => (7 - intOf v).toNat)
  case atStart => exact ⟨0, by omega, rfl, .inl ⟨rfl, S0.out⟩, L0.out, V0.out, HB0.out⟩
  case round =>
    clear S0 L0 V0 HB0
    obtain ⟨k, hk, rfl, hS, hL, hV, hB⟩ := hrel
    have SS := hide hS; have LL := Lib.hid hL; have VV := Lib.hid hV; have HB := Lib.hid hB
    clear hS hL hV hB
    by_cases hk7 : k < 7
    · have hkz : (k : Int) < 7 := by omega
      have k0 : (0 : Int) ≤ (k : Int) := Int.natCast_nonneg _
      have vk := VV.out.cell k
      rw [want_at k hk7] at vk
      have HT := Lib.hid (told19 k hk7)
      have HK := Lib.hid hk7
      have PT := hide (pick_step w.heap.size 3 3 k w.heap.size (some ⟨w.heap.size + 1, 0, none⟩) l19 l19 w19 wr (cands_of_is (l := l19) LL.out) (by decide) (by kernel_rfl) rfl (by omega) (by omega) (by decide +kernel) HB.out.size (unhide SS))
      have PT : Hid (Calls Try.prog 33 #[.pointer (some ⟨w.heap.size, 0, none⟩), .slice (some ⟨w.heap.size + 1, 0, none⟩) 3 3] wr _) := PT
      clear hk hk7
      generalize hx : nth l19 (Sm.bk w19 3 (Sm.S w19 3) k) = x at *
      clear hx
      obtain ⟨xs, xb, xw, xl⟩ := x
      have HT : Hid (xb = want19 k) := HT
      have hbq := HT.out
      rw [← hbq] at vk
      clear hbq
      go_wp2_with fail
      refine (unhide PT).mono ?_
      rintro e w1 ⟨he, hS1, hPk⟩
      simp only [Cand.val] at he
      subst he
      have hbl := hPk.below (n := w.heap.size) (Nat.le_refl _) (Nat.le_refl _) HB.out.size
      have S1 := hide hS1
      have L1 := Lib.hid (hPk.is LL.out (by omega) (by decide)); have V1 := Lib.hid (hPk.is VV.out (by omega) (by decide))
      have HB1 := Lib.hid (HB.out.trans hbl)
      clear hS1 hPk hbl vk
      have hbb := HB1.out.size
      go_wp2_with fail
      go_roundw
      case rel => exact ⟨k + 1, HK.out, by go_num, SmS.alloc (unhide S1) _, L1.out.alloc _, V1.out.alloc _, HB1.out.alloc hbb _⟩
      case measure => have := HK.out; simp [intOf]; omega
    · obtain rfl : k = 7 := by omega
      clear hk hk7
      go_wp2_with fail
      go_ret
      exact ⟨rfl, HB.out⟩
end Go.Proofs.Ytkebgkjopfdafaa
