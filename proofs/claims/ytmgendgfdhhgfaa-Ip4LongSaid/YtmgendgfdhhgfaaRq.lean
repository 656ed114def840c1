/-
  The Reader of package octet, by places of the bytes that it began with. Helper of the claims that take numbers from bytes. No condition.
-/
import Derived.Test.YtmgendgfdhhgfaaIcmp
namespace Go.Proofs.Ytmgendgfdhhgfaa
open Go.ChangeShapes Go.WideShapes Go.ChangeAt Go.RowKit
set_option linter.unusedSimpArgs false
set_option linter.unusedVariables false
set_option maxRecDepth 100000

/-- The number of n bytes from place i on. -/
def nw (l : List Int) (i n : Nat) : Int := numW ((l.drop i).take n)
theorem nw_one {l : List Int} {i : Nat} (h : i + 1 ≤ l.length) (ho : Octets l) : nw l i 1 = at0 l i := by
  unfold nw; rw [numW_one (by rw [List.length_drop]; omega) (ho.drop i), at0_drop, Nat.add_zero]
theorem nw_two {l : List Int} {i : Nat} (h : i + 2 ≤ l.length) (ho : Octets l) : nw l i 2 = at0 l i * 256 + at0 l (i + 1) := by
  unfold nw; rw [numW_two (by rw [List.length_drop]; omega) (ho.drop i), at0_drop, at0_drop, Nat.add_zero]
theorem nw_four {l : List Int} {i : Nat} (h : i + 4 ≤ l.length) (ho : Octets l) : nw l i 4 = ((at0 l i * 256 + at0 l (i + 1)) * 256 + at0 l (i + 2)) * 256 + at0 l (i + 3) := by
  unfold nw; rw [numW_four (by rw [List.length_drop]; omega) (ho.drop i), at0_drop, at0_drop, at0_drop, at0_drop, Nat.add_zero]
theorem nw2_bd {l : List Int} {i : Nat} (h : i + 2 ≤ l.length) (ho : Octets l) : 0 ≤ nw l i 2 ∧ nw l i 2 ≤ 65535 := by
  rw [nw_two h ho]; have h0 := ho i; have h1 := ho (i + 1); omega
theorem nw1_bd {l : List Int} {i : Nat} (h : i + 1 ≤ l.length) (ho : Octets l) : 0 ≤ nw l i 1 ∧ nw l i 1 ≤ 255 := by
  rw [nw_one h ho]; have h0 := ho i; omega
theorem nw4_bd {l : List Int} {i : Nat} (h : i + 4 ≤ l.length) (ho : Octets l) : 0 ≤ nw l i 4 ∧ nw l i 4 ≤ 4294967295 := by
  rw [nw_four h ho]; have h0 := ho i; have h1 := ho (i + 1); have h2 := ho (i + 2); have h3 := ho (i + 3); omega
/-- Block g is a Reader that has come to place i of l; what there was in W is as it was. -/
def RS (W : World) (g : Nat) (l : List Int) (i : Nat) (w : World) : Prop := RD w g (l.drop i) false ∧ Below W.heap.size W w ∧ W.heap.size ≤ g
theorem RS.bel {W w : World} {g i : Nat} {l : List Int} (h : RS W g l i w) : Below W.heap.size W w := h.2.1
theorem RS.step {W w w' : World} {g i j n : Nat} {l : List Int} (h : RS W g l i w) (hr : RD w' g ((l.drop i).drop n) false) (hg : w.grownBy w' (some g)) (hj : i + n = j) : RS W g l j w' := by
  subst hj
  exact ⟨by rw [List.drop_drop] at hr; exact hr, below_only h.2.1 hg h.2.2, h.2.2⟩
theorem RS.kept {W w w' : World} {g i : Nat} {l : List Int} (h : RS W g l i w) (hb : Below w.heap.size w w') : RS W g l i w' := ⟨h.1.below hb, h.2.1.trans (hb.mono h.2.1.size), h.2.2⟩
theorem RS.alloc {W w : World} {g i : Nat} {l : List Int} (h : RS W g l i w) (o : Obj) : RS W g l i (w.alloc o) := h.kept ((Below.refl _ _).alloc (Nat.le_refl _) _)
theorem RS.set {W w : World} {g i : Nat} {l : List Int} (h : RS W g l i w) {b o : Nat} (hb : g < b) (v : Value) : RS W g l i (w.setCell ⟨b, o, none⟩ v) :=
  ⟨h.1.kept (B := b) (Below.setCell (p := ⟨b, o, none⟩) (Below.refl b w) (Nat.le_refl b) v) hb, Below.setCell (p := ⟨b, o, none⟩) h.2.1 (by have := h.2.2; show _ ≤ b; omega) v, h.2.2⟩
theorem read_q {l : List Int} {n : Nat} {v : Value} {w : World} (h : IsB l n v w) (hm : n ≤ 90000000) :
    Calls Try.prog 80 #[v] w fun e w' => ∃ g, e = .returned (.pointer (some ⟨g, 0, none⟩)) ∧ RS w g l 0 w' := by
  obtain ⟨A, c, rfl, rfl, h2, h3, h4, h5⟩ := h
  exact (read_any A c l w _ h2 (Nat.le_refl _) hm h5).mono fun e w' ⟨g, h1, h2, h3, h4⟩ => ⟨g, h1, h2, h3, h4⟩
def RNext (W : World) (g : Nat) (l : List Int) (j : Nat) (w : World) (v : Value) (e : Ending) (w' : World) : Prop := e = .returned v ∧ RS W g l j w' ∧ w.grownBy w' (some g)
theorem byte_q {W : World} {g i : Nat} {l : List Int} {w : World} (j : Nat) (x : Int) (h : RS W g l i w) (ho : Octets l) (hj : i + 1 = j) (hn : j ≤ l.length) (hx : nw l i 1 = x) :
    Calls Try.prog 88 #[.pointer (some ⟨g, 0, none⟩)] w (RNext W g l j w (.int .u8 x)) := by
  subst hx
  exact (byte_ok g _ false w h.1 (ho.drop i) (by rw [List.length_drop]; omega)).mono fun e w' ⟨h1, h2, h3⟩ => ⟨h1, h.step h2 h3 hj, h3⟩
theorem word_q {W : World} {g i : Nat} {l : List Int} {w : World} (j : Nat) (x : Int) (h : RS W g l i w) (ho : Octets l) (hj : i + 2 = j) (hn : j ≤ l.length) (hx : nw l i 2 = x) :
    Calls Try.prog 81 #[.pointer (some ⟨g, 0, none⟩)] w (RNext W g l j w (.int .u16 x)) := by
  subst hx
  exact (word_ok g _ false w h.1 (ho.drop i) (by rw [List.length_drop]; omega)).mono fun e w' ⟨h1, h2, h3⟩ => ⟨h1, h.step h2 h3 hj, h3⟩
theorem long_q {W : World} {g i : Nat} {l : List Int} {w : World} (j : Nat) (x : Int) (h : RS W g l i w) (ho : Octets l) (hj : i + 4 = j) (hn : j ≤ l.length) (hx : nw l i 4 = x) :
    Calls Try.prog 89 #[.pointer (some ⟨g, 0, none⟩)] w (RNext W g l j w (.int .u32 x)) := by
  subst hx
  exact (long_ok g _ false w h.1 (ho.drop i) (by rw [List.length_drop]; omega)).mono fun e w' ⟨h1, h2, h3⟩ => ⟨h1, h.step h2 h3 hj, h3⟩
/-- A copy of the next n bytes. -/
def RPart (W : World) (g : Nat) (l : List Int) (i n j : Nat) (w : World) (e : Ending) (w' : World) : Prop :=
  ∃ A c, e = .returned (.slice A n c) ∧ OwnB w' w.heap.size (.slice A n c) ((l.drop i).take n) ∧ RS W g l j w' ∧ w.grownBy w' (some g)
theorem part_q {W : World} {g i : Nat} {l : List Int} {w : World} (n j : Nat) (h : RS W g l i w) (hj : i + n = j) (hn : j ≤ l.length) (hm : l.length ≤ 90000000) :
    Calls Try.prog 100 #[.pointer (some ⟨g, 0, none⟩), .int .i64 (n : Int)] w (RPart W g l i n j w) :=
  (bytes_ok g _ false n w h.1 (by rw [List.length_drop]; omega) (by rw [List.length_drop]; omega)).mono fun e w' ⟨A, c, h1, h2, h3, h4⟩ => ⟨A, c, h1, h2, h.step h3 h4 hj, h4⟩
theorem rest_q {W : World} {g i : Nat} {l : List Int} {w : World} (n : Nat) (h : RS W g l i w) (hn : i + n = l.length) (hm : l.length ≤ 90000000) :
    Calls Try.prog 90 #[.pointer (some ⟨g, 0, none⟩)] w (RPart W g l i n l.length w) := by
  have e : (l.drop i).length = n := by rw [List.length_drop]; omega
  have h9 := rest_any g (l.drop i) false w h.1 (by rw [List.length_drop]; omega)
  rw [e] at h9
  exact h9.mono fun e w' ⟨A, c, h1, h2, h3, h4⟩ => ⟨A, c, h1, h2, h.step h3 h4 hn, h4⟩
theorem get_q {l : List Int} {n : Nat} {v : Value} {w : World} (i k : Nat) (x : Int) (h : IsB l n v w) (ho : Octets l) (hm : n ≤ 90000000) (hi : i + k ≤ n) (hx : nw l i k = x) :
    Calls Try.prog 63 #[v, .int .i64 (i : Int), .int .i64 (k : Int)] w fun e w' => e = .returned (.int .u64 x) ∧ w = w' := by
  subst hx
  obtain ⟨A, c, rfl, rfl, h2, h3, h4, h5⟩ := h
  exact get_ok A c l i k w _ h2 ho hm h3 h4 hi
end Go.Proofs.Ytmgendgfdhhgfaa
