/-
  Words for memory that the proofs of this seat share: a row of elements of several cells, a block that is known whole, frames. Nothing here speaks of a Go function. No condition.
-/
import Derived.Below
import Derived.Laws.OwnMore
import Derived.Deep.Draws
import Derived.Laws.Rows
import Derived.Lib.Hide
import Derived.WalkKit
import Derived.ProofKit
import Derived.OpenShut
import Derived.Deep.Slices
import Derived.Deep.Fields
import Derived.Lib.SmallJoins
import Derived.Laws.MakeOwn
import Derived.Deep.AppendLies
namespace Go.Proofs.Ytmgendgfdhhgfaa
open Go.RowKit
set_option linter.unusedSimpArgs false
set_option linter.unusedVariables false

theorem ret_int {k : IntKind} {a b : Int} (h : a = b) : Ending.returned (.int k a) = .returned (.int k b) := by rw [h]
theorem ret_bool {a b : Bool} (h : a = b) : Ending.returned (.bool a) = .returned (.bool b) := by rw [h]

/-- n elements of sz cells each lie at A, below block B; cell j of element i is f i j. -/
def Arr (w : World) (B sz : Nat) (A : Option Addr) (n : Nat) (f : Nat → Nat → Value) : Prop :=
  0 < n → ∃ b off, A = some ⟨b, off, none⟩ ∧ b < B ∧ ∀ i j, i < n → j < sz → w.cell? ⟨b, off + i * sz + j, none⟩ = some (f i j)

theorem Arr.below {w w' : World} {B sz n : Nat} {A : Option Addr} {f : Nat → Nat → Value} (h : Arr w B sz A n f) (hb : Below B w w') : Arr w' B sz A n f := fun hn => by
  obtain ⟨b, off, e, hl, hc⟩ := h hn
  exact ⟨b, off, e, hl, fun i j hi hj => (hb.cell (p := ⟨b, _, none⟩) hl).trans (hc i j hi hj)⟩
theorem Arr.more {w : World} {B B' sz n : Nat} {A : Option Addr} {f : Nat → Nat → Value} (h : Arr w B sz A n f) (hB : B ≤ B') : Arr w B' sz A n f := fun hn => by
  obtain ⟨b, off, e, hl, hc⟩ := h hn
  exact ⟨b, off, e, by omega, hc⟩
theorem Arr.congr {w : World} {B sz n : Nat} {A : Option Addr} {f g : Nat → Nat → Value} (h : Arr w B sz A n f) (hg : ∀ i j, i < n → j < sz → f i j = g i j) : Arr w B sz A n g := fun hn => by
  obtain ⟨b, off, e, hl, hc⟩ := h hn
  exact ⟨b, off, e, hl, fun i j hi hj => by rw [hc i j hi hj, hg i j hi hj]⟩
theorem Arr.only {w w' : World} {B sz n g : Nat} {A : Option Addr} {f : Nat → Nat → Value} (h : Arr w B sz A n f) (hw : w.grownBy w' (some g)) (hB : B ≤ w.heap.size) (hg : ∀ b off, A = some ⟨b, off, none⟩ → b ≠ g) : Arr w' B sz A n f := fun hn => by
  obtain ⟨b, off, e, hl, hc⟩ := h hn
  refine ⟨b, off, e, hl, fun i j hi hj => (World.cell?_of_block (hw.block b (by omega) ?_)).trans (hc i j hi hj)⟩
  intro e'; injection e' with e'; exact hg b off e e'

/-- Block g is just these cells of element type t; none is frozen. -/
def Is (w : World) (g : Nat) (t : TypeId) (cs : Array Value) : Prop := w.heap[g]? = some (.cells cs t (0, 0))
section
variable {w w' : World} {g : Nat} {t : TypeId} {cs : Array Value}
theorem Is.lt (h : Is w g t cs) : g < w.heap.size := by
  apply Decidable.byContradiction; intro hn
  unfold Is at h; rw [Array.getElem?_eq_none (by omega)] at h; cases h
theorem Is.cell (h : Is w g t cs) (i : Nat) : w.cell? ⟨g, i, none⟩ = cs[i]? := cell_of_row w g i cs t (0, 0) h
theorem Is.free (h : Is w g t cs) (i : Nat) : w.frozen? ⟨g, i, none⟩ = false := by
  unfold Is at h; simp [World.frozen?, h]
theorem Is.new (w : World) (t : TypeId) (cs : Array Value) : Is (w.alloc (.cells cs t)) w.heap.size t cs := heap_alloc_new w _
theorem Is.drewN (h : Is w g t cs) (n : Nat) : Is (w.drewN n) g t cs := h
theorem Is.drew (h : Is w g t cs) : Is w.drew g t cs := h
theorem Is.alloc (h : Is w g t cs) (o : Obj) : Is (w.alloc o) g t cs := (Below.heap_alloc w o g h.lt).trans h
theorem Is.put (h : Is w g t cs) (i : Nat) (u : Value) : Is (w.setCell ⟨g, i, none⟩ u) g t (cs.setIfInBounds i u) := by
  unfold Is at h ⊢; simp [World.setCell, Array.getElem?_modify, h]
theorem Is.put1 {a : Value} (h : Is w g t #[a]) (u : Value) : Is (w.setCell ⟨g, 0, none⟩ u) g t #[u] := h.put 0 u
theorem Is.other (h : Is w g t cs) {p : Addr} (hp : g ≠ p.block) (u : Value) : Is (w.setCell p u) g t cs := (Below.heap_setCell w p u g hp).trans h
theorem Is.below {B : Nat} (h : Is w g t cs) (hb : Below B w w') (hg : g < B) : Is w' g t cs := (hb.block g hg).trans h
theorem Is.only {row : Option Nat} (h : Is w g t cs) (hb : w.grownBy w' row) (hg : some g ≠ row) : Is w' g t cs := (hb.block g h.lt hg).trans h
theorem Is.differ {g' : Nat} {t' : TypeId} {cs' : Array Value} (h : Is w g t cs) (h' : Is w g' t' cs') (hne : t ≠ t') : g ≠ g' := by
  intro e; subst e
  unfold Is at h h'; rw [h] at h'; injection h' with h'; injection h' with _ ht; exact hne ht
theorem Is.ofBelow {W : World} {B : Nat} (h : Is W g t cs) (hb : Below B W w) (hg : g < B) : Is w g t cs := h.below hb hg
end

theorem below_drewN {B : Nat} {a w : World} (h : Below B a w) (n : Nat) : Below B a (w.drewN n) := ⟨h.os, h.tape, h.output, h.size, h.block⟩
theorem only_refl (w : World) (row : Option Nat) : w.grownBy w row := ⟨rfl, rfl, rfl, Nat.le_refl _, fun _ _ _ => rfl⟩
theorem only_trans {a b c : World} {row : Option Nat} (h : a.grownBy b row) (k : b.grownBy c row) : a.grownBy c row :=
  ⟨k.os.trans h.os, k.tape.trans h.tape, k.output.trans h.output, Nat.le_trans h.size k.size, fun i hi hn => (k.block i (Nat.lt_of_lt_of_le hi h.size) hn).trans (h.block i hi hn)⟩
theorem only_drewN {a w : World} {row : Option Nat} (h : a.grownBy w row) (n : Nat) : a.grownBy (w.drewN n) row := ⟨h.os, h.tape, h.output, h.size, h.block⟩
theorem only_drew {a w : World} {row : Option Nat} (h : a.grownBy w row) : a.grownBy w.drew row := ⟨h.os, h.tape, h.output, h.size, h.block⟩
theorem only_alloc {a w : World} {row : Option Nat} (h : a.grownBy w row) (o : Obj) : a.grownBy (w.alloc o) row :=
  ⟨h.os, h.tape, h.output, Nat.le_trans h.size (by simp), fun i hi hn => (Below.heap_alloc w o i (Nat.lt_of_lt_of_le hi h.size)).trans (h.block i hi hn)⟩
theorem only_set {a w : World} {g : Nat} (h : a.grownBy w (some g)) {p : Addr} (hp : p.block = g ∨ a.heap.size ≤ p.block) (u : Value) : a.grownBy (w.setCell p u) (some g) :=
  ⟨h.os, h.tape, h.output, by simpa [World.setCell] using h.size, fun i hi hn => (Below.heap_setCell w p u i (by
    rintro rfl
    rcases hp with hp | hp
    · exact hn (by rw [hp])
    · omega)).trans (h.block i hi hn)⟩
theorem only_below {a w : World} (h : Below a.heap.size a w) (row : Option Nat) : a.grownBy w row := ⟨h.os, h.tape, h.output, h.size, fun i hi _ => h.block i hi⟩
/-- A write to a block of the call's own is no write at all to what was there. -/
theorem below_only {a b c : World} {g : Nat} (h : Below a.heap.size a b) (k : b.grownBy c (some g)) (hg : a.heap.size ≤ g) : Below a.heap.size a c :=
  ⟨k.os.trans h.os, k.tape.trans h.tape, k.output.trans h.output, Nat.le_trans h.size k.size, fun i hi => (k.block i (Nat.lt_of_lt_of_le hi h.size) (by intro e; injection e; omega)).trans (h.block i hi)⟩

/-- Element i, cell j of a list of elements of s cells each. -/
theorem flat_get {α β : Type} (f : α → List β) (s : Nat) (hf : ∀ a, (f a).length = s) : ∀ (l : List α) (i j : Nat) (a : α), l[i]? = some a → j < s → (l.flatMap f)[i * s + j]? = (f a)[j]?
  | [], i, j, a, h, _ => by simp at h
  | x :: l, 0, j, a, h, hj => by
    simp at h; subst h
    rw [List.flatMap_cons, List.getElem?_append_left (by rw [hf]; omega)]; simp
  | x :: l, i + 1, j, a, h, hj => by
    simp at h
    have := flat_get f s hf l i j a h hj
    rw [List.flatMap_cons, List.getElem?_append_right (by rw [hf, Nat.succ_mul]; omega), hf, ← this]
    congr 1; rw [Nat.succ_mul]; omega
theorem flat_len {α β : Type} (f : α → List β) (s : Nat) (hf : ∀ a, (f a).length = s) (l : List α) : (l.flatMap f).length = l.length * s := by
  induction l with
  | nil => simp
  | cons x l ih => rw [List.flatMap_cons, List.length_append, hf, ih, List.length_cons, Nat.succ_mul]; omega
/-- A row of the call's own, read as elements. -/
theorem arr_of_own {w : World} {base e sz n c : Nat} {A : Option Addr} {xs : List Value} {f : Nat → Nat → Value} (h : w.ownsRow base e sz (.slice A n c) n xs) (hf : ∀ i j, i < n → j < sz → xs[i * sz + j]? = some (f i j)) : Arr w w.heap.size sz A n f := fun hn => by
  obtain ⟨hl, h2⟩ := h
  rcases h2 with ⟨_, h0⟩ | ⟨g, cap, cur, hv, hg, hh, hnc, hm, hs, ht⟩
  · omega
  · injection hv with hA
    refine ⟨g, 0, hA, Is.lt hh, fun i j hi hj => ?_⟩
    rw [Is.cell hh]
    have hx := hf i j hi hj
    have hb : i * sz + j < n * sz := by
      have : i * sz + sz ≤ n * sz := by rw [← Nat.succ_mul]; exact Nat.mul_le_mul_right _ hi
      omega
    rw [← ht, List.getElem?_take, if_pos hb] at hx
    rw [Nat.zero_add, ← Array.getElem?_toList]; exact hx
theorem own_far {w : World} {base e sz n g : Nat} {v : Value} {xs : List Value} (h : w.ownsRow base e sz v n xs) (hg : g < base) : v.ownBlock ≠ some g := by
  rcases h.2 with ⟨rfl, _⟩ | ⟨g', cap, cur, rfl, hb, _⟩
  · simp [Value.ownBlock]
  · simp [Value.ownBlock]; omega
/-- Behind an append (the new element lies in a block of its own first): what was there when the call began is as it was. -/
theorem below_grown {W wr w1 : World} {v : Value} {o : Obj} (hb : Below W.heap.size W wr) (hg : ((wr.alloc o).drew).grownBy w1 v.ownBlock) (hv : ∀ k, v.ownBlock = some k → W.heap.size ≤ k ∧ k < wr.heap.size) : Below W.heap.size W w1 :=
  ((hb.alloc hb.size o).drew).grown hg (by have := hb.size; simp [World.drew]; omega) (fun k hk => (hv k hk).1)

section
open Go.ChangeShapes Go.WideShapes Go.Deep
variable {H : Type} {enc : TypeId × Value → H} {P : Program} {w : World} {held : Bool} {spare : Nat → Bool}
/-- A slice that came in: each of its elements lies in a row of cells that reads as data. -/
theorem open_els {t e : TypeId} {sz n c : Nat} {A : Option Addr} {d : DataW H} {p : List MemPlace} (ht : P.underlying t = some (.slice e)) (hs : P.cellsOf e = sz) (hz : 0 < sz)
    (h : DataW.Trod enc P w 0 spare held t (.slice A n c) d p) :
    n ≤ c ∧ c ≤ maxLen ∧ (0 < n → ∃ b off, A = some ⟨b, off, none⟩ ∧ b < w.heap.size ∧
      ∀ i, i < n → ∃ (cs : List Value) (m : Nat) (y : DataW H × List MemPlace), cs.length = sz ∧ (∀ j, j < sz → w.cell? ⟨b, off + i * sz + j, none⟩ = cs[j]?) ∧ DataW.trod enc P w 0 spare held m e cs = some y) := by
  obtain ⟨fuel, hf⟩ := h
  rcases open_slice ht hf with ⟨h0, _⟩ | ⟨a, len, cap, m, fu, D, Pl, hcs, hb, hl, hm, hmm, hx, hi⟩
  · simp [Value.cells] at h0
    obtain ⟨rfl, rfl, rfl⟩ := h0
    exact ⟨Nat.le_refl _, by unfold maxLen; omega, fun h => absurd h (by omega)⟩
  · simp [Value.cells] at hcs
    obtain ⟨rfl, rfl, rfl⟩ := hcs
    refine ⟨hl, hm, fun hn => ?_⟩
    have hlm : n ≤ m := by rw [hmm]; split <;> omega
    have one : ∀ i, i < n → ∃ (cs : List Value) (y : DataW H × List MemPlace), cs.length = sz ∧ (∀ j, j < sz → w.cell? (a.add (i * sz + j)) = cs[j]?) ∧ DataW.trod enc P w 0 spare held fu e cs = some y := by
      intro i hin
      obtain ⟨cs', hc, htr⟩ := hi i (by omega)
      rw [hs] at hc
      obtain ⟨_, hcl, hat⟩ := World.cells?_some hc
      exact ⟨cs', _, hcl, fun j hj => by rw [← hat j hj, Go.Deep.add_add], htr⟩
    obtain ⟨b, off, spot⟩ := a
    obtain ⟨cs0, y0, l0, c0, _⟩ := one 0 hn
    have h00 := c0 0 hz
    have hsome : cs0[0]? = some (cs0[0]'(by omega)) := List.getElem?_eq_getElem (by omega)
    rw [hsome] at h00
    have hspot : spot = none := by simpa [Addr.add] using World.cell?_spot h00
    subst hspot
    have hlt := World.block_lt_of_cell? w _ h00
    refine ⟨b, off, rfl, by simpa [Addr.add] using hlt, fun i hin => ?_⟩
    obtain ⟨cs, y, hcl, hat, htr⟩ := one i hin
    refine ⟨cs, fu, y, hcl, fun j hj => ?_, htr⟩
    rw [← hat j hj]
    unfold Addr.add
    by_cases h0 : i * sz + j = 0
    · rw [if_pos h0, show off + i * sz + j = off from by omega]
    · rw [if_neg h0, show off + i * sz + j = off + (i * sz + j) from by omega]
end
/-- A list out of a fact for each place. -/
theorem list_of {α : Type} {P : Nat → α → Prop} : ∀ n : Nat, (∀ i, i < n → ∃ x, P i x) → ∃ l : List α, l.length = n ∧ ∀ (i : Nat) (x : α), l[i]? = some x → P i x
  | 0, _ => ⟨[], rfl, fun i x h => by simp at h⟩
  | n + 1, h => by
    obtain ⟨l, hl, hp⟩ := list_of n fun i hi => h i (by omega)
    obtain ⟨x, hx⟩ := h n (by omega)
    refine ⟨l ++ [x], by simp [hl], fun i y hy => ?_⟩
    by_cases hi : i < n
    · rw [List.getElem?_append_left (by omega)] at hy; exact hp i y hy
    · rw [List.getElem?_append_right (by omega)] at hy
      have : i - l.length = 0 := by
        apply Decidable.byContradiction; intro hne
        rw [List.getElem?_eq_none (by simp; omega)] at hy; cases hy
      rw [this] at hy
      simp at hy; subst hy
      obtain rfl : i = n := by omega
      exact hx

theorem own_shape {w : World} {base e sz n : Nat} {v : Value} {xs : List Value} (h : w.ownsRow base e sz v n xs) : ∃ A c, v = .slice A n c := by
  rcases h.2 with ⟨rfl, rfl⟩ | ⟨g, cap, cur, rfl, _⟩
  · exact ⟨none, 0, rfl⟩
  · exact ⟨_, _, rfl⟩
theorem own_below {w w' : World} {base e sz n : Nat} {v : Value} {xs : List Value} (h : w.ownsRow base e sz v n xs) (hb : Below w.heap.size w w') : w'.ownsRow base e sz v n xs :=
  h.kept (row := none) ⟨hb.os, hb.tape, hb.output, hb.size, fun k hk _ => hb.block k hk⟩ (by
    cases hv : v.ownBlock with
    | none => exact .inl rfl
    | some k => exact .inr (by simp))
theorem own_differ {w : World} {base e sz n g : Nat} {t : TypeId} {cs : Array Value} {v : Value} {xs : List Value} (h : w.ownsRow base e sz v n xs) (hg : Is w g t cs) (hne : e ≠ t) : v.ownBlock ≠ some g := by
  rcases h.2 with ⟨rfl, _⟩ | ⟨g', cap, cur, rfl, _, hh, _⟩
  · simp [Value.ownBlock]
  · intro he
    have : g' = g := by simpa [Value.ownBlock] using he
    subst this
    exact Is.differ (t := e) hh hg hne rfl
theorem own_set {w : World} {base e sz n : Nat} {v : Value} {xs : List Value} (h : w.ownsRow base e sz v n xs) {p : Addr} (hne : v.ownBlock ≠ some p.block) (u : Value) : (w.setCell p u).ownsRow base e sz v n xs :=
  h.kept (only_set (only_refl _ (some p.block)) (.inl rfl) u) (.inr hne)
theorem app1 {P : Program} {w : World} {ops : Array Oper} {rest : List Oper} {o : Oper} {a : Act} {Q : Exit → Act → World → Prop} (s x : Operand) (t : TypeId)
    (ho : o.op = .call { callee := .builtin .append, args := #[s, x], argTypes := #[t, t] }) (hgd : o.guard = none)
    {base : Nat} {e : TypeId} {i : TypeInfo} {z : Value} {bytes : Nat} (ht : P.underlying t = some (.slice e)) (hi : P.info? e = some i) (hz : i.zero = some z)
    (hsize : i.size = 1) (hby : i.bytes = bytes) (hzs : z.cells.size = 1)
    {v : Value} {n : Nat} {xs : List Value} (hs : a.eval s = v) (hown : w.ownsRow base e 1 v n xs)
    {g0 : Nat} {u : Value} (hx : a.eval x = .slice (some ⟨g0, 0, none⟩) 1 1) (hu : w.cell? ⟨g0, 0, none⟩ = some u) (h1 : u.oneCell' = true) (hn : n ≤ 1000000) (hb : bytes ≤ 64) (hbase : base ≤ w.heap.size)
    (h : ∀ g cap w', w'.ownsRow base e 1 (.slice (some ⟨g, 0, none⟩) (n + 1) cap) (n + 1) (xs ++ [u]) → w.grownBy w' v.ownBlock → (v.ownBlock = some g ∨ g = w.heap.size) → g < w'.heap.size → wpList P ops Q rest (a.put o.dst (.slice (some ⟨g, 0, none⟩) (n + 1) cap)) w') :
    wpList P ops Q (o :: rest) a w :=
  wpList_append_lies w hgd s x t ho base e i z 1 bytes ht hi hz hsize hby hzs (by omega) v n xs hs hown ⟨g0, 0, none⟩ 1 1 [u] hx rfl
    (fun j y hj => by
      match j with
      | 0 => simp at hj; subst hj; simpa [Addr.add] using hu
      | j + 1 => simp at hj)
    (fun y hy => by simp at hy; subst hy; exact h1) (by omega) (by unfold maxLen; omega)
    (by have : (n + 1) * bytes ≤ 1000001 * 64 := Nat.mul_le_mul (by omega) hb
        omega) hbase w.heap.size rfl h
/-- Two slices that share no block. -/
def Apart (v v' : Value) : Prop := ∀ g, v.ownBlock = some g → v'.ownBlock ≠ some g
theorem Apart.none_ (v : Value) : Apart (.slice none 0 0) v := fun g h => by simp [Value.ownBlock] at h
theorem Apart.symm {v v' : Value} (h : Apart v v') : Apart v' v := fun g h1 h2 => h g h2 h1
theorem Apart.kept {v v' : Value} (h : Apart v v') : v'.ownBlock = none ∨ v'.ownBlock ≠ v.ownBlock := by
  cases hv : v'.ownBlock with
  | none => exact .inl rfl
  | some g => exact .inr fun e => h g e.symm hv
theorem Apart.grow {v v' : Value} {g n cap H : Nat} (h : Apart v v') (hat : v.ownBlock = some g ∨ g = H) (hlt : ∀ k, v'.ownBlock = some k → k < H) : Apart (.slice (some ⟨g, 0, none⟩) n cap) v' := fun k hk he => by
  have : g = k := by simpa [Value.ownBlock] using hk
  subst this
  rcases hat with h1 | h1
  · exact h g h1 he
  · have := hlt g he; omega
/-- Number k of a list (0 beyond its end). -/
def at0 (l : List Int) (k : Nat) : Int := l.getD k 0
theorem take_at0 {l : List Int} {k : Nat} (h : k < l.length) : l.take (k + 1) = l.take k ++ [at0 l k] := by
  rw [List.take_succ_eq_append_getElem h]; simp [at0, List.getD, h]
theorem drop_at0 {l : List Int} {k : Nat} (h : k < l.length) : l.drop k = at0 l k :: l.drop (k + 1) := by
  rw [List.drop_eq_getElem_cons h]; simp [at0, List.getD, h]
/-- A slice of bytes at A that reads as l. -/
def Bytes (w : World) (B : Nat) (A : Option Addr) (l : List Int) : Prop := Arr w B 1 A l.length fun i _ => .int .u8 (at0 l i)
def Octets (l : List Int) : Prop := ∀ k, 0 ≤ at0 l k ∧ at0 l k ≤ 255
theorem Bytes.cells {w : World} {B : Nat} {A : Option Addr} {l : List Int} (h : Bytes w B A l) (h0 : 0 < l.length) :
    ∃ b off, A = some ⟨b, off, none⟩ ∧ b < B ∧ ∀ k, k < l.length → w.cell? ⟨b, off + k, none⟩ = some (.int .u8 (at0 l k)) := by
  obtain ⟨b, off, hA, hb, hc⟩ := h h0
  exact ⟨b, off, hA, hb, fun k hk => by simpa using hc k 0 hk (by omega)⟩
theorem made_one (z : Value) (n : Nat) : madeCells #[z] n = Array.replicate n z := by
  apply Array.ext
  · simp [madeCells]
  · intro i h1 h2
    simp [madeCells, Nat.mod_one]
section
open Go.ChangeShapes Go.WideShapes Go.Deep
variable {H : Type} {enc : TypeId × Value → H} {P : Program} {w : World} {held : Bool} {spare : Nat → Bool}
/-- A slice of bytes that came in. -/
theorem open_bytes_of {t e : TypeId} {n c : Nat} {A : Option Addr} {d : DataW H} {p : List MemPlace} (ht : P.underlying t = some (.slice e)) (he : P.underlying e = some (.int .u8)) (hs : P.cellsOf e = 1)
    (h : DataW.Trod enc P w 0 spare held t (.slice A n c) d p) :
    ∃ l : List Int, l.length = n ∧ n ≤ c ∧ n ≤ maxLen ∧ Bytes w w.heap.size A l ∧ Octets l := by
  obtain ⟨hnc, hcm, hr⟩ := open_els ht hs (by omega) h
  by_cases hn : n = 0
  · subst hn; exact ⟨[], rfl, hnc, by omega, fun h => absurd h (by simp), fun k => by simp [at0]⟩
  obtain ⟨b, off, rfl, hb, hi⟩ := hr (by omega)
  have key : ∀ i, i < n → ∃ x : Int, w.cell? ⟨b, off + i * 1, none⟩ = some (.int .u8 x) ∧ 0 ≤ x ∧ x ≤ 255 := by
    intro i hin
    obtain ⟨cs, m, y, hl, hc, htr⟩ := hi i hin
    match cs, hl with
    | [a0], _ =>
      obtain ⟨n0, e0, _, w0⟩ := DataW.trod_int he htr
      injection e0 with e0
      subst e0
      exact ⟨n0, by simpa using hc 0 (by omega), bounds_u8 w0⟩
  obtain ⟨l, hl, hp⟩ := list_of n key
  refine ⟨l, hl, hnc, by omega, fun _ => ⟨b, off, rfl, hb, fun i j hi hj => ?_⟩, fun k => ?_⟩
  · obtain rfl : j = 0 := by omega
    exact (hp i (at0 l i) (by simp [at0, List.getD, hi])).1
  · by_cases hk : k < l.length
    · exact (hp k (at0 l k) (by simp [at0, List.getD, hk])).2
    · simp [at0, List.getD, List.getElem?_eq_none (Nat.le_of_not_lt hk)]
end
end Go.Proofs.Ytmgendgfdhhgfaa
