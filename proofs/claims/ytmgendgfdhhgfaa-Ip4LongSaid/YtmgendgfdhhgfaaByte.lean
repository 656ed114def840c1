/-
  Words for slices of bytes that the proofs of this seat share: a slice that reads as a list of numbers, a row of bytes of the call's own, appending, converting to a string. Nothing here speaks of a Go function. No condition.
-/
import Derived.Test.YtmgendgfdhhgfaaRows
import Derived.Test.YtmgendgfdhhgfaaBase
import Derived.Laws.BytesArg
import Derived.Laws.CopyOwn
import Derived.OwnWalk
import Derived.Maps.AppendAt
namespace Go.Proofs.Ytmgendgfdhhgfaa
open Go.ChangeShapes Go.WideShapes Go.ChangeAt Go.RowKit
set_option linter.unusedSimpArgs false
set_option linter.unusedVariables false

theorem hide {p : Prop} (h : p) : Hid p := h
theorem unhide {p : Prop} (h : Hid p) : p := h
theorem ret_slice {A : Option Addr} {n m c : Nat} (h : n = m) : Ending.returned (.slice A n c) = .returned (.slice A m c) := by rw [h]
def u8s (l : List Int) : List Value := l.map fun n => .int .u8 n
theorem u8s_len (l : List Int) : (u8s l).length = l.length := by simp [u8s]
theorem u8s_get {l : List Int} {k : Nat} (h : k < l.length) : (u8s l)[k]? = some (.int .u8 (at0 l k)) := by simp [u8s, at0, List.getD, h]
theorem u8s_set (l : List Int) (k : Nat) (x : Int) : (u8s l).set k (.int .u8 x) = u8s (l.set k x) := by unfold u8s; rw [List.map_set]
theorem u8s_app (a b : List Int) : u8s a ++ u8s b = u8s (a ++ b) := by simp [u8s]
theorem u8s_one (l : List Int) : ∀ u ∈ u8s l, u.oneCell' = true := by
  intro u hu; simp [u8s] at hu; obtain ⟨a, _, rfl⟩ := hu; rfl
/-- v is a slice that reads as l, in a block of its own from base on. -/
def OwnB (w : World) (base : Nat) (v : Value) (l : List Int) : Prop := w.ownsRow base 5 1 v l.length (u8s l)
theorem OwnB.nil (w : World) (base : Nat) : OwnB w base (.slice none 0 0) [] := World.ownsRow_nil _ _ _ _
theorem OwnB.shape {w : World} {base : Nat} {v : Value} {l : List Int} (h : OwnB w base v l) : ∃ A c, v = .slice A l.length c := own_shape h
theorem OwnB.below {w w' : World} {base : Nat} {v : Value} {l : List Int} (h : OwnB w base v l) (hb : Below w.heap.size w w') : OwnB w' base v l := own_below h hb
theorem OwnB.alloc {w : World} {base : Nat} {v : Value} {l : List Int} (h : OwnB w base v l) (o : Obj) : OwnB (w.alloc o) base v l := World.ownsRow.alloc h o
theorem OwnB.drew {w : World} {base : Nat} {v : Value} {l : List Int} (h : OwnB w base v l) : OwnB w.drew base v l := h
theorem OwnB.drewN {w : World} {base : Nat} {v : Value} {l : List Int} (h : OwnB w base v l) (n : Nat) : OwnB (w.drewN n) base v l := h
theorem OwnB.kept {w w' : World} {base : Nat} {v : Value} {l : List Int} {row : Option Nat} (h : OwnB w base v l) (hg : w.grownBy w' row) (hne : v.ownBlock = none ∨ v.ownBlock ≠ row) : OwnB w' base v l := World.ownsRow.kept h hg hne
theorem OwnB.lower {w : World} {base base' : Nat} {v : Value} {l : List Int} (h : OwnB w base v l) (hb : base' ≤ base) : OwnB w base' v l := by
  obtain ⟨h1, h2⟩ := h
  refine ⟨h1, ?_⟩
  rcases h2 with h2 | ⟨g, cap, cur, hv, hg, hr⟩
  · exact .inl h2
  · exact .inr ⟨g, cap, cur, hv, Nat.le_trans hb hg, hr⟩
theorem OwnB.at {w : World} {base g cap : Nat} {l : List Int} {n : Nat} (h : OwnB w base (.slice (some ⟨g, 0, none⟩) n cap) l) {k : Nat} (hk : k < l.length) : w.cell? ⟨g, k, none⟩ = some (.int .u8 (at0 l k)) := by
  obtain ⟨A, c, e⟩ := h.shape
  injection e with _ e2; subst e2
  exact (World.ownsRow.cellAt h k (by omega)).trans (u8s_get hk)
theorem OwnB.free {w : World} {base g cap : Nat} {l : List Int} {n : Nat} (h : OwnB w base (.slice (some ⟨g, 0, none⟩) n cap) l) (k : Nat) : w.frozen? ⟨g, k, none⟩ = false := by
  obtain ⟨A, c, e⟩ := h.shape
  injection e with _ e2; subst e2
  exact World.ownsRow.frozenAt h k
theorem OwnB.put {w : World} {base g cap n : Nat} {l : List Int} (h : OwnB w base (.slice (some ⟨g, 0, none⟩) n cap) l) (k : Nat) (x : Int) : OwnB (w.setCell ⟨g, k, none⟩ (.int .u8 x)) base (.slice (some ⟨g, 0, none⟩) n cap) (l.set k x) := by
  obtain ⟨A, c, e⟩ := h.shape
  injection e with _ e2; subst e2
  have := (World.ownsRow.stored h k (.int .u8 x)).1
  rw [u8s_set] at this
  unfold OwnB; rw [List.length_set]; exact this
/-- What such a slice reads as. -/
theorem OwnB.bytes {w : World} {base n cap : Nat} {A : Option Addr} {l : List Int} (h : OwnB w base (.slice A n cap) l) : Bytes w w.heap.size A l := by
  obtain ⟨A', c', e⟩ := h.shape
  injection e with e1 e2 e3; subst e1; subst e2; subst e3
  exact arr_of_own h fun i j hi hj => by
    obtain rfl : j = 0 := by omega
    simp [u8s, at0, List.getD, hi]
theorem OwnB.cap {w : World} {base n c : Nat} {A : Option Addr} {l : List Int} (h : OwnB w base (.slice A n c) l) : l.length ≤ c ∧ c ≤ maxLen ∧ (A = none → c = 0) := by
  obtain ⟨h1, h2⟩ := h
  rcases h2 with ⟨hv, hn⟩ | ⟨g, cap, cur, hv, _, _, hc, hm, _⟩
  · injection hv with e1 e2 e3; subst e3; exact ⟨by omega, by unfold maxLen; omega, fun _ => rfl⟩
  · injection hv with e1 e2 e3; subst e1; subst e3; exact ⟨hc, hm, fun h => by cases h⟩
theorem OwnB.blocks {w : World} {base n c : Nat} {A : Option Addr} {l : List Int} (h : OwnB w base (.slice A n c) l) (h0 : 0 < l.length) : ∃ g, A = some ⟨g, 0, none⟩ ∧ base ≤ g ∧ g < w.heap.size := by
  obtain ⟨g, cap, e, h1, h2⟩ := World.ownsRow.form h h0
  injection e with e1 e2 e3; subst e1
  exact ⟨g, rfl, h1, h2⟩
theorem Bytes.below {w w' : World} {B : Nat} {A : Option Addr} {l : List Int} (h : Bytes w B A l) (hb : Below B w w') : Bytes w' B A l := Arr.below h hb
theorem Bytes.set {w : World} {B : Nat} {A : Option Addr} {l : List Int} (h : Bytes w B A l) {p : Addr} (hp : B ≤ p.block) (v : Value) : Bytes (w.setCell p v) B A l := Bytes.below h ((Below.refl B w).setCell hp v)
theorem Bytes.more {w : World} {B B' : Nat} {A : Option Addr} {l : List Int} (h : Bytes w B A l) (hb : B ≤ B') : Bytes w B' A l := Arr.more h hb
theorem Bytes.alloc {w : World} {B : Nat} {A : Option Addr} {l : List Int} (h : Bytes w B A l) (hB : B ≤ w.heap.size) (o : Obj) : Bytes (w.alloc o) B A l := Bytes.below h ((Below.refl B w).alloc hB o)
theorem Bytes.drew {w : World} {B : Nat} {A : Option Addr} {l : List Int} (h : Bytes w B A l) : Bytes w.drew B A l := h
theorem Bytes.drewN {w : World} {B : Nat} {A : Option Addr} {l : List Int} (h : Bytes w B A l) (n : Nat) : Bytes (w.drewN n) B A l := h
theorem Bytes.nil (w : World) (B : Nat) (A : Option Addr) : Bytes w B A [] := fun h => absurd h (by simp)
theorem at0_take {l : List Int} {n k : Nat} (h : k < n) : at0 (l.take n) k = at0 l k := by simp [at0, List.getD, h]
theorem at0_drop (l : List Int) (n k : Nat) : at0 (l.drop n) k = at0 l (n + k) := by simp [at0, List.getD, List.getElem?_drop]
theorem at0_app_l {a b : List Int} {k : Nat} (h : k < a.length) : at0 (a ++ b) k = at0 a k := by simp [at0, List.getD, List.getElem?_append_left h]
theorem at0_app_r {a b : List Int} {k : Nat} (h : a.length ≤ k) : at0 (a ++ b) k = at0 b (k - a.length) := by simp [at0, List.getD, List.getElem?_append_right h]
theorem at0_out {l : List Int} {k : Nat} (h : l.length ≤ k) : at0 l k = 0 := by simp [at0, List.getD, List.getElem?_eq_none h]
theorem Octets.take {l : List Int} (h : Octets l) (n : Nat) : Octets (l.take n) := fun k => by
  by_cases hk : k < n
  · rw [at0_take hk]; exact h k
  · rw [at0_out (by rw [List.length_take]; omega)]; omega
theorem Octets.drop {l : List Int} (h : Octets l) (n : Nat) : Octets (l.drop n) := fun k => by rw [at0_drop]; exact h _
theorem Octets.app {a b : List Int} (ha : Octets a) (hb : Octets b) : Octets (a ++ b) := fun k => by
  by_cases hk : k < a.length
  · rw [at0_app_l hk]; exact ha k
  · rw [at0_app_r (by omega)]; exact hb _
theorem Octets.nil : Octets [] := fun k => by simp [at0]
theorem Octets.cons {x : Int} {l : List Int} (hx : 0 ≤ x ∧ x ≤ 255) (h : Octets l) : Octets (x :: l) := fun k => by
  cases k with
  | zero => simpa [at0] using hx
  | succ k => have := h k; simpa [at0] using this
theorem Octets.ofAll {l : List Int} (h : ∀ x ∈ l, 0 ≤ x ∧ x ≤ 255) : Octets l := fun k => by
  by_cases hk : k < l.length
  · have e : at0 l k = l[k] := by simp [at0, List.getD, hk]
    rw [e]; exact h _ (List.getElem_mem hk)
  · rw [at0_out (by omega)]; omega
theorem Octets.all {l : List Int} (h : Octets l) : ∀ x ∈ l, 0 ≤ x ∧ x ≤ 255 := fun x hx => by
  obtain ⟨k, hk, rfl⟩ := List.getElem_of_mem hx
  have e : at0 l k = l[k] := by simp [at0, List.getD, hk]
  rw [← e]; exact h k
theorem bytes_take {w : World} {B : Nat} {A : Option Addr} {l : List Int} (h : Bytes w B A l) (n : Nat) : Bytes w B A (l.take n) := fun h0 => by
  have h1 : 0 < l.length := by rw [List.length_take] at h0; omega
  obtain ⟨b, off, hA, hb, hc⟩ := h h1
  refine ⟨b, off, hA, hb, fun i j hi hj => ?_⟩
  rw [List.length_take] at hi
  rw [hc i j (by omega) hj]; exact congrArg (fun x => some (Value.int .u8 x)) (at0_take (by omega)).symm
theorem addr_add (b off k : Nat) : (⟨b, off, none⟩ : Addr).add k = ⟨b, off + k, none⟩ := by unfold Addr.add; split <;> simp_all
/-- 'b[k:]' as the model has it: at the end of the capacity the address stays. -/
theorem bytes_drop {w : World} {B : Nat} {A : Option Addr} {l : List Int} (h : Bytes w B A l) (k cap : Nat) (hc : l.length ≤ cap) : Bytes w B (if cap = k then A else A.map (·.add k)) (l.drop k) := fun h0 => by
  rw [List.length_drop] at h0
  obtain ⟨b, off, hA, hb, hcell⟩ := h (by omega)
  rw [if_neg (by omega), hA]
  refine ⟨b, off + k, by simp [addr_add], hb, fun i j hi hj => ?_⟩
  rw [List.length_drop] at hi
  obtain rfl : j = 0 := by omega
  have := hcell (k + i) 0 (by omega) (by omega)
  rw [show off + k + i * 1 + 0 = off + (k + i) * 1 + 0 from by omega, this]
  exact congrArg (fun x => some (Value.int .u8 x)) (at0_drop l k i).symm
/-- 'string(b)'. -/
theorem convert_bytes {P : Program} {w : World} {B : Nat} {A : Option Addr} {l : List Int} (h : Bytes w B A l) (c : Nat) (src e dst : TypeId)
    (hs : P.underlying src = some (.slice e)) (he : P.underlying e = some (.int .u8)) (hd : P.underlying dst = some .string) :
    (convert src dst (.slice A l.length c)).run P w = .ok (.string (strOfNums l)) w := by
  by_cases h0 : 0 < l.length
  · obtain ⟨b, off, rfl, _, hc⟩ := h.cells h0
    exact run_convert_bytes_arg (P := P) w src e hs he b off l.length c l rfl (fun i hi => by rw [hc i hi]; simp [at0]) dst hd
  · obtain rfl : l = [] := List.eq_nil_of_length_eq_zero (by omega)
    rw [List.length_nil, run_convert_bytes_string w src dst e _ 0 c hs he hd]
    cases A with
    | none => simp [Conv.bytesToString]; rfl
    | some a =>
      have hl : (loadCells a 0).run P w = .ok (([] : List Int).map (Value.int .u8)).toArray w := run_loadCells_list (P := P) w a [] (fun j v hj => by simp at hj)
      rw [run_bytesToString w a 0 c [] hl]; rfl
theorem str_eq_iff {a b : List Int} (ha : Octets a) (hb : Octets b) : strOfNums a = strOfNums b ↔ a = b := by
  constructor
  · intro h
    have h2 := congrArg (fun s : ByteArray => s.data.toList) h
    simp only [strOfNums_data] at h2
    have hl : a.length = b.length := by simpa using congrArg List.length h2
    apply List.ext_getElem hl
    intro i h1 h3
    have e := congrArg (fun l : List UInt8 => (l[i]?).map (·.toNat)) h2
    simp [h1, h3] at e
    have ea := ha.all a[i] (List.getElem_mem h1)
    have eb := hb.all b[i] (List.getElem_mem h3)
    omega
  · rintro rfl; rfl

/-- The block and the value of a row within its capacity. -/
theorem own_mk {w : World} {base g n cap : Nat} {cur : List Value} {xs : List Int} (hg : w.heap[g]? = some (.cells cur.toArray 5 (0, 0))) (hb : base ≤ g) (hn : xs.length = n) (hc : n ≤ cap) (hm : cap ≤ maxLen) (hs : cur.length = cap) (ht : cur.take n = u8s xs) :
    OwnB w base (.slice (some ⟨g, 0, none⟩) n cap) xs := by
  subst hn
  exact ⟨by simp [u8s], .inr ⟨g, cap, cur.toArray, rfl, hb, hg, hc, hm, by simp [hs], by simpa using ht⟩⟩

theorem Bytes.src {w : World} {B : Nat} {A : Option Addr} {l : List Int} (h : Bytes w B A l) (h0 : 0 < (u8s l).length) : ∃ ad, A = some ad ∧ ∀ j v, (u8s l)[j]? = some v → w.cell? (ad.add j) = some v := by
  rw [u8s_len] at h0
  obtain ⟨b, off, e, _, hc⟩ := h.cells h0
  refine ⟨_, e, fun j v hj => ?_⟩
  have hjl : j < l.length := by
    apply Decidable.byContradiction; intro hn'
    rw [List.getElem?_eq_none (by simp [u8s]; omega)] at hj; cases hj
  rw [u8s_get hjl] at hj; injection hj with hj; subst hj
  rw [addr_add]; exact hc j hjl
theorem Bytes.one (W : World) (x : Int) : Bytes (W.alloc (.cells #[.int .u8 x] 5)) (W.heap.size + 1) (some ⟨W.heap.size, 0, none⟩) [x] := fun _ =>
  ⟨W.heap.size, 0, rfl, by omega, fun i j hi hj => by
    obtain rfl : i = 0 := by simpa using hi
    obtain rfl : j = 0 := by omega
    exact (Is.new W 5 #[.int .u8 x]).cell 0⟩
theorem take_src {w : World} {B : Nat} {A : Option Addr} {l : List Int} (h : Bytes w B A l) {k : Nat} (h0 : 0 < ((u8s l).take k).length) : ∃ ad, A = some ad ∧ ∀ j v, ((u8s l).take k)[j]? = some v → w.cell? (ad.add j) = some v := by
  obtain ⟨ad, e, hc⟩ := h.src (by rw [List.length_take] at h0; omega)
  exact ⟨ad, e, fun j v hj => hc j v (by rw [List.getElem?_take] at hj; split at hj; exact hj; cases hj)⟩
theorem u8s_splice (l x : List Int) (i : Nat) : splice (u8s l) i (u8s x) = u8s (splice l i x) := by simp [splice, u8s]
theorem Bytes.lit (W : World) (l : List Int) : Bytes (W.alloc (.cells (u8s l).toArray 5)) (W.heap.size + 1) (some ⟨W.heap.size, 0, none⟩) l := fun _ =>
  ⟨W.heap.size, 0, rfl, by omega, fun i j hi hj => by
    obtain rfl : j = 0 := by omega
    have := (Is.new W 5 (u8s l).toArray).cell i
    rw [Nat.zero_add, Nat.mul_one, Nat.add_zero, this]
    simpa using u8s_get hi⟩
theorem splice_head (l : List Int) (k : Nat) : splice (u8s (List.replicate (l.length + k) 0)) 0 (u8s l) = u8s (l ++ List.replicate k 0) := by
  simp [splice, u8s]
theorem splice_head0 (l : List Int) : splice (u8s (List.replicate l.length 0)) 0 (u8s l) = u8s l := by
  simp [splice, u8s]
/-- Behind an append onto a row of the call's own, what was there when the call began is as it was. -/
theorem grown_own {W w w1 : World} {v : Value} {l : List Int} (hb : Below W.heap.size W w) (hg : w.grownBy w1 v.ownBlock) (ho : OwnB w W.heap.size v l) : Below W.heap.size W w1 :=
  hb.grown hg hb.size (fun k hk => (World.ownsRow.lt ho k hk).1)
/-- append(s, x...) onto a row of the call's own. -/
theorem app_bytes {P : Program} {w : World} {ops : Array Oper} {rest : List Oper} {o : Oper} {a : Act} {Q : Exit → Act → World → Prop} (s x : Operand) (t : TypeId)
    (ho : o.op = .call { callee := .builtin .append, args := #[s, x], argTypes := #[t, t] }) (hgd : o.guard = none)
    (ht : P.underlying t = some (.slice 5)) (hi : (P.info? 5).map (fun i => (i.zero, i.size, i.bytes)) = some (some (.int .u8 0), 1, 1))
    {base : Nat} {v : Value} {xs : List Int} (hs : a.eval s = v) (hown : OwnB w base v xs)
    {A : Option Addr} {m c B : Nat} {l : List Int} (hx : a.eval x = .slice A m c) (hm : l.length = m) (hl : Bytes w B A l) (hn : xs.length + l.length ≤ 100000000) (hbase : base ≤ w.heap.size)
    (h : ∀ A' c' w', OwnB w' base (.slice A' (xs.length + m) c') (xs ++ l) → w.grownBy w' v.ownBlock → ((Value.slice A' (xs.length + m) c').ownBlock = v.ownBlock ∨ (Value.slice A' (xs.length + m) c').ownBlock = some w.heap.size) → wpList P ops Q rest (a.put o.dst (.slice A' (xs.length + m) c')) w') :
    wpList P ops Q (o :: rest) a w := by
  obtain ⟨i, hi0, hz, hsz, hby⟩ := info_parts hi
  subst hm
  have key : ∀ v' w', (Builtin.append_ #[t, t] o.type #[v, .slice A l.length c]).run P w = .ok v' w' → w'.ownsRow base 5 1 v' (xs.length + l.length) (u8s xs ++ u8s l) → w.grownBy w' v.ownBlock → (v'.ownBlock = v.ownBlock ∨ v'.ownBlock = some w.heap.size) → wpList P ops Q (o :: rest) a w := by
    intro v' w' hr h2 h3 h4
    obtain ⟨A', c', rfl⟩ := own_shape h2
    refine wpList_plain hgd fun K hK => ?_
    unfold Oper.wp execOp
    simp only [ho, resolve, invoke, builtin, Sem.run_bind, Sem.run_pure, Result.andThen_ok, List.map_toArray, List.map_cons, List.map_nil, hs, hx, hr]
    refine hK _ _ (h A' c' w' ?_ h3 h4)
    unfold OwnB
    rw [List.length_append, ← u8s_app]; exact h2
  cases A with
  | some ad =>
    have hcell : ∀ j, j < l.length → w.cell? (ad.add j) = some (.int .u8 (at0 l j)) := fun j hj => by
      obtain ⟨b, off, e, _, hc⟩ := hl.cells (by omega)
      injection e with e; subst e
      rw [addr_add]; exact hc j hj
    obtain ⟨v', w', hr, h2, h3, _, h5⟩ := run_append_own_at (P := P) w base t o.type 5 i (.int .u8 0) 1 1 ht hi0 hz hsz hby rfl (by omega) v xs.length (u8s xs) hown ad l.length c (u8s l) (by simp [u8s])
      (fun j u hj => by
        have hjl : j < l.length := by
          apply Decidable.byContradiction; intro hn'
          rw [List.getElem?_eq_none (by simp [u8s]; omega)] at hj; cases hj
        rw [u8s_get hjl] at hj; injection hj with hj; subst hj
        exact hcell j hjl) (u8s_one l) (by unfold maxLen; omega) (by omega) hbase
    exact key v' w' hr h2 h3 h5
  | none =>
    obtain rfl : l = [] := by
      apply List.eq_nil_of_length_eq_zero
      apply Decidable.byContradiction; intro hne
      obtain ⟨b, off, e, _, _⟩ := hl.cells (by omega)
      cases e
    refine key v w ?_ (by rw [u8s_app, List.append_nil]; exact hown) (only_refl _ _) (.inl rfl)
    rcases World.ownsRow.kept hown (only_refl w none) (by cases v.ownBlock <;> simp) with ⟨_, ⟨rfl, hx0⟩ | ⟨g, cap, cur, rfl, _, _, hnc, _⟩⟩
    · simp [Builtin.append_, run_underlying ht, sizeOf, typeInfo, hi0, Builtin.lenOf, Builtin.firstCells]
    · simp [Builtin.append_, run_underlying ht, sizeOf, typeInfo, hi0, Builtin.lenOf, Builtin.firstCells, hnc, storeCells]
end Go.Proofs.Ytmgendgfdhhgfaa
