/-
  What the calls of package icmp and the document's answer for layer 8 return. Helper of the claims on ICMP messages. No condition.
-/
import Derived.Test.YthjkjohmaemmiaaOctS
import Derived.Test.YthjkjohmaemmiaaGrow
namespace Go.Proofs.Ythjkjohmaemmiaa
open Go.ChangeShapes Go.WideShapes Go.ChangeAt Go.RowKit
set_option linter.unusedSimpArgs false
set_option linter.unusedVariables false

theorem bcell {W w1 : World} (hb : Below W.heap.size W w1) : (∀ b o, b < W.heap.size → w1.cell? ⟨b, o, none⟩ = W.cell? ⟨b, o, none⟩) ∧ (∀ b o, b < W.heap.size → w1.frozen? ⟨b, o, none⟩ = W.frozen? ⟨b, o, none⟩) :=
  ⟨fun b o h => hb.cell (p := ⟨b, o, none⟩) h, fun b o h => hb.frozen (p := ⟨b, o, none⟩) h⟩
theorem IsB.take {l : List Int} {n k c : Nat} {A : Option Addr} {w : World} (h : IsB l n (.slice A n c) w) (hk : k ≤ n) : IsB (l.take k) k (.slice A k c) w := by
  obtain ⟨A', c', e, h1, h2, h3, h4, h5⟩ := h
  injection e with e1 e2 e3; subst e1; subst e3
  exact ⟨A, c, rfl, by rw [List.length_take]; omega, bytes_take h2 k, by omega, h4, h5⟩
theorem clone_p {l : List Int} {n : Nat} {v : Value} {w : World} (h : IsB l n v w) (hm : n ≤ 90000000) :
    Calls Try.prog 108 #[v] w fun e w'' => ∃ v, e = .returned v ∧ Below w.heap.size w w'' ∧ IsB l n v w'' := by
  obtain ⟨A, c, rfl, rfl, h2, h3, h4, h5⟩ := h
  exact (clone_any A c l w _ h2 (Nat.le_refl _) hm h5).mono fun e w' ⟨A, c, h, ho, hb⟩ => ⟨_, h, hb, IsB.own ho⟩

theorem IsB.shape {l : List Int} {n : Nat} {v : Value} {w : World} (h : IsB l n v w) : ∃ A c, v = .slice A n c := by obtain ⟨A, c, e, _⟩ := h; exact ⟨A, c, e⟩
theorem IsB.alloc {l : List Int} {n : Nat} {v : Value} {w : World} (h : IsB l n v w) (o : Obj) : IsB l n v (w.alloc o) := h.st ((Below.refl _ _).alloc (Nat.le_refl _) _)
theorem clone_k {l : List Int} {n : Nat} {v : Value} {w : World} (h : IsB l n v w) (hm : n ≤ 90000000) : Calls Try.prog 108 #[v] w (GivesK w l n) := by
  obtain ⟨A, c, rfl, rfl, h2, h3, h4, h5⟩ := h
  exact (clone_any A c l w _ h2 (Nat.le_refl _) hm h5).mono fun e w' h => h.k rfl
theorem Below.set1 {B : Nat} {u w : World} (h : Below B u w) {g i : Nat} (hg : B ≤ g) (v : Value) : Below B u (w.setCell ⟨g, i, none⟩ v) := h.setCell hg v
theorem OwnB.set1 {w : World} {base : Nat} {v : Value} {l : List Int} (h : OwnB w base v l) {g i : Nat} (hp : g < base) (u : Value) : OwnB (w.setCell ⟨g, i, none⟩ u) base v l := h.set hp u
theorem put_k {l : List Int} {k : Nat} {v : Value} {w : World} (n : Nat) (s : Int) (s' k' : Nat) (h : IsB l k v w) (hm : k ≤ 80000000) (hn : n < 18446744073709551616) (s0 : -9223372036854775808 ≤ s) (s1 : s ≤ 9223372036854775807) (hs : sz8 s = s') (hk : k + s' = k') :
    Calls Try.prog 85 #[v, .int .u64 (n : Int), .int .i64 s] w (GivesK w (l ++ be n s') k') := by
  obtain ⟨A, c, rfl, rfl, h2, h3, h4, h5⟩ := h
  subst hs
  exact (put_any A c l n s w _ h2 (Nat.le_refl _) hm hn s0 s1).mono fun e w' h => h.k (by rw [List.length_append, be_len]; exact hk)
theorem app_k {P : Program} {w : World} {ops : Array Oper} {rest : List Oper} {o : Oper} {a : Act} {Q : Exit → Act → World → Prop} (s x : Operand) (t : TypeId)
    (ho : o.op = .call { callee := .builtin .append, args := #[s, x], argTypes := #[t, t] }) (hgd : o.guard = none)
    (ht : P.underlying t = some (.slice 5)) (hi : (P.info? 5).map (fun i => (i.zero, i.size, i.bytes)) = some (some (.int .u8 0), 1, 1))
    {base : Nat} {v : Value} {xs : List Int} {k k' : Nat} (hs : a.eval s = v) (hown : OwnB w base v xs) (hk : xs.length = k)
    {u : Value} {m : Nat} {l : List Int} (hx : a.eval x = u) (hl : IsB l m u w) (hk' : k + m = k') (hn : k' ≤ 100000000) (hbase : base ≤ w.heap.size)
    (h : ∀ A' c' w', OwnB w' base (.slice A' k' c') (xs ++ l) → w.grownBy w' v.ownBlock → wpList P ops Q rest (a.put o.dst (.slice A' k' c')) w') :
    wpList P ops Q (o :: rest) a w := by
  subst hk; subst hk'
  obtain ⟨A, c, rfl, h1, h2, _⟩ := hl
  exact app_bytes s x t ho hgd ht hi hs hown hx h1 h2 (by omega) hbase fun A' c' w' h3 h4 _ => h A' c' w' h3 h4
/-- A message as a value. -/
def msg8 (t c s x : Int) (v : Value) : Value := .agg #[.int .u8 t, .int .u8 c, .int .u16 s, .int .u32 x, v]
def Msg (w : World) (t c s x : Int) (l : List Int) (n : Nat) (e : Ending) (w' : World) : Prop := ∃ v, e = .returned (msg8 t c s x v) ∧ Below w.heap.size w w' ∧ IsB l n v w'

end Go.Proofs.Ythjkjohmaemmiaa
