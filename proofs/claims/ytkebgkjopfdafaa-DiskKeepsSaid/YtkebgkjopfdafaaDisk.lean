/-
  The calls of package disk: what each returns and what lies on the disk then. Helper of the claim DiskKeeps. No condition.
-/
import Derived.Test.YtkebgkjopfdafaaLinB
import Derived.BigQuiet
import Derived.IntWalk
import Derived.BigRegion
import Derived.Deep.QuietTactic
import Derived.BigQuiet
import Derived.Deep.QuietTactic
import Derived.Outline
import Derived.WalkSpells
import Derived.StillTailTactics
import Derived.Deep.RegionWith
namespace Go.Proofs.Ytkebgkjopfdafaa
open Go.ChangeShapes Go.WideShapes Go.ChangeAt Go.RowKit
set_option linter.unusedVariables false
set_option maxRecDepth 100000
theorem info8 : (Try.prog.info? 5).map (fun i => (i.zero, i.size, i.bytes)) = some (some (.int .u8 0), 1, 1) := by kernel_rfl
theorem own_empty (w : World) : OwnB (w.alloc (.cells #[] 5)) w.heap.size (.slice (some ⟨w.heap.size, 0, none⟩) 0 0) [] := World.ownsRow_lit w #[] 0 (Nat.le_refl _) (by unfold maxLen; omega) rfl
/-- A new slice of bytes is given back; nothing that there was is touched. -/
def Gives (w : World) (l : List Int) (e : Ending) (w' : World) : Prop := ∃ A c, e = .returned (.slice A l.length c) ∧ OwnB w' w.heap.size (.slice A l.length c) l ∧ Below w.heap.size w w'

set_option maxRecDepth 100000 in
set_option maxHeartbeats 1000000 in
theorem clone_any (A : Option Addr) (c : Nat) (l : List Int) (w : World) (B : Nat) (h : Bytes w B A l) (hB : B ≤ w.heap.size) (hm : l.length ≤ 90000000) (hA : A = none → c = 0) :
    Calls Try.prog 83 #[.slice A l.length c] w (Gives w l) := by
  cases A with
  | none =>
    obtain rfl : l = [] := by
      apply List.eq_nil_of_length_eq_zero
      apply Decidable.byContradiction; intro hne
      obtain ⟨b, off, e, _, _⟩ := h.cells (by omega)
      cases e
    obtain rfl := hA rfl
    have hnil := Lib.run_eql_slice_nil (P := Try.prog) w 81 5 none 0 0 0 0 Try.underlying81
    clear h
    go_enter Try.func83, Try.ntmps83
    go_wp2_with fail
    go_ret
    exact ⟨none, 0, rfl, OwnB.nil _ _, Below.refl _ _⟩
  | some ad =>
    have HA := Lib.hid h
    have hnil := Lib.run_eql_slice_nil (P := Try.prog) w 81 5 (some ad) l.length c 0 0 Try.underlying81
    clear h hA
    go_enter Try.func83, Try.ntmps83
    go_wp2_with (at_builtin; refine app_bytes _ _ _ rfl rfl Try.underlying81 info8 (v := .slice (some ⟨w.heap.size, 0, none⟩) 0 0) (base := w.heap.size) (xs := []) rfl (own_empty w) rfl rfl (HA.out.alloc hB _) (by simp; omega) (by simp) ?_; intro A' c' w1 ho hg _)
    go_ret
    rw [List.nil_append, List.length_nil, Nat.zero_add] at ho
    exact ⟨A', c', by simp, ho, grown_own ((Below.refl _ w).alloc (Nat.le_refl _) _) hg (own_empty w)⟩
def GivesK (w : World) (l : List Int) (k : Nat) (e : Ending) (w' : World) : Prop := ∃ A c, e = .returned (.slice A k c) ∧ OwnB w' w.heap.size (.slice A k c) l ∧ Below w.heap.size w w'
theorem Gives.k {w w' : World} {l : List Int} {k : Nat} {e : Ending} (h : Gives w l e w') (hk : l.length = k) : GivesK w l k e w' := by subst hk; exact h

theorem OwnB.take {w : World} {base n c k : Nat} {A : Option Addr} {l : List Int} (h : OwnB w base (.slice A n c) l) (hk : k ≤ n) : OwnB w base (.slice A k c) (l.take k) := by
  obtain ⟨A', c', e⟩ := h.shape
  injection e with e1 e2 e3; subst e1; subst e2; subst e3
  obtain ⟨h1, h2⟩ := h
  rcases h2 with ⟨hv, hn⟩ | ⟨g, cap, cur, hv, hg, hh, hc, hm, hs, ht⟩
  · injection hv with e1 e2 e3; subst e1; subst e3
    have hl : l = [] := List.eq_nil_of_length_eq_zero hn
    subst hl
    obtain rfl : k = 0 := by simpa using hk
    exact OwnB.nil _ _
  · injection hv with e1 e2 e3; subst e1; subst e3
    refine own_mk (cur := cur.toList) (by simpa using hh) hg (by rw [List.length_take]; omega) (by omega) hm (by simpa using hs) ?_
    have ht' : cur.toList.take l.length = u8s l := by simpa using ht
    have : cur.toList.take k = (cur.toList.take l.length).take k := by rw [List.take_take, Nat.min_eq_left hk]
    rw [this, ht']
    simp [u8s, List.map_take]

theorem OwnB.set1d {w : World} {base : Nat} {v : Value} {l : List Int} (h : OwnB w base v l) {g i : Nat} (hp : g < base) (u : Value) : OwnB (w.setCell ⟨g, i, none⟩ u) base v l := own_set h (own_far h hp) u
theorem IsB.shape {l : List Int} {n : Nat} {v : Value} {w : World} (h : IsB l n v w) : ∃ A c, v = .slice A n c := by obtain ⟨A, c, e, _⟩ := h; exact ⟨A, c, e⟩

theorem IsB.drewN_ {l : List Int} {n : Nat} {v : Value} {w : World} (h : IsB l n v w) (k : Nat) : IsB l n v (w.drewN k) := h.st (below_drewN (Below.refl _ _) k)
theorem app_kd {P : Program} {w : World} {ops : Array Oper} {rest : List Oper} {o : Oper} {a : Act} {Q : Exit → Act → World → Prop} (s x : Operand) (t : TypeId)
    (ho : o.op = .call { callee := .builtin .append, args := #[s, x], argTypes := #[t, t] }) (hgd : o.guard = none)
    (ht : P.underlying t = some (.slice 5)) (hi : (P.info? 5).map (fun i => (i.zero, i.size, i.bytes)) = some (some (.int .u8 0), 1, 1))
    {base : Nat} {v : Value} {xs : List Int} {k k' : Nat} (hs : a.eval s = v) (hown : OwnB w base v xs) (hk : xs.length = k)
    {u : Value} {m : Nat} {l : List Int} (hx : a.eval x = u) (hl : IsB l m u w) (hk' : k + m = k') (hn : k' ≤ 100000000) (hbase : base ≤ w.heap.size)
    (h : ∀ A' c' w', OwnB w' base (.slice A' k' c') (xs ++ l) → w.grownBy w' v.ownBlock → wpList P ops Q rest (a.put o.dst (.slice A' k' c')) w') :
    wpList P ops Q (o :: rest) a w := by
  subst hk; subst hk'
  obtain ⟨A, c, rfl, h1, h2, _⟩ := hl
  exact app_bytes s x t ho hgd ht hi hs hown hx h1 h2 (by omega) hbase fun A' c' w' h3 h4 _ => h A' c' w' h3 h4
/-- Block g is a disk: its bytes are l. -/
def DK (w : World) (g : Nat) (m : Int) (l : List Int) (s y : Int) : Prop :=
  ∃ A c, Is w g 160 #[.int .i64 m, .slice A l.length c, .int .i64 s, .int .i64 y] ∧ OwnB w (g + 1) (.slice A l.length c) l
theorem DK.lt {w : World} {g : Nat} {m s y : Int} {l : List Int} (h : DK w g m l s y) : g < w.heap.size := by obtain ⟨A, c, h, _⟩ := h; exact h.lt
theorem DK.below {w w' : World} {g : Nat} {m s y : Int} {l : List Int} (h : DK w g m l s y) (hb : Below w.heap.size w w') : DK w' g m l s y := by
  obtain ⟨A, c, h1, h2⟩ := h; exact ⟨A, c, h1.below hb h1.lt, h2.below hb⟩
set_option maxHeartbeats 1000000 in
theorem new_any (m : Int) (w : World) (m0 : 0 < m) (m1 : m ≤ 1000000) :
    Calls Try.prog 52 #[.int .i64 m] w fun e w' => e = .returned (.pointer (some ⟨w.heap.size, 0, none⟩)) ∧ DK w' w.heap.size m [] 0 0 ∧ Below w.heap.size w w' := by
  have q : ¬ m < 0 := by omega
  go_enter Try.func52, Try.ntmps52
  go_wp2_with fail
  go_ret
  exact ⟨rfl, ⟨none, 0, Is.new _ _ _, OwnB.nil _ _⟩, (Below.refl _ _).alloc (Nat.le_refl _) _⟩
set_option maxHeartbeats 2000000 in
theorem append_ok (g : Nat) (m s y : Int) (l b : List Int) (n : Nat) (v : Value) (w : World) (h : DK w g m l s y) (hb : IsB b n v w) (hm : (l.length : Int) + n ≤ m) (m1 : m ≤ 1000000) :
    Calls Try.prog 53 #[.pointer (some ⟨g, 0, none⟩), v] w fun e w' => e = .returned (.int .i64 0) ∧ DK w' g m (l ++ b) s y ∧ Below g w w' := by
  obtain ⟨A, c, hi, ho⟩ := h
  obtain ⟨X, d, rfl⟩ := hb.shape
  have HL := Lib.hid (show b.length = n from by obtain ⟨_, _, _, h, _⟩ := hb; exact h)
  have c0 := hi.cell 0
  have c1 := hi.cell 1
  have c2 := hi.cell 2
  have c3 := hi.cell 3
  have fi := hi.free
  have li := hi.lt
  simp at c0 c1 c2 c3 fi
  have q : (n : Int) ≤ m - (l.length : Int) := by omega
  have HI := Lib.hid hi; have HO := hide ho; have HB := hide hb
  clear hi ho hb
  go_enter Try.func53, Try.ntmps53
  go_wp2_with fail
  go_quiet (fail)
  go_wp2_with (
    at_builtin
    refine app_kd _ _ _ rfl rfl Try.underlying81 info8 (v := .slice A l.length c) (base := g + 1) (xs := l) (k := l.length) (k' := l.length + n) rfl (HO.out.drewN _) rfl rfl (HB.out.drewN_ _) rfl (by omega) (by simp; omega) ?_
    intro A9 c9 w9 ho hg
    have hi9 := (HI.out.drewN _).only hg (fun e => by have h9 := (World.ownsRow.lt HO.out g e.symm).1; omega)
    have p0 := hi9.cell 0
    have p1 := hi9.cell 1
    have p2 := hi9.cell 2
    have p3 := hi9.cell 3
    have fp := hi9.free
    have lp := hi9.lt
    simp at p0 p1 p2 p3 fp
    have HO9 := hide ho; have HG := Lib.hid hg; have HI9 := Lib.hid hi9
    clear ho hg hi9)
  go_ret
  refine ⟨rfl, ⟨A9, c9, ?_, ?_⟩, ?_⟩
  · have h9 := HI9.out.put 1 (.slice A9 (l.length + n) c9)
    simp only [List.setIfInBounds_toArray, List.set_cons_zero, List.set_cons_succ] at h9
    rw [List.length_append, HL.out]
    exact h9
  · rw [List.length_append, HL.out]
    exact HO9.out.set1d (by omega) _
  · have h9 : Below g w w9 := (below_drewN (Below.refl g w) _).grown HG.out (by simp; omega) (fun k hk => by have h9 := (World.ownsRow.lt HO.out k hk).1; omega)
    exact h9.setCell (p := ⟨g, 1, none⟩) (Nat.le_refl _) _
set_option maxHeartbeats 1000000 in
theorem sync_any (g : Nat) (m s y : Int) (l : List Int) (w : World) (h : DK w g m l s y) (y0 : 0 ≤ y) (y1 : y ≤ 1000) (hl : l.length ≤ 1000000) :
    Calls Try.prog 54 #[.pointer (some ⟨g, 0, none⟩)] w fun e w' => e = .returned (.int .i64 0) ∧ DK w' g m l l.length (y + 1) ∧ Below g w w' := by
  obtain ⟨A, c, hi, ho⟩ := h
  have c0 := hi.cell 0
  have c1 := hi.cell 1
  have c2 := hi.cell 2
  have c3 := hi.cell 3
  have fi := hi.free
  have li := hi.lt
  simp at c0 c1 c2 c3 fi
  have HI := Lib.hid hi; have HO := hide ho
  clear hi ho
  go_enter Try.func54, Try.ntmps54
  go_wp2_with fail
  go_ret
  refine ⟨rfl, ⟨A, c, ?_, (HO.out.set1d (by omega) _).set1d (by omega) _⟩, Below.setCell (p := ⟨g, 3, none⟩) (Below.setCell (p := ⟨g, 2, none⟩) (Below.refl g w) (Nat.le_refl _) _) (Nat.le_refl _) _⟩
  have h9 := (HI.out.put 2 (.int .i64 (l.length : Int))).put 3 (.int .i64 (y + 1))
  simp only [List.setIfInBounds_toArray, List.set_cons_zero, List.set_cons_succ] at h9
  exact h9
set_option maxHeartbeats 1000000 in
theorem keep_any (g n : Nat) (m s y : Int) (l : List Int) (w : World) (h : DK w g m l s y) (hn : n ≤ l.length) (hl : l.length ≤ 1000000) :
    Calls Try.prog 88 #[.pointer (some ⟨g, 0, none⟩), .int .i64 (n : Int)] w fun e w' => e = .returned (.tuple #[]) ∧ DK w' g m (l.take n) n y ∧ Below g w w' := by
  obtain ⟨A, c, hi, ho⟩ := h
  have hcap : l.length ≤ c ∧ c ≤ maxLen := ⟨ho.cap.1, ho.cap.2.1⟩
  obtain ⟨q1, q2⟩ := hcap
  unfold maxLen at q2
  have c0 := hi.cell 0
  have c1 := hi.cell 1
  have c2 := hi.cell 2
  have c3 := hi.cell 3
  have fi := hi.free
  have li := hi.lt
  simp at c0 c1 c2 c3 fi
  have HI := Lib.hid hi; have HO := hide ho
  clear hi ho
  go_enter Try.func88, Try.ntmps88
  go_wp2_with fail
  go_end0
  refine ⟨rfl, ⟨A, c, ?_, ?_⟩, Below.setCell (p := ⟨g, 2, none⟩) (Below.setCell (p := ⟨g, 1, none⟩) (Below.refl g w) (Nat.le_refl _) _) (Nat.le_refl _) _⟩
  · have h9 := (HI.out.put 1 (.slice A n c)).put 2 (.int .i64 (n : Int))
    simp only [List.setIfInBounds_toArray, List.set_cons_zero, List.set_cons_succ] at h9
    rw [List.length_take, Nat.min_eq_left hn]
    exact h9
  · rw [List.length_take, Nat.min_eq_left hn]
    exact ((HO.out.take hn).set1d (by omega) _).set1d (by omega) _
/-- So many unsynced bytes are kept. -/
def Kept (g : Nat) (m y : Int) (l : List Int) (s k : Nat) (w : World) (e : Ending) (w' : World) : Prop :=
  ∃ l' : List Int, e = .returned (.int .i64 ((l.length : Int) - s - k)) ∧ l'.length = s + k ∧ l'.take s = l.take s ∧ DK w' g m l' ((s + k : Nat) : Int) y ∧ Below g w w'
theorem Kept.mk {g s k u : Nat} {m y : Int} {l l' : List Int} {w w' : World} (hu : l.length = s + u) (h1 : l'.length = s + k) (h2 : l'.take s = l.take s) (h3 : DK w' g m l' ((s + k : Nat) : Int) y) (h4 : Below g w w')
    (x : Int) (hx : x = (u : Int) - k) : Kept g m y l s k w (.returned (.int .i64 x)) w' := ⟨l', by rw [hx, hu]; simp; omega, h1, h2, h3, h4⟩
set_option maxHeartbeats 2000000 in
theorem crash_none (g s u : Nat) (m y : Int) (l : List Int) (keep bits : Int) (w : World) (h : DK w g m l s y) (hs : l.length = s + u) (hl : l.length ≤ 1000000) (hk : keep < 0 ∨ keep = 0 ∨ (0 < keep ∧ u = 0)) :
    Calls Try.prog 55 #[.pointer (some ⟨g, 0, none⟩), .int .i64 keep, .int .u8 bits] w (Kept g m y l s 0 w) := by
  obtain ⟨A, c, hi, ho⟩ := id h
  have c0 := hi.cell 0
  have c1 := hi.cell 1
  have c2 := hi.cell 2
  have c3 := hi.cell 3
  have fi := hi.free
  have li := hi.lt
  simp at c0 c1 c2 c3 fi
  have HD := hide h
  have hw9 : IntKind.i64.wrap ((l.length : Int) - (s : Int)) = (u : Int) := by rw [IntWalk.i64_in _ (by omega)]; omega
  have HW := Lib.hid hw9
  have HS := Lib.hid hs
  have HL0 := Lib.hid hl
  have hu0 : u ≤ 1000000 := by omega
  have hs0 : s ≤ 1000000 := by omega
  have hsl : s ≤ l.length := by omega
  clear hi ho h hw9 hs hl
  rcases hk with hk | hk | ⟨hk, hk2⟩
  · go_enter Try.func55, Try.ntmps55
    have hw9 := HW.out
    go_wp2_with fail
    go_quiet (fail)
    clear hw9
    go_wp2_with fail
    refine (keep_any g s m s y l _ (HD.out.below (below_drewN (Below.refl _ _) _)) hsl HL0.out).mono ?_
    rintro e w2 ⟨rfl, hd2, hb2⟩
    have HD2 := hide hd2; have HB2 := Lib.hid hb2
    clear hd2 hb2
    go_wp2_with fail
    go_ret
    exact Kept.mk (k := 0) HS.out (by rw [List.length_take]; have := HS.out; omega) (by rw [List.take_take, Nat.min_self]) HD2.out ((below_drewN (Below.refl g w) _).trans HB2.out) _ (by omega)
  · go_enter Try.func55, Try.ntmps55
    have hw9 := HW.out
    subst hk
    go_wp2_with fail
    go_quiet (fail)
    clear hw9
    go_wp2_with fail
    refine (keep_any g s m s y l _ (HD.out.below (below_drewN (Below.refl _ _) _)) hsl HL0.out).mono ?_
    rintro e w2 ⟨rfl, hd2, hb2⟩
    have HD2 := hide hd2; have HB2 := Lib.hid hb2
    clear hd2 hb2
    go_wp2_with fail
    go_ret
    exact Kept.mk (k := 0) HS.out (by rw [List.length_take]; have := HS.out; omega) (by rw [List.take_take, Nat.min_self]) HD2.out ((below_drewN (Below.refl g w) _).trans HB2.out) _ (by omega)
  · subst hk2
    have hk3 : ¬ keep < 0 := by omega
    go_enter Try.func55, Try.ntmps55
    have hw9 := HW.out
    go_wp2_with fail
    go_quiet (fail)
    clear hw9
    go_wp2_with fail
    refine (keep_any g s m s y l _ (HD.out.below (below_drewN (Below.refl _ _) _)) hsl HL0.out).mono ?_
    rintro e w2 ⟨rfl, hd2, hb2⟩
    have HD2 := hide hd2; have HB2 := Lib.hid hb2
    clear hd2 hb2
    go_wp2_with fail
    go_ret
    exact Kept.mk (k := 0) (u := 0) HS.out (by rw [List.length_take]; have := HS.out; omega) (by rw [List.take_take, Nat.min_self]) HD2.out ((below_drewN (Below.refl g w) _).trans HB2.out) _ (by omega)
set_option maxHeartbeats 4000000 in
theorem crash_some (g s u k : Nat) (m y : Int) (l : List Int) (keep bits : Int) (w : World) (h : DK w g m l s y) (hs : l.length = s + u) (hl : l.length ≤ 1000000) (h0 : 0 < k) (hk : (keep = (k : Int) ∧ k ≤ u) ∨ ((u : Int) < keep ∧ k = u)) :
    Calls Try.prog 55 #[.pointer (some ⟨g, 0, none⟩), .int .i64 keep, .int .u8 bits] w (Kept g m y l s k w) := by
  obtain ⟨A, c, hi, ho⟩ := id h
  have c0 := hi.cell 0
  have c1 := hi.cell 1
  have c2 := hi.cell 2
  have c3 := hi.cell 3
  have fi := hi.free
  have li := hi.lt
  simp at c0 c1 c2 c3 fi
  have HD := hide h
  have hw9 : IntKind.i64.wrap ((l.length : Int) - (s : Int)) = (u : Int) := by rw [IntWalk.i64_in _ (by omega)]; omega
  have HW := Lib.hid hw9
  have HS := Lib.hid hs
  have HL0 := Lib.hid hl
  have hu0 : u ≤ 1000000 := by omega
  have hs0 : s ≤ 1000000 := by omega
  have hku : k ≤ u := by omega
  have hskl : s + k ≤ l.length := by omega
  clear hi ho h hw9 hs hl
  rcases hk with ⟨rfl, hk⟩ | ⟨hk, rfl⟩
  all_goals
    go_enter Try.func55, Try.ntmps55
    have hw9 := HW.out
    (try have hkk : ¬ ((u : Int) < (k : Int)) := by omega)
    go_wp2_with fail
    go_quiet (fail)
    clear hw9
    go_wp2_with fail
    rw [show (s : Int) + (k : Int) = ((s + k : Nat) : Int) from by omega]
    refine (keep_any g (s + k) m s y l _ (HD.out.below (below_drewN (Below.refl _ _) _)) hskl HL0.out).mono ?_
    rintro e w2 ⟨rfl, hd2, hb2⟩
    have HB2 := Lib.hid ((below_drewN (Below.refl g w) _).trans hb2)
    obtain ⟨A2, c2', hi2, ho2⟩ := hd2
    have hlen : (l.take (s + k)).length = s + k := by rw [List.length_take]; omega
    rw [hlen] at hi2 ho2
    obtain ⟨b, rfl, hb0, hb1⟩ := ho2.blocks (by rw [hlen]; omega)
    have hbg : b ≠ g := by omega
    have hx := ho2.at (k := s + k - 1) (by rw [hlen]; omega)
    have hf := ho2.free (s + k - 1)
    have hcap := ho2.cap.1
    rw [hlen] at hcap
    generalize at0 (l.take (s + k)) (s + k - 1) = x at *
    have d0 := hi2.cell 0
    have d1 := hi2.cell 1
    have d2 := hi2.cell 2
    have d3 := hi2.cell 3
    have fd := hi2.free
    have ld := hi2.lt
    simp at d0 d1 d2 d3 fd
    have HI2 := Lib.hid hi2; have HO2 := hide ho2; have HLEN := Lib.hid hlen
    clear c0 c1 c2 c3 fi li hb2 hi2 ho2 hlen
    go_wp2_with fail
    have i1 : IntKind.i64.wrap ((s : Int) + (k : Int) - 1) = ((s + k - 1 : Nat) : Int) := by rw [IntWalk.i64_in _ (by omega)]; omega
    have i2 : (0 : Int) ≤ ((s + k - 1 : Nat) : Int) := by omega
    have i3 : ((s + k - 1 : Nat) : Int) < (s : Int) + (k : Int) := by omega
    obtain ⟨p, hp⟩ : ∃ p, s + k - 1 = p := ⟨_, rfl⟩
    rw [hp] at hx hf i1 i2 i3
    have HP := Lib.hid hp
    clear hp
    go_region
    all_goals
      clear i1 i2 i3 hx hf d0 d1 d2 d3 fd ld
      go_wp2_with fail
      go_ret
    all_goals
      have hput := HO2.out.put p (Go.bits .xor .u8 x bits)
      refine Kept.mk (k := k) HS.out (l' := (l.take (s + k)).set p (Go.bits .xor .u8 x bits)) (by rw [List.length_set]; exact HLEN.out) ?_ ?_ ?_ _ (by omega)
      · have := HP.out
        rw [List.take_set, List.set_eq_of_length_le (by rw [List.length_take, List.length_take]; omega), List.take_take, Nat.min_eq_left (by omega)]
      · refine ⟨some ⟨b, 0, none⟩, c2', ?_, ?_⟩
        · rw [List.length_set, HLEN.out]
          exact (HI2.out.other (p := ⟨b, p, none⟩) (by show g ≠ b; omega) (.int .u8 (Go.bits .xor .u8 x bits))).drew
        · rw [List.length_set, HLEN.out]
          exact hput.drew
      · exact (HB2.out.setCell (p := ⟨b, p, none⟩) (by show g ≤ b; omega) (.int .u8 (Go.bits .xor .u8 x bits))).drew
/-- A crash, whatever is to be kept. -/
theorem crash_any (g s u : Nat) (m y : Int) (l : List Int) (keep bits : Int) (w : World) (h : DK w g m l s y) (hs : l.length = s + u) (hl : l.length ≤ 1000000) :
    ∃ k, k ≤ u ∧ Calls Try.prog 55 #[.pointer (some ⟨g, 0, none⟩), .int .i64 keep, .int .u8 bits] w (Kept g m y l s k w) := by
  by_cases h1 : keep ≤ 0
  · exact ⟨0, Nat.zero_le _, crash_none g s u m y l keep bits w h hs hl (by omega)⟩
  · by_cases hu : u = 0
    · exact ⟨0, Nat.zero_le _, crash_none g s u m y l keep bits w h hs hl (.inr (.inr ⟨by omega, hu⟩))⟩
    · by_cases h2 : (u : Int) < keep
      · exact ⟨u, Nat.le_refl _, crash_some g s u u m y l keep bits w h hs hl (by omega) (.inr ⟨h2, rfl⟩)⟩
      · obtain ⟨k, rfl⟩ := Int.eq_ofNat_of_zero_le (show 0 ≤ keep by omega)
        exact ⟨k, by omega, crash_some g s u k m y l k bits w h hs hl (by omega) (.inl ⟨rfl, by omega⟩)⟩
set_option maxHeartbeats 1000000 in
theorem dread_any (g : Nat) (m s y : Int) (l : List Int) (w : World) (h : DK w g m l s y) (hl : l.length ≤ 1000000) :
    Calls Try.prog 56 #[.pointer (some ⟨g, 0, none⟩)] w fun e w' => ∃ v, e = .returned v ∧ IsB l l.length v w' ∧ Below w.heap.size w w' := by
  obtain ⟨A, c, hi, ho⟩ := h
  have c0 := hi.cell 0
  have c1 := hi.cell 1
  simp at c0 c1
  have li := hi.lt
  have HO := hide ho
  clear hi ho
  go_enter Try.func56, Try.ntmps56
  go_wp2_with fail
  refine (clone_any A c l w w.heap.size HO.out.bytes (Nat.le_refl _) (by omega) HO.out.cap.2.2).mono ?_
  rintro e w1 ⟨A1, c1, rfl, h1, h2⟩
  have H1 := hide (IsB.own h1); have H2 := Lib.hid h2
  clear h1 h2
  go_wp2_with fail
  go_ret
  exact ⟨_, rfl, H1.out, H2.out⟩
theorem safe_any (g : Nat) (m s y : Int) (l : List Int) (w : World) (h : DK w g m l s y) :
    Calls Try.prog 57 #[.pointer (some ⟨g, 0, none⟩)] w fun e w' => e = .returned (.int .i64 s) ∧ w = w' := by
  obtain ⟨A, c, hi, ho⟩ := h
  have c2 := hi.cell 2
  have li := hi.lt
  simp at c2
  clear hi ho
  go_enter Try.func57, Try.ntmps57
  go_wp2_with fail
  go_ret
  exact ⟨rfl, rfl⟩
theorem dlen_any (g : Nat) (m s y : Int) (l : List Int) (w : World) (h : DK w g m l s y) :
    Calls Try.prog 87 #[.pointer (some ⟨g, 0, none⟩)] w fun e w' => e = .returned (.int .i64 l.length) ∧ w = w' := by
  obtain ⟨A, c, hi, ho⟩ := h
  have c1 := hi.cell 1
  have li := hi.lt
  simp at c1
  clear hi ho
  go_enter Try.func87, Try.ntmps87
  go_wp2_with fail
  go_ret
  exact ⟨rfl, rfl⟩
theorem isb_litd (W : World) (l : List Int) (hl : l.length ≤ 1000) : IsB l l.length (.slice (some ⟨W.heap.size, 0, none⟩) l.length l.length) (W.alloc (.cells (u8s l).toArray 5)) :=
  ⟨_, _, rfl, rfl, (Bytes.lit W l).more (by simp), Nat.le_refl _, by unfold maxLen; omega, fun h => by cases h⟩
set_option maxHeartbeats 2000000 in
theorem awake24 (w : World) : Calls Try.prog 51 #[] w fun e w' => e = .returned (.bool true) ∧ Below w.heap.size w w' := by
  go_enter Try.func51, Try.ntmps51
  go_wp2_with fail
  refine (new_any 9 w (by decide) (by decide)).mono ?_
  rintro e w1 ⟨rfl, hd, hb⟩
  have HD := hide (hd.below ((Below.refl _ _).alloc (Nat.le_refl _) (.cells (u8s [1, 2, 3]).toArray 5))); have HB := Lib.hid (hb.alloc hb.size (.cells (u8s [1, 2, 3]).toArray 5))
  have HL := hide (isb_litd w1 [1, 2, 3] (by decide))
  clear hd hb
  go_wp2_with fail
  refine (append_ok w.heap.size 9 0 0 [] [1, 2, 3] 3 _ _ HD.out HL.out (by decide) (by decide)).mono ?_
  rintro e w2 ⟨rfl, hd, hb⟩
  have HD2 := hide hd; have HB2 := Lib.hid (HB.out.trans hb)
  clear hd hb HD HB HL
  go_wp2_with fail
  refine (crash_some w.heap.size 0 3 1 9 0 ([] ++ [1, 2, 3]) 1 0 w2 HD2.out (by decide) (by decide) (by decide) (.inl ⟨rfl, by decide⟩)).mono ?_
  rintro e w3 ⟨l', rfl, hl, _, hd, hb⟩
  have HD3 := hide hd; have HB3 := Lib.hid (HB2.out.trans hb); have HLL := Lib.hid hl
  clear hd hb hl HD2 HB2
  go_wp2_with fail
  refine (dlen_any w.heap.size 9 _ 0 l' w3 HD3.out).mono ?_
  rintro e w4 ⟨rfl, rfl⟩
  rw [HLL.out]
  go_wp2_with fail
  go_ret
  exact ⟨rfl, HB3.out⟩
end Go.Proofs.Ytkebgkjopfdafaa
