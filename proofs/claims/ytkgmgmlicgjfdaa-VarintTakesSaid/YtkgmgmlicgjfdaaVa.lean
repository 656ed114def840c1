/-
  Take and All of package varint on any bytes. Helper of the claim VarintTakes. No condition.
-/
import Derived.Test.YtkgmgmlicgjfdaaVf
import Derived.Test.YtkgmgmlicgjfdaaVrb
namespace Go.Proofs.Ytkgmgmlicgjfdaa
open Go.ChangeShapes Go.WideShapes Go.ChangeAt Go.RowKit
set_option linter.unusedVariables false
set_option maxRecDepth 100000
theorem info64 : (Try.prog.info? 29).map (fun i => (i.zero, i.size, i.bytes)) = some (some (.int .u64 0), 1, 8) := by kernel_rfl
def u64s (l : List Int) : List Value := l.map fun n => .int .u64 n
/-- A row of numbers of the call's own. -/
def OwnU (w : World) (base : Nat) (v : Value) (xs : List Int) : Prop := w.ownsRow base 29 1 v xs.length (u64s xs)
theorem OwnU.nil (w : World) (base : Nat) : OwnU w base (.slice none 0 0) [] := ⟨by simp [u64s], .inl ⟨rfl, rfl⟩⟩
theorem OwnU.below {w w' : World} {base : Nat} {v : Value} {xs : List Int} (h : OwnU w base v xs) (hb : Below w.heap.size w w') : OwnU w' base v xs := own_below h hb
theorem OwnU.cells {w : World} {base n c : Nat} {A : Option Addr} {xs : List Int} (h : OwnU w base (.slice A n c) xs) (h0 : 0 < xs.length) :
    ∃ g, A = some ⟨g, 0, none⟩ ∧ g < w.heap.size ∧ ∀ k, k < xs.length → w.cell? ⟨g, k, none⟩ = some (.int .u64 (at0 xs k)) := by
  obtain ⟨hl, h2⟩ := h
  rcases h2 with ⟨_, h0'⟩ | ⟨g, cap, cur, hv, hg, hh, hnc, hm, hs, ht⟩
  · omega
  · injection hv with hA
    refine ⟨g, hA, Is.lt hh, fun k hk => ?_⟩
    rw [Is.cell hh]
    have hx : (u64s xs)[k]? = some (.int .u64 (at0 xs k)) := by simp [u64s, at0, List.getD, hk]
    rw [← ht, List.getElem?_take, if_pos (by omega)] at hx
    rw [← Array.getElem?_toList]; exact hx
theorem app_u {w : World} {ops : Array Oper} {rest : List Oper} {o : Oper} {a : Act} {Q : Exit → Act → World → Prop} (s x : Operand)
    (ho : o.op = .call { callee := .builtin .append, args := #[s, x], argTypes := #[77, 77] }) (hgd : o.guard = none)
    {base n : Nat} {v : Value} {xs : List Int} (hs : a.eval s = v) (hown : OwnU w base v xs) (hxn : xs.length = n) {u : Int} {g0 : Nat} (hx : a.eval x = .slice (some ⟨g0, 0, none⟩) 1 1) (hu : w.cell? ⟨g0, 0, none⟩ = some (.int .u64 u)) (hn : n ≤ 1000000) (hbase : base ≤ w.heap.size)
    (h : ∀ A' c' w', OwnU w' base (.slice A' (n + 1) c') (xs ++ [u]) → w.grownBy w' v.ownBlock → wpList Try.prog ops Q rest (a.put o.dst (.slice A' (n + 1) c')) w') : wpList Try.prog ops Q (o :: rest) a w := by
  obtain ⟨i, hi, hz, hz1, hz2⟩ := info_parts info64
  subst hxn
  refine app1 (u := .int .u64 u) s x 77 ho hgd Try.underlying77 hi hz hz1 hz2 rfl hs hown hx hu rfl hn (by omega) hbase ?_
  intro g cap w' h1 h2 _ _
  refine h _ _ w' ?_ h2
  unfold OwnU
  rw [show u64s (xs ++ [u]) = u64s xs ++ [.int .u64 u] from by simp [u64s], List.length_append, List.length_singleton]; exact h1
/-- Place and numbers behind j steps. -/
def rnp (l : List Int) : Nat → Nat × List Int
  | 0 => (0, [])
  | j + 1 => ((rnp l j).1 + vsz (l.drop (rnp l j).1), (rnp l j).2 ++ [vnum (l.drop (rnp l j).1)])
def Going (l : List Int) (j : Nat) : Prop := ∀ i, i < j → vsz (l.drop (rnp l i).1) ≠ 0
theorem rnp_len (l : List Int) : ∀ j, (rnp l j).2.length = j
  | 0 => rfl
  | j + 1 => by rw [rnp]; simp [rnp_len l j]
theorem rnp_le (l : List Int) : ∀ j, (rnp l j).1 ≤ l.length
  | 0 => Nat.zero_le _
  | j + 1 => by
    rw [rnp]
    have h := rnp_le l j; have h2 := vsz_le (l.drop (rnp l j).1)
    rw [List.length_drop] at h2; simp only; omega
theorem Going.ge {l : List Int} : ∀ {j}, Going l j → j ≤ (rnp l j).1
  | 0, _ => Nat.zero_le _
  | j + 1, h => by
    rw [rnp]
    have h1 := Going.ge (fun i hi => h i (by omega) : Going l j); have h2 := h j (by omega)
    simp only; omega
theorem Going.zero (l : List Int) : Going l 0 := fun i h => by omega
theorem Going.succ {l : List Int} {j : Nat} (h : Going l j) (h2 : vsz (l.drop (rnp l j).1) ≠ 0) : Going l (j + 1) := fun i hi => by
  by_cases e : i = j
  · subst e; exact h2
  · exact h i (by omega)
theorem Going.same {l : List Int} {j k : Nat} (h : Going l j) (h0 : vsz (l.drop (rnp l j).1) = 0) (g : Going l k) (g0 : vsz (l.drop (rnp l k).1) = 0) : j = k := by
  apply Decidable.byContradiction; intro hn
  rcases Nat.lt_or_gt_of_ne hn with hlt | hlt
  · exact g j hlt h0
  · exact h k hlt g0
/-- Behind j steps: place p, numbers xs. -/
def At (l : List Int) (j p : Nat) (xs : List Int) : Prop := Going l j ∧ (rnp l j).1 = p ∧ (rnp l j).2 = xs
theorem At.start (l : List Int) : At l 0 0 [] := ⟨Going.zero l, rfl, rfl⟩
theorem At.next {l : List Int} {j p : Nat} {xs : List Int} (h : At l j p xs) (h2 : vsz (l.drop p) ≠ 0) : At l (j + 1) (p + vsz (l.drop p)) (xs ++ [vnum (l.drop p)]) := by
  obtain ⟨h0, rfl, rfl⟩ := h
  exact ⟨h0.succ h2, rfl, rfl⟩
theorem At.len {l : List Int} {j p : Nat} {xs : List Int} (h : At l j p xs) : xs.length = j := by obtain ⟨_, _, rfl⟩ := h; exact rnp_len l j
theorem At.le {l : List Int} {j p : Nat} {xs : List Int} (h : At l j p xs) : p ≤ l.length ∧ j ≤ p := by obtain ⟨h, rfl, _⟩ := h; exact ⟨rnp_le l j, h.ge⟩
theorem At.same {l : List Int} {j p k q : Nat} {xs ys : List Int} (h : At l j p xs) (h0 : vsz (l.drop p) = 0) (g : At l k q ys) (g0 : vsz (l.drop q) = 0) : j = k ∧ p = q ∧ xs = ys := by
  obtain ⟨h1, rfl, rfl⟩ := h
  obtain ⟨g1, rfl, rfl⟩ := g
  obtain rfl := h1.same h0 g1 g0
  exact ⟨rfl, rfl, rfl⟩
set_option maxHeartbeats 2000000 in
theorem vtake_none (L : List Int) (n : Nat) (v : Value) (w : World) (h : IsB L n v w) (hok : Octets L) (hm : n ≤ 1000) (h0 : vsz L = 0) :
    Calls Try.prog 53 #[v] w fun e w' => e = .returned (.tuple #[.int .u64 0, .slice none 0 0, .int .i64 20]) ∧ Below w.heap.size w w' := by
  have h1 := vfirst L n v w h hok hm
  rw [vnum_none h0, h0] at h1
  have HF := hide h1
  obtain ⟨A, c, rfl⟩ := h.shape
  clear h h1 hok
  go_enter Try.func53, Try.ntmps53
  go_wp2_with fail
  refine (unhide HF).mono ?_
  rintro e w1 ⟨rfl, hb⟩
  rw [show decide ((0 : Nat) ≠ 0) = false from rfl]
  go_wp2_with fail
  go_ret3
  exact ⟨rfl, hb⟩
set_option maxHeartbeats 2000000 in
theorem vtake_some (L : List Int) (n : Nat) (v : Value) (w : World) (h : IsB L n v w) (hok : Octets L) (hm : n ≤ 1000) (h0 : vsz L ≠ 0) :
    Calls Try.prog 53 #[v] w fun e w' => ∃ A c, e = .returned (.tuple #[.int .u64 (vnum L), .slice A (n - vsz L) c, .int .i64 0]) ∧ Below w.heap.size w w' ∧ IsB (L.drop (vsz L)) (n - vsz L) (.slice A (n - vsz L) c) w' := by
  have h1 := vfirst L n v w h hok hm
  rw [show decide (vsz L ≠ 0) = true from decide_eq_true h0] at h1
  have hs := vsz_le L
  have hl : L.length = n := by obtain ⟨_, _, _, e, _⟩ := h; exact e
  rw [hl] at hs
  have HI := hide h
  generalize vsz L = s at *
  generalize vnum L = x at *
  have HF := hide h1
  obtain ⟨A, c, rfl⟩ := h.shape
  clear h h1 hok hl
  obtain ⟨m, hm2⟩ : ∃ m, s + m = n := ⟨n - s, by omega⟩
  have hnm : n - s = m := by omega
  have HE := Lib.hid hm2
  rw [hnm]
  clear hm2 hnm
  go_enter Try.func53, Try.ntmps53
  go_wp2_with fail
  refine (unhide HF).mono ?_
  rintro e w1 ⟨rfl, hb⟩
  have HI1 := hide (HI.out.st hb); have HB1 := Lib.hid hb
  clear hb HI
  go_wp2_with (first
    | ((with_reducible show wpList _ _ _ (⟨some 19, _, _, _, _, _⟩ :: _) _ _)
       refine sl_q1 _ _ rfl rfl (i := s) (k := m) rfl rfl HI1.out HE.out ?_
       intro X9 d9 hX9
       have HX9 := hide hX9
       clear hX9))
  have hm1 : m ≤ 1000 := by have := HE.out; omega
  refine (clone_k HX9.out (by omega)).mono ?_
  rintro e w2 ⟨A2, c2, rfl, ho, hb2⟩
  have HO2 := hide (IsB.own ho); have HB2 := Lib.hid (HB1.out.trans (hb2.mono HB1.out.size))
  clear ho hb2
  go_wp2_with fail
  go_ret3
  exact ⟨A2, c2, by simp, HB2.out, HO2.out⟩
theorem sl_p1 {w w0 : World} {ops : Array Oper} {rest : List Oper} {o : Oper} {a : Act} {Q : Exit → Act → World → Prop} (x lo : Operand) (ho : o.op = .slice 22 x (some lo) none none) (hgd : o.guard = none)
    {A : Option Addr} {n c i k : Nat} {l : List Int} (hx : a.eval x = .slice A n c) (hlo : a.eval lo = .int .i64 (i : Int)) (hl : IsB l n (.slice A n c) w0) (hb : i + k = n)
    (h : ∀ X c', IsB (l.drop i) k (.slice X k c') w0 → wpList Try.prog ops Q rest (a.put o.dst (.slice X k c')) w) : wpList Try.prog ops Q (o :: rest) a w := by
  obtain ⟨q1, q2⟩ := hl.caps
  refine wpList_plain hgd fun K hK => ?_
  unfold Oper.wp
  rw [run_sl1 o a.eval w x lo ho hx hlo (by omega) q1 q2]
  rw [show n - i = k from by omega]
  have hp := hl.part (i := i) (k := k) (by omega)
  obtain ⟨A', c', e, h1, _⟩ := id hl
  have e6 : ((l.drop i).take k) = l.drop i := List.take_of_length_le (by rw [List.length_drop]; omega)
  rw [e6] at hp
  exact hK _ _ (h _ _ hp)
def AllRel (w : World) (l : List Int) (v0 v4 : Value) (wr : World) : Prop :=
  ∃ j p xs A n c A4 c4, At l j p xs ∧ v0 = .slice A n c ∧ v4 = .slice A4 j c4 ∧ p + n = l.length ∧ IsB (l.drop p) n (.slice A n c) w ∧ OwnU wr w.heap.size (.slice A4 j c4) xs ∧ Below w.heap.size w wr
def lenOf9 (v : Value) : Nat := match v with | .slice _ n _ => n | _ => 0
def AllEnds (w : World) (l : List Int) (e : Ending) (w' : World) : Prop :=
  ∃ j p xs, At l j p xs ∧ vsz (l.drop p) = 0 ∧ Below w.heap.size w w' ∧ ((p = l.length ∧ ∃ A c, e = .returned (.tuple #[.slice A j c, .int .i64 0]) ∧ OwnU w' w.heap.size (.slice A j c) xs) ∨ (p < l.length ∧ e = .returned (.tuple #[.slice none 0 0, .int .i64 20])))
set_option maxHeartbeats 4000000 in
theorem vall (l : List Int) (A : Option Addr) (c : Nat) (w : World) (h : IsB l l.length (.slice A l.length c) w) (hok : Octets l) (hm : l.length ≤ 1000) :
    Calls Try.prog 56 #[.slice A l.length c] w (AllEnds w l) := by
  have HI := hide h; have HO := hide hok
  clear h hok
  go_enter Try.func56, Try.ntmps56
  go_wp2_with fail
  go_loopw [0, 4] (fun v0 v4 wr => AllRel w l v0 v4 wr) (fun v0 _ _ => lenOf9 v0)
  case atStart => exact ⟨0, 0, [], A, l.length, c, none, 0, At.start l, rfl, rfl, by omega, by rw [List.drop_zero]; exact HI.out, OwnU.nil _ _, Below.refl _ _⟩
  case round =>
    obtain ⟨j, p, xs, A0, n, c0, A4, c4, hat, rfl, rfl, hpn, hi, hu, hb⟩ := hrel
    obtain ⟨le1, le2⟩ := hat.le
    have HXL := Lib.hid hat.len
    have HAT := Lib.hid hat; have HI1 := hide hi; have HU := Lib.hid hu; have HB := Lib.hid hb; have HPN := Lib.hid hpn
    have hn1 : n ≤ 1000 := by omega
    have hj1 : j ≤ 1000 := by omega
    have HNE := Lib.hid (show n = 0 → p = l.length from by omega)
    have HNE2 := Lib.hid (show 0 < n → p < l.length from by omega)
    clear hat hi hu hb hpn HI le1 le2
    by_cases h0 : n = 0
    · subst h0
      have hv := vsz_empty (l := l.drop p) (by obtain ⟨_, _, _, e, _⟩ := HI1.out; exact e)
      have HV := Lib.hid hv
      have HPL := Lib.hid (HNE.out rfl)
      clear hv HNE
      go_wp2_with fail
      go_ret2
      exact ⟨j, p, xs, HAT.out, HV.out, HB.out, .inl ⟨HPL.out, A4, c4, by simp, HU.out⟩⟩
    · have h0' : 0 < n := by omega
      have HF := hide (vfirst (l.drop p) n _ wr (HI1.out.st HB.out) (HO.out.drop p) hn1)
      have hsl := vsz_le (l.drop p)
      rw [show (l.drop p).length = n from by obtain ⟨_, _, _, e, _⟩ := HI1.out; exact e] at hsl
      have hnn : (0 : Int) < (n : Int) := by omega
      by_cases hv0 : vsz (l.drop p) = 0
      · have HV := Lib.hid hv0
        have hf := unhide HF
        rw [hv0, vnum_none hv0, show decide ((0 : Nat) ≠ 0) = false from rfl] at hf
        have HF2 := hide hf
        clear hf HF hv0 hsl
        go_wp2_with fail
        refine (unhide HF2).mono ?_
        rintro e w1 ⟨rfl, hb1⟩
        have HB1 := Lib.hid (HB.out.trans (hb1.mono HB.out.size))
        clear hb1
        go_wp2_with fail
        go_ret2
        exact ⟨j, p, xs, HAT.out, HV.out, HB1.out, .inr ⟨HNE2.out h0', rfl⟩⟩
      · have hf := unhide HF
        rw [show decide (vsz (l.drop p) ≠ 0) = true from decide_eq_true hv0] at hf
        have HAT2 := Lib.hid (HAT.out.next hv0)
        have hz9 : 0 < vsz (l.drop p) := by omega
        have HDD := Lib.hid (show (l.drop p).drop (vsz (l.drop p)) = l.drop (p + vsz (l.drop p)) from List.drop_drop)
        clear hv0 HF
        obtain ⟨D, hD⟩ : ∃ D, l.drop p = D := ⟨_, rfl⟩
        rw [hD] at hf HAT2 hsl hz9 HDD HI1
        obtain ⟨s, hs⟩ : ∃ s, vsz D = s := ⟨_, rfl⟩
        rw [hs] at hf HAT2 hsl hz9 HDD
        generalize vnum D = x at *
        clear hs hD
        have HF2 := hide hf
        clear hf
        obtain ⟨m, hsm⟩ : ∃ m, s + m = n := ⟨n - s, by omega⟩
        have HSM := Lib.hid hsm
        have HPS := Lib.hid (show p + s + m = l.length from by have := HPN.out; omega)
        have hlt : m < n := by omega
        clear hsm
        go_wp2_with fail
        refine (unhide HF2).mono ?_
        rintro e w1 ⟨rfl, hb1⟩
        have HB1 := Lib.hid (HB.out.trans (hb1.mono HB.out.size))
        have HU1 := Lib.hid (HU.out.below hb1)
        clear hb1 HB HU
        go_wp2_with (first
          | ((with_reducible show wpList _ _ _ (⟨some 22, _, _, _, _, _⟩ :: _) _ _)
             have hown2 := HU1.out.below ((Below.refl w1.heap.size w1).alloc (Nat.le_refl _) (.cells #[.int .u64 x] 29))
             have hcell2 : (w1.alloc (.cells #[.int .u64 x] 29)).cell? ⟨w1.heap.size, 0, none⟩ = some (.int .u64 x) := (Is.new w1 29 #[.int .u64 x]).cell 0
             have hbase2 : w.heap.size ≤ (w1.alloc (.cells #[.int .u64 x] 29)).heap.size := by have := HB1.out.size; simp; omega
             go_loud (refine app_u (.tmp 19) (.tmp 21) rfl rfl (n := j) (base := w.heap.size) (v := .slice A4 j c4) (xs := xs) (u := x) (g0 := w1.heap.size) rfl hown2 HXL.out rfl hcell2 (by omega) hbase2 ?_)
             clear hown2 hcell2 hbase2
             intro A5 c5 w2 hu2 hg2
             have hb2 : Below w.heap.size w w2 := (HB1.out.alloc HB1.out.size _).grown hg2 (by have := HB1.out.size; simp; omega) (fun q hq => (World.ownsRow.lt HU1.out q hq).1)
             have HU2 := Lib.hid hu2; have HB2 := Lib.hid hb2
             clear hu2 hg2 hb2 HU1 HB1)
          | ((with_reducible show wpList _ _ _ (⟨some 25, _, _, _, _, _⟩ :: _) _ _)
             refine sl_p1 _ _ rfl rfl (i := s) (k := m) rfl rfl HI1.out HSM.out ?_
             intro X9 d9 hX9
             rw [HDD.out] at hX9
             have HX9 := hide hX9
             clear hX9))
        go_roundw
        case rel => exact ⟨j + 1, p + s, xs ++ [x], X9, m, d9, A5, c5, HAT2.out, rfl, rfl, HPS.out, HX9.out, HU2.out, HB2.out⟩
        case measure => exact hlt
end Go.Proofs.Ytkgmgmlicgjfdaa
