/-
  What the calls of package icmp and the document's answer for layer 8 return. Helper of the claims on ICMP messages. No condition.
-/
import Derived.Test.YtmgendgfdhhgfaaOctS
import Derived.Test.YtmgendgfdhhgfaaGrow
namespace Go.Proofs.Ytmgendgfdhhgfaa
open Go.ChangeShapes Go.WideShapes Go.ChangeAt Go.RowKit
set_option linter.unusedSimpArgs false
set_option linter.unusedVariables false

theorem bcell {W w1 : World} (hb : Below W.heap.size W w1) : (∀ b o, b < W.heap.size → w1.cell? ⟨b, o, none⟩ = W.cell? ⟨b, o, none⟩) ∧ (∀ b o, b < W.heap.size → w1.frozen? ⟨b, o, none⟩ = W.frozen? ⟨b, o, none⟩) :=
  ⟨fun b o h => hb.cell (p := ⟨b, o, none⟩) h, fun b o h => hb.frozen (p := ⟨b, o, none⟩) h⟩
theorem IsB.take {l : List Int} {n k c : Nat} {A : Option Addr} {w : World} (h : IsB l n (.slice A n c) w) (hk : k ≤ n) : IsB (l.take k) k (.slice A k c) w := by
  obtain ⟨A', c', e, h1, h2, h3, h4, h5⟩ := h
  injection e with e1 e2 e3; subst e1; subst e3
  exact ⟨A, c, rfl, by rw [List.length_take]; omega, bytes_take h2 k, by omega, h4, h5⟩
theorem clone_p {l : List Int} {n : Nat} {v : Value} {w : World} (h : IsB l n v w) (hm : n ≤ 90000000) :
    Calls Try.prog 62 #[v] w fun e w'' => ∃ v, e = .returned v ∧ Below w.heap.size w w'' ∧ IsB l n v w'' := by
  obtain ⟨A, c, rfl, rfl, h2, h3, h4, h5⟩ := h
  exact (clone_any A c l w _ h2 (Nat.le_refl _) hm h5).mono fun e w' ⟨A, c, h, ho, hb⟩ => ⟨_, h, hb, IsB.own ho⟩

theorem IsB.shape {l : List Int} {n : Nat} {v : Value} {w : World} (h : IsB l n v w) : ∃ A c, v = .slice A n c := by obtain ⟨A, c, e, _⟩ := h; exact ⟨A, c, e⟩
theorem IsB.alloc {l : List Int} {n : Nat} {v : Value} {w : World} (h : IsB l n v w) (o : Obj) : IsB l n v (w.alloc o) := h.st ((Below.refl _ _).alloc (Nat.le_refl _) _)
theorem clone_k {l : List Int} {n : Nat} {v : Value} {w : World} (h : IsB l n v w) (hm : n ≤ 90000000) : Calls Try.prog 62 #[v] w (GivesK w l n) := by
  obtain ⟨A, c, rfl, rfl, h2, h3, h4, h5⟩ := h
  exact (clone_any A c l w _ h2 (Nat.le_refl _) hm h5).mono fun e w' h => h.k rfl
theorem Below.set1 {B : Nat} {u w : World} (h : Below B u w) {g i : Nat} (hg : B ≤ g) (v : Value) : Below B u (w.setCell ⟨g, i, none⟩ v) := h.setCell hg v
theorem OwnB.set1 {w : World} {base : Nat} {v : Value} {l : List Int} (h : OwnB w base v l) {g i : Nat} (hp : g < base) (u : Value) : OwnB (w.setCell ⟨g, i, none⟩ u) base v l := h.set hp u
theorem put_k {l : List Int} {k : Nat} {v : Value} {w : World} (n : Nat) (s : Int) (s' k' : Nat) (h : IsB l k v w) (hm : k ≤ 80000000) (hn : n < 18446744073709551616) (s0 : -9223372036854775808 ≤ s) (s1 : s ≤ 9223372036854775807) (hs : sz8 s = s') (hk : k + s' = k') :
    Calls Try.prog 91 #[v, .int .u64 (n : Int), .int .i64 s] w (GivesK w (l ++ be n s') k') := by
  obtain ⟨A, c, rfl, rfl, h2, h3, h4, h5⟩ := h
  subst hs
  exact (put_any A c l n s w _ h2 (Nat.le_refl _) hm hn s0 s1).mono fun e w' h => h.k (by rw [List.length_append, be_len]; exact hk)
theorem app_k {P : Program} {w : World} {ops : Array Oper} {rest : List Oper} {o : Oper} {a : Act} {Q : Exit → Act → World → Prop} (s x : Operand) (t : TypeId)
    (ho : o.op = .call { callee := .builtin .append, args := #[s, x], argTypes := #[t, t] }) (hgd : o.guard = none)
    (ht : P.underlying t = some (.slice 5)) (hi : (P.info? 5).map (fun i => (i.zero, i.size, i.bytes)) = some (some (.int .u8 0), 1, 1))
    {base : Nat} {v : Value} {xs : List Int} {k k' : Nat} (hs : a.eval s = v) (hown : OwnB w base v xs) (hk : xs.length = k)
    {u : Value} {m : Nat} {l : List Int} (hx : a.eval x = u) (hl : IsB l m u w) (hk' : k + m = k') (hn : k' ≤ 100000000) (hbase : base ≤ w.heap.size)
    (h : ∀ A' c' w', OwnB w' base (.slice A' k' c') (xs ++ l) → w.grownBy w' v.ownBlock → wpList P ops Q rest (a.put o.dst (.slice A' k' c')) w') :
    wpList P ops Q (o :: rest) a w := by
  subst hk; subst hk'
  obtain ⟨A, c, rfl, h1, h2, _⟩ := hl
  exact app_bytes s x t ho hgd ht hi hs hown hx h1 h2 (by omega) hbase fun A' c' w' h3 h4 _ => h A' c' w' h3 h4
/-- A message as a value. -/
def msg8 (t c s x : Int) (v : Value) : Value := .agg #[.int .u8 t, .int .u8 c, .int .u16 s, .int .u32 x, v]
def Msg (w : World) (t c s x : Int) (l : List Int) (n : Nat) (e : Ending) (w' : World) : Prop := ∃ v, e = .returned (msg8 t c s x v) ∧ Below w.heap.size w w' ∧ IsB l n v w'

set_option maxRecDepth 100000 in
set_option maxHeartbeats 1000000 in
theorem toobig4 (A : Option Addr) (c : Nat) (l : List Int) (most : Int) (k : Nat) (w : World) (h : IsB l l.length (.slice A l.length c) w) (hm : l.length ≤ 90000000) (m0 : 0 ≤ most) (m1 : most ≤ 65535) (hk : k = 548 ∧ 548 ≤ l.length ∨ k = l.length ∧ l.length < 548) :
    Calls Try.prog 87 #[.slice A l.length c, .int .u16 most, .bool false] w (Msg w 3 4 0 most (l.take k) k) := by
  have HI := hide h
  have hc : l.length ≤ c ∧ c ≤ maxLen := by obtain ⟨A', c', e, _, _, h3, h4, _⟩ := h; injection e with _ _ e; subst e; exact ⟨h3, h4⟩
  obtain ⟨c0, c1⟩ := hc
  unfold maxLen at c1
  clear h
  have hkl : k ≤ l.length := by omega
  rcases hk with ⟨rfl, hk⟩ | ⟨rfl, hk⟩
  · have q1 : ¬ ((l.length : Int) < 548) := by omega
    go_enter Try.func87, Try.ntmps87
    go_wp2_with fail
    refine (clone_k (((HI.out.take hkl).alloc _).alloc _) (by omega)).mono ?_
    rintro e w1 ⟨A1, c1, rfl, ho, hb1⟩
    obtain ⟨hc, hf⟩ := bcell hb1
    have hz := hb1.size
    simp at hz
    have hr := ((Is.new w 84 #[.int .u8 0, .int .u8 0, .int .u16 0, .int .u32 0, .slice none 0 0]).alloc _).below hb1 (by simp <;> omega)
    have r0 := hr.cell 0
    have r1 := hr.cell 1
    have r2 := hr.cell 2
    have r3 := hr.cell 3
    have r4 := hr.cell 4
    simp at r0 r1 r2 r3 r4
    clear hr
    have HO := hide ho; have HB := Lib.hid hb1
    clear ho hb1
    go_wp2_with fail
    refine bodyPost_ret (v := msg8 3 4 0 most (.slice A1 548 c1)) (by simp [results, Try.results87, go_sem, msg8, r0, r1, r2, r3, r4]) rfl ⟨_, rfl, ?_, IsB.own (base := w.heap.size + 2) ?_⟩
    · have ob : Below w.heap.size w w1 := (((Below.refl _ _).alloc (Nat.le_refl _) _).alloc (by simp) _).trans (HB.out.mono (by simp; omega))
      repeat' first | with_reducible exact ob | with_reducible apply Below.set1
      all_goals omega
    · have ob : OwnB w1 (w.heap.size + 2) (.slice A1 548 c1) (l.take 548) := by have h := HO.out; simp at h; exact h
      repeat' first | with_reducible exact ob | with_reducible apply OwnB.set1
      all_goals omega
  · have q1 : (l.length : Int) < 548 := by omega
    go_enter Try.func87, Try.ntmps87
    go_wp2_with fail
    refine (clone_k (((HI.out.take hkl).alloc _).alloc _) (by omega)).mono ?_
    rintro e w1 ⟨A1, c1, rfl, ho, hb1⟩
    obtain ⟨hc, hf⟩ := bcell hb1
    have hz := hb1.size
    simp at hz
    have hr := ((Is.new w 84 #[.int .u8 0, .int .u8 0, .int .u16 0, .int .u32 0, .slice none 0 0]).alloc _).below hb1 (by simp <;> omega)
    have r0 := hr.cell 0
    have r1 := hr.cell 1
    have r2 := hr.cell 2
    have r3 := hr.cell 3
    have r4 := hr.cell 4
    simp at r0 r1 r2 r3 r4
    clear hr
    have HO := hide ho; have HB := Lib.hid hb1
    clear ho hb1
    go_wp2_with fail
    refine bodyPost_ret (v := msg8 3 4 0 most (.slice A1 l.length c1)) (by simp [results, Try.results87, go_sem, msg8, r0, r1, r2, r3, r4]) rfl ⟨_, rfl, ?_, IsB.own (base := w.heap.size + 2) ?_⟩
    · have ob : Below w.heap.size w w1 := (((Below.refl _ _).alloc (Nat.le_refl _) _).alloc (by simp) _).trans (HB.out.mono (by simp; omega))
      repeat' first | with_reducible exact ob | with_reducible apply Below.set1
      all_goals omega
    · have ob : OwnB w1 (w.heap.size + 2) (.slice A1 l.length c1) (l.take l.length) := by have h := HO.out; simp at h; rw [List.take_length]; exact h
      repeat' first | with_reducible exact ob | with_reducible apply OwnB.set1
      all_goals omega
set_option maxRecDepth 100000 in
set_option maxHeartbeats 1000000 in
theorem toobig6 (A : Option Addr) (c : Nat) (l : List Int) (most : Int) (k : Nat) (w : World) (h : IsB l l.length (.slice A l.length c) w) (hm : l.length ≤ 90000000) (m0 : 0 ≤ most) (m1 : most ≤ 65535) (hk : k = 1232 ∧ 1232 ≤ l.length ∨ k = l.length ∧ l.length < 1232) :
    Calls Try.prog 87 #[.slice A l.length c, .int .u16 most, .bool true] w (Msg w 2 0 0 most (l.take k) k) := by
  have HI := hide h
  have hc : l.length ≤ c ∧ c ≤ maxLen := by obtain ⟨A', c', e, _, _, h3, h4, _⟩ := h; injection e with _ _ e; subst e; exact ⟨h3, h4⟩
  obtain ⟨c0, c1⟩ := hc
  unfold maxLen at c1
  clear h
  have hkl : k ≤ l.length := by omega
  rcases hk with ⟨rfl, hk⟩ | ⟨rfl, hk⟩
  · have q1 : ¬ ((l.length : Int) < 1232) := by omega
    go_enter Try.func87, Try.ntmps87
    go_wp2_with fail
    refine (clone_k (((HI.out.take hkl).alloc _).alloc _) (by omega)).mono ?_
    rintro e w1 ⟨A1, c1, rfl, ho, hb1⟩
    obtain ⟨hc, hf⟩ := bcell hb1
    have hz := hb1.size
    simp at hz
    have hr := ((Is.new w 84 #[.int .u8 0, .int .u8 0, .int .u16 0, .int .u32 0, .slice none 0 0]).alloc _).below hb1 (by simp <;> omega)
    have r0 := hr.cell 0
    have r1 := hr.cell 1
    have r2 := hr.cell 2
    have r3 := hr.cell 3
    have r4 := hr.cell 4
    simp at r0 r1 r2 r3 r4
    clear hr
    have HO := hide ho; have HB := Lib.hid hb1
    clear ho hb1
    go_wp2_with fail
    refine bodyPost_ret (v := msg8 2 0 0 most (.slice A1 1232 c1)) (by simp [results, Try.results87, go_sem, msg8, r0, r1, r2, r3, r4]) rfl ⟨_, rfl, ?_, IsB.own (base := w.heap.size + 2) ?_⟩
    · have ob : Below w.heap.size w w1 := (((Below.refl _ _).alloc (Nat.le_refl _) _).alloc (by simp) _).trans (HB.out.mono (by simp; omega))
      repeat' first | with_reducible exact ob | with_reducible apply Below.set1
      all_goals omega
    · have ob : OwnB w1 (w.heap.size + 2) (.slice A1 1232 c1) (l.take 1232) := by have h := HO.out; simp at h; exact h
      repeat' first | with_reducible exact ob | with_reducible apply OwnB.set1
      all_goals omega
  · have q1 : (l.length : Int) < 1232 := by omega
    go_enter Try.func87, Try.ntmps87
    go_wp2_with fail
    refine (clone_k (((HI.out.take hkl).alloc _).alloc _) (by omega)).mono ?_
    rintro e w1 ⟨A1, c1, rfl, ho, hb1⟩
    obtain ⟨hc, hf⟩ := bcell hb1
    have hz := hb1.size
    simp at hz
    have hr := ((Is.new w 84 #[.int .u8 0, .int .u8 0, .int .u16 0, .int .u32 0, .slice none 0 0]).alloc _).below hb1 (by simp <;> omega)
    have r0 := hr.cell 0
    have r1 := hr.cell 1
    have r2 := hr.cell 2
    have r3 := hr.cell 3
    have r4 := hr.cell 4
    simp at r0 r1 r2 r3 r4
    clear hr
    have HO := hide ho; have HB := Lib.hid hb1
    clear ho hb1
    go_wp2_with fail
    refine bodyPost_ret (v := msg8 2 0 0 most (.slice A1 l.length c1)) (by simp [results, Try.results87, go_sem, msg8, r0, r1, r2, r3, r4]) rfl ⟨_, rfl, ?_, IsB.own (base := w.heap.size + 2) ?_⟩
    · have ob : Below w.heap.size w w1 := (((Below.refl _ _).alloc (Nat.le_refl _) _).alloc (by simp) _).trans (HB.out.mono (by simp; omega))
      repeat' first | with_reducible exact ob | with_reducible apply Below.set1
      all_goals omega
    · have ob : OwnB w1 (w.heap.size + 2) (.slice A1 l.length c1) (l.take l.length) := by have h := HO.out; simp at h; rw [List.take_length]; exact h
      repeat' first | with_reducible exact ob | with_reducible apply OwnB.set1
      all_goals omega

set_option maxRecDepth 100000 in
set_option maxHeartbeats 1000000 in
theorem same8 (t c s x : Int) (l : List Int) (n m : Nat) (v u : Value) (w : World) (hv : IsB l n v w) (hu : IsB l m u w) :
    Calls Try.prog 47 #[msg8 t c s x v, msg8 t c s x u] w fun e w' => e = .returned (.bool true) ∧ Below w.heap.size w w' := by
  have k1 : ∀ o1 o2, (convert 22 9 v).run Try.prog ((w.alloc o1).alloc o2) = .ok (.string (strOfNums l)) ((w.alloc o1).alloc o2) := fun o1 o2 => ((hv.alloc o1).alloc o2).conv
  have k2 : ∀ o1 o2, (convert 22 9 u).run Try.prog ((w.alloc o1).alloc o2) = .ok (.string (strOfNums l)) ((w.alloc o1).alloc o2) := fun o1 o2 => ((hu.alloc o1).alloc o2).conv
  obtain ⟨A, c1, rfl⟩ := hv.shape
  obtain ⟨X, c2, rfl⟩ := hu.shape
  clear hv hu
  unfold msg8
  go_enter Try.func47, Try.ntmps47
  go_wp2_with fail
  go_ret
  exact ⟨by simp, ((Below.refl _ _).alloc (Nat.le_refl _) _).alloc (by simp) _⟩

set_option maxRecDepth 100000 in
set_option maxHeartbeats 1000000 in
theorem of8 (t c s x : Int) (l : List Int) (n : Nat) (v : Value) (w : World) (hv : IsB l n v w) :
    Calls Try.prog 48 #[msg8 t c s x v] w (Msg w t c s x l n) := by
  have HV := hide hv
  obtain ⟨A, c1, rfl⟩ := hv.shape
  clear hv
  unfold msg8
  go_enter Try.func48, Try.ntmps48
  go_wp2_with fail
  exact bodyPost_ret (v := msg8 t c s x (.slice A n c1)) (by simp [results, Try.results48, go_sem, msg8]) rfl ⟨_, rfl, ((Below.refl _ _).alloc (Nat.le_refl _) _).alloc (by simp) _, (HV.out.alloc _).alloc _⟩

set_option maxRecDepth 100000 in
set_option maxHeartbeats 1000000 in
theorem bytes8 (t c s x : Nat) (l : List Int) (n : Nat) (v : Value) (w : World) (hv : IsB l n v w) (ht : t ≤ 255) (hc : c ≤ 255) (hs : s ≤ 65535) (hx : x ≤ 4294967295) (hm : n ≤ 80000000) :
    Calls Try.prog 45 #[msg8 t c s x v] w (GivesK w (be t 1 ++ be c 1 ++ be s 2 ++ be x 4 ++ l) (8 + n)) := by
  have HV := hide hv
  obtain ⟨A, c1, rfl⟩ := hv.shape
  clear hv
  unfold msg8
  go_enter Try.func45, Try.ntmps45
  go_wp2_with fail
  refine (put_nil (t) 1 1 _ (by omega) (by omega) (by omega) (by decide)).mono ?_
  rintro e w1 ⟨A1, c2, rfl, ho, hb1⟩
  have HB1 := Lib.hid (((Below.refl _ _).alloc (Nat.le_refl _) _).trans (hb1.mono (by simp)))
  have HI1 := hide (IsB.own ho)
  have HO1 := hide (ho.lower (base' := w.heap.size) (by first | (simp; done) | exact HB1.out.size))
  have hm1 := (Is.new w 84 #[.int .u8 t, .int .u8 c, .int .u16 s, .int .u32 x, .slice A n c1]).below hb1 (by first | exact HM1.out.lt | (simp <;> omega))
  have d1 := hm1.cell 1
  simp at d1
  have HM1 := hide hm1
  clear ho hb1 hm1
  go_wp2_with fail
  refine (put_k (c) 1 1 2 HI1.out (by omega) (by omega) (by omega) (by omega) (by decide) (by omega)).mono ?_
  rintro e w2 ⟨A2, c3, rfl, ho, hb1⟩
  have HB2 := Lib.hid (HB1.out.trans (hb1.mono HB1.out.size))
  have HI2 := hide (IsB.own ho)
  have HO2 := hide (ho.lower (base' := w.heap.size) (by first | (simp; done) | exact HB1.out.size))
  have hm2 := HM1.out.below hb1 (by first | exact HM1.out.lt | (simp <;> omega))
  have d2 := hm2.cell 2
  simp at d2
  have HM2 := hide hm2
  clear ho hb1 hm2 HI1 HM1 HB1 HO1 d1
  go_wp2_with fail
  refine (put_k (s) 2 2 4 HI2.out (by omega) (by omega) (by omega) (by omega) (by decide) (by omega)).mono ?_
  rintro e w3 ⟨A3, c4, rfl, ho, hb1⟩
  have HB3 := Lib.hid (HB2.out.trans (hb1.mono HB2.out.size))
  have HI3 := hide (IsB.own ho)
  have HO3 := hide (ho.lower (base' := w.heap.size) (by first | (simp; done) | exact HB2.out.size))
  have hm3 := HM2.out.below hb1 (by first | exact HM2.out.lt | (simp <;> omega))
  have d3 := hm3.cell 3
  simp at d3
  have HM3 := hide hm3
  clear ho hb1 hm3 HI2 HM2 HB2 HO2 d2
  go_wp2_with fail
  refine (put_k (x) 4 4 8 HI3.out (by omega) (by omega) (by omega) (by omega) (by decide) (by omega)).mono ?_
  rintro e w4 ⟨A4, c5, rfl, ho, hb1⟩
  have HB4 := Lib.hid (HB3.out.trans (hb1.mono HB3.out.size))
  have HI4 := hide (IsB.own ho)
  have HO4 := hide (ho.lower (base' := w.heap.size) (by first | (simp; done) | exact HB3.out.size))
  have hm4 := HM3.out.below hb1 (by first | exact HM3.out.lt | (simp <;> omega))
  have d4 := hm4.cell 4
  simp at d4
  have HM4 := hide hm4
  clear ho hb1 hm4 HI3 HM3 HB3 HO3 d3
  have el := be_len
  clear el
  go_wp2_with (at_builtin; refine app_k _ _ _ rfl rfl Try.underlying22 info8 (v := .slice A4 8 c5) (base := w.heap.size) (xs := be (t) 1 ++ be (c) 1 ++ be (s) 2 ++ be (x) 4) (k := 8) (k' := 8 + n) (l := l) rfl HO4.out (by simp [be_len]) rfl (HV.out.st HB4.out) rfl (by omega) HB4.out.size ?_; intro A9 c9 w9 ho hg)
  go_ret
  refine ⟨A9, c9, rfl, ?_, grown_own HB4.out hg HO4.out⟩
  have h := ho
  simp at h ⊢
  exact h
end Go.Proofs.Ytmgendgfdhhgfaa
