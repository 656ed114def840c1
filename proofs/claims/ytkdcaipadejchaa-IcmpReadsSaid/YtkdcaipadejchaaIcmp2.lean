/-
  The document's answer TooBig and the chapter's example of layer 8. Helper of the claims on ICMP messages. No condition.
-/
import Derived.Test.YtkdcaipadejchaaIcmp
namespace Go.Proofs.Ytkdcaipadejchaa
open Go.ChangeShapes Go.WideShapes Go.ChangeAt Go.RowKit
set_option linter.unusedVariables false

set_option maxRecDepth 100000 in
set_option maxHeartbeats 1000000 in
theorem rtoobig4_a (A : Option Addr) (c : Nat) (l : List Int) (most : Int) (w : World) (h : IsB l l.length (.slice A l.length c) w) (hm : l.length ≤ 90000000) (m0 : 0 ≤ most) (m1 : most ≤ 65535) (hk : 548 ≤ l.length) :
    Calls Try.prog 42 #[.slice A l.length c, .int .u16 most, .bool false] w (Msg w 3 4 0 most (l.take (548)) (548)) := by
  have HI := hide (h.take (k := 548) (by omega))
  have hc : l.length ≤ c ∧ c ≤ maxLen := by obtain ⟨A', c', e, _, _, h3, h4, _⟩ := h; injection e with _ _ e; subst e; exact ⟨h3, h4⟩
  obtain ⟨c0, c1⟩ := hc
  unfold maxLen at c1
  clear h
  have q2 : ¬ ((l.length : Int) < 548) := by omega
  go_enter Try.func42, Try.ntmps42
  go_wp2_with (
    at_builtin
    refine app_k _ _ _ rfl rfl Try.underlying22 info8 (v := .slice (some ⟨w.heap.size + 2, 0, none⟩) 0 0) (base := w.heap.size + 2) (xs := []) (k := 0) (k' := 548) (l := l.take (548)) rfl (own_empty_at (by simp)) rfl rfl (((HI.out.alloc _).alloc _).alloc _) (by omega) (by omega) (by simp) ?_
    intro A9 c9 w9 ho hg
    have hm := ((Is.new (w.alloc (.cells #[.int .u8 0, .int .u8 0, .int .u16 0, .int .u32 0, .slice none 0 0] 66)) 66 #[.int .u8 3, .int .u8 4, .int .u16 0, .int .u32 most, .slice none 0 0]).alloc (.cells #[] 5)).only hg (by simp [Value.ownBlock])
    have hr := (((Is.new w 66 #[.int .u8 0, .int .u8 0, .int .u16 0, .int .u32 0, .slice none 0 0]).alloc (.cells #[.int .u8 3, .int .u8 4, .int .u16 0, .int .u32 most, .slice none 0 0] 66)).alloc (.cells #[] 5)).only hg (by simp [Value.ownBlock])
    have r0 := hr.cell 0
    have r1 := hr.cell 1
    have r2 := hr.cell 2
    have r3 := hr.cell 3
    have r4 := hr.cell 4
    have n0 := hm.cell 0
    have n1 := hm.cell 1
    have n2 := hm.cell 2
    have n3 := hm.cell 3
    have n4 := hm.cell 4
    have fr := hr.free
    have fn := hm.free
    have lr := hr.lt
    have ln := hm.lt
    simp at r0 r1 r2 r3 r4 n0 n1 n2 n3 n4 fr fn lr ln
    have HO := hide ho
    have HG := Lib.hid hg
    clear hr hm ho hg)
  refine bodyPost_ret (v := msg8 3 4 0 most (.slice A9 (548) c9)) (by simp [results, Try.results42, go_sem, msg8, r0, r1, r2, r3, r4]) rfl ⟨_, rfl, ?_, IsB.own (base := w.heap.size + 2) ?_⟩
  · have ob : Below w.heap.size w w9 := ((((Below.refl _ _).alloc (Nat.le_refl _) _).alloc (by simp) _).alloc (by simp; omega) _).grown HG.out (by simp; omega) (fun k hk => by simp [Value.ownBlock] at hk; omega)
    repeat' first | with_reducible exact ob | with_reducible apply Below.set1
    all_goals omega
  · have ob : OwnB w9 (w.heap.size + 2) (.slice A9 (548) c9) (l.take (548)) := by have h := HO.out; rw [List.nil_append] at h; exact h
    repeat' first | with_reducible exact ob | with_reducible apply OwnB.set1
    all_goals omega

set_option maxRecDepth 100000 in
set_option maxHeartbeats 1000000 in
theorem rtoobig4_b (A : Option Addr) (c : Nat) (l : List Int) (most : Int) (w : World) (h : IsB l l.length (.slice A l.length c) w) (hm : l.length ≤ 90000000) (m0 : 0 ≤ most) (m1 : most ≤ 65535) (hk : l.length < 548) :
    Calls Try.prog 42 #[.slice A l.length c, .int .u16 most, .bool false] w (Msg w 3 4 0 most (l.take (l.length)) (l.length)) := by
  have HI := hide (h.take (k := l.length) (by omega))
  have hc : l.length ≤ c ∧ c ≤ maxLen := by obtain ⟨A', c', e, _, _, h3, h4, _⟩ := h; injection e with _ _ e; subst e; exact ⟨h3, h4⟩
  obtain ⟨c0, c1⟩ := hc
  unfold maxLen at c1
  clear h
  have q2 : ((l.length : Int) < 548) := by omega
  go_enter Try.func42, Try.ntmps42
  go_wp2_with (
    at_builtin
    refine app_k _ _ _ rfl rfl Try.underlying22 info8 (v := .slice (some ⟨w.heap.size + 2, 0, none⟩) 0 0) (base := w.heap.size + 2) (xs := []) (k := 0) (k' := l.length) (l := l.take (l.length)) rfl (own_empty_at (by simp)) rfl rfl (((HI.out.alloc _).alloc _).alloc _) (by omega) (by omega) (by simp) ?_
    intro A9 c9 w9 ho hg
    have hm := ((Is.new (w.alloc (.cells #[.int .u8 0, .int .u8 0, .int .u16 0, .int .u32 0, .slice none 0 0] 66)) 66 #[.int .u8 3, .int .u8 4, .int .u16 0, .int .u32 most, .slice none 0 0]).alloc (.cells #[] 5)).only hg (by simp [Value.ownBlock])
    have hr := (((Is.new w 66 #[.int .u8 0, .int .u8 0, .int .u16 0, .int .u32 0, .slice none 0 0]).alloc (.cells #[.int .u8 3, .int .u8 4, .int .u16 0, .int .u32 most, .slice none 0 0] 66)).alloc (.cells #[] 5)).only hg (by simp [Value.ownBlock])
    have r0 := hr.cell 0
    have r1 := hr.cell 1
    have r2 := hr.cell 2
    have r3 := hr.cell 3
    have r4 := hr.cell 4
    have n0 := hm.cell 0
    have n1 := hm.cell 1
    have n2 := hm.cell 2
    have n3 := hm.cell 3
    have n4 := hm.cell 4
    have fr := hr.free
    have fn := hm.free
    have lr := hr.lt
    have ln := hm.lt
    simp at r0 r1 r2 r3 r4 n0 n1 n2 n3 n4 fr fn lr ln
    have HO := hide ho
    have HG := Lib.hid hg
    clear hr hm ho hg)
  refine bodyPost_ret (v := msg8 3 4 0 most (.slice A9 (l.length) c9)) (by simp [results, Try.results42, go_sem, msg8, r0, r1, r2, r3, r4]) rfl ⟨_, rfl, ?_, IsB.own (base := w.heap.size + 2) ?_⟩
  · have ob : Below w.heap.size w w9 := ((((Below.refl _ _).alloc (Nat.le_refl _) _).alloc (by simp) _).alloc (by simp; omega) _).grown HG.out (by simp; omega) (fun k hk => by simp [Value.ownBlock] at hk; omega)
    repeat' first | with_reducible exact ob | with_reducible apply Below.set1
    all_goals omega
  · have ob : OwnB w9 (w.heap.size + 2) (.slice A9 (l.length) c9) (l.take (l.length)) := by have h := HO.out; rw [List.nil_append] at h; exact h
    repeat' first | with_reducible exact ob | with_reducible apply OwnB.set1
    all_goals omega

set_option maxRecDepth 100000 in
set_option maxHeartbeats 1000000 in
theorem rtoobig6_a (A : Option Addr) (c : Nat) (l : List Int) (most : Int) (w : World) (h : IsB l l.length (.slice A l.length c) w) (hm : l.length ≤ 90000000) (m0 : 0 ≤ most) (m1 : most ≤ 65535) (hk : 1232 ≤ l.length) :
    Calls Try.prog 42 #[.slice A l.length c, .int .u16 most, .bool true] w (Msg w 2 0 0 most (l.take (1232)) (1232)) := by
  have HI := hide (h.take (k := 1232) (by omega))
  have hc : l.length ≤ c ∧ c ≤ maxLen := by obtain ⟨A', c', e, _, _, h3, h4, _⟩ := h; injection e with _ _ e; subst e; exact ⟨h3, h4⟩
  obtain ⟨c0, c1⟩ := hc
  unfold maxLen at c1
  clear h
  have q2 : ¬ ((l.length : Int) < 1232) := by omega
  go_enter Try.func42, Try.ntmps42
  go_wp2_with (
    at_builtin
    refine app_k _ _ _ rfl rfl Try.underlying22 info8 (v := .slice (some ⟨w.heap.size + 2, 0, none⟩) 0 0) (base := w.heap.size + 2) (xs := []) (k := 0) (k' := 1232) (l := l.take (1232)) rfl (own_empty_at (by simp)) rfl rfl (((HI.out.alloc _).alloc _).alloc _) (by omega) (by omega) (by simp) ?_
    intro A9 c9 w9 ho hg
    have hm := ((Is.new (w.alloc (.cells #[.int .u8 0, .int .u8 0, .int .u16 0, .int .u32 0, .slice none 0 0] 66)) 66 #[.int .u8 2, .int .u8 0, .int .u16 0, .int .u32 most, .slice none 0 0]).alloc (.cells #[] 5)).only hg (by simp [Value.ownBlock])
    have hr := (((Is.new w 66 #[.int .u8 0, .int .u8 0, .int .u16 0, .int .u32 0, .slice none 0 0]).alloc (.cells #[.int .u8 2, .int .u8 0, .int .u16 0, .int .u32 most, .slice none 0 0] 66)).alloc (.cells #[] 5)).only hg (by simp [Value.ownBlock])
    have r0 := hr.cell 0
    have r1 := hr.cell 1
    have r2 := hr.cell 2
    have r3 := hr.cell 3
    have r4 := hr.cell 4
    have n0 := hm.cell 0
    have n1 := hm.cell 1
    have n2 := hm.cell 2
    have n3 := hm.cell 3
    have n4 := hm.cell 4
    have fr := hr.free
    have fn := hm.free
    have lr := hr.lt
    have ln := hm.lt
    simp at r0 r1 r2 r3 r4 n0 n1 n2 n3 n4 fr fn lr ln
    have HO := hide ho
    have HG := Lib.hid hg
    clear hr hm ho hg)
  refine bodyPost_ret (v := msg8 2 0 0 most (.slice A9 (1232) c9)) (by simp [results, Try.results42, go_sem, msg8, r0, r1, r2, r3, r4]) rfl ⟨_, rfl, ?_, IsB.own (base := w.heap.size + 2) ?_⟩
  · have ob : Below w.heap.size w w9 := ((((Below.refl _ _).alloc (Nat.le_refl _) _).alloc (by simp) _).alloc (by simp; omega) _).grown HG.out (by simp; omega) (fun k hk => by simp [Value.ownBlock] at hk; omega)
    repeat' first | with_reducible exact ob | with_reducible apply Below.set1
    all_goals omega
  · have ob : OwnB w9 (w.heap.size + 2) (.slice A9 (1232) c9) (l.take (1232)) := by have h := HO.out; rw [List.nil_append] at h; exact h
    repeat' first | with_reducible exact ob | with_reducible apply OwnB.set1
    all_goals omega

set_option maxRecDepth 100000 in
set_option maxHeartbeats 1000000 in
theorem rtoobig6_b (A : Option Addr) (c : Nat) (l : List Int) (most : Int) (w : World) (h : IsB l l.length (.slice A l.length c) w) (hm : l.length ≤ 90000000) (m0 : 0 ≤ most) (m1 : most ≤ 65535) (hk : l.length < 1232) :
    Calls Try.prog 42 #[.slice A l.length c, .int .u16 most, .bool true] w (Msg w 2 0 0 most (l.take (l.length)) (l.length)) := by
  have HI := hide (h.take (k := l.length) (by omega))
  have hc : l.length ≤ c ∧ c ≤ maxLen := by obtain ⟨A', c', e, _, _, h3, h4, _⟩ := h; injection e with _ _ e; subst e; exact ⟨h3, h4⟩
  obtain ⟨c0, c1⟩ := hc
  unfold maxLen at c1
  clear h
  have q2 : ((l.length : Int) < 1232) := by omega
  go_enter Try.func42, Try.ntmps42
  go_wp2_with (
    at_builtin
    refine app_k _ _ _ rfl rfl Try.underlying22 info8 (v := .slice (some ⟨w.heap.size + 2, 0, none⟩) 0 0) (base := w.heap.size + 2) (xs := []) (k := 0) (k' := l.length) (l := l.take (l.length)) rfl (own_empty_at (by simp)) rfl rfl (((HI.out.alloc _).alloc _).alloc _) (by omega) (by omega) (by simp) ?_
    intro A9 c9 w9 ho hg
    have hm := ((Is.new (w.alloc (.cells #[.int .u8 0, .int .u8 0, .int .u16 0, .int .u32 0, .slice none 0 0] 66)) 66 #[.int .u8 2, .int .u8 0, .int .u16 0, .int .u32 most, .slice none 0 0]).alloc (.cells #[] 5)).only hg (by simp [Value.ownBlock])
    have hr := (((Is.new w 66 #[.int .u8 0, .int .u8 0, .int .u16 0, .int .u32 0, .slice none 0 0]).alloc (.cells #[.int .u8 2, .int .u8 0, .int .u16 0, .int .u32 most, .slice none 0 0] 66)).alloc (.cells #[] 5)).only hg (by simp [Value.ownBlock])
    have r0 := hr.cell 0
    have r1 := hr.cell 1
    have r2 := hr.cell 2
    have r3 := hr.cell 3
    have r4 := hr.cell 4
    have n0 := hm.cell 0
    have n1 := hm.cell 1
    have n2 := hm.cell 2
    have n3 := hm.cell 3
    have n4 := hm.cell 4
    have fr := hr.free
    have fn := hm.free
    have lr := hr.lt
    have ln := hm.lt
    simp at r0 r1 r2 r3 r4 n0 n1 n2 n3 n4 fr fn lr ln
    have HO := hide ho
    have HG := Lib.hid hg
    clear hr hm ho hg)
  refine bodyPost_ret (v := msg8 2 0 0 most (.slice A9 (l.length) c9)) (by simp [results, Try.results42, go_sem, msg8, r0, r1, r2, r3, r4]) rfl ⟨_, rfl, ?_, IsB.own (base := w.heap.size + 2) ?_⟩
  · have ob : Below w.heap.size w w9 := ((((Below.refl _ _).alloc (Nat.le_refl _) _).alloc (by simp) _).alloc (by simp; omega) _).grown HG.out (by simp; omega) (fun k hk => by simp [Value.ownBlock] at hk; omega)
    repeat' first | with_reducible exact ob | with_reducible apply Below.set1
    all_goals omega
  · have ob : OwnB w9 (w.heap.size + 2) (.slice A9 (l.length) c9) (l.take (l.length)) := by have h := HO.out; rw [List.nil_append] at h; exact h
    repeat' first | with_reducible exact ob | with_reducible apply OwnB.set1
    all_goals omega
end Go.Proofs.Ytkdcaipadejchaa
