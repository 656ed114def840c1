/-
  What Parse of package udp and of the document's answer for layer 7 return. Helper of the claim UdpReads. No condition.
-/
import Derived.Test.YtmgendgfdhhgfaaRq
namespace Go.Proofs.Ytmgendgfdhhgfaa
open Go.ChangeShapes Go.WideShapes Go.ChangeAt Go.RowKit
set_option linter.unusedSimpArgs false
set_option linter.unusedVariables false
set_option maxRecDepth 100000

/-- A datagram as a value. -/
def dg7 (s d m : Int) (v : Value) : Value := .agg #[.int .u16 s, .int .u16 d, .int .u16 m, v]
def Dg (w : World) (s d m : Int) (l : List Int) (n : Nat) (x : Int) (e : Ending) (w' : World) : Prop := ∃ v, e = .returned (.tuple #[dg7 s d m v, .int .i64 x]) ∧ Below w.heap.size w w' ∧ IsB l n v w'
theorem IsB.nil0 (w : World) : IsB [] 0 (.slice none 0 0) w := ⟨none, 0, rfl, rfl, Bytes.nil _ _ _, Nat.le_refl _, by unfold maxLen; omega, fun _ => rfl⟩
theorem IsB.caps {l : List Int} {n c : Nat} {A : Option Addr} {w : World} (h : IsB l n (.slice A n c) w) : n ≤ c ∧ c ≤ maxLen := by
  obtain ⟨A', c', e, _, _, h3, h4, _⟩ := h; injection e with _ _ e; subst e; exact ⟨h3, h4⟩
theorem IsB.part {l : List Int} {n c i k : Nat} {A : Option Addr} {w : World} (h : IsB l n (.slice A n c) w) (hi : i + k ≤ n) : IsB ((l.drop i).take k) k (.slice (if c = i then A else A.map (·.add i)) k (c - i)) w := by
  obtain ⟨A', c', e, h1, h2, h3, h4, h5⟩ := h
  injection e with e1 e2 e3; subst e1; subst e3
  refine ⟨_, _, rfl, by rw [List.length_take, List.length_drop]; omega, bytes_take (bytes_drop h2 i c (by omega)) k, by omega, by omega, fun h0 => ?_⟩
  by_cases hc : c = i
  · omega
  · rw [if_neg hc] at h0
    have := h5 (by simpa using h0); omega

set_option maxHeartbeats 1000000 in
theorem uparse_short (A : Option Addr) (c n : Nat) (w : World) (h8 : n < 8) :
    Calls Try.prog 132 #[.slice A n c] w (Dg w 0 0 0 [] 0 20) := by
  go_enter Try.func132, Try.ntmps132
  go_wp2_with fail
  exact bodyPost_ret (v := .tuple #[dg7 0 0 0 (.slice none 0 0), .int .i64 20]) (by simp [results, Try.results132, go_sem, dg7]) rfl ⟨_, rfl, (Below.refl _ _).alloc (Nat.le_refl _) _, IsB.nil0 _⟩

set_option maxHeartbeats 2000000 in
theorem uparse_form (A : Option Addr) (c : Nat) (l : List Int) (w : World) (hi : IsB l l.length (.slice A l.length c) w) (ho : Octets l) (hm : l.length ≤ 3000) (h8 : 8 ≤ l.length) (n : Int) (hn : nw l 4 2 = n) (hn8 : n < 8) :
    Calls Try.prog 132 #[.slice A l.length c] w (Dg w 0 0 0 [] 0 21) := by
  have HI := hide hi; have HO := hide ho
  have b0 := nw2_bd (i := 0) (by omega) ho
  have b2 := nw2_bd (i := 2) (by omega) ho
  have b6 := nw2_bd (i := 6) (by omega) ho
  have b4 := nw2_bd (i := 4) (by omega) ho
  rw [hn] at b4
  have HN := hide hn
  clear hn
  obtain ⟨s, hs⟩ : ∃ s, nw l 0 2 = s := ⟨_, rfl⟩
  obtain ⟨d, hd⟩ : ∃ d, nw l 2 2 = d := ⟨_, rfl⟩
  obtain ⟨m, hmm⟩ : ∃ m, nw l 6 2 = m := ⟨_, rfl⟩
  rw [hs] at b0; rw [hd] at b2; rw [hmm] at b6
  have HS := hide hs; have HD := hide hd; have HM := hide hmm
  clear hi ho hs hd hmm
  go_enter Try.func132, Try.ntmps132
  go_wp2_with fail
  have hr0 := Is.new w 108 #[.int .u16 0, .int .u16 0, .int .u16 0, .slice none 0 0]
  have hw0 : Below w.heap.size w (w.alloc (.cells #[.int .u16 0, .int .u16 0, .int .u16 0, .slice none 0 0] 108)) := (Below.refl _ _).alloc (Nat.le_refl _) _
  have HI0 := hide (HI.out.st hw0)
  have hlt : w.heap.size < (w.alloc (.cells #[.int .u16 0, .int .u16 0, .int .u16 0, .slice none 0 0] 108)).heap.size := by simp
  generalize w.alloc (.cells #[.int .u16 0, .int .u16 0, .int .u16 0, .slice none 0 0] 108) = W at *
  have HR0 := hide hr0; have HW0 := Lib.hid hw0
  clear hr0 hw0
  refine (read_q HI0.out (by omega)).mono ?_
  rintro e w1 ⟨g, rfl, h1⟩
  have R1 := hide h1; clear h1
  go_wp2_with fail
  refine (word_q 2 s R1.out HO.out rfl (by omega) HS.out).mono ?_
  rintro e w2 ⟨rfl, h1, _⟩
  have R2 := hide h1; clear h1 R1
  go_wp2_with fail
  refine (word_q 4 d R2.out HO.out rfl (by omega) HD.out).mono ?_
  rintro e w3 ⟨rfl, h1, _⟩
  have R3 := hide h1; clear h1 R2
  have hg3 := R3.out.1.lt
  have h3w : w.heap.size < w3.heap.size := Nat.lt_of_lt_of_le hlt R3.out.2.1.size
  go_wp2_with fail
  refine (word_q 6 n (R3.out.alloc _) HO.out rfl (by omega) HN.out).mono ?_
  rintro e w4 ⟨rfl, h1, hg⟩
  have hp := (Is.new w3 108 #[.int .u16 s, .int .u16 d, .int .u16 0, .slice none 0 0]).only hg (by simp; omega)
  have R4 := hide h1
  have hr4 := HR0.out.below h1.bel hlt
  clear h1 R3 hg
  generalize hp2 : w3.heap.size = p at *
  clear hp2
  have p0 := hp.cell 0
  have p1 := hp.cell 1
  have p2 := hp.cell 2
  have p3 := hp.cell 3
  have fp := hp.free
  have lp := hp.lt
  have r0 := hr4.cell 0
  have r1 := hr4.cell 1
  have r2 := hr4.cell 2
  have r3 := hr4.cell 3
  have fr := hr4.free
  have lr := hr4.lt
  simp at p0 p1 p2 p3 r0 r1 r2 r3 fp fr
  have HP := hide hp
  clear hp hr4
  go_wp2_with fail
  refine bodyPost_ret (v := .tuple #[dg7 0 0 0 (.slice none 0 0), .int .i64 21]) (by simp [results, Try.results132, go_sem, dg7, r0, r1, r2, r3]) rfl ⟨_, rfl, ?_, IsB.nil0 _⟩
  have ob := HW0.out.trans (R4.out.bel.mono HW0.out.size)
  repeat' first | with_reducible exact ob | with_reducible apply Below.set1
  all_goals omega

set_option maxHeartbeats 2000000 in
theorem uparse_long (A : Option Addr) (c : Nat) (l : List Int) (w : World) (hi : IsB l l.length (.slice A l.length c) w) (ho : Octets l) (hm : l.length ≤ 3000) (h8 : 8 ≤ l.length) (n : Int) (hn : nw l 4 2 = n) (hn8 : (l.length : Int) < n) :
    Calls Try.prog 132 #[.slice A l.length c] w (Dg w 0 0 0 [] 0 20) := by
  have HI := hide hi; have HO := hide ho
  have b0 := nw2_bd (i := 0) (by omega) ho
  have b2 := nw2_bd (i := 2) (by omega) ho
  have b6 := nw2_bd (i := 6) (by omega) ho
  have b4 := nw2_bd (i := 4) (by omega) ho
  rw [hn] at b4
  have HN := hide hn
  clear hn
  obtain ⟨s, hs⟩ : ∃ s, nw l 0 2 = s := ⟨_, rfl⟩
  obtain ⟨d, hd⟩ : ∃ d, nw l 2 2 = d := ⟨_, rfl⟩
  obtain ⟨m, hmm⟩ : ∃ m, nw l 6 2 = m := ⟨_, rfl⟩
  rw [hs] at b0; rw [hd] at b2; rw [hmm] at b6
  have HS := hide hs; have HD := hide hd; have HM := hide hmm
  clear hi ho hs hd hmm
  go_enter Try.func132, Try.ntmps132
  go_wp2_with fail
  have hr0 := Is.new w 108 #[.int .u16 0, .int .u16 0, .int .u16 0, .slice none 0 0]
  have hw0 : Below w.heap.size w (w.alloc (.cells #[.int .u16 0, .int .u16 0, .int .u16 0, .slice none 0 0] 108)) := (Below.refl _ _).alloc (Nat.le_refl _) _
  have HI0 := hide (HI.out.st hw0)
  have hlt : w.heap.size < (w.alloc (.cells #[.int .u16 0, .int .u16 0, .int .u16 0, .slice none 0 0] 108)).heap.size := by simp
  generalize w.alloc (.cells #[.int .u16 0, .int .u16 0, .int .u16 0, .slice none 0 0] 108) = W at *
  have HR0 := hide hr0; have HW0 := Lib.hid hw0
  clear hr0 hw0
  refine (read_q HI0.out (by omega)).mono ?_
  rintro e w1 ⟨g, rfl, h1⟩
  have R1 := hide h1; clear h1
  go_wp2_with fail
  refine (word_q 2 s R1.out HO.out rfl (by omega) HS.out).mono ?_
  rintro e w2 ⟨rfl, h1, _⟩
  have R2 := hide h1; clear h1 R1
  go_wp2_with fail
  refine (word_q 4 d R2.out HO.out rfl (by omega) HD.out).mono ?_
  rintro e w3 ⟨rfl, h1, _⟩
  have R3 := hide h1; clear h1 R2
  have hg3 := R3.out.1.lt
  have h3w : w.heap.size < w3.heap.size := Nat.lt_of_lt_of_le hlt R3.out.2.1.size
  go_wp2_with fail
  refine (word_q 6 n (R3.out.alloc _) HO.out rfl (by omega) HN.out).mono ?_
  rintro e w4 ⟨rfl, h1, hg⟩
  have hp := (Is.new w3 108 #[.int .u16 s, .int .u16 d, .int .u16 0, .slice none 0 0]).only hg (by simp; omega)
  have R4 := hide h1
  have hr4 := HR0.out.below h1.bel hlt
  clear h1 R3 hg
  generalize hp2 : w3.heap.size = p at *
  clear hp2
  have p0 := hp.cell 0
  have p1 := hp.cell 1
  have p2 := hp.cell 2
  have p3 := hp.cell 3
  have fp := hp.free
  have lp := hp.lt
  have r0 := hr4.cell 0
  have r1 := hr4.cell 1
  have r2 := hr4.cell 2
  have r3 := hr4.cell 3
  have fr := hr4.free
  have lr := hr4.lt
  simp at p0 p1 p2 p3 r0 r1 r2 r3 fp fr
  have HP := hide hp
  clear hp hr4
  go_wp2_with fail
  refine bodyPost_ret (v := .tuple #[dg7 0 0 0 (.slice none 0 0), .int .i64 20]) (by simp [results, Try.results132, go_sem, dg7, r0, r1, r2, r3]) rfl ⟨_, rfl, ?_, IsB.nil0 _⟩
  have ob := HW0.out.trans (R4.out.bel.mono HW0.out.size)
  repeat' first | with_reducible exact ob | with_reducible apply Below.set1
  all_goals omega

set_option maxHeartbeats 2000000 in
theorem uparse_ok (A : Option Addr) (c : Nat) (l : List Int) (w : World) (hi : IsB l l.length (.slice A l.length c) w) (ho : Octets l) (hm : l.length ≤ 3000) (h8 : 8 ≤ l.length) (k : Nat) (hn : nw l 4 2 = ((8 + k : Nat) : Int)) (hk : 8 + k ≤ l.length) :
    Calls Try.prog 132 #[.slice A l.length c] w (Dg w (nw l 0 2) (nw l 2 2) (nw l 6 2) ((l.drop 8).take k) k 0) := by
  have HI := hide hi; have HO := hide ho
  have b0 := nw2_bd (i := 0) (by omega) ho
  have b2 := nw2_bd (i := 2) (by omega) ho
  have b6 := nw2_bd (i := 6) (by omega) ho
  obtain ⟨n, hnn⟩ : ∃ n : Int, n = ((8 + k : Nat) : Int) := ⟨_, rfl⟩
  have HN := hide hn
  clear hn hnn n
  obtain ⟨s, hs⟩ : ∃ s, nw l 0 2 = s := ⟨_, rfl⟩
  obtain ⟨d, hd⟩ : ∃ d, nw l 2 2 = d := ⟨_, rfl⟩
  obtain ⟨m, hmm⟩ : ∃ m, nw l 6 2 = m := ⟨_, rfl⟩
  rw [hs] at b0; rw [hd] at b2; rw [hmm] at b6
  have HS := hide hs; have HD := hide hd; have HM := hide hmm
  rw [hs, hd, hmm]
  clear hi ho hs hd hmm
  go_enter Try.func132, Try.ntmps132
  go_wp2_with fail
  have hr0 := Is.new w 108 #[.int .u16 0, .int .u16 0, .int .u16 0, .slice none 0 0]
  have hw0 : Below w.heap.size w (w.alloc (.cells #[.int .u16 0, .int .u16 0, .int .u16 0, .slice none 0 0] 108)) := (Below.refl _ _).alloc (Nat.le_refl _) _
  have HI0 := hide (HI.out.st hw0)
  have hlt : w.heap.size < (w.alloc (.cells #[.int .u16 0, .int .u16 0, .int .u16 0, .slice none 0 0] 108)).heap.size := by simp
  generalize w.alloc (.cells #[.int .u16 0, .int .u16 0, .int .u16 0, .slice none 0 0] 108) = W at *
  have HR0 := hide hr0; have HW0 := Lib.hid hw0
  clear hr0 hw0
  refine (read_q HI0.out (by omega)).mono ?_
  rintro e w1 ⟨g, rfl, h1⟩
  have R1 := hide h1; clear h1
  go_wp2_with fail
  refine (word_q 2 s R1.out HO.out rfl (by omega) HS.out).mono ?_
  rintro e w2 ⟨rfl, h1, _⟩
  have R2 := hide h1; clear h1 R1
  go_wp2_with fail
  refine (word_q 4 d R2.out HO.out rfl (by omega) HD.out).mono ?_
  rintro e w3 ⟨rfl, h1, _⟩
  have R3 := hide h1; clear h1 R2
  have hg3 := R3.out.1.lt
  have h3w : w.heap.size < w3.heap.size := Nat.lt_of_lt_of_le hlt R3.out.2.1.size
  go_wp2_with fail
  refine (word_q 6 ((8 + k : Nat) : Int) (R3.out.alloc _) HO.out rfl (by omega) HN.out).mono ?_
  rintro e w4 ⟨rfl, h1, hg⟩
  have hp := (Is.new w3 108 #[.int .u16 s, .int .u16 d, .int .u16 0, .slice none 0 0]).only hg (by simp; omega)
  have R4 := hide h1
  have hr4 := HR0.out.below h1.bel hlt
  clear h1 R3 hg
  generalize hp2 : w3.heap.size = p at *
  clear hp2
  have p0 := hp.cell 0
  have p1 := hp.cell 1
  have p2 := hp.cell 2
  have p3 := hp.cell 3
  have fp := hp.free
  have lp := hp.lt
  have r0 := hr4.cell 0
  have r1 := hr4.cell 1
  have r2 := hr4.cell 2
  have r3 := hr4.cell 3
  have fr := hr4.free
  have lr := hr4.lt
  simp at p0 p1 p2 p3 r0 r1 r2 r3 fp fr
  have HP := hide hp
  clear hp hr4
  go_wp2_with fail
  refine (word_q 8 m R4.out HO.out rfl (by omega) HM.out).mono ?_
  rintro e w5 ⟨rfl, h1, hg⟩
  have R5 := hide h1
  have hgp : g ≠ p := by
    have := R4.out.1.lt
    intro h; subst h
    obtain ⟨A0, c0, h9, _⟩ := R4.out.1
    exact absurd rfl (Is.differ h9 HP.out (by decide))
  have HP5 := hide (HP.out.only hg (by intro h; injection h with h; exact hgp h.symm))
  have HR5 := hide (HR0.out.below h1.bel hlt)
  clear h1 hg p0 p1 p2 p3 fp lp r0 r1 r2 r3 fr lr R4 HP
  go_wp2_with fail
  rw [show (8 + (k : Int) - 8) = (k : Int) from by omega]
  refine (part_q k (8 + k) R5.out rfl (by omega) (by omega)).mono ?_
  rintro e w6 ⟨A6, c6, rfl, ho6, h1, hg⟩
  have R6 := hide h1
  have hp := HP5.out.only hg (by intro h; injection h with h; exact hgp h.symm)
  have hr4 := HR0.out.below h1.bel hlt
  have hpl : p < w5.heap.size := HP5.out.lt
  have hrl : w.heap.size < w5.heap.size := HR5.out.lt
  have HO6 := hide ho6
  clear h1 hg R5 HP5 HR5 ho6
  have p0 := hp.cell 0
  have p1 := hp.cell 1
  have p2 := hp.cell 2
  have p3 := hp.cell 3
  have fp := hp.free
  have lp := hp.lt
  have r0 := hr4.cell 0
  have r1 := hr4.cell 1
  have r2 := hr4.cell 2
  have r3 := hr4.cell 3
  have fr := hr4.free
  have lr := hr4.lt
  simp at p0 p1 p2 p3 r0 r1 r2 r3 fp fr
  have hpr : p ≠ w.heap.size := by omega
  clear hp hr4
  go_wp2_with fail
  refine bodyPost_ret (v := .tuple #[dg7 s d m (.slice A6 k c6), .int .i64 0]) (by simp [results, Try.results132, go_sem, dg7, r0, r1, r2, r3]) rfl ⟨_, rfl, ?_, IsB.own (base := w5.heap.size) ?_⟩
  · have ob := HW0.out.trans (R6.out.bel.mono HW0.out.size)
    repeat' first | with_reducible exact ob | with_reducible apply Below.set1
    all_goals omega
  · have ob := HO6.out
    repeat' first | with_reducible exact ob | with_reducible apply OwnB.set1
    all_goals omega
end Go.Proofs.Ytmgendgfdhhgfaa
