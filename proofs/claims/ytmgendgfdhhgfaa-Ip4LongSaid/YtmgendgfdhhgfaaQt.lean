/-
  Same headers. Helper of the claims of layer 4.
-/
import Derived.Test.YtmgendgfdhhgfaaQs
import Derived.Test.YtmgendgfdhhgfaaLin2
import Derived.Deep.Cut
import Derived.Deep.CutRange
namespace Go.Proofs.Ytmgendgfdhhgfaa
open Go.ChangeShapes Go.WideShapes Go.ChangeAt Go.RowKit
set_option linter.unusedSimpArgs false
set_option linter.unusedVariables false
set_option maxRecDepth 100000
theorem Lin5.exec_store_row4 {P : Program} {o : Oper} {ρ : Operand → Value} {w : World} (ty : TypeId) (x y : Operand) (ho : o.op = .store ty x y) (g : Nat) (cells : Array Value) (hx : ρ x = .pointer (some ⟨g, 0, none⟩)) (hy : ρ y = .agg cells)
    (t : TypeId) (old : Array Value) (hg : Is w g t old) (hi : (P.info? ty).map (·.size) = some cells.size) (hold : old.size = cells.size) (h1 : cells.all (·.oneCell') = true) :
    (execOp ρ o).run P w = .ok .skip (w.setRow g cells) := by
  unfold execOp
  simp only [ho, hx, hy, Instr.storeAt, Instr.sureAddr, Sem.run_bind, Sem.run_pure, Result.andThen_ok, run_storeVar_row w g t ty old cells hg hi hold h1]
def tm4 (N1 N2 : Array Value) (a b : Option Obj) : Prop := N2.size = N1.size ∧ (b = some (.cells N1 37 (0, 0)) ∨ b = some (.cells N2 37 (0, 0)))
theorem tn4 (N1 N2 : Array Value) (B : Nat) : Lin.Rel (Lin.Turns B (tm4 N1 N2)) := Lin.turns fun h k => ⟨h.1, k.2⟩
theorem tn4_store {N1 N2 cs C : Array Value} {B p : Nat} {w : World} (hB : B ≤ p) (hp : Is w p 37 cs) (hn : N2.size = N1.size) (hc : C = N1 ∨ C = N2) : Lin.Turns B (tm4 N1 N2) w (w.setRow p C) :=
  ⟨rfl, rfl, rfl, by simp [World.setRow], fun i hi => by
    by_cases e : i = p
    · subst e
      refine .inr ⟨hB, hn, ?_⟩
      have := is_raw (is_row6 (cs' := C) hp)
      rcases hc with rfl | rfl
      · exact .inl this
      · exact .inr this
    · exact .inl (setRow_other w p i C e)⟩
def sp4 (N1 N2 : Array Value) (B : Nat) : Lin.Spec (Lin.Turns B (tm4 N1 N2)) := ⟨fun v w => ∃ p cs, v = .pointer (some ⟨p, 0, none⟩) ∧ B ≤ p ∧ Is w p 37 cs ∧ cs.size = N1.size, fun {v w w'} hh h => by
  obtain ⟨p, cs, e, hB, hp, hs⟩ := hh
  rcases h.2.2.2.2 p hp.lt with e1 | ⟨_, hn, e1 | e1⟩
  · exact ⟨p, cs, e, hB, e1.trans hp, hs⟩
  · exact ⟨p, N1, e, hB, e1, rfl⟩
  · exact ⟨p, N2, e, hB, e1, hn⟩⟩
def sn4 (N1 N2 : Array Value) (B : Nat) : Lin.Spec (Lin.Turns B (tm4 N1 N2)) := ⟨fun v w => ∃ p, v = .pointer (some ⟨p, 0, none⟩) ∧ B ≤ p ∧ (Is w p 37 N1 ∨ Is w p 37 N2), fun {v w w'} hh h => by
  obtain ⟨p, e, hB, hp⟩ := hh
  have hl : p < w.heap.size := by rcases hp with hp | hp <;> exact hp.lt
  rcases h.2.2.2.2 p hl with e1 | ⟨_, _, e1 | e1⟩
  · rcases hp with hp | hp
    · exact ⟨p, e, hB, .inl (e1.trans hp)⟩
    · exact ⟨p, e, hB, .inr (e1.trans hp)⟩
  · exact ⟨p, e, hB, .inl e1⟩
  · exact ⟨p, e, hB, .inr e1⟩⟩
/-- Two copies of one header, with options that read alike. -/
def Two4 (w : World) (f : Value → Array Value) (o : List Int) (u v : Value) (wx : World) : Prop := ∃ p q A1 i1 c1 A2 i2 c2, u = .pointer (some ⟨p, 0, none⟩) ∧ v = .pointer (some ⟨q, 0, none⟩) ∧ Is wx p 37 (f (.slice A1 i1 c1)) ∧ Is wx q 37 (f (.slice A2 i2 c2)) ∧ IsB o i1 (.slice A1 i1 c1) wx ∧ IsB o i2 (.slice A2 i2 c2) wx ∧ Below w.heap.size w wx
theorem two4_mk {w wx : World} {p q : Nat} {f : Value → Array Value} {o : List Int} {A1 A2 : Option Addr} {i c1 j c2 : Nat} (h1 : Is wx p 37 (f (.slice A1 i c1)) ∨ Is wx p 37 (f (.slice A2 j c2))) (h2 : Is wx q 37 (f (.slice A1 i c1)) ∨ Is wx q 37 (f (.slice A2 j c2))) (k1 : IsB o i (.slice A1 i c1) wx) (k2 : IsB o j (.slice A2 j c2) wx) (h3 : Below w.heap.size w wx) : Two4 w f o (.pointer (some ⟨p, 0, none⟩)) (.pointer (some ⟨q, 0, none⟩)) wx := by
  rcases h1 with h1 | h1 <;> rcases h2 with h2 | h2
  · exact ⟨p, q, _, _, _, _, _, _, rfl, rfl, h1, h2, k1, k1, h3⟩
  · exact ⟨p, q, _, _, _, _, _, _, rfl, rfl, h1, h2, k1, k2, h3⟩
  · exact ⟨p, q, _, _, _, _, _, _, rfl, rfl, h1, h2, k2, k1, h3⟩
  · exact ⟨p, q, _, _, _, _, _, _, rfl, rfl, h1, h2, k2, k2, h3⟩
set_option maxHeartbeats 8000000 in
theorem same4 (ts le id : Int) (st mo : Bool) (ofs tt pr sm : Int) (s6 : Bool) (sh sl : Int) (d6 : Bool) (dh dl : Int) (o : List Int) (i j : Nat) (v u : Value) (w : World) (hv : IsB o i v w) (hu : IsB o j u w) :
    Calls Try.prog 17 #[hv4 ts le id st mo ofs tt pr sm s6 sh sl d6 dh dl v, hv4 ts le id st mo ofs tt pr sm s6 sh sl d6 dh dl u] w fun e w' => e = .returned (.bool true) ∧ Below w.heap.size w w' := by
  have HV := hide hv; have HU := hide hu
  obtain ⟨A1, c1, rfl⟩ := hv.shape
  obtain ⟨A2, c2, rfl⟩ := hu.shape
  have HB0 := Lib.hid (((Below.refl w.heap.size w).alloc (Nat.le_refl _) (.cells #[.int .u8 ts, .int .i64 le, .int .u16 id, .bool st, .bool mo, .int .i64 ofs, .int .u8 tt, .int .u8 pr, .int .u16 sm, .bool s6, .int .u64 sh, .int .u64 sl, .bool d6, .int .u64 dh, .int .u64 dl, .slice A1 i c1] 37)).alloc (by simp) (.cells #[.int .u8 ts, .int .i64 le, .int .u16 id, .bool st, .bool mo, .int .i64 ofs, .int .u8 tt, .int .u8 pr, .int .u16 sm, .bool s6, .int .u64 sh, .int .u64 sl, .bool d6, .int .u64 dh, .int .u64 dl, .slice A2 j c2] 37))
  have P1 := hide ((Is.new w 37 #[.int .u8 ts, .int .i64 le, .int .u16 id, .bool st, .bool mo, .int .i64 ofs, .int .u8 tt, .int .u8 pr, .int .u16 sm, .bool s6, .int .u64 sh, .int .u64 sl, .bool d6, .int .u64 dh, .int .u64 dl, .slice A1 i c1]).alloc (.cells #[.int .u8 ts, .int .i64 le, .int .u16 id, .bool st, .bool mo, .int .i64 ofs, .int .u8 tt, .int .u8 pr, .int .u16 sm, .bool s6, .int .u64 sh, .int .u64 sl, .bool d6, .int .u64 dh, .int .u64 dl, .slice A2 j c2] 37))
  have P2 := hide (Is.new (w.alloc (.cells #[.int .u8 ts, .int .i64 le, .int .u16 id, .bool st, .bool mo, .int .i64 ofs, .int .u8 tt, .int .u8 pr, .int .u16 sm, .bool s6, .int .u64 sh, .int .u64 sl, .bool d6, .int .u64 dh, .int .u64 dl, .slice A1 i c1] 37)) 37 #[.int .u8 ts, .int .i64 le, .int .u16 id, .bool st, .bool mo, .int .i64 ofs, .int .u8 tt, .int .u8 pr, .int .u16 sm, .bool s6, .int .u64 sh, .int .u64 sl, .bool d6, .int .u64 dh, .int .u64 dl, .slice A2 j c2])
  have PN := Lib.hid (show (w.alloc (.cells #[.int .u8 ts, .int .i64 le, .int .u16 id, .bool st, .bool mo, .int .i64 ofs, .int .u8 tt, .int .u8 pr, .int .u16 sm, .bool s6, .int .u64 sh, .int .u64 sl, .bool d6, .int .u64 dh, .int .u64 dl, .slice A1 i c1] 37)).heap.size = w.heap.size + 1 from by simp)
  have V2 := hide ((HV.out.alloc (.cells #[.int .u8 ts, .int .i64 le, .int .u16 id, .bool st, .bool mo, .int .i64 ofs, .int .u8 tt, .int .u8 pr, .int .u16 sm, .bool s6, .int .u64 sh, .int .u64 sl, .bool d6, .int .u64 dh, .int .u64 dl, .slice A1 i c1] 37)).alloc (.cells #[.int .u8 ts, .int .i64 le, .int .u16 id, .bool st, .bool mo, .int .i64 ofs, .int .u8 tt, .int .u8 pr, .int .u16 sm, .bool s6, .int .u64 sh, .int .u64 sl, .bool d6, .int .u64 dh, .int .u64 dl, .slice A2 j c2] 37)); have U2 := hide ((HU.out.alloc (.cells #[.int .u8 ts, .int .i64 le, .int .u16 id, .bool st, .bool mo, .int .i64 ofs, .int .u8 tt, .int .u8 pr, .int .u16 sm, .bool s6, .int .u64 sh, .int .u64 sl, .bool d6, .int .u64 dh, .int .u64 dl, .slice A1 i c1] 37)).alloc (.cells #[.int .u8 ts, .int .i64 le, .int .u16 id, .bool st, .bool mo, .int .i64 ofs, .int .u8 tt, .int .u8 pr, .int .u16 sm, .bool s6, .int .u64 sh, .int .u64 sl, .bool d6, .int .u64 dh, .int .u64 dl, .slice A2 j c2] 37))
  rw [PN.out] at P2
  clear hv hu PN HV HU
  unfold hv4
  go_enter Try.func17, Try.ntmps17
  go_upto_region 1 with (fail)
  generalize (w.alloc (.cells #[.int .u8 ts, .int .i64 le, .int .u16 id, .bool st, .bool mo, .int .i64 ofs, .int .u8 tt, .int .u8 pr, .int .u16 sm, .bool s6, .int .u64 sh, .int .u64 sl, .bool d6, .int .u64 dh, .int .u64 dl, .slice A1 i c1] 37)).alloc (.cells #[.int .u8 ts, .int .i64 le, .int .u16 id, .bool st, .bool mo, .int .i64 ofs, .int .u8 tt, .int .u8 pr, .int .u16 sm, .bool s6, .int .u64 sh, .int .u64 sl, .bool d6, .int .u64 dh, .int .u64 dl, .slice A2 j c2] 37) = W at *
  go_cut [5, 6] from 7 (fun u v wx => Two4 w (fun vo => #[.int .u8 ts, .int .i64 le, .int .u16 id, .bool st, .bool mo, .int .i64 ofs, .int .u8 tt, .int .u8 pr, .int .u16 sm, .bool s6, .int .u64 sh, .int .u64 sl, .bool d6, .int .u64 dh, .int .u64 dl, vo]) o u v wx)
  case first =>
    have a0 := P1.out.cell 0; have b0 := P2.out.cell 0
    have a1 := P1.out.cell 1; have b1 := P2.out.cell 1
    have a2 := P1.out.cell 2; have b2 := P2.out.cell 2
    have a3 := P1.out.cell 3; have b3 := P2.out.cell 3
    have a4 := P1.out.cell 4; have b4 := P2.out.cell 4
    have a5 := P1.out.cell 5; have b5 := P2.out.cell 5
    have a6 := P1.out.cell 6; have b6 := P2.out.cell 6
    have a7 := P1.out.cell 7; have b7 := P2.out.cell 7
    have a8 := P1.out.cell 8; have b8 := P2.out.cell 8
    have a9 := P1.out.cell 9; have b9 := P2.out.cell 9
    have a10 := P1.out.cell 10; have b10 := P2.out.cell 10
    have a11 := P1.out.cell 11; have b11 := P2.out.cell 11
    have a12 := P1.out.cell 12; have b12 := P2.out.cell 12
    have a13 := P1.out.cell 13; have b13 := P2.out.cell 13
    have a14 := P1.out.cell 14; have b14 := P2.out.cell 14
    have a15 := P1.out.cell 15; have b15 := P2.out.cell 15
    simp at a0 b0 a1 b1 a2 b2 a3 b3 a4 b4 a5 b5 a6 b6 a7 b7 a8 b8 a9 b9 a10 b10 a11 b11 a12 b12 a13 b13 a14 b14 a15 b15
    have l1 := P1.out.lt; have l2 := P2.out.lt
    clear P1 P2
    refine Lin.wp_region_lin2 (tn4 #[.int .u8 ts, .int .i64 le, .int .u16 id, .bool st, .bool mo, .int .i64 ofs, .int .u8 tt, .int .u8 pr, .int .u16 sm, .bool s6, .int .u64 sh, .int .u64 sl, .bool d6, .int .u64 dh, .int .u64 dl, .slice A1 i c1] #[.int .u8 ts, .int .i64 le, .int .u16 id, .bool st, .bool mo, .int .i64 ofs, .int .u8 tt, .int .u8 pr, .int .u16 sm, .bool s6, .int .u64 sh, .int .u64 sl, .bool d6, .int .u64 dh, .int .u64 dl, .slice A2 j c2] W.heap.size) (n := 93) (fun slotq => match slotq with | 7 => Lin.Spec.val (.agg #[.int .u8 ts, .int .i64 le, .int .u16 id, .bool st, .bool mo, .int .i64 ofs, .int .u8 tt, .int .u8 pr, .int .u16 sm, .bool s6, .int .u64 sh, .int .u64 sl, .bool d6, .int .u64 dh, .int .u64 dl, .slice A1 i c1]) | 8 => Lin.Spec.val (.agg #[.int .u8 ts, .int .i64 le, .int .u16 id, .bool st, .bool mo, .int .i64 ofs, .int .u8 tt, .int .u8 pr, .int .u16 sm, .bool s6, .int .u64 sh, .int .u64 sl, .bool d6, .int .u64 dh, .int .u64 dl, .slice A2 j c2]) | 5 => (sp4 #[.int .u8 ts, .int .i64 le, .int .u16 id, .bool st, .bool mo, .int .i64 ofs, .int .u8 tt, .int .u8 pr, .int .u16 sm, .bool s6, .int .u64 sh, .int .u64 sl, .bool d6, .int .u64 dh, .int .u64 dl, .slice A1 i c1] #[.int .u8 ts, .int .i64 le, .int .u16 id, .bool st, .bool mo, .int .i64 ofs, .int .u8 tt, .int .u8 pr, .int .u16 sm, .bool s6, .int .u64 sh, .int .u64 sl, .bool d6, .int .u64 dh, .int .u64 dl, .slice A2 j c2] W.heap.size) | 6 => (sp4 #[.int .u8 ts, .int .i64 le, .int .u16 id, .bool st, .bool mo, .int .i64 ofs, .int .u8 tt, .int .u8 pr, .int .u16 sm, .bool s6, .int .u64 sh, .int .u64 sl, .bool d6, .int .u64 dh, .int .u64 dl, .slice A1 i c1] #[.int .u8 ts, .int .i64 le, .int .u16 id, .bool st, .bool mo, .int .i64 ofs, .int .u8 tt, .int .u8 pr, .int .u16 sm, .bool s6, .int .u64 sh, .int .u64 sl, .bool d6, .int .u64 dh, .int .u64 dl, .slice A2 j c2] W.heap.size) | _ => Lin.Spec.any) (fun iq => match iq with | 4 => 5 | 5 => 6 | _ => 0) (fun iq => match iq with | 4 => (sn4 #[.int .u8 ts, .int .i64 le, .int .u16 id, .bool st, .bool mo, .int .i64 ofs, .int .u8 tt, .int .u8 pr, .int .u16 sm, .bool s6, .int .u64 sh, .int .u64 sl, .bool d6, .int .u64 dh, .int .u64 dl, .slice A1 i c1] #[.int .u8 ts, .int .i64 le, .int .u16 id, .bool st, .bool mo, .int .i64 ofs, .int .u8 tt, .int .u8 pr, .int .u16 sm, .bool s6, .int .u64 sh, .int .u64 sl, .bool d6, .int .u64 dh, .int .u64 dl, .slice A2 j c2] W.heap.size) | 5 => (sn4 #[.int .u8 ts, .int .i64 le, .int .u16 id, .bool st, .bool mo, .int .i64 ofs, .int .u8 tt, .int .u8 pr, .int .u16 sm, .bool s6, .int .u64 sh, .int .u64 sl, .bool d6, .int .u64 dh, .int .u64 dl, .slice A1 i c1] #[.int .u8 ts, .int .i64 le, .int .u16 id, .bool st, .bool mo, .int .i64 ofs, .int .u8 tt, .int .u8 pr, .int .u16 sm, .bool s6, .int .u64 sh, .int .u64 sl, .bool d6, .int .u64 dh, .int .u64 dl, .slice A2 j c2] W.heap.size) | _ => Lin.Spec.any) (by kernel_rfl) rfl (by kernel_rfl) ⟨?_, ?_, ?_, ?_, ?_, ?_, trivial⟩ ?_
    · intro ρ wq hb ho hc hd
      have hC : ∀ v, ρ (.const v) = v := fun v => hc _ (by intro t e; cases e)
      have hF : ∀ f, ρ (.func f) = .func (.func f) #[] #[] := fun f => hc _ (by intro t e; cases e)
      have h2 : ρ (.tmp 2) = .pointer (some ⟨w.heap.size, 0, none⟩) := ho 2 (by kernel_rfl)
      have hbq := Lin.Turns.below hb (Nat.le_refl _)
      have q0 := (hbq.cell (p := ⟨w.heap.size, 0, none⟩) l1).trans a0
      have q1 := (hbq.cell (p := ⟨w.heap.size, 1, none⟩) l1).trans a1
      have q2 := (hbq.cell (p := ⟨w.heap.size, 2, none⟩) l1).trans a2
      have q3 := (hbq.cell (p := ⟨w.heap.size, 3, none⟩) l1).trans a3
      have q4 := (hbq.cell (p := ⟨w.heap.size, 4, none⟩) l1).trans a4
      have q5 := (hbq.cell (p := ⟨w.heap.size, 5, none⟩) l1).trans a5
      have q6 := (hbq.cell (p := ⟨w.heap.size, 6, none⟩) l1).trans a6
      have q7 := (hbq.cell (p := ⟨w.heap.size, 7, none⟩) l1).trans a7
      have q8 := (hbq.cell (p := ⟨w.heap.size, 8, none⟩) l1).trans a8
      have q9 := (hbq.cell (p := ⟨w.heap.size, 9, none⟩) l1).trans a9
      have q10 := (hbq.cell (p := ⟨w.heap.size, 10, none⟩) l1).trans a10
      have q11 := (hbq.cell (p := ⟨w.heap.size, 11, none⟩) l1).trans a11
      have q12 := (hbq.cell (p := ⟨w.heap.size, 12, none⟩) l1).trans a12
      have q13 := (hbq.cell (p := ⟨w.heap.size, 13, none⟩) l1).trans a13
      have q14 := (hbq.cell (p := ⟨w.heap.size, 14, none⟩) l1).trans a14
      have q15 := (hbq.cell (p := ⟨w.heap.size, 15, none⟩) l1).trans a15
      exact Lin.Runs.value (tn4 #[.int .u8 ts, .int .i64 le, .int .u16 id, .bool st, .bool mo, .int .i64 ofs, .int .u8 tt, .int .u8 pr, .int .u16 sm, .bool s6, .int .u64 sh, .int .u64 sl, .bool d6, .int .u64 dh, .int .u64 dl, .slice A1 i c1] #[.int .u8 ts, .int .i64 le, .int .u16 id, .bool st, .bool mo, .int .i64 ofs, .int .u8 tt, .int .u8 pr, .int .u16 sm, .bool s6, .int .u64 sh, .int .u64 sl, .bool d6, .int .u64 dh, .int .u64 dl, .slice A2 j c2] W.heap.size) (v := .agg #[.int .u8 ts, .int .i64 le, .int .u16 id, .bool st, .bool mo, .int .i64 ofs, .int .u8 tt, .int .u8 pr, .int .u16 sm, .bool s6, .int .u64 sh, .int .u64 sl, .bool d6, .int .u64 dh, .int .u64 dl, .slice A1 i c1]) (by simp [execOp, go_sem, h2, q0, q1, q2, q3, q4, q5, q6, q7, q8, q9, q10, q11, q12, q13, q14, q15]) rfl
    · intro ρ wq hb ho hc hd
      have hC : ∀ v, ρ (.const v) = v := fun v => hc _ (by intro t e; cases e)
      have hF : ∀ f, ρ (.func f) = .func (.func f) #[] #[] := fun f => hc _ (by intro t e; cases e)
      have h3 : ρ (.tmp 3) = .pointer (some ⟨w.heap.size + 1, 0, none⟩) := ho 3 (by kernel_rfl)
      have hbq := Lin.Turns.below hb (Nat.le_refl _)
      have q0 := (hbq.cell (p := ⟨w.heap.size + 1, 0, none⟩) l2).trans b0
      have q1 := (hbq.cell (p := ⟨w.heap.size + 1, 1, none⟩) l2).trans b1
      have q2 := (hbq.cell (p := ⟨w.heap.size + 1, 2, none⟩) l2).trans b2
      have q3 := (hbq.cell (p := ⟨w.heap.size + 1, 3, none⟩) l2).trans b3
      have q4 := (hbq.cell (p := ⟨w.heap.size + 1, 4, none⟩) l2).trans b4
      have q5 := (hbq.cell (p := ⟨w.heap.size + 1, 5, none⟩) l2).trans b5
      have q6 := (hbq.cell (p := ⟨w.heap.size + 1, 6, none⟩) l2).trans b6
      have q7 := (hbq.cell (p := ⟨w.heap.size + 1, 7, none⟩) l2).trans b7
      have q8 := (hbq.cell (p := ⟨w.heap.size + 1, 8, none⟩) l2).trans b8
      have q9 := (hbq.cell (p := ⟨w.heap.size + 1, 9, none⟩) l2).trans b9
      have q10 := (hbq.cell (p := ⟨w.heap.size + 1, 10, none⟩) l2).trans b10
      have q11 := (hbq.cell (p := ⟨w.heap.size + 1, 11, none⟩) l2).trans b11
      have q12 := (hbq.cell (p := ⟨w.heap.size + 1, 12, none⟩) l2).trans b12
      have q13 := (hbq.cell (p := ⟨w.heap.size + 1, 13, none⟩) l2).trans b13
      have q14 := (hbq.cell (p := ⟨w.heap.size + 1, 14, none⟩) l2).trans b14
      have q15 := (hbq.cell (p := ⟨w.heap.size + 1, 15, none⟩) l2).trans b15
      exact Lin.Runs.value (tn4 #[.int .u8 ts, .int .i64 le, .int .u16 id, .bool st, .bool mo, .int .i64 ofs, .int .u8 tt, .int .u8 pr, .int .u16 sm, .bool s6, .int .u64 sh, .int .u64 sl, .bool d6, .int .u64 dh, .int .u64 dl, .slice A1 i c1] #[.int .u8 ts, .int .i64 le, .int .u16 id, .bool st, .bool mo, .int .i64 ofs, .int .u8 tt, .int .u8 pr, .int .u16 sm, .bool s6, .int .u64 sh, .int .u64 sl, .bool d6, .int .u64 dh, .int .u64 dl, .slice A2 j c2] W.heap.size) (v := .agg #[.int .u8 ts, .int .i64 le, .int .u16 id, .bool st, .bool mo, .int .i64 ofs, .int .u8 tt, .int .u8 pr, .int .u16 sm, .bool s6, .int .u64 sh, .int .u64 sl, .bool d6, .int .u64 dh, .int .u64 dl, .slice A2 j c2]) (by simp [execOp, go_sem, h3, q0, q1, q2, q3, q4, q5, q6, q7, q8, q9, q10, q11, q12, q13, q14, q15]) rfl
    · intro ρ wq hb ho hc hd
      have hC : ∀ v, ρ (.const v) = v := fun v => hc _ (by intro t e; cases e)
      have hF : ∀ f, ρ (.func f) = .func (.func f) #[] #[] := fun f => hc _ (by intro t e; cases e)
      exact Lin.Runs.made (v := .pointer (some ⟨wq.heap.size, 0, none⟩)) (w' := wq.alloc (.cells #[.int .u8 0, .int .i64 0, .int .u16 0, .bool false, .bool false, .int .i64 0, .int .u8 0, .int .u8 0, .int .u16 0, .bool false, .int .u64 0, .int .u64 0, .bool false, .int .u64 0, .int .u64 0, .slice none 0 0] 37)) (by simp [execOp, go_sem]) (Lin.Turns.keeps ((Below.refl _ _).alloc (Nat.le_refl _) _)) ⟨_, _, rfl, hb.2.2.2.1, Is.new _ _ _, rfl⟩
    · intro ρ wq hb ho hc hd
      have hC : ∀ v, ρ (.const v) = v := fun v => hc _ (by intro t e; cases e)
      have hF : ∀ f, ρ (.func f) = .func (.func f) #[] #[] := fun f => hc _ (by intro t e; cases e)
      exact Lin.Runs.made (v := .pointer (some ⟨wq.heap.size, 0, none⟩)) (w' := wq.alloc (.cells #[.int .u8 0, .int .i64 0, .int .u16 0, .bool false, .bool false, .int .i64 0, .int .u8 0, .int .u8 0, .int .u16 0, .bool false, .int .u64 0, .int .u64 0, .bool false, .int .u64 0, .int .u64 0, .slice none 0 0] 37)) (by simp [execOp, go_sem]) (Lin.Turns.keeps ((Below.refl _ _).alloc (Nat.le_refl _) _)) ⟨_, _, rfl, hb.2.2.2.1, Is.new _ _ _, rfl⟩
    · intro ρ wq hb ho hc hd
      have hC : ∀ v, ρ (.const v) = v := fun v => hc _ (by intro t e; cases e)
      obtain ⟨p, cs, e5, hpB, hp, hsz⟩ := hd 5 (by kernel_rfl)
      have hv9 : ρ (.tmp 7) = .agg #[.int .u8 ts, .int .i64 le, .int .u16 id, .bool st, .bool mo, .int .i64 ofs, .int .u8 tt, .int .u8 pr, .int .u16 sm, .bool s6, .int .u64 sh, .int .u64 sl, .bool d6, .int .u64 dh, .int .u64 dl, .slice A1 i c1] := hd 7 (by kernel_rfl)
      show Lin.RunsW Try.prog _ (sn4 #[.int .u8 ts, .int .i64 le, .int .u16 id, .bool st, .bool mo, .int .i64 ofs, .int .u8 tt, .int .u8 pr, .int .u16 sm, .bool s6, .int .u64 sh, .int .u64 sl, .bool d6, .int .u64 dh, .int .u64 dl, .slice A1 i c1] #[.int .u8 ts, .int .i64 le, .int .u16 id, .bool st, .bool mo, .int .i64 ofs, .int .u8 tt, .int .u8 pr, .int .u16 sm, .bool s6, .int .u64 sh, .int .u64 sl, .bool d6, .int .u64 dh, .int .u64 dl, .slice A2 j c2] W.heap.size) (ρ (.tmp 5)) ρ wq
      exact Lin.RunsW.mk (w' := wq.setRow p #[.int .u8 ts, .int .i64 le, .int .u16 id, .bool st, .bool mo, .int .i64 ofs, .int .u8 tt, .int .u8 pr, .int .u16 sm, .bool s6, .int .u64 sh, .int .u64 sl, .bool d6, .int .u64 dh, .int .u64 dl, .slice A1 i c1]) (Lin5.exec_store_row4 37 (.tmp 5) (.tmp 7) rfl p #[.int .u8 ts, .int .i64 le, .int .u16 id, .bool st, .bool mo, .int .i64 ofs, .int .u8 tt, .int .u8 pr, .int .u16 sm, .bool s6, .int .u64 sh, .int .u64 sl, .bool d6, .int .u64 dh, .int .u64 dl, .slice A1 i c1] e5 hv9 37 cs hp (by kernel_rfl) hsz (by simp [Value.oneCell'])) (tn4_store hpB hp rfl (.inl rfl)) ⟨p, e5, hpB, (.inl (is_row6 hp))⟩
    · intro ρ wq hb ho hc hd
      have hC : ∀ v, ρ (.const v) = v := fun v => hc _ (by intro t e; cases e)
      obtain ⟨p, cs, e5, hpB, hp, hsz⟩ := hd 6 (by kernel_rfl)
      have hv9 : ρ (.tmp 8) = .agg #[.int .u8 ts, .int .i64 le, .int .u16 id, .bool st, .bool mo, .int .i64 ofs, .int .u8 tt, .int .u8 pr, .int .u16 sm, .bool s6, .int .u64 sh, .int .u64 sl, .bool d6, .int .u64 dh, .int .u64 dl, .slice A2 j c2] := hd 8 (by kernel_rfl)
      show Lin.RunsW Try.prog _ (sn4 #[.int .u8 ts, .int .i64 le, .int .u16 id, .bool st, .bool mo, .int .i64 ofs, .int .u8 tt, .int .u8 pr, .int .u16 sm, .bool s6, .int .u64 sh, .int .u64 sl, .bool d6, .int .u64 dh, .int .u64 dl, .slice A1 i c1] #[.int .u8 ts, .int .i64 le, .int .u16 id, .bool st, .bool mo, .int .i64 ofs, .int .u8 tt, .int .u8 pr, .int .u16 sm, .bool s6, .int .u64 sh, .int .u64 sl, .bool d6, .int .u64 dh, .int .u64 dl, .slice A2 j c2] W.heap.size) (ρ (.tmp 6)) ρ wq
      exact Lin.RunsW.mk (w' := wq.setRow p #[.int .u8 ts, .int .i64 le, .int .u16 id, .bool st, .bool mo, .int .i64 ofs, .int .u8 tt, .int .u8 pr, .int .u16 sm, .bool s6, .int .u64 sh, .int .u64 sl, .bool d6, .int .u64 dh, .int .u64 dl, .slice A2 j c2]) (Lin5.exec_store_row4 37 (.tmp 6) (.tmp 8) rfl p #[.int .u8 ts, .int .i64 le, .int .u16 id, .bool st, .bool mo, .int .i64 ofs, .int .u8 tt, .int .u8 pr, .int .u16 sm, .bool s6, .int .u64 sh, .int .u64 sl, .bool d6, .int .u64 dh, .int .u64 dl, .slice A2 j c2] e5 hv9 37 cs hp (by kernel_rfl) hsz (by simp [Value.oneCell'])) (tn4_store hpB hp rfl (.inr rfl)) ⟨p, e5, hpB, (.inr (is_row6 hp))⟩
    · intro vals w2 hr2 hv hw2
      have hb2 := Lin.Turns.below hr2 (Nat.le_refl _)
      obtain ⟨p, e5, _, hp⟩ := hw2 4 _ rfl rfl
      obtain ⟨q, e6, _, hq⟩ := hw2 5 _ rfl rfl
      have e5b : vals 5 = .pointer (some ⟨p, 0, none⟩) := e5
      have e6b : vals 6 = .pointer (some ⟨q, 0, none⟩) := e6
      simp only [Lin.putAll, Option.getD_some]
      rw [e5b, e6b]
      have HBX := Lib.hid (HB0.out.trans (hb2.mono HB0.out.size))
      have V9 := hide (V2.out.st (hb2)); have U9 := hide (U2.out.st hb2)
      have HP := hide hp; have HQ := hide hq
      clear hr2 hv hw2 hb2 e5 e6 e5b e6b hp hq
      go_simp
      generalize vals = vv
      go_wp2_with fail
      go_meet
      exact two4_mk HP.out HQ.out V9.out U9.out HBX.out
  case rest =>
    obtain ⟨p, q, B1, m1, d1, B2, m2, d2, rfl, rfl, h1, h2, k1, k2, hb⟩ := hcut
    have k1 := k1.conv; have k2 := k2.conv
    have HBX := Lib.hid hb
    have a0 := h1.cell 0; have b0 := h2.cell 0
    have a1 := h1.cell 1; have b1 := h2.cell 1
    have a2 := h1.cell 2; have b2 := h2.cell 2
    have a3 := h1.cell 3; have b3 := h2.cell 3
    have a4 := h1.cell 4; have b4 := h2.cell 4
    have a5 := h1.cell 5; have b5 := h2.cell 5
    have a6 := h1.cell 6; have b6 := h2.cell 6
    have a7 := h1.cell 7; have b7 := h2.cell 7
    have a8 := h1.cell 8; have b8 := h2.cell 8
    have a9 := h1.cell 9; have b9 := h2.cell 9
    have a10 := h1.cell 10; have b10 := h2.cell 10
    have a11 := h1.cell 11; have b11 := h2.cell 11
    have a12 := h1.cell 12; have b12 := h2.cell 12
    have a13 := h1.cell 13; have b13 := h2.cell 13
    have a14 := h1.cell 14; have b14 := h2.cell 14
    have a15 := h1.cell 15; have b15 := h2.cell 15
    simp at a0 b0 a1 b1 a2 b2 a3 b3 a4 b4 a5 b5 a6 b6 a7 b7 a8 b8 a9 b9 a10 b10 a11 b11 a12 b12 a13 b13 a14 b14 a15 b15
    clear h1 h2 hb P1 P2 HB0 V2 U2
    go_wp2_with fail
    go_ret
    exact ⟨by simp, HBX.out⟩
end Go.Proofs.Ytmgendgfdhhgfaa
