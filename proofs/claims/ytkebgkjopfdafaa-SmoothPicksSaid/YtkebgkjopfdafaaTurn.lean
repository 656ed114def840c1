/-
  The functions of package turn and its reference: what each call returns, and what becomes of memory. Helper of the claims on layer 18.
-/
import Derived.Test.YtkebgkjopfdafaaRows
import Derived.Test.YtkebgkjopfdafaaBase
import Derived.BigQuiet
import Derived.Deep.QuietTactic
import Derived.Outline
import Derived.Deep.RegionHeld3
import Derived.Deep.AppendLies
import Derived.StillTactics
import Derived.OwnWalk
import Derived.Laws.Pointers
namespace Go.Proofs.Ytkebgkjopfdafaa
open Go.ChangeShapes Go.WideShapes Go.ChangeAt Go.RowKit
set_option linter.unusedSimpArgs false
set_option linter.unusedVariables false
set_option maxRecDepth 100000

structure Cand where
  slot : Int
  backend : Int
  weight : Int
  load : Int
instance : Inhabited Cand := ⟨⟨0, 0, 0, 0⟩⟩
def Cand.cell (c : Cand) : Nat → Value
  | 0 => .int .i64 c.slot
  | 1 => .int .i64 c.backend
  | 2 => .int .i64 c.weight
  | _ => .int .u32 c.load
def Cand.val (c : Cand) : Value := .agg #[.int .i64 c.slot, .int .i64 c.backend, .int .i64 c.weight, .int .u32 c.load]
/-- Element k (a default one beyond the end). -/
def nth (l : List Cand) (k : Nat) : Cand := l.getD k default
def Cands (w : World) (B : Nat) (A : Option Addr) (l : List Cand) : Prop := Arr w B 4 A l.length fun i j => (nth l i).cell j

/-- The candidates ascend, and are in range. -/
def rightFrom : Int → List Cand → Bool
  | _, [] => true
  | last, c :: l => if c.slot ≤ last ∨ 4095 < c.slot ∨ c.weight < 0 ∨ 100 < c.weight then false else rightFrom c.slot l
def rightB (l : List Cand) : Bool := rightFrom (-1) l
theorem right_no {last : Int} {c : Cand} {l : List Cand} (h : c.slot ≤ last ∨ 4095 < c.slot ∨ c.weight < 0 ∨ 100 < c.weight) : rightFrom last (c :: l) = false := by simp [rightFrom, h]
theorem right_go {last : Int} {c : Cand} {l : List Cand} (h : ¬ (c.slot ≤ last ∨ 4095 < c.slot ∨ c.weight < 0 ∨ 100 < c.weight)) : rightFrom last (c :: l) = rightFrom c.slot l := by rw [rightFrom, if_neg h]
theorem drop_get {l : List Cand} {k : Nat} (h : k < l.length) : l.drop k = nth l k :: l.drop (k + 1) := by
  rw [List.drop_eq_getElem_cons h]; simp [nth, List.getD, h]

def RightRel (l : List Cand) (p i : Value) : Prop := ∃ (k : Nat) (last : Int), k ≤ l.length ∧ i = .int .i64 k ∧ p = .int .i64 last ∧ rightB l = rightFrom last (l.drop k)

set_option maxHeartbeats 400000 in
theorem rright_any (A : Option Addr) (c : Nat) (l : List Cand) (B : Nat) (w : World) (h : Cands w B A l) (hm : l.length ≤ maxLen) :
    Calls Try.prog 15 #[.slice A l.length c] w fun e w' => e = .returned (.bool (rightB l)) ∧ w = w' := by
  unfold maxLen at hm
  go_enter Try.func15, Try.ntmps15
  go_wp2
  go_loop [3, 4] (fun p i => RightRel l p i) (fun _ i => l.length - (intOf i).toNat)
  case atStart => exact ⟨0, -1, Nat.zero_le _, rfl, rfl, rfl⟩
  case round =>
    obtain ⟨k, last, hk, rfl, rfl, hr⟩ := hrel
    have HR := Lib.hid hr; clear hr
    by_cases hlt : k < l.length
    · obtain ⟨b, off, rfl, hb, hc⟩ := h (by omega)
      have c0 : w.cell? ⟨b, off + k * 4, none⟩ = some (.int .i64 (nth l k).slot) := hc k 0 hlt (by omega)
      have c2 : w.cell? ⟨b, off + k * 4 + 2, none⟩ = some (.int .i64 (nth l k).weight) := hc k 2 hlt (by omega)
      have HD := Lib.hid (drop_get hlt)
      generalize nth l k = x at *
      clear hc h
      go_wp2_with fail
      · go_ret
        exact ⟨ret_bool (by rw [HR.out, HD.out, right_no (by omega)]), rfl⟩
      · go_round
        case rel => exact ⟨k + 1, x.slot, by omega, by go_num, rfl, by rw [HR.out, HD.out, right_go (by omega)]⟩
        case measure => simp [intOf]; omega
      all_goals
        go_ret
        exact ⟨ret_bool (by rw [HR.out, HD.out, right_no (by omega)]), rfl⟩
    · obtain rfl : k = l.length := by omega
      clear h
      go_wp2_with fail
      go_ret
      exact ⟨ret_bool (by rw [HR.out, List.drop_length]; rfl), rfl⟩

/-- Whose turn it is: the first candidate from the position on, or else the first one. -/
def IsPick (l : List Cand) (next : Int) (k : Nat) : Prop :=
  k < l.length ∧ (((∀ j, j < k → (nth l j).slot < next) ∧ next ≤ (nth l k).slot) ∨ (k = 0 ∧ ∀ j, j < l.length → (nth l j).slot < next))

theorem cell4 {w : World} {b off : Nat} {l : List Cand} {k : Nat} (hk : k < l.length) (hc : ∀ i j, i < l.length → j < 4 → w.cell? ⟨b, off + i * 4 + j, none⟩ = some ((nth l i).cell j)) :
    w.cell? ⟨b, off + k * 4, none⟩ = some (.int .i64 (nth l k).slot) ∧ w.cell? ⟨b, off + k * 4 + 1, none⟩ = some (.int .i64 (nth l k).backend) ∧
    w.cell? ⟨b, off + k * 4 + 2, none⟩ = some (.int .i64 (nth l k).weight) ∧ w.cell? ⟨b, off + k * 4 + 3, none⟩ = some (.int .u32 (nth l k).load) :=
  ⟨hc k 0 hk (by omega), hc k 1 hk (by omega), hc k 2 hk (by omega), hc k 3 hk (by omega)⟩
def Cand.cells (c : Cand) : Array Value := #[.int .i64 c.slot, .int .i64 c.backend, .int .i64 c.weight, .int .u32 c.load]
def PickRel (w : World) (l : List Cand) (next : Int) (i : Value) (wr : World) : Prop :=
  ∃ k : Nat, k ≤ l.length ∧ i = .int .i64 k ∧ (∀ j, j < k → (nth l j).slot < next) ∧ Below w.heap.size w wr ∧ Is wr w.heap.size 29 #[.int .i64 0, .int .i64 0, .int .i64 0, .int .u32 0] ∧ Is wr (w.heap.size + 1) 29 (nth l 0).cells

set_option maxHeartbeats 400000 in
theorem pick_any (bt : Nat) (A : Option Addr) (c : Nat) (l : List Cand) (next : Int) (w : World) (ht : Is w bt 37 #[.int .i64 next]) (h : Cands w w.heap.size A l) (hm : l.length ≤ maxLen) (h0 : 0 < l.length)
    (hr : ∀ k, -1 ≤ (nth l k).slot ∧ (nth l k).slot ≤ 4095) :
    Calls Try.prog 21 #[.pointer (some ⟨bt, 0, none⟩), .slice A l.length c] w fun e w' => ∃ k, IsPick l next k ∧ e = .returned (.tuple #[(nth l k).val, .bool true]) ∧ w.grownBy w' (some bt) ∧ Is w' bt 37 #[.int .i64 ((nth l k).slot + 1)] := by
  unfold maxLen at hm
  obtain ⟨b, off, rfl, hb, hc⟩ := h h0
  obtain ⟨c0, c1, c2, c3⟩ := cell4 h0 hc
  simp at c0 c1 c2 c3
  have t0 := ht.cell 0
  simp at t0
  have tf := ht.free 0
  have tl := ht.lt
  have hn0 : ((l.length : Int) == 0) = false := by rw [beq_eq_false_iff_ne]; omega
  have HX0 := Lib.hid (rfl : (nth l 0).cells = (nth l 0).cells)
  have HR := Lib.hid hr
  have HC := Lib.hid hc
  have HT := Lib.hid ht
  clear hc ht hr
  go_enter Try.func21, Try.ntmps21
  go_wp2
  go_loopw [22] (fun i wr => PickRel w l next i wr) (fun i _ => l.length - (intOf i).toNat)
  case atStart =>
    exact ⟨0, Nat.zero_le _, rfl, fun j hj => absurd hj (by omega), ((Below.refl _ _).alloc (Nat.le_refl _) _).alloc (by simp) _, (Is.new _ _ _).alloc _, by simpa [Cand.cells] using Is.new (w.alloc (.cells #[.int .i64 0, .int .i64 0, .int .i64 0, .int .u32 0] 29)) 29 (nth l 0).cells⟩
  case round =>
    obtain ⟨k, hk, rfl, hj, hbel, hz, hp⟩ := hrel
    have tw : wr.cell? ⟨bt, 0, none⟩ = some (.int .i64 next) := (hbel.cell (p := ⟨bt, 0, none⟩) tl).trans t0
    have tfw : wr.frozen? ⟨bt, 0, none⟩ = false := (hbel.frozen (p := ⟨bt, 0, none⟩) tl).trans tf
    have z0 := hz.cell 0
    have z1 := hz.cell 1
    have z2 := hz.cell 2
    have z3 := hz.cell 3
    have y0 := hz.free 0
    have y1 := hz.free 1
    have y2 := hz.free 2
    have y3 := hz.free 3
    have p0 := hp.cell 0
    have p1 := hp.cell 1
    have p2 := hp.cell 2
    have p3 := hp.cell 3
    have q0 := hp.free 0
    have q1 := hp.free 1
    have q2 := hp.free 2
    have q3 := hp.free 3
    simp [Cand.cells] at z0 z1 z2 z3 p0 p1 p2 p3
    have zl := hz.lt
    have pl := hp.lt
    have tlw : bt < wr.heap.size := by omega
    have HJ := Lib.hid hj
    have HZ := Lib.hid hz
    have HP := Lib.hid hp
    have HB := Lib.hid hbel
    clear hj hz hp hbel
    by_cases hlt : k < l.length
    · obtain ⟨c0, c1, c2, c3⟩ := cell4 hlt HC.out
      have d0 := (HB.out.cell (p := ⟨b, off + k * 4, none⟩) hb).trans c0
      have d1 := (HB.out.cell (p := ⟨b, off + k * 4 + 1, none⟩) hb).trans c1
      have d2 := (HB.out.cell (p := ⟨b, off + k * 4 + 2, none⟩) hb).trans c2
      have d3 := (HB.out.cell (p := ⟨b, off + k * 4 + 3, none⟩) hb).trans c3
      have hrk := HR.out k
      clear c0 c1 c2 c3
      by_cases hs : next ≤ (nth l k).slot
      · go_wp2
        go_quiet (fail)
        go_wp2
        refine bodyPost_ret (v := .tuple #[(nth l k).val, .bool true]) (by simp [results, Try.results21, go_sem, Cand.val, z0, z1, z2, z3, zl]) rfl ⟨k, ⟨hlt, .inl ⟨HJ.out, hs⟩⟩, rfl, ?_, ?_⟩
        · have ob := only_below HB.out (some bt)
          repeat' first | with_reducible exact ob | with_reducible apply only_set | with_reducible apply only_drewN | with_reducible apply only_alloc
          all_goals first | exact Or.inl rfl | (refine Or.inr ?_; simp)
        · have ob := HT.out.below HB.out tl
          repeat' first | with_reducible exact ob | (with_reducible refine Is.put1 (a := .int .i64 next) ?_ _) | with_reducible apply Is.other | with_reducible apply Is.drewN | with_reducible apply Is.alloc
          all_goals (simp; omega)
      · go_wp2
        go_quiet (fail)
        go_wp2
        go_roundw
        case rel =>
          refine ⟨k + 1, by omega, by go_num, fun j hj => ?_, below_drewN (HB.out.alloc (by omega) _) _, (HZ.out.alloc _).drewN _, (HP.out.alloc _).drewN _⟩
          by_cases hjk : j < k
          · exact HJ.out j hjk
          · obtain rfl : j = k := by omega
            omega
        case measure => simp [intOf]; omega
    · obtain rfl : k = l.length := by omega
      have hr0 := HR.out 0
      go_wp2
      refine bodyPost_ret (v := .tuple #[(nth l 0).val, .bool true]) (by simp [results, Try.results21, go_sem, Cand.val, z0, z1, z2, z3]) rfl ⟨0, ⟨h0, .inr ⟨rfl, HJ.out⟩⟩, rfl, ?_, ?_⟩
      · have ob := only_below HB.out (some bt)
        repeat' first | with_reducible exact ob | with_reducible apply only_set | with_reducible apply only_drewN | with_reducible apply only_alloc
        all_goals first | exact Or.inl rfl | (refine Or.inr ?_; simp)
      · have ob := HT.out.below HB.out tl
        repeat' first | with_reducible exact ob | (with_reducible refine Is.put1 (a := .int .i64 next) ?_ _) | with_reducible apply Is.other | with_reducible apply Is.drewN | with_reducible apply Is.alloc
        all_goals (simp; omega)

theorem pick_none (bt : Nat) (A : Option Addr) (n c : Nat) (w : World) (hn : n = 0) :
    Calls Try.prog 21 #[.pointer (some ⟨bt, 0, none⟩), .slice A n c] w fun e w' => e = .returned (.tuple #[.agg #[.int .i64 0, .int .i64 0, .int .i64 0, .int .u32 0], .bool false]) ∧ Below w.heap.size w w' := by
  subst hn
  go_enter Try.func21, Try.ntmps21
  go_wp2
  exact bodyPost_ret (v := .tuple #[.agg #[.int .i64 0, .int .i64 0, .int .i64 0, .int .u32 0], .bool false]) (by simp [results, Try.results21, go_sem]) rfl ⟨rfl, (Below.refl _ _).alloc (Nat.le_refl _) _⟩

theorem info_cand : (Try.prog.info? 29).map (fun i => (i.zero, i.size, i.bytes)) = some (some (.agg #[.int .i64 0, .int .i64 0, .int .i64 0, .int .u32 0]), 4, 32) := by kernel_rfl
def cellsOf (l : List Cand) : List Value := l.flatMap fun c => c.cells.toList
theorem cells_snoc (l : List Cand) (k : Nat) (h : k < l.length) : cellsOf (l.take (k + 1)) = cellsOf (l.take k) ++ (nth l k).cells.toList := by
  unfold cellsOf nth
  rw [List.take_succ_eq_append_getElem h, List.flatMap_append]; simp [List.getD, h]
theorem cell_of_cells (c : Cand) (j : Nat) (hj : j < 4) : c.cells.toList[j]? = some (c.cell j) := by
  match j, hj with
  | 0, _ => rfl
  | 1, _ => rfl
  | 2, _ => rfl
  | 3, _ => rfl
theorem cands_of_own {w : World} {base c : Nat} {A : Option Addr} {l : List Cand} (h : w.ownsRow base 29 4 (.slice A l.length c) l.length (cellsOf l)) : Cands w w.heap.size A l :=
  arr_of_own h fun i j hi hj => by
    unfold cellsOf
    rw [flat_get (fun c : Cand => c.cells.toList) 4 (fun _ => rfl) l i j (nth l i) (by simp [nth, List.getD, hi]) hj, cell_of_cells _ _ hj]

def ToRel (w : World) (l : List Cand) (v i : Value) (wr : World) : Prop :=
  ∃ k : Nat, k ≤ l.length ∧ i = .int .i64 k ∧ wr.ownsRow w.heap.size 29 4 v k (cellsOf (l.take k)) ∧ Below w.heap.size w wr

set_option maxRecDepth 100000 in
set_option maxHeartbeats 3200000 in
theorem to_any (A : Option Addr) (c : Nat) (l : List Cand) (w : World) (h : Cands w w.heap.size A l) (hm : l.length ≤ 1000) :
    Calls Try.prog 17 #[.slice A l.length c] w fun e w' => ∃ v, e = .returned v ∧ w'.ownsRow w.heap.size 29 4 v l.length (cellsOf l) ∧ Below w.heap.size w w' := by
  obtain ⟨i0, hi0, hz0, hz1, hz2⟩ := info_parts info_cand
  go_enter Try.func17, Try.ntmps17
  go_wp2
  go_loopw [3, 4] (fun v i wr => ToRel w l v i wr) (fun _ i _ => l.length - (intOf i).toNat)
  case atStart => exact ⟨0, Nat.zero_le _, rfl, World.ownsRow_nil _ _ _ _, Below.refl _ _⟩
  case round =>
    obtain ⟨k, hk, rfl, hown, hbel⟩ := hrel
    by_cases hlt : k < l.length
    · obtain ⟨b, off, rfl, hb, hc⟩ := h (by omega)
      obtain ⟨c0, c1, c2, c3⟩ := cell4 hlt hc
      have d0 := (hbel.cell (p := ⟨b, off + k * 4, none⟩) hb).trans c0
      have d1 := (hbel.cell (p := ⟨b, off + k * 4 + 1, none⟩) hb).trans c1
      have d2 := (hbel.cell (p := ⟨b, off + k * 4 + 2, none⟩) hb).trans c2
      have d3 := (hbel.cell (p := ⟨b, off + k * 4 + 3, none⟩) hb).trans c3
      have HS := Lib.hid (cells_snoc l k hlt)
      have ab := own_far hown hb
      have bl := hbel.size
      have HB := Lib.hid hbel
      clear c0 c1 c2 c3 hc hbel h
      generalize hx : nth l k = x at *
      clear hx
      have hk0 : (0 : Int) ≤ (k : Int) := Int.natCast_nonneg _
      have hk1 : (k : Int) < (l.length : Int) := by omega
      go_wp2_with fail
      go_region_held3 (fun w' => w'.cell? ⟨b, off + k * 4, none⟩ = some (.int .i64 x.slot) ∧ w'.cell? ⟨b, off + k * 4 + 1, none⟩ = some (.int .i64 x.backend) ∧
        w'.cell? ⟨b, off + k * 4 + 2, none⟩ = some (.int .i64 x.weight) ∧ w'.cell? ⟨b, off + k * 4 + 3, none⟩ = some (.int .u32 x.load))
        (first
          | go_keep
          | (go_split_ands
             refine ⟨?_, ?_, ?_, ?_⟩
             · (rw [hgrow.cell_far _ (by simp; omega) (Ne.symm ab)]; assumption)
             · (rw [hgrow.cell_far _ (by simp; omega) (Ne.symm ab)]; assumption)
             · (rw [hgrow.cell_far _ (by simp; omega) (Ne.symm ab)]; assumption)
             · (rw [hgrow.cell_far _ (by simp; omega) (Ne.symm ab)]; assumption)))
        ((refine step_append_lies _ (by rfl) _ _ _ (by rfl) w.heap.size 29 i0 _ 4 32 Try.underlying26 hi0 hz0 hz1 hz2 rfl (by omega) _ k (cellsOf (l.take k)) (by rfl) ((hown.alloc _).drew)
            ⟨wr.heap.size, 0, none⟩ 1 1 x.cells.toList (by rfl) (by rfl) (World.news_of_block (cs := x.cells) (t := 29) (fr := (0, 0)) (heap_alloc_new wr _)) (by simp [Value.oneCell', Cand.cells])
            (by omega) (by unfold maxLen; omega) (by omega) (by simp; omega) (wr.heap.size + 1) (by simp) ?_; intro gg cap w1 hown1 hgrow hat hlt))
      have hb1 := below_grown HB.out hgrow hown.lt
      rw [← HS.out] at hown1
      have HO := Lib.hid hown1
      have HB1 := Lib.hid hb1
      clear hown1 hb1 hgrow hown
      go_wp2
      go_roundw
      case rel => exact ⟨k + 1, by omega, by go_num, HO.out, HB1.out⟩
      case measure => simp [intOf]; omega
    · obtain rfl : k = l.length := by omega
      rw [List.take_length] at hown
      have HO := Lib.hid hown
      clear hown
      go_wp2
      go_ret
      exact ⟨_, rfl, HO.out, hbel⟩

theorem IsPick.unique {l : List Cand} {next : Int} {j k : Nat} (h : IsPick l next j) (h' : IsPick l next k) : j = k := by
  obtain ⟨a, b⟩ := h; obtain ⟨c, d⟩ := h'
  rcases b with ⟨b1, b2⟩ | ⟨b1, b2⟩ <;> rcases d with ⟨d1, d2⟩ | ⟨d1, d2⟩
  · rcases Nat.lt_trichotomy j k with h | h | h
    · have := d1 j h; omega
    · exact h
    · have := b1 k h; omega
  · have := d2 j a; omega
  · have := b2 k c; omega
  · omega

theorem cands_of_is {w : World} {g : Nat} {l : List Cand} (h : Is w g 29 (cellsOf l).toArray) : Cands w w.heap.size (some ⟨g, 0, none⟩) l := fun _ => by
  refine ⟨g, 0, rfl, h.lt, fun i j hi hj => ?_⟩
  rw [Nat.zero_add, h.cell, List.getElem?_toArray]
  unfold cellsOf
  rw [flat_get (fun c : Cand => c.cells.toList) 4 (fun _ => rfl) l i j (nth l i) (by simp [nth, List.getD, hi]) hj, cell_of_cells _ _ hj]
section
variable {H : Type} {enc : TypeId × Value → H} {held : Bool} {spare : Nat → Bool}
/-- A slice of the reference's candidates that came in. -/
theorem open_cands {w : World} {A : Option Addr} {n c : Nat} {d : DataW H} {p : List MemPlace} (h : DataW.Trod enc Try.prog w 0 spare held 22 (.slice A n c) d p) :
    ∃ l : List Cand, l.length = n ∧ Cands w w.heap.size A l := by
  obtain ⟨_, _, hr⟩ := open_els (e := 63) (sz := 4) Try.underlying22 (by kernel_rfl) (by omega) h
  by_cases hn : n = 0
  · subst hn; exact ⟨[], rfl, fun h => absurd h (by simp)⟩
  obtain ⟨b, off, rfl, hb, hi⟩ := hr (by omega)
  have key : ∀ i, i < n → ∃ x : Cand, ∀ j, j < 4 → w.cell? ⟨b, off + i * 4 + j, none⟩ = some (x.cell j) := by
    intro i hin
    obtain ⟨cs, m, y, hl, hc, ht⟩ := hi i hin
    obtain ⟨xs, k, _, _, _, hxl, hf⟩ := DataW.trod_struct Try.underlying63 ht
    have f0 := hf 0 _ rfl
    have f1 := hf 1 _ rfl
    have f2 := hf 2 _ rfl
    have f3 := hf 3 _ rfl
    match cs, hl with
    | [a0, a1, a2, a3], _ =>
      match xs, hxl with
      | [x0, x1, x2, x3], _ =>
        obtain ⟨n0, e0, _, _⟩ := DataW.trod_int Try.underlying3 f0
        obtain ⟨n1, e1, _, _⟩ := DataW.trod_int Try.underlying3 f1
        obtain ⟨n2, e2, _, _⟩ := DataW.trod_int Try.underlying3 f2
        obtain ⟨n3, e3, _, _⟩ := DataW.trod_int Try.underlying23 f3
        have g0 : [a0] = [Value.int .i64 n0] := e0
        have g1 : [a1] = [Value.int .i64 n1] := e1
        have g2 : [a2] = [Value.int .i64 n2] := e2
        have g3 : [a3] = [Value.int .u32 n3] := e3
        injection g0 with g0; injection g1 with g1; injection g2 with g2; injection g3 with g3
        subst g0 g1 g2 g3
        refine ⟨⟨n0, n1, n2, n3⟩, fun j hj => ?_⟩
        rw [hc j hj]
        match j, hj with
        | 0, _ => rfl
        | 1, _ => rfl
        | 2, _ => rfl
        | 3, _ => rfl
  obtain ⟨l, hl, hp⟩ := list_of n key
  refine ⟨l, hl, fun _ => ⟨b, off, rfl, hb, fun i j hi hj => ?_⟩⟩
  exact hp i (nth l i) (by simp [nth, List.getD, hi]) j hj
end
def wakeful : List Cand := [⟨1, 0, 0, 0⟩, ⟨4, 0, 0, 0⟩]
theorem wake_slots (k : Nat) : -1 ≤ (nth wakeful k).slot ∧ (nth wakeful k).slot ≤ 4095 := by
  match k with
  | 0 => decide
  | 1 => decide
  | k + 2 => simp [nth, wakeful, List.getD, default]
theorem wake0 {k : Nat} (h : IsPick wakeful 0 k) : k = 0 := h.unique ⟨by decide, .inl ⟨fun j hj => absurd hj (by omega), by decide⟩⟩
theorem wake1 {k : Nat} (h : IsPick wakeful 2 k) : k = 1 := by
  refine h.unique ⟨by decide, .inl ⟨fun j hj => ?_, by decide⟩⟩
  obtain rfl : j = 0 := by omega
  decide
theorem wake2 {k : Nat} (h : IsPick wakeful 5 k) : k = 0 := h.unique ⟨by decide, .inr ⟨rfl, fun j hj => by
  have : j = 0 ∨ j = 1 := by have : j < 2 := hj
                             omega
  rcases this with rfl | rfl <;> decide⟩⟩

set_option maxHeartbeats 1000000 in
theorem awake18 (w : World) : Calls Try.prog 16 #[] w fun e w' => e = .returned (.bool true) ∧ Below w.heap.size w w' := by
  have e0 : (nth wakeful 0).val = .agg #[.int .i64 1, .int .i64 0, .int .i64 0, .int .u32 0] := rfl
  have e1 : (nth wakeful 1).val = .agg #[.int .i64 4, .int .i64 0, .int .i64 0, .int .u32 0] := rfl
  go_enter Try.func16, Try.ntmps16
  go_wp2_with fail
  have hc : Is ((w.alloc (.cells #[.int .i64 0] 37)).alloc (.cells (cellsOf wakeful).toArray 29)) (w.heap.size + 1) 29 (cellsOf wakeful).toArray := by
    have := Is.new (w.alloc (.cells #[.int .i64 0] 37)) 29 (cellsOf wakeful).toArray
    simpa using this
  have hi : Is ((w.alloc (.cells #[.int .i64 0] 37)).alloc (.cells (cellsOf wakeful).toArray 29)) w.heap.size 37 #[.int .i64 0] := (Is.new _ _ _).alloc _
  have hb : Below w.heap.size w ((w.alloc (.cells #[.int .i64 0] 37)).alloc (.cells (cellsOf wakeful).toArray 29)) := ((Below.refl _ _).alloc (Nat.le_refl _) _).alloc (by simp) _
  have hne : w.heap.size + 1 ≠ w.heap.size := by omega
  generalize hX : ((w.alloc (.cells #[.int .i64 0] 37)).alloc (.cells (cellsOf wakeful).toArray 29)) = X at *
  change Calls _ _ _ ((w.alloc (.cells #[.int .i64 0] 37)).alloc (.cells (cellsOf wakeful).toArray 29)) _
  rw [hX]; clear hX
  refine (pick_any w.heap.size _ 2 wakeful 0 _ hi (cands_of_is hc) (by decide) (by decide) wake_slots).mono ?_
  rintro e w1 ⟨k, hk, rfl, hg1, hi1⟩
  obtain rfl := wake0 hk
  rw [e0]
  have hc1 := hc.only hg1 (by simp)
  have hb1 := below_only hb hg1 (Nat.le_refl _)
  clear hg1 hk hi hc hb
  have HI := Lib.hid hi1
  have HC := Lib.hid hc1
  have HB := Lib.hid hb1
  clear hi1 hc1 hb1
  go_wp2_with fail
  refine (pick_any w.heap.size _ 2 wakeful 2 _ (HI.out.alloc _) (cands_of_is (HC.out.alloc _)) (by decide) (by decide) wake_slots).mono ?_
  rintro e w2 ⟨k, hk, rfl, hg2, hi2⟩
  obtain rfl := wake1 hk
  rw [e1]
  have hn1 := HI.out.lt
  have hb2 := below_only (HB.out.alloc (by omega) _) hg2 (Nat.le_refl _)
  have hc2 := (HC.out.alloc _).only hg2 (by simp)
  have hs2 := (Is.new w1 29 #[.int .i64 1, .int .i64 0, .int .i64 0, .int .u32 0]).only hg2 (by simp; omega)
  have HI2 := Lib.hid hi2
  have HC2 := Lib.hid hc2
  have HB2 := Lib.hid hb2
  have HS2 := Lib.hid hs2
  clear hi2 hc2 hb2 hs2 hg2 hk
  go_wp2_with fail
  refine (pick_any w.heap.size _ 2 wakeful 5 _ (HI2.out.alloc _) (cands_of_is (HC2.out.alloc _)) (by decide) (by decide) wake_slots).mono ?_
  rintro e w3 ⟨k, hk, rfl, hg3, hi3⟩
  obtain rfl := wake2 hk
  rw [e0]
  have hn2 := HI2.out.lt
  have hb3 := below_only (HB2.out.alloc (by omega) _) hg3 (Nat.le_refl _)
  have hs3 := (HS2.out.alloc _).only hg3 (by simp; omega)
  have hr3 := (Is.new w2 29 #[.int .i64 4, .int .i64 0, .int .i64 0, .int .u32 0]).only hg3 (by simp; omega)
  have s0 := hs3.cell 0
  have r0 := hr3.cell 0
  simp at s0 r0
  have sl := hs3.lt
  have rl := hr3.lt
  have HB3 := Lib.hid hb3
  clear hi3 hb3 hs3 hr3 hg3 hk
  go_wp2_with fail
  go_ret
  exact ⟨rfl, HB3.out.alloc (by omega) _⟩
end Go.Proofs.Ytkebgkjopfdafaa
