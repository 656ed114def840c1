/-
  TurnAll (P18.4) answers true and leaves its arguments as they were, for all candidates and every number of picks ahead: as many picks as there are candidates return each once. No condition.
-/
import Derived.Test.YtppafabmmcdlfaaRows
import Derived.WalkKit
import Derived.ProofKit
import Derived.OpenShut
import Derived.ShutString
import Derived.ChangeOld
import Derived.Below
import Derived.Test.YtppafabmmcdlfaaTurn
namespace Go.Proofs.Ytppafabmmcdlfaa.turnAll
open Go.ChangeShapes Go.WideShapes Go.ChangeAt Go.RowKit
open Go.ChangeMaps (open_string shut_string)
open Go.Proofs.Ytppafabmmcdlfaa
set_option linter.unusedVariables false

theorem own : ownKnob Try.prog.godebug = none := by kernel_rfl
theorem laidOut : laidOutB Try.prog = true := by kernel_rfl

/-! ### Plain mathematics: picks go round -/
def Asc (l : List Cand) : Prop := ∀ i j, i < j → j < l.length → (nth l i).slot < (nth l j).slot
theorem asc_of : ∀ (l : List Cand) (last : Int), rightFrom last l = true → (∀ j, j < l.length → last < (nth l j).slot ∧ (nth l j).slot ≤ 4095) ∧ Asc l
  | [], last, _ => ⟨fun j hj => absurd hj (by simp), fun i j _ hj => absurd hj (by simp)⟩
  | c :: l, last, h => by
    have hc : ¬ (c.slot ≤ last ∨ 4095 < c.slot ∨ c.weight < 0 ∨ 100 < c.weight) := by
      intro hh; rw [right_no hh] at h; cases h
    rw [right_go hc] at h
    obtain ⟨h1, h2⟩ := asc_of l c.slot h
    have n0 : nth (c :: l) 0 = c := rfl
    have ns : ∀ j, nth (c :: l) (j + 1) = nth l j := fun j => by simp [nth, List.getD]
    refine ⟨fun j hj => ?_, fun i j hij hj => ?_⟩
    · match j with
      | 0 => rw [n0]; omega
      | j + 1 => rw [ns]; have := h1 j (by simpa using hj); omega
    · match i, j, hij with
      | 0, j + 1, _ => rw [n0, ns]; have := h1 j (by simpa using hj); omega
      | i + 1, j + 1, hij => rw [ns, ns]; exact h2 i j (by omega) (by simpa using hj)
theorem slots_all {l : List Cand} (h : rightB l = true) (k : Nat) : -1 ≤ (nth l k).slot ∧ (nth l k).slot ≤ 4095 := by
  by_cases hk : k < l.length
  · have := (asc_of l (-1) h).1 k hk; omega
  · have : nth l k = default := by simp [nth, List.getD, List.getElem?_eq_none (Nat.le_of_not_lt hk)]
    rw [this]; decide
theorem pick_ex (l : List Cand) (h0 : 0 < l.length) (next : Int) : ∃ k, IsPick l next k := by
  have key : ∀ m, m ≤ l.length → (∃ k, k < m ∧ (∀ j, j < k → (nth l j).slot < next) ∧ next ≤ (nth l k).slot) ∨ ∀ j, j < m → (nth l j).slot < next := by
    intro m
    induction m with
    | zero => exact fun _ => .inr fun j hj => absurd hj (by omega)
    | succ m ih =>
      intro hm
      rcases ih (by omega) with ⟨k, h1, h2, h3⟩ | hall
      · exact .inl ⟨k, by omega, h2, h3⟩
      · by_cases hs : next ≤ (nth l m).slot
        · exact .inl ⟨m, by omega, hall, hs⟩
        · refine .inr fun j hj => ?_
          by_cases hjm : j = m
          · subst hjm; omega
          · exact hall j (by omega)
  rcases key l.length (Nat.le_refl _) with ⟨k, h1, h2, h3⟩ | hall
  · exact ⟨k, h1, .inl ⟨h2, h3⟩⟩
  · exact ⟨0, h0, .inr ⟨rfl, hall⟩⟩
/-- The place of pick number i, if pick number 0 is at j. -/
def idx (n j i : Nat) : Nat := if j + i < n then j + i else j + i - n
theorem idx_lt {n j i : Nat} (hj : j < n) (hi : i ≤ n) : idx n j i < n := by unfold idx; split <;> omega
theorem idx_zero {n j : Nat} (hj : j < n) : idx n j 0 = j := by unfold idx; split <;> omega
theorem idx_inj {n j i m : Nat} (hj : j < n) (hi : i < n) (hm : m < i) : idx n j m ≠ idx n j i := by unfold idx; split <;> split <;> omega
theorem pick_next {l : List Cand} (ha : Asc l) {j i : Nat} (hj : j < l.length) (hi : i < l.length) : IsPick l ((nth l (idx l.length j i)).slot + 1) (idx l.length j (i + 1)) := by
  have h1 := idx_lt hj (Nat.le_of_lt hi)
  refine ⟨idx_lt hj hi, ?_⟩
  by_cases hk : idx l.length j i + 1 < l.length
  · have e : idx l.length j (i + 1) = idx l.length j i + 1 := by revert hk; unfold idx; split <;> split <;> omega
    rw [e]
    refine .inl ⟨fun m hm => ?_, ?_⟩
    · by_cases he : m = idx l.length j i
      · subst he; omega
      · have := ha m (idx l.length j i) (by omega) h1; omega
    · have := ha (idx l.length j i) (idx l.length j i + 1) (by omega) hk; omega
  · have e : idx l.length j (i + 1) = 0 := by revert hk h1; unfold idx; split <;> split <;> omega
    refine .inr ⟨e, fun m hm => ?_⟩
    by_cases he : m = idx l.length j i
    · subst he; omega
    · have := ha m (idx l.length j i) (by omega) h1; omega
theorem slot_inj {l : List Cand} (ha : Asc l) {a b : Nat} (h1 : a < l.length) (h2 : b < l.length) (hne : a ≠ b) : (nth l a).slot ≠ (nth l b).slot := by
  rcases Nat.lt_or_gt_of_ne hne with h | h
  · have := ha a b h h2; omega
  · have := ha b a h h1; omega

/-! ### The walk -/
def seen0 : Array Value := Array.replicate 4096 (.bool false)
def Marks (l : List Cand) (j0 i : Nat) (cs : Array Value) : Prop := cs.size = 4096 ∧ ∀ s : Nat, s < 4096 → (cs[s]? = some (.bool true) ∧ (∃ m, m < i ∧ (nth l (idx l.length j0 m)).slot = (s : Int))) ∨ (cs[s]? = some (.bool false) ∧ ∀ m, m < i → (nth l (idx l.length j0 m)).slot ≠ (s : Int))
theorem marks_zero (l : List Cand) (j0 : Nat) : Marks l j0 0 seen0 :=
  ⟨by simp [seen0], fun s hs => .inr ⟨by simp [seen0, hs], fun m hm => absurd hm (by omega)⟩⟩
theorem marks_free {l : List Cand} {j0 i s : Nat} {cs : Array Value} (h : Marks l j0 i cs) (hs : s < 4096) (hn : ∀ m, m < i → (nth l (idx l.length j0 m)).slot ≠ (s : Int)) : cs[s]? = some (.bool false) := by
  rcases h.2 s hs with ⟨_, m, hm, e⟩ | ⟨h, _⟩
  · exact absurd e (hn m hm)
  · exact h
theorem marks_set {l : List Cand} {j0 i s : Nat} {cs : Array Value} (h : Marks l j0 i cs) (hs : s < 4096) (he : (nth l (idx l.length j0 i)).slot = (s : Int)) : Marks l j0 (i + 1) (cs.setIfInBounds s (.bool true)) := by
  refine ⟨by simp [h.1], fun r hr => ?_⟩
  by_cases hrs : r = s
  · subst hrs
    exact .inl ⟨by simp [h.1, hr], i, by omega, he⟩
  · rw [Array.getElem?_setIfInBounds, if_neg (Ne.symm hrs)]
    rcases h.2 r hr with ⟨h1, m, hm, e⟩ | ⟨h1, h2⟩
    · exact .inl ⟨h1, m, by omega, e⟩
    · refine .inr ⟨h1, fun m hm => ?_⟩
      by_cases hmi : m = i
      · subst hmi; rw [he]; omega
      · exact h2 m (by omega)


def One (w : World) (l : List Cand) (v : Value) (i : Value) (wr : World) (top : Int) : Prop :=
  ∃ (k : Nat) (next : Int), (k : Int) ≤ top ∧ i = .int .i64 k ∧ Is wr w.heap.size 35 #[.int .i64 next] ∧ wr.ownsRow (w.heap.size + 1) 39 4 v l.length (cellsOf l) ∧ Below w.heap.size w wr

def Two (w : World) (l : List Cand) (v : Value) (bs : Nat) (i : Value) (wr : World) : Prop :=
  ∃ (k : Nat) (next : Int) (j0 : Nat) (cs : Array Value), k ≤ l.length ∧ i = .int .i64 k ∧ (0 < l.length → j0 < l.length ∧ IsPick l next (idx l.length j0 k)) ∧ Marks l j0 k cs ∧
    Is wr w.heap.size 35 #[.int .i64 next] ∧ Is wr bs 4 cs ∧ wr.ownsRow (w.heap.size + 1) 39 4 v l.length (cellsOf l) ∧ Below w.heap.size w wr

set_option maxHeartbeats 2000000 in
theorem walk_none (A : Option Addr) (c : Nat) (l : List Cand) (a1 : Int) (w : World) (h : Cands w w.heap.size A l) (hm : l.length ≤ maxLen) (hno : 70 < l.length ∨ rightB l = false) :
    Calls Try.prog 5 #[.slice A l.length c, .int .u8 a1] w fun e w' => e = .returned (.bool true) ∧ Below w.heap.size w w' := by
  have hm' := hm
  unfold maxLen at hm'
  by_cases h70 : 70 < l.length
  · have hd : decide (70 < l.length) = true := by simpa using h70
    go_enter Try.func5, Try.ntmps5
    go_wp2_with fail
    refine (awake18 _).mono ?_
    rintro e w1 ⟨rfl, hb⟩
    go_wp2_with fail
    go_ret
    exact ⟨rfl, hb⟩
  · have hr : rightB l = false := by
      rcases hno with h | h
      · exact absurd h h70
      · exact h
    go_enter Try.func5, Try.ntmps5
    go_wp2_with fail
    refine (rright_any _ _ _ _ _ h hm).mono ?_
    rw [hr]
    rintro e w1 ⟨rfl, rfl⟩
    go_wp2_with fail
    refine (awake18 _).mono ?_
    rintro e w1 ⟨rfl, hb⟩
    go_wp2_with fail
    go_ret
    exact ⟨rfl, hb⟩

theorem info_bool : (Try.prog.info? 4).map (fun i => (i.zero, i.size, i.bytes)) = some (some (.bool false), 1, 1) := by kernel_rfl
set_option maxRecDepth 100000 in
set_option maxHeartbeats 4000000 in
theorem walk_some (A : Option Addr) (c : Nat) (l : List Cand) (a1 : Int) (w : World) (h : Cands w w.heap.size A l) (hm : l.length ≤ 70) (hr : rightB l = true) (b0 : 0 ≤ a1) (b1 : a1 ≤ 255) :
    Calls Try.prog 5 #[.slice A l.length c, .int .u8 a1] w fun e w' => e = .returned (.bool true) ∧ Below w.heap.size w w' := by
  obtain ⟨ib, hib, hz0, hz1, hz2⟩ := info_parts info_bool
  have hmk : ∀ W : World, (Instr.makeSlice 42 (.int .i64 4096) (.int .i64 4096)).run Try.prog W = .ok (.slice (some ⟨W.heap.size, 0, none⟩) 4096 4096) (W.alloc (.cells seen0 4)) := fun W => by
    have := run_make (P := Try.prog) W 42 4 ib (.bool false) Try.underlying42 hib hz0 .i64 .i64 4096 4096 (by omega) (by omega) (by rw [hz2]; omega) (by omega)
    rw [hz1] at this
    rw [this]
    show Result.ok _ (W.alloc (.cells (madeCells #[.bool false] 4096) _)) = _
    rw [made_one]; rfl
  go_enter Try.func5, Try.ntmps5
  go_wp2_with fail
  refine (rright_any _ _ _ _ _ h (by unfold maxLen; omega)).mono ?_
  rw [hr]
  rintro e w1 ⟨rfl, rfl⟩
  go_wp2_with fail
  refine (to_any _ _ _ _ ((h.below (Below.refl _ _ |>.alloc (Nat.le_refl _) _)).more (by simp)) (by omega)).mono ?_
  rintro e w1 ⟨v, rfl, hown, hbel⟩
  have hi := (Is.new w 35 #[.int .i64 0]).below hbel (by simp)
  have hb := ((Below.refl w.heap.size w).alloc (Nat.le_refl _) (.cells #[.int .i64 0] 35)).trans (hbel.mono (by simp))
  have hs : (w.alloc (.cells #[.int .i64 0] 35)).heap.size = w.heap.size + 1 := by simp
  rw [hs] at hown
  obtain ⟨A', c', rfl⟩ := own_shape hown
  have HI := Lib.hid hi
  have HB := Lib.hid hb
  have HO := Lib.hid hown
  have HR := Lib.hid hr
  clear hi hb hown hbel hs hib hz0 hz1 hz2 h hr
  go_wp2_with fail
  go_loopw [7] (fun i wr => One w l (.slice A' l.length c') i wr 80) (fun i _ => (80 - intOf i).toNat)
  case atStart => exact ⟨0, 0, by omega, rfl, HI.out, HO.out, HB.out⟩
  case round =>
    obtain ⟨k, next, hk, rfl, hi, hown, hb⟩ := hrel
    have HI := Lib.hid hi
    have HB := Lib.hid hb
    have HO := Lib.hid hown
    clear hi hb hown
    by_cases hlt : (k : Int) < a1 % 80
    · by_cases h0 : 0 < l.length
      · go_wp2_with fail
        refine (pick_any w.heap.size A' c' l next _ HI.out (cands_of_own HO.out) (by unfold maxLen; omega) h0 (slots_all HR.out)).mono ?_
        rintro e w2 ⟨j, hj, rfl, hg, hi2⟩
        have hb2 := below_only HB.out hg (Nat.le_refl _)
        have hown2 := HO.out.kept hg (.inr (own_far HO.out (by omega)))
        have HI2 := Lib.hid hi2
        have HB2 := Lib.hid hb2
        have HO2 := Lib.hid hown2
        clear hi2 hb2 hown2 hg hj
        go_wp2_with fail
        go_roundw
        case rel => exact ⟨k + 1, _, by omega, by go_num, HI2.out, HO2.out, HB2.out⟩
        case measure => simp [intOf]; omega
      · go_wp2_with fail
        refine (pick_none w.heap.size A' _ c' _ (by omega)).mono ?_
        rintro e w2 ⟨rfl, hb2⟩
        have HI2 := Lib.hid (HI.out.below hb2 HI.out.lt)
        have HB2 := Lib.hid (HB.out.trans (hb2.mono HB.out.size))
        have HO2 := Lib.hid (own_below HO.out hb2)
        clear hb2
        go_wp2_with fail
        go_roundw
        case rel => exact ⟨k + 1, _, by omega, by go_num, HI2.out, HO2.out, HB2.out⟩
        case measure => simp [intOf]; omega
    · have hlen : 0 < l.length → ∃ j0, j0 < l.length ∧ IsPick l next (idx l.length j0 0) := fun h0 => by
        obtain ⟨j0, hj0⟩ := pick_ex l h0 next
        exact ⟨j0, hj0.1, by rw [idx_zero hj0.1]; exact hj0⟩
      have HL := Lib.hid hlen
      clear hlen
      have hil := HI.out.lt
      go_wp2_with fail
      go_loopw [9] (fun i ws => Two w l (.slice A' l.length c') wr.heap.size i ws) (fun i _ => l.length - (intOf i).toNat)
      case atStart =>
        by_cases h0 : 0 < l.length
        · obtain ⟨j0, h1, h2⟩ := HL.out h0
          exact ⟨0, next, j0, seen0, Nat.zero_le _, rfl, fun _ => ⟨h1, h2⟩, marks_zero l j0, HI.out.alloc _, Is.new _ _ _, HO.out.alloc _, HB.out.alloc HB.out.size _⟩
        · exact ⟨0, next, 0, seen0, Nat.zero_le _, rfl, fun h => absurd h h0, marks_zero l 0, HI.out.alloc _, Is.new _ _ _, HO.out.alloc _, HB.out.alloc HB.out.size _⟩
      case round =>
        obtain ⟨k2, nx, j0, cs, hk2, rfl, hp, hmk2, hi2, hs2, ho2, hb2⟩ := hrel
        by_cases hlt2 : k2 < l.length
        · have hn : 0 < l.length := by omega
          obtain ⟨hj0, hpk⟩ := hp hn
          have HI2 := Lib.hid hi2
          have HS2 := Lib.hid hs2
          have HO2 := Lib.hid ho2
          have HB2 := Lib.hid hb2
          have HM2 := Lib.hid hmk2
          have HP := Lib.hid hpk
          have HJ := Lib.hid hj0
          clear hi2 hs2 ho2 hb2 hmk2 hpk hj0 hp
          go_wp2_with fail
          refine (pick_any w.heap.size A' c' l nx _ HI2.out (cands_of_own HO2.out) (by unfold maxLen; omega) hn (slots_all HR.out)).mono ?_
          rintro e w3 ⟨j, hj, rfl, hg, hi3⟩
          obtain rfl := hj.unique HP.out
          have hk3 := idx_lt HJ.out (Nat.le_of_lt hlt2)
          have hsl := (asc_of l (-1) HR.out).1 _ hk3
          have hasc := (asc_of l (-1) HR.out).2
          have hi4 := HS2.out.only hg (by simp; omega)
          have hown3 := HO2.out.kept hg (.inr (own_far HO2.out (by omega)))
          have hb3 := below_only HB2.out hg (Nat.le_refl _)
          have hnext := pick_next hasc HJ.out hlt2
          have hnew : ∀ m, m < k2 → (nth l (idx l.length j0 m)).slot ≠ (nth l (idx l.length j0 k2)).slot := fun m hm => slot_inj hasc (idx_lt HJ.out (by omega)) hk3 (idx_inj HJ.out hlt2 hm)
          have hset : ∀ s : Nat, (nth l (idx l.length j0 k2)).slot = (s : Int) → s < 4096 → Marks l j0 (k2 + 1) (cs.setIfInBounds s (.bool true)) := fun s he hs => marks_set HM2.out hs he
          have hfree : ∀ s : Nat, (nth l (idx l.length j0 k2)).slot = (s : Int) → s < 4096 → cs[s]? = some (.bool false) := fun s he hs => marks_free HM2.out hs (fun m hm => by rw [← he]; exact hnew m hm)
          rw [show (nth l (idx l.length j0 k2)).val = .agg #[.int .i64 (nth l (idx l.length j0 k2)).slot, .int .i64 (nth l (idx l.length j0 k2)).backend, .int .i64 (nth l (idx l.length j0 k2)).weight, .int .u32 (nth l (idx l.length j0 k2)).load] from rfl]
          generalize nth l (idx l.length j0 k2) = x at *
          obtain ⟨sl, bk, wt, ld⟩ := x
          simp only at hsl hnext hi3 hset hfree ⊢
          obtain ⟨s, rfl⟩ := Int.eq_ofNat_of_zero_le (show 0 ≤ sl by omega)
          have hs1 : s < 4096 := by omega
          have hmark := hset s rfl hs1
          have hcell := hi4.cell s
          rw [hfree s rfl hs1] at hcell
          have hfr := hi4.free s
          have hbl := hi4.lt
          have HI3 := Lib.hid hi3
          have HS3 := Lib.hid hi4
          have HO3 := Lib.hid hown3
          have HB3 := Lib.hid hb3
          have HN := Lib.hid hnext
          have HK := Lib.hid hmark
          clear hi3 hi4 hown3 hb3 hnext hmark hg hj hk3 hnew hset hfree hasc
          go_wp2_with fail
          go_roundw
          case rel =>
            refine ⟨k2 + 1, _, j0, cs.setIfInBounds s (.bool true), by omega, by go_num, fun _ => ⟨HJ.out, HN.out⟩, HK.out, (HI3.out.other (by simp; omega) _).alloc _, (HS3.out.put s _).alloc _, (own_set HO3.out (own_differ HO3.out HS3.out (by decide)) _).alloc _, (HB3.out.setCell (by simp; omega) _).alloc ?_ _⟩
            have := HB3.out.size
            simp [World.setCell]; omega
          case measure => simp [intOf]; omega
        · go_wp2_with fail
          refine (awake18 _).mono ?_
          rintro e w3 ⟨rfl, hb3⟩
          go_wp2_with fail
          go_ret
          exact ⟨rfl, hb2.trans (hb3.mono hb2.size)⟩


theorem walk (A : Option Addr) (c : Nat) (l : List Cand) (a1 : Int) (w : World) (h : Cands w w.heap.size A l) (hm : l.length ≤ maxLen) (w1 : (Lit.int .u8 a1).wf = true) :
    Calls Try.prog 5 #[.slice A l.length c, .int .u8 a1] w fun e w' => e = .returned (.bool true) ∧ Below w.heap.size w w' := by
  by_cases h1 : 70 < l.length
  · exact walk_none A c l a1 w h hm (.inl h1)
  · cases hr : rightB l with
    | false => exact walk_none A c l a1 w h hm (.inr hr)
    | true => exact walk_some A c l a1 w h (by omega) hr (bounds_u8 w1).1 (bounds_u8 w1).2

/-! ### The step from the walk to the row -/
set_option maxRecDepth 100000 in
theorem lifted (os : Os) (started : os.Started) (H : Type) (enc : TypeId × Value → H) :
    ReturnsInHanded {} Try.checked os 5 .any (Rows.turnAllSpec.pre6 enc Try.prog Try.f5 Rows.turnAllRow.domain false) (Rows.turnAllSpec.post enc Try.prog Try.f5 false true false false) := by
  refine returnsInHanded_of_change (C := Try.checked) own started (by kernel_rfl) Try.func5
    (ChangeSpec.witness6 (enc := enc) (C := Try.checked) false ⟨#[], #[.slice none 0 0, .int .u8 0], []⟩ 8 (by kernel_rfl) (by kernel_rfl) (by kernel_rfl) (by kernel_rfl)) ?_
  intro W base args ds gs before hval0 hW hcnd _
  have hval : ∀ (j : Nat) t v, Try.f5.params[j]? = some t → args[j]? = some v → Value.okWide Try.prog W .any base t v := hval0
  have hW' := hW
  obtain ⟨p, q, hA0, hV, rfl, hfz, hnd⟩ := hW
  have hA : DataW.TrodAll enc Try.prog W 0 (fun _ => true) true Try.f5.params.toList args.toList ds p := hA0
  rw [Try.params5] at hA hval
  obtain ⟨v0, vs0, d0, ds0, p0, q0, hargs, rfl, rfl, h0, r0⟩ := trodAll_cons hA
  obtain ⟨v1, vs1, d1, ds1, p1, q1, rfl, rfl, rfl, h1, r1⟩ := trodAll_cons r0
  obtain ⟨rfl, rfl, rfl⟩ := trodAll_nil r1
  obtain rfl : args = #[v0, v1] := by cases args; simp_all
  obtain ⟨rfl, rfl⟩ := trodVars_none hV
  have k0 := h0
  have lt0 : ∀ x ∈ p0, x.block < W.heap.size := by obtain ⟨m, hm⟩ := k0; exact DataW.trod_lt m _ _ _ hm
  have ok0 := hval 0 31 v0 rfl rfl
  have k1 := h1
  have lt1 : ∀ x ∈ p1, x.block < W.heap.size := by obtain ⟨m, hm⟩ := k1; exact DataW.trod_lt m _ _ _ hm
  have ok1 := hval 1 5 v1 rfl rfl
  clear hA0 hval0
  obtain ⟨A, n, c, rfl⟩ := okWide_slice Try.underlying31 ok0
  obtain ⟨l, rfl, hc⟩ := open_cands h0
  obtain ⟨_, hcm, hlm⟩ : l.length ≤ c ∧ c ≤ maxLen ∧ True := by
    obtain ⟨g1, g2, _⟩ := open_els (e := 79) (sz := 4) Try.underlying31 (by kernel_rfl) (by omega) h0
    exact ⟨g1, g2, trivial⟩
  obtain ⟨a1, rfl, rfl, rfl, w1⟩ := open_int Try.underlying5 ok1 h1
  refine (walk A c l a1 W hc (by omega) w1).mono fun e W' ⟨he, bel⟩ => ?_
  subst he
  exact ⟨_, rfl, _, _, _, [], _, [], hW', trodAll_mk1 (shut_bool Try.underlying4 _), (trodAll_cons_mk (Below.trod laidOut (by kernel_rfl) (of_decide_eq_true (by kernel_rfl)) k0 bel lt0) (trodAll_cons_mk (Below.trod laidOut (by kernel_rfl) (of_decide_eq_true (by kernel_rfl)) k1 bel lt1) trodAll_mk0)), rfl, bel.frame _, fun h => by cases h⟩

theorem over : Rows.turnAllRow.holds Try.pinned (OpenSpec.ofChange Rows.turnAllSpec) :=
  OpenClaim.holds_of_wide 5 Try.f5 rfl rfl rfl rfl rfl rfl rfl ⟨rfl, rfl, rfl, rfl, rfl⟩ rfl rfl rfl rfl rfl (by kernel_rfl) Try.func5 (by kernel_rfl)
    (of_decide_eq_true (by kernel_rfl)) (by unfold Func.isWrapper; first | (rw [if_pos (by decide +kernel)]; kernel_rfl) | (rw [if_neg (by decide +kernel)]; exact ⟨rfl, rfl⟩))
    (fun os started H enc _ => lifted os started H enc)

theorem proved : Rows.TurnAllSaid := over
#print axioms proved
end Go.Proofs.Ytppafabmmcdlfaa.turnAll
