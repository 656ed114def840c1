/-
  Without of package spread and of its reference. Helper of the claim SpreadPlaces. No condition.
-/
import Derived.Test.YtkebgkjopfdafaaSp2
namespace Go.Proofs.Ytkebgkjopfdafaa
open Go.ChangeShapes Go.WideShapes Go.ChangeAt Go.RowKit
set_option linter.unusedVariables false
set_option maxRecDepth 100000
/-- The first k numbers without g. -/
def fil (l : List Int) (g : Int) : Nat → List Int | 0 => [] | k + 1 => if at0 l k = g then fil l g k else fil l g k ++ [at0 l k]
theorem fil_le (l : List Int) (g : Int) : ∀ k, (fil l g k).length ≤ k
  | 0 => Nat.le_refl _
  | k + 1 => by
    have := fil_le l g k
    unfold fil
    split
    · omega
    · simp; omega
/-- What stands at place i when g has gone and the others take its places in turn. -/
def wof (left : List Int) (g : Int) (l : List Int) (i : Nat) : Int := if at0 l i = g then at0 left (cnt l g i % left.length) else at0 l i
def wst (left : List Int) (g : Int) (l : List Int) (k : Nat) : List Int := (List.range l.length).map fun i => if i < k then wof left g l i else at0 l i
def wou (left : List Int) (g : Int) (l : List Int) (k : Nat) : List Int := (List.range k).map fun i => wof left g l i
theorem wst_len (left : List Int) (g : Int) (l : List Int) (k : Nat) : (wst left g l k).length = l.length := by simp [wst]
theorem wou_len (left : List Int) (g : Int) (l : List Int) (k : Nat) : (wou left g l k).length = k := by simp [wou]
theorem wou_step (left : List Int) (g : Int) (l : List Int) (k : Nat) : wou left g l (k + 1) = wou left g l k ++ [wof left g l k] := by simp [wou, List.range_succ]
theorem wst_all (left : List Int) (g : Int) (l : List Int) : wst left g l l.length = wou left g l l.length := by
  unfold wst wou
  exact List.map_congr_left fun j hj => by rw [if_pos (List.mem_range.1 hj)]
theorem wst_zero (left : List Int) (g : Int) (l : List Int) : wst left g l 0 = l := by
  apply List.ext_getElem?
  intro j
  by_cases hj : j < l.length
  · simp [wst, hj, at0, List.getD]
  · rw [List.getElem?_eq_none (by rw [wst_len]; omega), List.getElem?_eq_none (by omega)]
theorem wst_at {left : List Int} {g : Int} {l : List Int} {k i : Nat} (hi : i < l.length) : at0 (wst left g l k) i = if i < k then wof left g l i else at0 l i := by simp [wst, at0, List.getD, hi]
theorem wst_step {left : List Int} {g : Int} {l : List Int} {k : Nat} (hk : k < l.length) : (wst left g l k).set k (wof left g l k) = wst left g l (k + 1) := by
  apply List.ext_getElem?
  intro j
  rw [List.getElem?_set]
  by_cases hj : j < l.length
  · by_cases h : k = j
    · subst h
      rw [if_pos rfl, if_pos (by rw [wst_len]; exact hj)]
      simp [wst, hj]
    · rw [if_neg h]
      have : (j < k + 1) = (j < k) := by simp; omega
      simp [wst, hj, this]
  · rw [List.getElem?_eq_none (l := wst left g l (k + 1)) (by rw [wst_len]; omega)]
    by_cases h : k = j
    · omega
    · rw [if_neg h, List.getElem?_eq_none (by rw [wst_len]; omega)]
theorem wst_keep {left : List Int} {g : Int} {l : List Int} {k : Nat} (hk : k < l.length) (h : at0 l k ≠ g) : wst left g l k = wst left g l (k + 1) := by
  unfold wst
  refine List.map_congr_left fun j hj => ?_
  by_cases h1 : j < k
  · rw [if_pos h1, if_pos (by omega)]
  · rw [if_neg h1]
    by_cases h2 : j < k + 1
    · obtain rfl : j = k := by omega
      rw [if_pos h2]; unfold wof; rw [if_neg h]
    · rw [if_neg h2]
def FiRel (W : World) (to : List Int) (g : Int) (v8 v9 : Value) (wr : World) : Prop := ∃ k A c, k ≤ to.length ∧ v8 = .slice A (fil to g k).length c ∧ v9 = .int .i64 (k : Nat) ∧ OwnI wr W.heap.size (.slice A (fil to g k).length c) (fil to g k) ∧ Below W.heap.size W wr
def WoRel (W : World) (left l : List Int) (g : Int) (v10 v11 v12 : Value) (wr : World) : Prop := ∃ k A c, k ≤ l.length ∧ v10 = .slice A k c ∧ v11 = .int .i64 (cnt l g k : Int) ∧ v12 = .int .i64 (k : Nat) ∧ OwnI wr W.heap.size (.slice A k c) (wou left g l k) ∧ Below W.heap.size W wr
set_option maxHeartbeats 400000 in
theorem rwithout_none (A : Option Addr) (c : Nat) (l : List Int) (B : Option Addr) (d : Nat) (to : List Int) (g : Int) (w : World) (ht : Ints w w.heap.size B to) (hmt : to.length ≤ 100) (hf : (fil to g to.length).length = 0) :
    Calls Try.prog 70 #[.slice A l.length c, .int .i64 g, .slice B to.length d] w fun e w' => e = .returned (.tuple #[.slice none 0 0, .bool false]) ∧ Below w.heap.size w w' := by
  have HT := Lib.hid ht; have HF0 := Lib.hid hf; have HWW := Lib.hid (Nat.le_refl w.heap.size)
  clear ht hf
  go_enter Try.func70, Try.ntmps70
  go_wp2_with fail
  go_loopw [8, 9] (fun v8 v9 wr => FiRel w to g v8 v9 wr) (fun _ v _ => (to.length - intOf v).toNat)
  case atStart => exact ⟨0, none, 0, Nat.zero_le _, rfl, rfl, OwnI.nil _ _, Below.refl _ _⟩
  case round =>
    obtain ⟨k, A8, c8, hk, rfl, rfl, ho, hb⟩ := hrel
    have HB := Lib.hid hb; have HO := Lib.hid ho
    have hbz : w.heap.size ≤ wr.heap.size := hb.size
    have hfl := fil_le to g k
    clear hb ho
    by_cases hlt : k < to.length
    · obtain ⟨b, off, rfl, hbl, hc⟩ := HT.out.cells (by omega)
      have d0 := (HB.out.cell (p := ⟨b, off + k, none⟩) (Nat.lt_of_lt_of_le hbl HWW.out)).trans (hc k hlt)
      have hltz : (k : Int) < (to.length : Int) := by omega
      have k0 : (0 : Int) ≤ (k : Int) := by omega
      have HLT := Lib.hid hlt
      have HS := Lib.hid (show fil to g (k + 1) = if at0 to k = g then fil to g k else fil to g k ++ [at0 to k] from rfl)
      clear hc hlt
      generalize at0 to k = y at *
      by_cases he : y = g
      · have heb : (y == g) = true := by simp [he]
        have HE := Lib.hid he
        clear he
        go_wp2_with fail
        go_roundw
        case rel => exact ⟨k + 1, A8, c8, HLT.out, by rw [HS.out, if_pos HE.out], by go_num, by rw [HS.out, if_pos HE.out]; exact HO.out, HB.out⟩
        case measure => have := HLT.out; simp [intOf]; omega
      · have heb : (y == g) = false := by simp [he]
        have HF := Lib.hid (show (fil to g k).length + 1 = (fil to g (k + 1)).length from by rw [HS.out, if_neg he]; simp)
        have HE := Lib.hid he
        obtain ⟨L, hL⟩ : ∃ L, fil to g k = L := ⟨_, rfl⟩
        have HL := Lib.hid hL
        rw [hL] at HO HF hfl HS ⊢
        obtain ⟨n, hn⟩ : ∃ n, L.length = n := ⟨_, rfl⟩
        have HN := Lib.hid hn
        rw [hn] at HO HF hfl ⊢
        clear hL hn
        go_wp2_with (first
        | ((with_reducible show wpList _ _ _ (⟨some 32, _, _, _, _, _⟩ :: _) _ _)
           have hown2 := HO.out.below ((Below.refl wr.heap.size wr).alloc (Nat.le_refl _) (.cells #[.int .i64 y] 3))
           have hcell2 : ∀ j, j < ([y] : List Int).length → (wr.alloc (.cells #[.int .i64 y] 3)).cell? ⟨wr.heap.size, 0 + j, none⟩ = some (.int .i64 (at0 [y] j)) := fun j hj => by
             obtain rfl : j = 0 := by simpa using hj
             exact (Is.new wr 3 #[.int .i64 y]).cell 0
           have hbase2 : w.heap.size ≤ (wr.alloc (.cells #[.int .i64 y] 3)).heap.size := by simp; omega
           go_loud (refine app_il (.tmp 26) (.tmp 31) rfl rfl (n := n) (base := w.heap.size) (v := .slice A8 n c8) (xs := L) (l := [y]) rfl hown2 HN.out rfl rfl hcell2 (by omega) hbase2 ?_ (by omega))
           clear hown2 hcell2 hbase2
           intro g6 c6 w6 ho6 hg6
           have hb6 : Below w.heap.size w w6 := (HB.out.alloc hbz _).grown hg6 (by simp; omega) (fun q hq => (World.ownsRow.lt HO.out q hq).1)
           have HO6 := Lib.hid ho6; have HB6 := Lib.hid hb6
           clear ho6 hg6 hb6))
        go_roundw
        case rel => exact ⟨k + 1, _, c6, HLT.out, by rw [← HF.out], by go_num, by rw [← HF.out, HS.out, if_neg HE.out]; exact HO6.out, HB6.out⟩
        case measure => have := HLT.out; simp [intOf]; omega
    · obtain rfl : k = to.length := by omega
      have hge : ¬ (to.length : Int) < (to.length : Int) := by omega
      rw [HF0.out]
      go_wp2_with fail
      go_ret2
      exact ⟨rfl, HB.out⟩
set_option maxHeartbeats 400000 in
theorem rwithout_some (A : Option Addr) (c : Nat) (l : List Int) (B : Option Addr) (d : Nat) (to : List Int) (g : Int) (w : World) (hl : Ints w w.heap.size A l) (ht : Ints w w.heap.size B to) (hml : l.length ≤ 4096) (hmt : to.length ≤ 100) (hf : 0 < (fil to g to.length).length) :
    Calls Try.prog 70 #[.slice A l.length c, .int .i64 g, .slice B to.length d] w fun e w' => ∃ A' c', e = .returned (.tuple #[.slice A' l.length c', .bool true]) ∧ OwnI w' w.heap.size (.slice A' l.length c') (wou (fil to g to.length) g l l.length) ∧ Below w.heap.size w w' := by
  have HT := Lib.hid ht; have HF0 := Lib.hid hf; have HWW := Lib.hid (Nat.le_refl w.heap.size); have HA := Lib.hid hl
  clear ht hf hl
  go_enter Try.func70, Try.ntmps70
  go_wp2_with fail
  go_loopw [8, 9] (fun v8 v9 wr => FiRel w to g v8 v9 wr) (fun _ v _ => (to.length - intOf v).toNat)
  case atStart => exact ⟨0, none, 0, Nat.zero_le _, rfl, rfl, OwnI.nil _ _, Below.refl _ _⟩
  case round =>
    obtain ⟨k, A8, c8, hk, rfl, rfl, ho, hb⟩ := hrel
    have HB := Lib.hid hb; have HO := Lib.hid ho
    have hbz : w.heap.size ≤ wr.heap.size := hb.size
    have hfl := fil_le to g k
    clear hb ho
    by_cases hlt : k < to.length
    · obtain ⟨b, off, rfl, hbl, hc⟩ := HT.out.cells (by omega)
      have d0 := (HB.out.cell (p := ⟨b, off + k, none⟩) (Nat.lt_of_lt_of_le hbl HWW.out)).trans (hc k hlt)
      have hltz : (k : Int) < (to.length : Int) := by omega
      have k0 : (0 : Int) ≤ (k : Int) := by omega
      have HLT := Lib.hid hlt
      have HS := Lib.hid (show fil to g (k + 1) = if at0 to k = g then fil to g k else fil to g k ++ [at0 to k] from rfl)
      clear hc hlt
      generalize at0 to k = y at *
      by_cases he : y = g
      · have heb : (y == g) = true := by simp [he]
        have HE := Lib.hid he
        clear he
        go_wp2_with fail
        go_roundw
        case rel => exact ⟨k + 1, A8, c8, HLT.out, by rw [HS.out, if_pos HE.out], by go_num, by rw [HS.out, if_pos HE.out]; exact HO.out, HB.out⟩
        case measure => have := HLT.out; simp [intOf]; omega
      · have heb : (y == g) = false := by simp [he]
        have HF := Lib.hid (show (fil to g k).length + 1 = (fil to g (k + 1)).length from by rw [HS.out, if_neg he]; simp)
        have HE := Lib.hid he
        obtain ⟨L, hL⟩ : ∃ L, fil to g k = L := ⟨_, rfl⟩
        have HL := Lib.hid hL
        rw [hL] at HO HF hfl HS ⊢
        obtain ⟨n, hn⟩ : ∃ n, L.length = n := ⟨_, rfl⟩
        have HN := Lib.hid hn
        rw [hn] at HO HF hfl ⊢
        clear hL hn
        go_wp2_with (first
        | ((with_reducible show wpList _ _ _ (⟨some 32, _, _, _, _, _⟩ :: _) _ _)
           have hown2 := HO.out.below ((Below.refl wr.heap.size wr).alloc (Nat.le_refl _) (.cells #[.int .i64 y] 3))
           have hcell2 : ∀ j, j < ([y] : List Int).length → (wr.alloc (.cells #[.int .i64 y] 3)).cell? ⟨wr.heap.size, 0 + j, none⟩ = some (.int .i64 (at0 [y] j)) := fun j hj => by
             obtain rfl : j = 0 := by simpa using hj
             exact (Is.new wr 3 #[.int .i64 y]).cell 0
           have hbase2 : w.heap.size ≤ (wr.alloc (.cells #[.int .i64 y] 3)).heap.size := by simp; omega
           go_loud (refine app_il (.tmp 26) (.tmp 31) rfl rfl (n := n) (base := w.heap.size) (v := .slice A8 n c8) (xs := L) (l := [y]) rfl hown2 HN.out rfl rfl hcell2 (by omega) hbase2 ?_ (by omega))
           clear hown2 hcell2 hbase2
           intro g6 c6 w6 ho6 hg6
           have hb6 : Below w.heap.size w w6 := (HB.out.alloc hbz _).grown hg6 (by simp; omega) (fun q hq => (World.ownsRow.lt HO.out q hq).1)
           have HO6 := Lib.hid ho6; have HB6 := Lib.hid hb6
           clear ho6 hg6 hb6))
        go_roundw
        case rel => exact ⟨k + 1, _, c6, HLT.out, by rw [← HF.out], by go_num, by rw [← HF.out, HS.out, if_neg HE.out]; exact HO6.out, HB6.out⟩
        case measure => have := HLT.out; simp [intOf]; omega
    · obtain rfl : k = to.length := by omega
      have hge : ¬ (to.length : Int) < (to.length : Int) := by omega
      obtain ⟨left, hleft⟩ : ∃ left, fil to g to.length = left := ⟨_, rfl⟩
      have HLF := Lib.hid hleft
      rw [hleft] at HO HF0 hfl ⊢
      clear hleft
      have hlf := HF0.out
      have hn0 : ((left.length : Int) == 0) = false := by rw [beq_eq_false_iff_ne]; omega
      have hn1 : ¬ (left.length : Int) = 0 := by omega
      have hn2 : ¬ left.length = 0 := by omega
      have HLI := Lib.hid (HO.out.ints rfl)
      go_wp2_with fail
      rename World => wq
      go_loopw [10, 11, 12] (fun v10 v11 v12 wr => WoRel wq left l g v10 v11 v12 wr) (fun _ _ v _ => (l.length - intOf v).toNat)
      case atStart => exact ⟨0, none, 0, Nat.zero_le _, rfl, rfl, rfl, OwnI.nil _ _, Below.refl _ _⟩
      case round =>
        obtain ⟨k, A10, c10, hk, rfl, rfl, rfl, ho, hb⟩ := hrel
        have HBX := Lib.hid hb; have HOX := Lib.hid ho
        have hbz2 : wq.heap.size ≤ wr.heap.size := hb.size
        have hcn := cnt_le l g k
        clear hb ho
        by_cases hlt : k < l.length
        · obtain ⟨b, off, rfl, hbl, hc⟩ := HA.out.cells (by omega)
          have d0 := ((HB.out.trans (HBX.out.mono hbz)).cell (p := ⟨b, off + k, none⟩) hbl).trans (hc k hlt)
          obtain ⟨b8, off8, rfl, hbl8, hc8⟩ := HLI.out.cells hlf
          have hmod : cnt l g k % left.length < left.length := Nat.mod_lt _ hlf
          have d8 := (HBX.out.cell (p := ⟨b8, off8 + cnt l g k % left.length, none⟩) hbl8).trans (hc8 _ hmod)
          have hltz : (k : Int) < (l.length : Int) := by omega
          have k0 : (0 : Int) ≤ (k : Int) := by omega
          have HLT := Lib.hid hlt
          have HST := Lib.hid (wou_step left g l k)
          have HCS := Lib.hid (show cnt l g (k + 1) = cnt l g k + (if at0 l k = g then 1 else 0) from rfl)
          have HW := Lib.hid (show wof left g l k = if at0 l k = g then at0 left (cnt l g k % left.length) else at0 l k from rfl)
          have hrem : (cnt l g k : Int).tmod (left.length : Int) = ((cnt l g k % left.length : Nat) : Int) := by rw [Int.tmod_eq_emod_of_nonneg (by omega)]; rfl
          have hwr : IntKind.i64.wrap ((cnt l g k % left.length : Nat) : Int) = ((cnt l g k % left.length : Nat) : Int) := IntWalk.i64_in _ (by omega)
          have m0 : (0 : Int) ≤ ((cnt l g k % left.length : Nat) : Int) := by omega
          have m1 : ((cnt l g k % left.length : Nat) : Int) < (left.length : Int) := by omega
          clear hc hc8 hlt
          generalize at0 left (cnt l g k % left.length) = z at *
          generalize cnt l g k % left.length = q at *
          generalize at0 l k = y at *
          generalize wof left g l k = u at *
          by_cases he : y = g
          · have heb : (y == g) = true := by simp [he]
            obtain rfl : u = z := by rw [HW.out, if_pos he]
            have HE := Lib.hid he
            clear he
            go_wp2_with (first
            | ((with_reducible show wpList _ _ _ (⟨some 61, _, _, _, _, _⟩ :: _) _ _)
               have hown2 := HOX.out.below ((Below.refl wr.heap.size wr).alloc (Nat.le_refl _) (.cells #[.int .i64 u] 3))
               have hcell2 : ∀ j, j < ([u] : List Int).length → (wr.alloc (.cells #[.int .i64 u] 3)).cell? ⟨wr.heap.size, 0 + j, none⟩ = some (.int .i64 (at0 [u] j)) := fun j hj => by
                 obtain rfl : j = 0 := by simpa using hj
                 exact (Is.new wr 3 #[.int .i64 u]).cell 0
               have hbase2 : wq.heap.size ≤ (wr.alloc (.cells #[.int .i64 u] 3)).heap.size := by simp; omega
               go_loud (refine app_il (.tmp 58) (.tmp 60) rfl rfl (n := k) (base := wq.heap.size) (v := .slice A10 k c10) (xs := wou left g l k) (l := [u]) rfl hown2 (wou_len _ _ _ _) rfl rfl hcell2 (by omega) hbase2 ?_ (by omega))
               clear hown2 hcell2 hbase2
               intro g6 c6 w6 ho6 hg6
               have hb6 : Below wq.heap.size wq w6 := (HBX.out.alloc hbz2 _).grown hg6 (by simp; omega) (fun q hq => (World.ownsRow.lt HOX.out q hq).1)
               have HO6 := Lib.hid ho6; have HB6 := Lib.hid hb6
               clear ho6 hg6 hb6))
            go_roundw
            case rel => exact ⟨k + 1, _, c6, HLT.out, rfl, by rw [HCS.out, if_pos HE.out]; go_num, by go_num, by rw [HST.out]; exact HO6.out, HB6.out⟩
            case measure => have := HLT.out; simp [intOf]; omega
          · have heb : (y == g) = false := by simp [he]
            obtain rfl : u = y := by rw [HW.out, if_neg he]
            go_wp2_with (first
            | ((with_reducible show wpList _ _ _ (⟨some 61, _, _, _, _, _⟩ :: _) _ _)
               have hown2 := HOX.out.below ((Below.refl wr.heap.size wr).alloc (Nat.le_refl _) (.cells #[.int .i64 u] 3))
               have hcell2 : ∀ j, j < ([u] : List Int).length → (wr.alloc (.cells #[.int .i64 u] 3)).cell? ⟨wr.heap.size, 0 + j, none⟩ = some (.int .i64 (at0 [u] j)) := fun j hj => by
                 obtain rfl : j = 0 := by simpa using hj
                 exact (Is.new wr 3 #[.int .i64 u]).cell 0
               have hbase2 : wq.heap.size ≤ (wr.alloc (.cells #[.int .i64 u] 3)).heap.size := by simp; omega
               go_loud (refine app_il (.tmp 58) (.tmp 60) rfl rfl (n := k) (base := wq.heap.size) (v := .slice A10 k c10) (xs := wou left g l k) (l := [u]) rfl hown2 (wou_len _ _ _ _) rfl rfl hcell2 (by omega) hbase2 ?_ (by omega))
               clear hown2 hcell2 hbase2
               intro g6 c6 w6 ho6 hg6
               have hb6 : Below wq.heap.size wq w6 := (HBX.out.alloc hbz2 _).grown hg6 (by simp; omega) (fun q hq => (World.ownsRow.lt HOX.out q hq).1)
               have HO6 := Lib.hid ho6; have HB6 := Lib.hid hb6
               clear ho6 hg6 hb6))
            go_roundw
            case rel => exact ⟨k + 1, _, c6, HLT.out, rfl, by rw [HCS.out, if_neg he]; go_num, by go_num, by rw [HST.out]; exact HO6.out, HB6.out⟩
            case measure => have := HLT.out; simp [intOf]; omega
        · obtain rfl : k = l.length := by omega
          have hge2 : ¬ (l.length : Int) < (l.length : Int) := by omega
          go_wp2_with fail
          go_ret2
          rw [HLF.out]
          exact ⟨A10, c10, rfl, HOX.out.lower hbz, HB.out.trans (HBX.out.mono hbz)⟩
end Go.Proofs.Ytkebgkjopfdafaa
