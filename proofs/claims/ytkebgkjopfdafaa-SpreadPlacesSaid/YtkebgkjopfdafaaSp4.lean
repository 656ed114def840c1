/-
  Without of package spread. Helper of the claim SpreadPlaces. No condition.
-/
import Derived.Test.YtkebgkjopfdafaaSp3
namespace Go.Proofs.Ytkebgkjopfdafaa
open Go.ChangeShapes Go.WideShapes Go.ChangeAt Go.RowKit
set_option linter.unusedVariables false
set_option maxRecDepth 100000
set_option maxHeartbeats 1000000 in
theorem pwithout_none (A : Option Addr) (c : Nat) (l : List Int) (B : Option Addr) (d : Nat) (to : List Int) (g : Int) (w : World) (ht : Ints w w.heap.size B to) (hmt : to.length ≤ 100) (hf : (fil to g to.length).length = 0) :
    Calls Try.prog 69 #[.agg #[.slice A l.length c], .int .i64 g, .slice B to.length d] w fun e w' => e = .returned (.tuple #[.agg #[.slice none 0 0], .int .i64 1]) ∧ Below w.heap.size w w' := by
  have hb0 : Below w.heap.size w ((w.alloc (.cells #[.slice A l.length c] 111)).alloc (.cells #[.slice none 0 0] 111)) := ((Below.refl _ _).alloc (Nat.le_refl _) _).alloc (by simp) _
  have h3 := (Is.new w 111 #[.slice A l.length c]).alloc (.cells #[.slice none 0 0] 111)
  have h6 := Is.new (w.alloc (.cells #[.slice A l.length c] 111)) 111 #[.slice none 0 0]
  have hs6 : (w.alloc (.cells #[.slice A l.length c] 111)).heap.size = w.heap.size + 1 := by simp
  rw [hs6] at h6
  clear hs6
  go_enter Try.func69, Try.ntmps69
  go_wp2_with fail
  generalize (w.alloc (.cells #[.slice A l.length c] 111)).alloc (.cells #[.slice none 0 0] 111) = W at *
  have HT := Lib.hid (show Ints W W.heap.size B to from (ht.below hb0).more hb0.size)
  have HF0 := Lib.hid hf; have HWW := Lib.hid (Nat.le_refl W.heap.size); have H3 := Lib.hid h3; have H6 := Lib.hid h6; have HB0 := Lib.hid hb0
  clear ht hf h3 h6 hb0
  go_loopw [8, 17] (fun v8 v9 wr => FiRel W to g v8 v9 wr) (fun _ v _ => (to.length - intOf v).toNat)
  case atStart => exact ⟨0, none, 0, Nat.zero_le _, rfl, rfl, OwnI.nil _ _, Below.refl _ _⟩
  case round =>
    obtain ⟨k, A8, c8, hk, rfl, rfl, ho, hb⟩ := hrel
    have HB := Lib.hid hb; have HO := Lib.hid ho
    have hbz : W.heap.size ≤ wr.heap.size := hb.size
    have hfl := fil_le to g k
    clear hb ho
    by_cases hlt : k < to.length
    · obtain ⟨b, off, rfl, hbl, hc⟩ := HT.out.cells (by omega)
      have d0 := (HB.out.cell (p := ⟨b, off + k, none⟩) (Nat.lt_of_lt_of_le hbl HWW.out)).trans (hc k hlt)
      have hltz : (k : Int) < (to.length : Int) := by omega
      have k0 : (0 : Int) ≤ (k : Int) := by omega
      have HLT := Lib.hid hlt
      have HS := Lib.hid (show fil to g (k + 1) = if at0 to k = g then fil to g k else fil to g k ++ [at0 to k] from rfl)
      clear hc hlt
      generalize at0 to k = y at *
      by_cases he : y = g
      · have heb : (y == g) = true := by simp [he]
        have HE := Lib.hid he
        clear he
        go_wp2_with fail
        go_roundw
        case rel => exact ⟨k + 1, A8, c8, HLT.out, by rw [HS.out, if_pos HE.out], by go_num, by rw [HS.out, if_pos HE.out]; exact HO.out, HB.out⟩
        case measure => have := HLT.out; simp [intOf]; omega
      · have heb : (y == g) = false := by simp [he]
        have HF := Lib.hid (show (fil to g k).length + 1 = (fil to g (k + 1)).length from by rw [HS.out, if_neg he]; simp)
        have HE := Lib.hid he
        obtain ⟨L, hL⟩ : ∃ L, fil to g k = L := ⟨_, rfl⟩
        have HL := Lib.hid hL
        rw [hL] at HO HF hfl HS ⊢
        obtain ⟨n, hn⟩ : ∃ n, L.length = n := ⟨_, rfl⟩
        have HN := Lib.hid hn
        rw [hn] at HO HF hfl ⊢
        clear hL hn
        go_wp2_with (first
        | ((with_reducible show wpList _ _ _ (⟨some 27, _, _, _, _, _⟩ :: _) _ _)
           have hown2 := HO.out.below ((Below.refl wr.heap.size wr).alloc (Nat.le_refl _) (.cells #[.int .i64 y] 3))
           have hcell2 : ∀ j, j < ([y] : List Int).length → (wr.alloc (.cells #[.int .i64 y] 3)).cell? ⟨wr.heap.size, 0 + j, none⟩ = some (.int .i64 (at0 [y] j)) := fun j hj => by
             obtain rfl : j = 0 := by simpa using hj
             exact (Is.new wr 3 #[.int .i64 y]).cell 0
           have hbase2 : W.heap.size ≤ (wr.alloc (.cells #[.int .i64 y] 3)).heap.size := by simp; omega
           go_loud (refine app_il (.tmp 24) (.tmp 26) rfl rfl (n := n) (base := W.heap.size) (v := .slice A8 n c8) (xs := L) (l := [y]) rfl hown2 HN.out rfl rfl hcell2 (by omega) hbase2 ?_ (by omega))
           clear hown2 hcell2 hbase2
           intro g6 c6 w6 ho6 hg6
           have hb6 : Below W.heap.size W w6 := (HB.out.alloc hbz _).grown hg6 (by simp; omega) (fun q hq => (World.ownsRow.lt HO.out q hq).1)
           have HO6 := Lib.hid ho6; have HB6 := Lib.hid hb6
           clear ho6 hg6 hb6))
        go_roundw
        case rel => exact ⟨k + 1, _, c6, HLT.out, by rw [← HF.out], by go_num, by rw [← HF.out, HS.out, if_neg HE.out]; exact HO6.out, HB6.out⟩
        case measure => have := HLT.out; simp [intOf]; omega
    · obtain rfl : k = to.length := by omega
      have hge : ¬ (to.length : Int) < (to.length : Int) := by omega
      rw [HF0.out]
      have h6b := H6.out.below HB.out H6.out.lt
      have z0 := h6b.cell 0
      have zf := h6b.free 0
      have zl := h6b.lt
      simp at z0
      have HBA := Lib.hid (HB0.out.trans (HB.out.mono HB0.out.size))
      go_wp2_with fail
      refine bodyPost_ret (v := .tuple #[.agg #[.slice none 0 0], .int .i64 1]) (by simp [results, Try.results69, go_sem, z0]) rfl ⟨rfl, ?_⟩
      have ob := HBA.out
      repeat' first | with_reducible exact ob | with_reducible apply Below.setCell
      all_goals simp
def WpRel (W : World) (gc cc gt : Nat) (left l : List Int) (g : Int) (v12 v40 : Value) (wr : World) : Prop := ∃ k, k ≤ l.length ∧ v12 = .int .i64 (cnt l g k : Int) ∧ v40 = .int .i64 (k : Nat) ∧ OwnI wr W.heap.size (.slice (some ⟨gc, 0, none⟩) l.length cc) (wst left g l k) ∧ Is wr gt 111 #[.slice (some ⟨gc, 0, none⟩) l.length cc] ∧ Below W.heap.size W wr
theorem OwnI.row {w : World} {base gc n cc : Nat} {l : List Int} (h : OwnI w base (.slice (some ⟨gc, 0, none⟩) n cc) l) (hl : l.length = n) : w.ownsRow base 3 1 (.slice (some ⟨gc, 0, none⟩) n cc) n (i64s l) := by
  unfold OwnI at h
  rwa [hl] at h
theorem OwnI.put {w : World} {base gc n cc k : Nat} {l : List Int} (h : OwnI w base (.slice (some ⟨gc, 0, none⟩) n cc) l) (u : Int) (hl : (l.set k u).length = n) : OwnI (w.setCell ⟨gc, k, none⟩ (.int .i64 u)) base (.slice (some ⟨gc, 0, none⟩) n cc) (l.set k u) := by
  have := (World.ownsRow.stored (h.row (by rw [List.length_set] at hl; exact hl)) k (.int .i64 u)).1
  rw [i64s_set] at this
  unfold OwnI
  rw [hl]; exact this
set_option maxHeartbeats 1000000 in
theorem pwithout_some (b0 off0 c : Nat) (l : List Int) (B : Option Addr) (d : Nat) (to : List Int) (g : Int) (w : World) (hl : Ints w w.heap.size (some ⟨b0, off0, none⟩) l) (hl0 : 0 < l.length) (hml : l.length ≤ 4096) (ht : Ints w w.heap.size B to) (hmt : to.length ≤ 100) (hf : 0 < (fil to g to.length).length) :
    Calls Try.prog 69 #[.agg #[.slice (some ⟨b0, off0, none⟩) l.length c], .int .i64 g, .slice B to.length d] w fun e w' => ∃ g' c', e = .returned (.tuple #[.agg #[.slice (some ⟨g', 0, none⟩) l.length c'], .int .i64 0]) ∧ OwnI w' w.heap.size (.slice (some ⟨g', 0, none⟩) l.length c') (wst (fil to g to.length) g l l.length) ∧ Below w.heap.size w w' := by
  have hb0 : Below w.heap.size w ((w.alloc (.cells #[.slice (some ⟨b0, off0, none⟩) l.length c] 111)).alloc (.cells #[.slice none 0 0] 111)) := ((Below.refl _ _).alloc (Nat.le_refl _) _).alloc (by simp) _
  have h3 := (Is.new w 111 #[.slice (some ⟨b0, off0, none⟩) l.length c]).alloc (.cells #[.slice none 0 0] 111)
  have h6 := Is.new (w.alloc (.cells #[.slice (some ⟨b0, off0, none⟩) l.length c] 111)) 111 #[.slice none 0 0]
  have hs6 : (w.alloc (.cells #[.slice (some ⟨b0, off0, none⟩) l.length c] 111)).heap.size = w.heap.size + 1 := by simp
  rw [hs6] at h6
  clear hs6
  go_enter Try.func69, Try.ntmps69
  go_wp2_with fail
  generalize (w.alloc (.cells #[.slice (some ⟨b0, off0, none⟩) l.length c] 111)).alloc (.cells #[.slice none 0 0] 111) = W at *
  have HT := Lib.hid (show Ints W W.heap.size B to from (ht.below hb0).more hb0.size)
  have HF0 := Lib.hid hf; have HWW := Lib.hid (Nat.le_refl W.heap.size); have H3 := Lib.hid h3; have H6 := Lib.hid h6; have HB0 := Lib.hid hb0
  have HA := Lib.hid (show Ints W W.heap.size (some ⟨b0, off0, none⟩) l from (hl.below hb0).more hb0.size)
  clear ht hf h3 h6 hb0 hl
  go_loopw [8, 17] (fun v8 v9 wr => FiRel W to g v8 v9 wr) (fun _ v _ => (to.length - intOf v).toNat)
  case atStart => exact ⟨0, none, 0, Nat.zero_le _, rfl, rfl, OwnI.nil _ _, Below.refl _ _⟩
  case round =>
    obtain ⟨k, A8, c8, hk, rfl, rfl, ho, hb⟩ := hrel
    have HB := Lib.hid hb; have HO := Lib.hid ho
    have hbz : W.heap.size ≤ wr.heap.size := hb.size
    have hfl := fil_le to g k
    clear hb ho
    by_cases hlt : k < to.length
    · obtain ⟨b, off, rfl, hbl, hc⟩ := HT.out.cells (by omega)
      have d0 := (HB.out.cell (p := ⟨b, off + k, none⟩) (Nat.lt_of_lt_of_le hbl HWW.out)).trans (hc k hlt)
      have hltz : (k : Int) < (to.length : Int) := by omega
      have k0 : (0 : Int) ≤ (k : Int) := by omega
      have HLT := Lib.hid hlt
      have HS := Lib.hid (show fil to g (k + 1) = if at0 to k = g then fil to g k else fil to g k ++ [at0 to k] from rfl)
      clear hc hlt
      generalize at0 to k = y at *
      by_cases he : y = g
      · have heb : (y == g) = true := by simp [he]
        have HE := Lib.hid he
        clear he
        go_wp2_with fail
        go_roundw
        case rel => exact ⟨k + 1, A8, c8, HLT.out, by rw [HS.out, if_pos HE.out], by go_num, by rw [HS.out, if_pos HE.out]; exact HO.out, HB.out⟩
        case measure => have := HLT.out; simp [intOf]; omega
      · have heb : (y == g) = false := by simp [he]
        have HF := Lib.hid (show (fil to g k).length + 1 = (fil to g (k + 1)).length from by rw [HS.out, if_neg he]; simp)
        have HE := Lib.hid he
        obtain ⟨L, hL⟩ : ∃ L, fil to g k = L := ⟨_, rfl⟩
        have HL := Lib.hid hL
        rw [hL] at HO HF hfl HS ⊢
        obtain ⟨n, hn⟩ : ∃ n, L.length = n := ⟨_, rfl⟩
        have HN := Lib.hid hn
        rw [hn] at HO HF hfl ⊢
        clear hL hn
        go_wp2_with (first
        | ((with_reducible show wpList _ _ _ (⟨some 27, _, _, _, _, _⟩ :: _) _ _)
           have hown2 := HO.out.below ((Below.refl wr.heap.size wr).alloc (Nat.le_refl _) (.cells #[.int .i64 y] 3))
           have hcell2 : ∀ j, j < ([y] : List Int).length → (wr.alloc (.cells #[.int .i64 y] 3)).cell? ⟨wr.heap.size, 0 + j, none⟩ = some (.int .i64 (at0 [y] j)) := fun j hj => by
             obtain rfl : j = 0 := by simpa using hj
             exact (Is.new wr 3 #[.int .i64 y]).cell 0
           have hbase2 : W.heap.size ≤ (wr.alloc (.cells #[.int .i64 y] 3)).heap.size := by simp; omega
           go_loud (refine app_il (.tmp 24) (.tmp 26) rfl rfl (n := n) (base := W.heap.size) (v := .slice A8 n c8) (xs := L) (l := [y]) rfl hown2 HN.out rfl rfl hcell2 (by omega) hbase2 ?_ (by omega))
           clear hown2 hcell2 hbase2
           intro g6 c6 w6 ho6 hg6
           have hb6 : Below W.heap.size W w6 := (HB.out.alloc hbz _).grown hg6 (by simp; omega) (fun q hq => (World.ownsRow.lt HO.out q hq).1)
           have HO6 := Lib.hid ho6; have HB6 := Lib.hid hb6
           clear ho6 hg6 hb6))
        go_roundw
        case rel => exact ⟨k + 1, _, c6, HLT.out, by rw [← HF.out], by go_num, by rw [← HF.out, HS.out, if_neg HE.out]; exact HO6.out, HB6.out⟩
        case measure => have := HLT.out; simp [intOf]; omega
    · obtain rfl : k = to.length := by omega
      have hge : ¬ (to.length : Int) < (to.length : Int) := by omega
      obtain ⟨left, hleft⟩ : ∃ left, fil to g to.length = left := ⟨_, rfl⟩
      have HLF := Lib.hid hleft
      rw [hleft] at HO HF0 hfl ⊢
      clear hleft
      have hlf := HF0.out
      have hn0 : ((left.length : Int) == 0) = false := by rw [beq_eq_false_iff_ne]; omega
      have hn1 : ¬ (left.length : Int) = 0 := by omega
      have hn2 : ¬ left.length = 0 := by omega
      have h3b := H3.out.below HB.out H3.out.lt
      have h6b := H6.out.below HB.out H6.out.lt
      have t0 := h3b.cell 0
      simp at t0
      have H6 := Lib.hid h6b
      have HLI := Lib.hid (HO.out.ints rfl)
      have HBA := Lib.hid (HB0.out.trans (HB.out.mono HB0.out.size))
      have HAL := Lib.hid (show Ints wr wr.heap.size (some ⟨b0, off0, none⟩) l from (HA.out.below HB.out).more HB.out.size)
      clear h3b h6b
      rename World => wq
      go_wp2_with fail
      refine (clone_i _ _ _ l wq HAL.out hl0 (by omega)).mono ?_
      rintro e w1 ⟨gc, cc, rfl, hoc, hbc⟩
      have HOC := Lib.hid hoc; have HBC := Lib.hid hbc
      clear hoc hbc
      go_wp2_with fail
      go_loopw [12, 40] (fun v12 v40 wr => WpRel wq gc cc w1.heap.size left l g v12 v40 wr) (fun _ v _ => (l.length - intOf v).toNat)
      case atStart => exact ⟨0, Nat.zero_le _, rfl, rfl, by rw [wst_zero]; exact World.ownsRow.alloc HOC.out _, Is.new _ _ _, HBC.out.alloc HBC.out.size _⟩
      case round =>
        obtain ⟨k, hk, rfl, rfl, ho, hi, hb⟩ := hrel
        have hgc := (World.ownsRow.lt HOC.out gc rfl)
        have HBX := Lib.hid hb; have HOX := Lib.hid ho; have HI := Lib.hid hi; have HGC := Lib.hid hgc
        have hcn := cnt_le l g k
        have c0 := hi.cell 0
        have cl := hi.lt
        simp at c0
        clear ho hi hb hgc
        by_cases hlt : k < l.length
        · obtain ⟨b8, off8, rfl, hbl8, hc8⟩ := HLI.out.cells hlf
          have hmod : cnt l g k % left.length < left.length := Nat.mod_lt _ hlf
          have d8 := (HBX.out.cell (p := ⟨b8, off8 + cnt l g k % left.length, none⟩) hbl8).trans (hc8 _ hmod)
          have k0 : (0 : Int) ≤ (k : Int) := by omega
          have k1 : (k : Int) < (l.length : Int) := by omega
          have e0 := ((HOX.out.row (wst_len _ _ _ _)).cellAt k (by omega)).trans (i64s_get (by rw [wst_len]; exact hlt))
          rw [wst_at hlt, if_neg (Nat.lt_irrefl k)] at e0
          have ef := (HOX.out.row (wst_len _ _ _ _)).frozenAt k
          have HLT := Lib.hid hlt
          have HCS := Lib.hid (show cnt l g (k + 1) = cnt l g k + (if at0 l k = g then 1 else 0) from rfl)
          have HW := Lib.hid (show wof left g l k = if at0 l k = g then at0 left (cnt l g k % left.length) else at0 l k from rfl)
          have hrem : (cnt l g k : Int).tmod (left.length : Int) = ((cnt l g k % left.length : Nat) : Int) := by rw [Int.tmod_eq_emod_of_nonneg (by omega)]; rfl
          have hwr : IntKind.i64.wrap ((cnt l g k % left.length : Nat) : Int) = ((cnt l g k % left.length : Nat) : Int) := IntWalk.i64_in _ (by omega)
          have m0 : (0 : Int) ≤ (cnt l g k : Int) % (left.length : Int) := by omega
          have m1 : (cnt l g k : Int) % (left.length : Int) < (left.length : Int) := by omega
          have d1 : wr.cell? ⟨b8, off8 + ((cnt l g k : Int) % (left.length : Int)).toNat, none⟩ = some (.int .i64 (at0 left (cnt l g k % left.length))) := by rw [show ((cnt l g k : Int) % (left.length : Int)).toNat = cnt l g k % left.length from by omega]; exact d8
          have HST := Lib.hid (HOX.out.put (k := k) (wof left g l k) (by rw [List.length_set, wst_len]))
          rw [wst_step hlt] at HST
          have HKP := Lib.hid (show at0 l k ≠ g → wst left g l k = wst left g l (k + 1) from wst_keep hlt)
          clear hc8 hlt
          generalize at0 left (cnt l g k % left.length) = z at *
          generalize at0 l k = y at *
          generalize wof left g l k = u at *
          by_cases he : y = g
          · have heb : (y == g) = true := by simp [he]
            obtain rfl : u = z := by rw [HW.out, if_pos he]
            have HE := Lib.hid he
            clear he
            go_wp2_with fail
            go_still_tail 11, (by kernel_rfl)
            change wpList _ _ _ _ _ wr.drew
            go_wp2_with fail
            go_roundw
            case rel => exact ⟨k + 1, HLT.out, by rw [HCS.out, if_pos HE.out]; go_num, by go_num, HST.out, (HI.out.other (by have := HGC.out.2; simp; omega) _).drew, (HBX.out.setCell HGC.out.1 _).drew⟩
            case measure => have := HLT.out; simp [intOf]; omega
          · have heb : (y == g) = false := by simp [he]
            go_wp2_with fail
            go_roundw
            case rel => exact ⟨k + 1, HLT.out, by rw [HCS.out, if_neg he]; go_num, by go_num, by rw [← HKP.out he]; exact HOX.out, HI.out, HBX.out⟩
            case measure => have := HLT.out; simp [intOf]; omega
        · obtain rfl : k = l.length := by omega
          have hge2 : ¬ (l.length : Int) < (l.length : Int) := by omega
          have h6b := H6.out.below HBX.out H6.out.lt
          have z0 := h6b.cell 0
          have zf := h6b.free 0
          have zl := h6b.lt
          simp at z0
          go_wp2_with fail
          refine bodyPost_ret (v := .tuple #[.agg #[.slice (some ⟨gc, 0, none⟩) l.length cc], .int .i64 0]) (by simp [results, Try.results69, go_sem, z0]) rfl ⟨gc, cc, rfl, ?_, ?_⟩
          · rw [HLF.out]; exact OwnI.lower (own_set HOX.out (by have := HGC.out.1; have := H6.out.lt; simp [Value.ownBlock]; omega) _) HBA.out.size
          · exact (HBA.out.trans (HBX.out.mono HBA.out.size)).setCell (by simp) _
end Go.Proofs.Ytkebgkjopfdafaa
