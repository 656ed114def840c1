/-
  SumKeeps (P2.3) answers true and leaves its arguments as they were, for all bytes, places and words: bytes with a right checksum stay right if a word is replaced, and the checksum by what Update tells. No condition.
-/
import Derived.Test.YtpamngeachienaaRows
import Derived.WalkKit
import Derived.ProofKit
import Derived.OpenShut
import Derived.ShutString
import Derived.ChangeOld
import Derived.Below
import Derived.Test.YtpamngeachienaaSum
import Derived.OwnWalk
import Derived.Outline
namespace Go.Proofs.Ytpamngeachienaa.sumKeeps
open Go.ChangeShapes Go.WideShapes Go.ChangeAt Go.RowKit
open Go.ChangeMaps (open_string shut_string)
open Go.Proofs.Ytpamngeachienaa
set_option linter.unusedVariables false

theorem own : ownKnob Try.prog.godebug = none := by kernel_rfl
theorem laidOut : laidOutB Try.prog = true := by kernel_rfl

/-! ### Plain mathematics: one word of a row of bytes becomes another -/
theorem run_add (l : List Int) : ∀ (n : Int) (h : Bool), l.foldl stepT (n, h) = (n + (l.foldl stepT (0, h)).1, (l.foldl stepT (0, h)).2) := by
  induction l with
  | nil => intro n h; simp
  | cons x l ih =>
    intro n h
    rw [List.foldl_cons, List.foldl_cons]
    cases h
    · rw [show stepT (n, false) x = (n + x, true) from rfl, show stepT (0, false) x = (0 + x, true) from rfl, ih (n + x), ih (0 + x)]
      simp only [Prod.mk.injEq, and_true]; omega
    · rw [show stepT (n, true) x = (n + x * 256, false) from rfl, show stepT (0, true) x = (0 + x * 256, false) from rfl, ih (n + x * 256), ih (0 + x * 256)]
      simp only [Prod.mk.injEq, and_true]; omega
theorem tot_mid (pre post : List Int) (x y : Int) (hp : pre.length % 2 = 0) : (tot (pre ++ x :: y :: post)).1 = (tot pre).1 + (x * 256 + y) + (tot post).1 := by
  have h2 := tot_par pre
  rw [hp] at h2
  unfold tot at *
  rw [List.foldl_append, List.foldl_cons, List.foldl_cons]
  generalize List.foldl stepT (0, true) pre = q at *
  obtain ⟨P, hq⟩ := q
  simp at h2
  subst h2
  rw [show stepT (stepT (P, true) x) y = (P + x * 256 + y, true) from rfl, run_add post]
  simp only; omega
theorem split_at {l : List Int} {k : Nat} (h : k + 1 < l.length) : l = l.take k ++ at0 l k :: at0 l (k + 1) :: l.drop (k + 2) := by
  conv => lhs; rw [← List.take_append_drop k l]
  rw [drop_at0 (show k < l.length by omega), drop_at0 h]
def put2 (l : List Int) (k : Nat) (x y : Int) : List Int := (l.set k x).set (k + 1) y
theorem put2_len (l : List Int) (k : Nat) (x y : Int) : (put2 l k x y).length = l.length := by simp [put2]
theorem put2_eq {l : List Int} {k : Nat} {x y : Int} (h : k + 1 < l.length) : put2 l k x y = l.take k ++ x :: y :: l.drop (k + 2) := by
  unfold put2
  apply List.ext_getElem?
  intro i
  rw [List.getElem?_set, List.getElem?_set]
  by_cases h1 : k + 1 = i
  · subst h1
    rw [if_pos rfl, if_pos (by simpa using h), List.getElem?_append_right (by simp; omega), List.length_take, Nat.min_eq_left (by omega), show k + 1 - k = 1 from by omega]; rfl
  · rw [if_neg h1]
    by_cases h2 : k = i
    · subst h2
      rw [if_pos rfl, if_pos (by omega), List.getElem?_append_right (by simp; omega), List.length_take, Nat.min_eq_left (by omega), Nat.sub_self]; rfl
    · rw [if_neg h2]
      by_cases h3 : i < k
      · rw [List.getElem?_append_left (by simp; omega), List.getElem?_take, if_pos h3]
      · rw [List.getElem?_append_right (by simp; omega), List.length_take, Nat.min_eq_left (by omega)]
        obtain ⟨j, rfl⟩ : ∃ j, i = k + 2 + j := ⟨i - k - 2, by omega⟩
        rw [show k + 2 + j - k = j + 2 from by omega]
        simp only [List.getElem?_cons_succ, List.getElem?_drop]
theorem tot_put2 {l : List Int} {k : Nat} {x y : Int} (h : k + 1 < l.length) (hk : k % 2 = 0) : (tot (put2 l k x y)).1 = (tot l).1 - (at0 l k * 256 + at0 l (k + 1)) + (x * 256 + y) := by
  have hp : (l.take k).length % 2 = 0 := by rw [List.length_take, Nat.min_eq_left (by omega)]; exact hk
  rw [put2_eq h, tot_mid _ _ _ _ hp]
  conv => rhs; rw [split_at h, tot_mid _ _ _ _ hp]
  rw [← split_at h]; omega
theorem octets_put2 {l : List Int} {k : Nat} {x y : Int} (h : Octets l) (hx : 0 ≤ x ∧ x ≤ 255) (hy : 0 ≤ y ∧ y ≤ 255) : Octets (put2 l k x y) := fun i => by
  have := h i
  unfold put2 at0 at *
  rw [List.getD_eq_getElem?_getD] at *
  rw [List.getElem?_set, List.getElem?_set]
  by_cases h1 : k + 1 = i
  · rw [if_pos h1]; split <;> simp <;> omega
  · rw [if_neg h1]
    by_cases h2 : k = i
    · rw [if_pos h2]; split <;> simp <;> omega
    · rw [if_neg h2]; exact this
/-- Bytes that are right stay so, if a word becomes another one and their checksum what Update tells. -/
theorem keeps_math {T0 T1 was now : Int} (hT0 : 0 < T0) (hT1 : 0 < T1) (h : T1 = T0 - was + now) (h0 : 0 ≤ was) (h1 : was ≤ 65535) (h2 : 0 ≤ now) (h3 : now ≤ 65535) :
    fold16 (T1 + upd (65535 - fold16 T0) was now) = 65535 := by
  unfold upd
  rw [show 65535 - (65535 - fold16 T0) + (65535 - was) + now = fold16 T0 + (65535 - was + now) from by omega, fold16_add (by omega) (by omega), show T0 + (65535 - was + now) = T1 + 65535 from by omega]
  unfold fold16
  split <;> split <;> omega
theorem fold_zero {T : Int} (h : 0 ≤ T) (hs : fold16 T ≠ 0) : 0 < T := by
  apply Decidable.byContradiction; intro hn
  have : T = 0 := by omega
  subst this; exact hs rfl

theorem rem_bd (b d : Int) (h : 0 < d) (hb : 0 ≤ b) : 0 ≤ b % d ∧ b % d < d := ⟨Int.emod_nonneg _ (by omega), Int.emod_lt_of_pos _ h⟩
/-! ### The walk -/
def u8s (l : List Int) : List Value := l.map fun n => .int .u8 n
theorem u8s_set (l : List Int) (k : Nat) (x : Int) : (u8s l).set k (.int .u8 x) = u8s (l.set k x) := by unfold u8s; rw [List.map_set]
theorem u8s_get {l : List Int} {k : Nat} (h : k < l.length) : (u8s l)[k]? = some (.int .u8 (at0 l k)) := by simp [u8s, at0, List.getD, h]
theorem bytes_own {w : World} {base g n cap : Nat} {l : List Int} (h : w.ownsRow base 5 1 (.slice (some ⟨g, 0, none⟩) n cap) n (u8s l)) (hn : l.length = n) : Bytes w w.heap.size (some ⟨g, 0, none⟩) l := by
  subst hn
  exact arr_of_own h fun i j hi hj => by
    obtain rfl : j = 0 := by omega
    simpa using u8s_get hi
theorem info8 : (Try.prog.info? 5).map (fun i => (i.zero, i.size, i.bytes)) = some (some (.int .u8 0), 1, 1) := by kernel_rfl
theorem u8s_one (l : List Int) : ∀ u ∈ u8s l, u.oneCell' = true := fun u hu => by
  simp only [u8s, List.mem_map] at hu
  obtain ⟨x, _, rfl⟩ := hu
  rfl
theorem news_cells {w : World} {b off : Nat} {l : List Int} {n : Nat} (hc : ∀ k, k < l.length → w.cell? ⟨b, off + k, none⟩ = some (.int .u8 (at0 l k))) (hn : n ≤ l.length) : ∀ j u, (u8s (l.take n))[j]? = some u → w.cell? ((⟨b, off, none⟩ : Addr).add j) = some u := fun j u hu => by
  have hj : j < n := by
    apply Decidable.byContradiction; intro hjn
    rw [List.getElem?_eq_none (by simp [u8s]; omega)] at hu; cases hu
  have h1 := hc j (by omega)
  have : u = .int .u8 (at0 l j) := by
    have h2 : (u8s (l.take n))[j]? = some (.int .u8 (at0 l j)) := by simp [u8s, at0, List.getD, hj, show j < l.length by omega]
    rw [h2] at hu; injection hu with hu; exact hu.symm
  subst this
  rw [← h1]; unfold Addr.add
  by_cases h0 : j = 0
  · subst h0; simp
  · rw [if_neg h0]

set_option maxRecDepth 100000 in
set_option maxHeartbeats 4000000 in
theorem walk (A : Option Addr) (c : Nat) (l : List Int) (at_ now : Int) (w : World) (h : Bytes w w.heap.size A l) (ho : Octets l) (hm : l.length ≤ maxLen) (hcap : l.length ≤ c) (a0 : 0 ≤ at_) (a1 : at_ ≤ 65535) (b0 : 0 ≤ now) (b1 : now ≤ 65535) :
    Calls Try.prog 6 #[.slice A l.length c, .int .u16 at_, .int .u16 now] w fun e w' => e = .returned (.bool true) ∧ Below w.heap.size w w' := by
  unfold maxLen at hm
  have HA := Lib.hid h
  have HO := Lib.hid ho
  clear h ho
  by_cases h1 : 2000 < l.length
  · go_enter Try.func6, Try.ntmps6
    go_wp2_with fail
    refine (awake02 _).mono ?_
    rintro e w0 ⟨rfl, hb⟩
    go_wp2_with fail
    go_ret
    exact ⟨rfl, hb⟩
  by_cases h2 : l.length < 4
  · go_enter Try.func6, Try.ntmps6
    go_wp2_with fail
    refine (awake02 _).mono ?_
    rintro e w0 ⟨rfl, hb⟩
    go_wp2_with fail
    go_ret
    exact ⟨rfl, hb⟩
  obtain ⟨b, off, rfl, hbl, hc⟩ := HA.out.cells (by omega)
  obtain ⟨i0, hi0, hz0, hz1, hz2⟩ := info_parts info8
  have hnews := news_cells (w := w.alloc (.cells #[] 5)) (b := b) (off := off) (n := l.length / 2 * 2) (fun k hk => (World.cell?_alloc_lt w _ ⟨b, _, none⟩ hbl).trans (hc k hk)) (by omega)
  have HN := Lib.hid hnews
  clear hnews hc
  go_enter Try.func6, Try.ntmps6
  go_wp2_with (first
    | (at_builtin
       refine wpList_append_lies _ rfl (.tmp 20) (.tmp 26) 22 rfl w.heap.size 5 i0 _ 1 1 Try.underlying22 hi0 hz0 hz1 hz2 rfl (by omega) (.slice (some ⟨w.heap.size, 0, none⟩) 0 0) 0 [] rfl
         (World.ownsRow_made w #[] 0 (Nat.le_refl _) (by unfold maxLen; omega) rfl) ⟨b, off, none⟩ (l.length / 2 * 2) c (u8s (l.take (l.length / 2 * 2))) rfl (by simp [u8s]; omega) HN.out (u8s_one _) (by omega) (by unfold maxLen; omega) (by omega) (by simp) (w.heap.size + 1) (by simp) ?_
       intro g cap w1 own1 grow1 at1 lt1
       have hgw : w.heap.size ≤ g := by
         rcases at1 with h | h
         · simp [Value.ownBlock] at h; omega
         · omega
       have hb1 : Below w.heap.size w w1 := ((Below.refl _ _).alloc (Nat.le_refl _) _).grown grow1 (by simp) (fun k hk => by simp [Value.ownBlock] at hk; omega)
       have hl : (l.take (l.length / 2 * 2)).length = l.length / 2 * 2 := by rw [List.length_take]; omega
       rw [List.nil_append, Nat.zero_add] at own1
       have OWN1 := Lib.hid own1
       have HB1 := Lib.hid hb1
       have HL := Lib.hid hl
       have c0 : w1.cell? ⟨g, 0, none⟩ = some (.int .u8 (at0 (l.take (l.length / 2 * 2)) 0)) := (own1.cellAt 0 (by omega)).trans (u8s_get (by omega))
       have c1 : w1.cell? ⟨g, 1, none⟩ = some (.int .u8 (at0 (l.take (l.length / 2 * 2)) 1)) := (own1.cellAt 1 (by omega)).trans (u8s_get (by omega))
       have f0 := own1.frozenAt 0
       have f1 := own1.frozenAt 1
       obtain ⟨q0, q1⟩ := rem_bd at_ ((l.length : Int) / 2 - 1) (by omega) a0
       obtain ⟨K, hK⟩ := Int.eq_ofNat_of_zero_le (show 0 ≤ 2 + at_ % ((l.length : Int) / 2 - 1) * 2 by omega)
       have hK2 : K + 1 < l.length / 2 * 2 := by omega
       have hKe : Hid (K % 2 = 0 ∧ 2 ≤ K) := by show K % 2 = 0 ∧ 2 ≤ K; omega
       clear own1 hb1 hl grow1 at1 HN))
  have HT := Lib.hid (octets_take HO.out (l.length / 2 * 2))
  generalize hL : l.take (l.length / 2 * 2) = L at *
  clear hL
  have hN : l.length / 2 * 2 ≤ 2000 := by omega
  have hN4 : 4 ≤ l.length / 2 * 2 := by omega
  generalize l.length / 2 * 2 = N at *
  have own2 := ((OWN1.out.stored 0 (.int .u8 0)).1.stored 1 (.int .u8 0)).1
  rw [u8s_set, u8s_set] at own2
  have hbX := (HB1.out.setCell (p := ⟨g, 0, none⟩) hgw (.int .u8 0)).setCell (p := ⟨g, 1, none⟩) hgw (.int .u8 0)
  have hL0 : (put2 L 0 0 0).length = N := by rw [put2_len]; exact HL.out
  have HOL := Lib.hid (octets_put2 (k := 0) HT.out (show 0 ≤ (0 : Int) ∧ (0 : Int) ≤ 255 by omega) (show 0 ≤ (0 : Int) ∧ (0 : Int) ≤ 255 by omega))
  have HP := Lib.hid (put2_eq (l := L) (k := 0) (x := 0) (y := 0) (by rw [HL.out]; omega))
  change (_ : World).ownsRow _ _ _ _ _ (u8s (put2 L 0 0 0)) at own2
  have hXs : ((w1.setCell ⟨g, 0, none⟩ (.int .u8 0)).setCell ⟨g, 1, none⟩ (.int .u8 0)).heap.size = w1.heap.size := by simp [World.setCell]
  generalize ((w1.setCell ⟨g, 0, none⟩ (.int .u8 0)).setCell ⟨g, 1, none⟩ (.int .u8 0)) = X at *
  generalize hL0e : put2 L 0 0 0 = L0 at *
  clear hL0e
  have hX3 : Is (X.alloc (.cells #[.slice (some ⟨g, 0, none⟩) N cap] 22)) w1.heap.size 22 #[.slice (some ⟨g, 0, none⟩) N cap] := by rw [← hXs]; exact Is.new _ _ _
  clear hXs
  have ownX := own2.alloc (.cells #[.slice (some ⟨g, 0, none⟩) N cap] 22)
  have hof := of_any (some ⟨w1.heap.size, 0, none⟩) 1 [⟨some ⟨g, 0, none⟩, cap, L0⟩] _ _ (parts_one (p := ⟨some ⟨g, 0, none⟩, cap, L0⟩) (by simp only [hL0]; exact hX3) (bytes_own ownX hL0) HOL.out) (by simp) (by rw [joined_one]; show L0.length ≤ _; omega) (by rw [joined_one]; exact HOL.out)
  rw [joined_one] at hof
  have hbY := hbX.alloc hbX.size (.cells #[.slice (some ⟨g, 0, none⟩) N cap] 22)
  have HOF := hide hof
  have OWN := Lib.hid ownX
  have HBY := Lib.hid hbY
  have HL0 := Lib.hid hL0
  clear hof own2 ownX hX3 hbX hbY hL0 c0 c1 f0 f1 OWN1 HB1 HT HL
  refine (unhide HOF).mono ?_
  rintro e w' ⟨rfl, rfl⟩
  generalize X.alloc (.cells #[.slice (some ⟨g, 0, none⟩) N cap] 22) = Y at *
  obtain ⟨s0, s1⟩ := sumOf_bd L0
  by_cases hs : sumOf L0 = 65535
  · rw [hs]
    have hzY := HBY.out.size
    go_wp2_with fail
    refine (awake02 _).mono ?_
    rintro e wz ⟨rfl, hbz⟩
    go_wp2_with fail
    go_ret
    exact ⟨rfl, HBY.out.trans (hbz.mono hzY)⟩
  have hsb : (sumOf L0 == 65535) = false := by rw [beq_eq_false_iff_ne]; exact hs
  have d0 := (OWN.out.cellAt K (by omega)).trans (u8s_get (by rw [HL0.out]; omega))
  have d1 := (OWN.out.cellAt (K + 1) (by omega)).trans (u8s_get (by rw [HL0.out]; omega))
  obtain ⟨x0, x1⟩ := HOL.out K
  obtain ⟨y0, y1⟩ := HOL.out (K + 1)
  have fk0 := OWN.out.frozenAt K
  have fk1 := OWN.out.frozenAt (K + 1)
  generalize hx : at0 L0 K = x at *
  generalize hy : at0 L0 (K + 1) = y at *
  have HX := Lib.hid hx
  have HY := Lib.hid hy
  clear hx hy
  have kb0 : (0 : Int) ≤ (K : Int) := by omega
  have kb1 : (K : Int) < (N : Int) := by omega
  have kb2 : (0 : Int) ≤ (K : Int) + 1 := by omega
  have kb3 : (K : Int) + 1 < (N : Int) := by omega
  have hor : bits .or .u16 (x * 256) y = x * 256 + y := by
    rw [u16_or _ _ (by omega) (by omega) (by omega) (by omega), nat_join 8 _ _ (by omega) (by omega)]; omega
  have hwr : IntKind.u16.wrap (x * 256) = x * 256 := IntWalk.u16_in _ (by omega)
  go_wp2_with fail
  go_quiet (fail)
  go_wp2_with fail
  have hu8 : IntKind.u8.wrap now = now % 256 := IntKind.wrap_u8' _
  refine (update_any _ _ _ _ s0 s1 (by omega) (by omega) b0 b1).mono ?_
  rintro e w' ⟨rfl, rfl⟩
  obtain ⟨t0, t1⟩ := upd_bd (sumOf L0) (x * 256 + y) now
  have OWNd : (Y.drewN nq).ownsRow w.heap.size 5 1 (.slice (some ⟨g, 0, none⟩) N cap) N (u8s L0) := OWN.out
  have own2 := ((OWNd.stored K (.int .u8 (now / 256))).1.stored (K + 1) (.int .u8 (now % 256))).1
  rw [u8s_set, u8s_set] at own2
  change (_ : World).ownsRow _ _ _ _ _ (u8s (put2 L0 K (now / 256) (now % 256))) at own2
  have hbX := ((below_drewN HBY.out nq).setCell (p := ⟨g, K, none⟩) hgw (.int .u8 (now / 256))).setCell (p := ⟨g, K + 1, none⟩) hgw (.int .u8 (now % 256))
  have hL1 : (put2 L0 K (now / 256) (now % 256)).length = N := by rw [put2_len]; exact HL0.out
  have HOL1 := Lib.hid (octets_put2 (k := K) HOL.out (show 0 ≤ now / 256 ∧ now / 256 ≤ 255 by omega) (show 0 ≤ now % 256 ∧ now % 256 ≤ 255 by omega))
  have hT1 : (tot (put2 L0 K (now / 256) (now % 256))).1 = (tot L0).1 - (x * 256 + y) + now := by
    rw [tot_put2 (by rw [HL0.out]; exact hK2) hKe.out.1, HX.out, HY.out]; omega
  have hz0 : at0 (put2 L0 K (now / 256) (now % 256)) 0 = 0 ∧ at0 (put2 L0 K (now / 256) (now % 256)) 1 = 0 := by
    have h2 := hKe.out.2
    have e0 : at0 L0 0 = 0 ∧ at0 L0 1 = 0 := by rw [← HP.out.symm]; exact ⟨rfl, rfl⟩
    constructor
    · rw [← e0.1]; unfold put2 at0; simp only [List.getD_eq_getElem?_getD]; rw [List.getElem?_set_ne (by omega), List.getElem?_set_ne (by omega)]
    · rw [← e0.2]; unfold put2 at0; simp only [List.getD_eq_getElem?_getD]; rw [List.getElem?_set_ne (by omega), List.getElem?_set_ne (by omega)]
  generalize hZ : (((Y.drewN nq).setCell ⟨g, K, none⟩ (.int .u8 (now / 256))).setCell ⟨g, K + 1, none⟩ (.int .u8 (now % 256))) = Z at *
  generalize put2 L0 K (now / 256) (now % 256) = L1 at *
  have HT1 := Lib.hid hT1
  have HZ0 := Lib.hid hz0
  have OWN2 := Lib.hid own2
  have HBX := Lib.hid hbX
  have HL1 := Lib.hid hL1
  clear hT1 hz0 own2 hbX hL1 OWNd
  generalize hu : upd (sumOf L0) (x * 256 + y) now = tt at *
  have HU := Lib.hid hu
  clear hu
  have HZ := Lib.hid hZ
  clear hZ
  go_wp2_with fail
  rw [HZ.out]
  clear HZ
  have hrof := rof_any (some ⟨g, 0, none⟩) cap L1 Z _ (bytes_own OWN2.out HL1.out) HOL1.out (by rw [HL1.out]; omega)
  rw [HL1.out] at hrof
  have HRO := hide hrof
  clear hrof d0 d1 fk0 fk1
  refine (unhide HRO).mono ?_
  rintro e w' ⟨rfl, rfl⟩
  have hzZ := HBX.out.size
  by_cases hs1 : sumOf L1 = 65535
  · rw [hs1]
    go_wp2_with fail
    refine (awake02 _).mono ?_
    rintro e wz ⟨rfl, hbz⟩
    go_wp2_with fail
    go_ret
    exact ⟨rfl, HBX.out.trans (hbz.mono hzZ)⟩
  have hsb1 : (sumOf L1 == 65535) = false := by rw [beq_eq_false_iff_ne]; exact hs1
  obtain ⟨r0, r1⟩ := sumOf_bd L1
  have e0 := (OWN2.out.cellAt 0 (by omega)).trans (u8s_get (by rw [HL1.out]; omega))
  have e1 := (OWN2.out.cellAt 1 (by omega)).trans (u8s_get (by rw [HL1.out]; omega))
  have g0 := OWN2.out.frozenAt 0
  have g1 := OWN2.out.frozenAt 1
  have hu8t : IntKind.u8.wrap tt = tt % 256 := IntKind.wrap_u8' _
  have own3 := ((OWN2.out.stored 0 (.int .u8 (tt / 256))).1.stored 1 (.int .u8 (tt % 256))).1
  rw [u8s_set, u8s_set] at own3
  change (_ : World).ownsRow _ _ _ _ _ (u8s (put2 L1 0 (tt / 256) (tt % 256))) at own3
  have hbV := (HBX.out.setCell (p := ⟨g, 0, none⟩) hgw (.int .u8 (tt / 256))).setCell (p := ⟨g, 1, none⟩) hgw (.int .u8 (tt % 256))
  have hVs : ((Z.setCell ⟨g, 0, none⟩ (.int .u8 (tt / 256))).setCell ⟨g, 1, none⟩ (.int .u8 (tt % 256))).heap.size = Z.heap.size := by simp [World.setCell]
  have hL2 : (put2 L1 0 (tt / 256) (tt % 256)).length = N := by rw [put2_len]; exact HL1.out
  have hO2 := octets_put2 (k := 0) HOL1.out (show 0 ≤ tt / 256 ∧ tt / 256 ≤ 255 by omega) (show 0 ≤ tt % 256 ∧ tt % 256 ≤ 255 by omega)
  have hT2 : (tot (put2 L1 0 (tt / 256) (tt % 256))).1 = (tot L1).1 + tt := by
    rw [tot_put2 (by rw [HL1.out]; omega) rfl, HZ0.out.1, HZ0.out.2]; omega
  have hgood : sumOf (put2 L1 0 (tt / 256) (tt % 256)) = 0 := by
    unfold sumOf
    rw [hT2, ← HU.out]
    have p0 : 0 < (tot L0).1 := fold_zero (tot_bd _ HOL.out).1 (by intro hh; apply hs; unfold sumOf; rw [hh]; rfl)
    have p1 : 0 < (tot L1).1 := fold_zero (tot_bd _ HOL1.out).1 (by intro hh; apply hs1; unfold sumOf; rw [hh]; rfl)
    have := keeps_math p0 p1 HT1.out (by omega) (by omega) b0 b1
    unfold sumOf
    rw [this]; rfl
  have ownV := own3.alloc (.cells #[.slice (some ⟨g, 0, none⟩) N cap] 22)
  have hV3 : Is (((Z.setCell ⟨g, 0, none⟩ (.int .u8 (tt / 256))).setCell ⟨g, 1, none⟩ (.int .u8 (tt % 256))).alloc (.cells #[.slice (some ⟨g, 0, none⟩) N cap] 22)) Z.heap.size 22 #[.slice (some ⟨g, 0, none⟩) N cap] := by rw [← hVs]; exact Is.new _ _ _
  have hrt := right_yes (some ⟨Z.heap.size, 0, none⟩) 1 [⟨some ⟨g, 0, none⟩, cap, put2 L1 0 (tt / 256) (tt % 256)⟩] _ _ (parts_one (p := ⟨some ⟨g, 0, none⟩, cap, put2 L1 0 (tt / 256) (tt % 256)⟩) (by simp only [hL2]; exact hV3) (bytes_own ownV hL2) hO2) (by simp) (by rw [joined_one]; show (put2 L1 0 (tt / 256) (tt % 256)).length ≤ _; omega) (by rw [joined_one]; exact hO2) (by rw [joined_one]; exact hgood)
  have HRT := hide hrt
  have HBV := Lib.hid (hbV.alloc hbV.size (.cells #[.slice (some ⟨g, 0, none⟩) N cap] 22))
  clear hrt own3 hbV hVs hL2 hO2 hT2 hgood ownV hV3
  go_wp2_with fail
  refine (unhide HRT).mono ?_
  rintro e w' ⟨rfl, rfl⟩
  have hzV := HBV.out.size
  go_wp2_with fail
  refine (awake02 _).mono ?_
  rintro e wz ⟨rfl, hbz⟩
  go_wp2_with fail
  go_ret
  exact ⟨rfl, HBV.out.trans (hbz.mono hzV)⟩

/-! ### The step from the walk to the row -/
set_option maxRecDepth 100000 in
theorem lifted (os : Os) (started : os.Started) (H : Type) (enc : TypeId × Value → H) :
    ReturnsInHanded {} Try.checked os 6 .any (Rows.sumKeepsSpec.pre6 enc Try.prog Try.f6 Rows.sumKeepsRow.domain false) (Rows.sumKeepsSpec.post enc Try.prog Try.f6 false true false false) := by
  refine returnsInHanded_of_change (C := Try.checked) own started (by kernel_rfl) Try.func6
    (ChangeSpec.witness6 (enc := enc) (C := Try.checked) false ⟨#[], #[.slice none 0 0, .int .u16 0, .int .u16 0], []⟩ 8 (by kernel_rfl) (by kernel_rfl) (by kernel_rfl) (by kernel_rfl)) ?_
  intro W base args ds gs before hval0 hW hcnd _
  have hval : ∀ (j : Nat) t v, Try.f6.params[j]? = some t → args[j]? = some v → Value.okWide Try.prog W .any base t v := hval0
  have hW' := hW
  obtain ⟨p, q, hA0, hV, rfl, hfz, hnd⟩ := hW
  have hA : DataW.TrodAll enc Try.prog W 0 (fun _ => true) true Try.f6.params.toList args.toList ds p := hA0
  rw [Try.params6] at hA hval
  obtain ⟨v0, vs0, d0, ds0, p0, q0, hargs, rfl, rfl, h0, r0⟩ := trodAll_cons hA
  obtain ⟨v1, vs1, d1, ds1, p1, q1, rfl, rfl, rfl, h1, r1⟩ := trodAll_cons r0
  obtain ⟨v2, vs2, d2, ds2, p2, q2, rfl, rfl, rfl, h2, r2⟩ := trodAll_cons r1
  obtain ⟨rfl, rfl, rfl⟩ := trodAll_nil r2
  obtain rfl : args = #[v0, v1, v2] := by cases args; simp_all
  obtain ⟨rfl, rfl⟩ := trodVars_none hV
  have k0 := h0
  have lt0 : ∀ x ∈ p0, x.block < W.heap.size := by obtain ⟨m, hm⟩ := k0; exact DataW.trod_lt m _ _ _ hm
  have ok0 := hval 0 22 v0 rfl rfl
  have k1 := h1
  have lt1 : ∀ x ∈ p1, x.block < W.heap.size := by obtain ⟨m, hm⟩ := k1; exact DataW.trod_lt m _ _ _ hm
  have ok1 := hval 1 42 v1 rfl rfl
  have k2 := h2
  have lt2 : ∀ x ∈ p2, x.block < W.heap.size := by obtain ⟨m, hm⟩ := k2; exact DataW.trod_lt m _ _ _ hm
  have ok2 := hval 2 42 v2 rfl rfl
  clear hA0 hval0
  obtain ⟨A, n, c, rfl⟩ := okWide_slice Try.underlying22 ok0
  obtain ⟨l, rfl, hcap, hm, hc, hw⟩ := open_bytes h0
  obtain ⟨at_, rfl, rfl, rfl, w1⟩ := open_int Try.underlying42 ok1 h1
  obtain ⟨now, rfl, rfl, rfl, w2⟩ := open_int Try.underlying42 ok2 h2
  refine (walk A c l at_ now W hc hw hm hcap (bounds_u16 w1).1 (bounds_u16 w1).2 (bounds_u16 w2).1 (bounds_u16 w2).2).mono fun e W' ⟨he, bel⟩ => ?_
  subst he
  exact ⟨_, rfl, _, _, _, [], _, [], hW', trodAll_mk1 (shut_bool Try.underlying4 _), (trodAll_cons_mk (Below.trod laidOut (by kernel_rfl) (of_decide_eq_true (by kernel_rfl)) k0 bel lt0) (trodAll_cons_mk (Below.trod laidOut (by kernel_rfl) (of_decide_eq_true (by kernel_rfl)) k1 bel lt1) (trodAll_cons_mk (Below.trod laidOut (by kernel_rfl) (of_decide_eq_true (by kernel_rfl)) k2 bel lt2) trodAll_mk0))), rfl, bel.frame _, fun h => by cases h⟩

theorem over : Rows.sumKeepsRow.holds Try.pinned (OpenSpec.ofChange Rows.sumKeepsSpec) :=
  OpenClaim.holds_of_wide 6 Try.f6 rfl rfl rfl rfl rfl rfl rfl ⟨rfl, rfl, rfl, rfl, rfl⟩ rfl rfl rfl rfl rfl (by kernel_rfl) Try.func6 (by kernel_rfl)
    (of_decide_eq_true (by kernel_rfl)) (by unfold Func.isWrapper; first | (rw [if_pos (by decide +kernel)]; kernel_rfl) | (rw [if_neg (by decide +kernel)]; exact ⟨rfl, rfl⟩))
    (fun os started H enc _ => lifted os started H enc)

theorem proved : Rows.SumKeepsSaid := over
#print axioms proved
end Go.Proofs.Ytpamngeachienaa.sumKeeps
