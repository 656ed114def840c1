/-
  MeterBounds (P43.5) answers true and leaves its arguments as they were, for every rate, size and list of calls: in any interval the successful Takes remove at most the size and the rate times the length of the interval. No condition.
-/
import Derived.Test.YtppafabmmcdlfaaRows
import Derived.WalkKit
import Derived.ProofKit
import Derived.OpenShut
import Derived.ShutString
import Derived.ChangeOld
import Derived.Below
import Derived.Test.YtppafabmmcdlfaaMeter
import Derived.OwnWalk
import Derived.Outline
namespace Go.Proofs.Ytppafabmmcdlfaa.meterBounds
open Go.ChangeShapes Go.WideShapes Go.ChangeAt Go.RowKit
open Go.ChangeMaps (open_string shut_string)
open Go.Proofs.Ytppafabmmcdlfaa
set_option linter.unusedVariables false

theorem own : ownKnob Try.prog.godebug = none := by kernel_rfl
theorem laidOut : laidOutB Try.prog = true := by kernel_rfl

/-! ### Plain mathematics: what a bucket lets through -/
def ix (l : List Int) (k : Nat) : Int := l.getD k 0
def sumL : List Int → Int | [] => 0 | x :: l => x + sumL l
theorem sumL_snoc (l : List Int) (n : Int) : sumL (l ++ [n]) = sumL l + n := by
  induction l with
  | nil => simp [sumL]
  | cons x l ih => simp [sumL, ih]; omega
theorem sum_step {l : List Int} {p : Nat} (h : p < l.length) : sumL (l.drop p) = ix l p + sumL (l.drop (p + 1)) := by
  rw [List.drop_eq_getElem_cons h]; simp [sumL, ix, List.getD, h]
def Budget (S R now L : Int) (ts ns : List Int) : Prop :=
  ts.length = ns.length ∧ ∀ j, j < ns.length → 0 ≤ ix ts j ∧ ix ts j ≤ now ∧ 0 ≤ ix ns j ∧ ix ns j ≤ 99999 ∧ sumL (ns.drop j) + L ≤ S + R * (now - ix ts j)
theorem budget_nil (S R now L : Int) : Budget S R now L [] [] := ⟨rfl, fun j hj => absurd hj (by simp)⟩
theorem budget_wait {S R now L now' : Int} {ts ns : List Int} (h : Budget S R now L ts ns) (hn : now ≤ now') (hR : 0 ≤ R) : Budget S R now' (fillL R S L now now') ts ns := by
  refine ⟨h.1, fun j hj => ?_⟩
  obtain ⟨a, b, c, d, e⟩ := h.2 j hj
  refine ⟨a, by omega, c, d, ?_⟩
  have h1 : R * (now' - ix ts j) = R * (now - ix ts j) + R * (now' - now) := by rw [← Int.mul_add]; congr 1; omega
  have h2 : fillL R S L now now' ≤ L + R * (now' - now) := by
    unfold fillL
    split
    · have : R * (now' - now) = 0 := by rw [show now' - now = 0 from by omega, Int.mul_zero]
      omega
    · have : R * min (now' - now) 2147483648 ≤ R * (now' - now) := Int.mul_le_mul_of_nonneg_left (by omega) hR
      omega
  omega
theorem ix_left {l : List Int} {n : Int} {j : Nat} (h : j < l.length) : ix (l ++ [n]) j = ix l j := by simp [ix, List.getD, List.getElem?_append_left h]
theorem ix_last {l : List Int} {n : Int} {j : Nat} (h : j = l.length) : ix (l ++ [n]) j = n := by subst h; simp [ix, List.getD]
theorem budget_take {S R now L n : Int} {ts ns : List Int} (h : Budget S R now L ts ns) (n0 : 0 ≤ n) (n1 : n ≤ 99999) (hL : L ≤ S) (h0 : 0 ≤ now) : Budget S R now (L - n) (ts ++ [now]) (ns ++ [n]) := by
  refine ⟨by simp [h.1], fun j hj => ?_⟩
  by_cases hlt : j < ns.length
  · obtain ⟨a, b, c, d, e⟩ := h.2 j hlt
    rw [ix_left hlt, ix_left (by rw [h.1]; exact hlt), List.drop_append_of_le_length (by omega), sumL_snoc]
    exact ⟨a, b, c, d, by omega⟩
  · have hj' : j = ns.length := by simp at hj; omega
    rw [ix_last hj', ix_last (by rw [h.1]; exact hj'), hj', List.drop_left]
    refine ⟨h0, by omega, n0, n1, ?_⟩
    simp [sumL]
    omega
theorem sum_bd {S R now L : Int} {ts ns : List Int} (h : Budget S R now L ts ns) : ∀ j, j ≤ ns.length → 0 ≤ sumL (ns.drop j) ∧ sumL (ns.drop j) ≤ 99999 * ((ns.length : Int) - j) := by
  intro j hj
  have key : ∀ m, m ≤ ns.length → 0 ≤ sumL (ns.drop (ns.length - m)) ∧ sumL (ns.drop (ns.length - m)) ≤ 99999 * (m : Int) := by
    intro m
    induction m with
    | zero => intro _; simp [sumL]
    | succ m ih =>
      intro hm
      have := ih (by omega)
      rw [sum_step (show ns.length - (m + 1) < ns.length by omega), show ns.length - (m + 1) + 1 = ns.length - m from by omega]
      obtain ⟨_, _, c, d, _⟩ := h.2 (ns.length - (m + 1)) (by omega)
      omega
  have := key (ns.length - j) (by omega)
  rw [show ns.length - (ns.length - j) = j from by omega] at this
  omega
theorem row_bd {r m : Int} (h0 : 0 ≤ r) (h1 : r ≤ 65535) (h2 : 0 ≤ m) (h3 : m ≤ 99999) : 0 ≤ r * m ∧ r * m ≤ 6553434465 :=
  ⟨Int.mul_nonneg h0 h2, by have := Int.mul_le_mul h1 h3 h2 (by omega : (0 : Int) ≤ 65535); omega⟩
def u64s (l : List Int) : List Value := l.map fun n => .int .u64 n
theorem arr_ints {w : World} {base n c : Nat} {A : Option Addr} {l : List Int} (h : w.ownsRow base 52 1 (.slice A n c) n (u64s l)) (hn : l.length = n) (h0 : 0 < n) :
    ∃ b off, A = some ⟨b, off, none⟩ ∧ b < w.heap.size ∧ ∀ p, p < n → w.cell? ⟨b, off + p, none⟩ = some (.int .u64 (ix l p)) := by
  obtain ⟨b, off, hA, hb, hc⟩ := arr_of_own (f := fun i _ => .int .u64 (ix l i)) h (fun i j hi hj => by
    obtain rfl : j = 0 := by omega
    simp [u64s, ix, List.getD, show i < l.length by omega]) h0
  exact ⟨b, off, hA, hb, fun p hp => by have := hc p 0 hp (by omega); simpa using this⟩

/-! ### The walk -/
def Inner (ns : List Int) (N : Nat) (s k : Value) : Prop := ∃ (m : Nat) (q : Int), m ≤ N ∧ q + 1 = m ∧ s = .int .u64 (sumL (ns.drop m)) ∧ k = .int .i64 q
def Outer (w : World) (b : Nat) (r S : Int) (top : Nat) (n t v i : Value) (wr : World) : Prop :=
  ∃ (k : Nat) (x L : Int) (ts ns : List Int), k ≤ top ∧ i = .int .i64 k ∧ n = .int .u64 x ∧ 0 ≤ x ∧ x ≤ 99999 ∧ Budget S r x L ts ns ∧ ns.length ≤ k ∧ k ≤ 40 ∧ 0 ≤ L ∧ L ≤ S ∧
    (∃ A c, t = .slice A ts.length c) ∧ (∃ A c, v = .slice A ns.length c) ∧
    wr.ownsRow w.heap.size 52 1 t ts.length (u64s ts) ∧ wr.ownsRow w.heap.size 52 1 v ns.length (u64s ns) ∧ Apart t v ∧
    Is wr b 82 (buck r S L x) ∧ Below w.heap.size w wr
theorem info64 : (Try.prog.info? 52).map (fun i => (i.zero, i.size, i.bytes)) = some (some (.int .u64 0), 1, 8) := by kernel_rfl

set_option maxRecDepth 100000 in
set_option maxHeartbeats 4000000 in
theorem walk (A : Option Addr) (c : Nat) (l : List MAct) (r s : Int) (w : World) (h : MActs w A l) (hm : l.length ≤ maxLen) (hw : ∀ k, 0 ≤ (mat l k).n ∧ (mat l k).n ≤ 18446744073709551615 ∧ 0 ≤ (mat l k).now ∧ (mat l k).now ≤ 18446744073709551615)
    (r0 : 0 ≤ r) (r1 : r ≤ 65535) (s0 : 0 ≤ s) (s1 : s ≤ 65535) :
    Calls Try.prog 11 #[.int .u16 r, .int .u16 s, .slice A l.length c] w fun e w' => e = .returned (.bool true) ∧ Below w.heap.size w w' := by
  unfold maxLen at hm
  have HA := Lib.hid h
  have HW := Lib.hid hw
  clear h hw
  obtain ⟨i0, hi0, hz0, hz1, hz2⟩ := info_parts info64
  go_enter Try.func11, Try.ntmps11
  go_wp2_with fail
  refine (awake43 _).mono ?_
  rintro e w0 ⟨rfl, hb0⟩
  have hz := hb0.size
  have HB0 := Lib.hid hb0
  clear hb0
  go_wp2_with fail
  refine (new_ok r (s + 1) _ (by omega) (by omega) (by omega) (by omega)).mono ?_
  rintro e w1 ⟨rfl, rfl⟩
  go_wp2_with fail
  go_loopw [9, 10, 11, 12] (fun n t v i wr => Outer w w0.heap.size r (s + 1) l.length n t v i wr) (fun _ _ _ i _ => l.length - (intOf i).toNat)
  case atStart =>
    exact ⟨0, 0, s + 1, [], [], Nat.zero_le _, rfl, rfl, by omega, by omega, budget_nil _ _ _ _, by simp, by omega, by omega, by omega, ⟨none, 0, rfl⟩, ⟨none, 0, rfl⟩, World.ownsRow_nil _ _ _ _, World.ownsRow_nil _ _ _ _, Apart.none_ _, Is.new _ _ _, HB0.out.alloc hz _⟩
  case round =>
    obtain ⟨k, x, L, ts, ns, hk, rfl, rfl, x0, x1, hT, hn, hk40, L0, L1, ⟨A1, c1, rfl⟩, ⟨A2, c2, rfl⟩, ho1, ho2, hd, hi, hb⟩ := hrel
    have hts : ts.length ≤ 40 := by have := hT.1; omega
    have HT := Lib.hid hT
    have HO1 := Lib.hid ho1
    have HO2 := Lib.hid ho2
    have HD := Lib.hid hd
    have HI := Lib.hid hi
    have HB := Lib.hid hb
    clear hT ho1 ho2 hd hi hb
    by_cases hlt : k < l.length
    · by_cases h40 : k < 40
      · obtain ⟨b, off, rfl, hbl, hc⟩ := HA.out (by omega)
        have a1 : wr.cell? ⟨b, off + k * 3 + 1, none⟩ = some (.int .u64 (mat l k).n) := (HB.out.cell (p := ⟨b, _, none⟩) hbl).trans (hc k 1 hlt (by omega))
        have a2 : wr.cell? ⟨b, off + k * 3 + 2, none⟩ = some (.int .u64 (mat l k).now) := (HB.out.cell (p := ⟨b, _, none⟩) hbl).trans (hc k 2 hlt (by omega))
        obtain ⟨g1, g2, g3, g4⟩ := HW.out k
        clear hc
        generalize (mat l k).n = na at *
        generalize (mat l k).now = nb at *
        by_cases hmx : x < nb % 100000
        · have hTw := budget_wait (now' := nb % 100000) HT.out (by omega) r0
          obtain ⟨f0, f1⟩ := fill_bd (r := r) (s := s + 1) (t := x) (now := nb % 100000) r0 L0 L1
          have hty : fillT x (nb % 100000) = nb % 100000 := by unfold fillT; split <;> omega
          by_cases htk : na % 100000 ≤ fillL r (s + 1) L x (nb % 100000)
          · have ct := take_yes w0.heap.size r (s + 1) L x (na % 100000) (nb % 100000) _ HI.out r0 (by omega) (by omega) L0 L1 x0 (by omega) (by omega) (by omega) htk
            rw [hty] at ct
            have hT2 := budget_take hTw (by omega : 0 ≤ na % 100000) (by omega) f1 (by omega)
            generalize fillL r (s + 1) L x (nb % 100000) = L' at *
            have HCT := hide ct
            have HT2 := Lib.hid hT2
            clear ct hT2 hTw hty
            go_wp2_with fail
            refine (unhide HCT).mono ?_
            rintro e w2 ⟨rfl, hg, hi2⟩
            have hlw := HI.out.lt
            have ho1 := HO1.out.kept hg (.inr (own_differ HO1.out HI.out (by decide)))
            have ho2 := HO2.out.kept hg (.inr (own_differ HO2.out HI.out (by decide)))
            have hb2 := below_only HB.out hg hz
            have hs2 := hb2.size
            clear hg HCT
            go_wp2_with (first
              | (at_builtin
                 refine app1 (u := .int .u64 (nb % 100000)) (.tmp 61) (.tmp 63) 77 rfl rfl Try.underlying77 hi0 hz0 hz1 hz2 rfl rfl (ho1.alloc _) rfl ((Is.new _ _ #[_]).cell 0) rfl (by omega) (by omega) (by simp; omega) ?_
                 intro g1 cap1 w3 own1 grow1 at1 lt1
                 clear ho1
                 have hz3 := grow1.size
                 have hh2 : (w2.alloc (.cells #[.int .u64 (nb % 100000)] 52)).heap.size = w2.heap.size + 1 := by simp
                 rw [hh2] at at1 hz3
                 have own2 := (ho2.alloc (.cells #[.int .u64 (nb % 100000)] 52)).kept grow1 HD.out.kept
                 have ap1 := HD.out.grow (n := ts.length + 1) (cap := cap1) at1 (fun k hk => by have := (ho2.lt k hk).2; omega)
                 have hi3 := (hi2.alloc (.cells #[.int .u64 (nb % 100000)] 52)).only grow1 (fun e => own_differ HO1.out HI.out (by decide) e.symm)
                 have hb3 := (hb2.alloc hs2 (.cells #[.int .u64 (nb % 100000)] 52)).grown grow1 (by omega) (fun k hk => (HO1.out.lt k hk).1)
                 have OWN1 := Lib.hid own1; have OWN2 := Lib.hid own2; have AP1 := Lib.hid ap1; have HI3 := Lib.hid hi3; have HB3 := Lib.hid hb3
                 clear own1 own2 ap1 hi3 hb3 at1 grow1 ho2 hi2 hb2 hh2)
              | (at_builtin
                 refine app1 (u := .int .u64 (na % 100000)) (.tmp 65) (.tmp 67) 77 rfl rfl Try.underlying77 hi0 hz0 hz1 hz2 rfl rfl (OWN2.out.alloc _) rfl ((Is.new _ _ #[_]).cell 0) rfl (by omega) (by omega) (by simp; omega) ?_
                 intro g2 cap2 w4 own2 grow2 at2 lt2
                 have hb3s := HB3.out.size
                 have hz4 := grow2.size
                 have hh3 : (w3.alloc (.cells #[.int .u64 (na % 100000)] 52)).heap.size = w3.heap.size + 1 := by simp
                 rw [hh3] at at2 hz4
                 have own3 := (OWN1.out.alloc (.cells #[.int .u64 (na % 100000)] 52)).kept grow2 AP1.out.symm.kept
                 have ap2 := (AP1.out.symm.grow (n := ns.length + 1) (cap := cap2) at2 (fun k hk => by have := (OWN1.out.lt k hk).2; omega)).symm
                 have hi4 := (HI3.out.alloc (.cells #[.int .u64 (na % 100000)] 52)).only grow2 (fun e => own_differ OWN2.out HI3.out (by decide) e.symm)
                 have hb4 := (HB3.out.alloc hb3s (.cells #[.int .u64 (na % 100000)] 52)).grown grow2 (by omega) (fun k hk => (OWN2.out.lt k hk).1)
                 rw [show u64s ts ++ [Value.int .u64 (nb % 100000)] = u64s (ts ++ [nb % 100000]) from by simp [u64s]] at own3
                 rw [show u64s ns ++ [Value.int .u64 (na % 100000)] = u64s (ns ++ [na % 100000]) from by simp [u64s]] at own2
                 have HP1 := Lib.hid own3; have HP2 := Lib.hid own2; have HQ := Lib.hid ap2; have HJ := Lib.hid hi4; have HC := Lib.hid hb4
                 clear own3 own2 ap2 hi4 hb4 at2 grow2 OWN1 OWN2 AP1 HI3 HB3 hh3 HI HB HO1 HO2 HD HT))
            have HTN := Lib.hid (show (ts ++ [nb % 100000]).length = ts.length + 1 by simp)
            have HNN := Lib.hid (show (ns ++ [na % 100000]).length = ns.length + 1 by simp)
            go_wp2_with fail
            go_loop [14, 15] (fun s k => Inner (ns ++ [na % 100000]) (ns.length + 1) s k) (fun _ k => (intOf k + 1).toNat)
            case atStart => exact ⟨ns.length + 1, _, Nat.le_refl _, (by omega : ((ns.length + 1 : Nat) : Int) - 1 + 1 = ((ns.length + 1 : Nat) : Int)), by rw [List.drop_eq_nil_of_le (Nat.le_of_eq (HNN.out))]; rfl, by first | rfl | go_num⟩
            case round =>
              obtain ⟨m, q, hm, hq, rfl, rfl⟩ := hrel
              by_cases hm0 : m = 0
              · subst hm0
                obtain rfl : q = -1 := by omega
                clear hq hm
                go_wp2_with fail
                go_roundw
                case rel => exact ⟨k + 1, nb % 100000, L' - na % 100000, ts ++ [nb % 100000], ns ++ [na % 100000], by omega, by go_num, rfl, by omega, by omega, HT2.out, by have := HNN.out; omega, by omega, by omega, by omega, ⟨_, _, by first | rfl | rw [HTN.out]⟩, ⟨_, _, by first | rfl | rw [HNN.out]⟩, by first | exact HP1.out | (rw [HTN.out]; exact HP1.out), by first | exact HP2.out | (rw [HNN.out]; exact HP2.out), HQ.out, HJ.out, HC.out⟩
                case measure => simp [intOf]; omega
              · obtain ⟨p, rfl⟩ : ∃ p, m = p + 1 := ⟨m - 1, by omega⟩
                obtain rfl : q = (p : Int) := by omega
                clear hq
                have hp : p < ns.length + 1 := by omega
                have hpt : p < ts.length + 1 := by have h1 := HTN.out; have h2 := HNN.out; have h3 := HT2.out.1; omega
                obtain ⟨d1, d2, d3, d4, d5⟩ := HT2.out.2 p (by have h2 := HNN.out; omega)
                obtain ⟨q1, q2⟩ := sum_bd HT2.out (p + 1) (by have h2 := HNN.out; omega)
                replace q2 := Int.le_trans q2 (show 99999 * (((ns ++ [na % 100000]).length : Int) - (p + 1 : Nat)) ≤ 4100000 by have h2 := HNN.out; omega)
                have hs := sum_step (l := ns ++ [na % 100000]) (p := p) (by have h2 := HNN.out; omega)
                rw [hs] at d5
                obtain ⟨z1, z2⟩ := row_bd r0 r1 (show 0 ≤ nb % 100000 - ix (ts ++ [nb % 100000]) p by omega) (show nb % 100000 - ix (ts ++ [nb % 100000]) p ≤ 99999 by omega)
                obtain ⟨b1, o1, hA1, _, hc1⟩ := arr_ints HP1.out (HTN.out) (by omega)
                obtain ⟨b2, o2, hA2, _, hc2⟩ := arr_ints HP2.out (HNN.out) (by omega)
                have k1 := hc1 p hpt
                have k2 := hc2 p hp
                have HS := Lib.hid hs
                injection hA1 with hA1; injection hA1 with e1 e2; subst e1 e2; rw [Nat.zero_add] at k1
                injection hA2 with hA2; injection hA2 with e1 e2; subst e1 e2; rw [Nat.zero_add] at k2
                clear hs hc1 hc2
                generalize hgt : ix (ts ++ [nb % 100000]) p = tp at *
                generalize hgn : ix (ns ++ [na % 100000]) p = np at *
                generalize hgs : sumL ((ns ++ [na % 100000]).drop (p + 1)) = sp at *
                have HGS := Lib.hid hgs
                clear hgt hgn hgs
                go_wp2_with fail
                go_round
                case rel => exact ⟨p, _, by omega, (by omega : (p : Int) - 1 + 1 = (p : Int)), by rw [HS.out]; go_num, by go_num⟩
                case measure => simp [intOf] <;> omega
          · have ct := take_no w0.heap.size r (s + 1) L x (na % 100000) (nb % 100000) _ HI.out r0 (by omega) (by omega) L0 L1 x0 (by omega) (by omega) (by omega) (by omega)
            rw [hty] at ct
            generalize fillL r (s + 1) L x (nb % 100000) = L' at *
            have HCT := hide ct
            have HT2 := Lib.hid hTw
            clear ct hTw hty
            go_wp2_with fail
            refine (unhide HCT).mono ?_
            rintro e w2 ⟨rfl, hg, hi2⟩
            have HP1 := Lib.hid (HO1.out.kept hg (.inr (own_differ HO1.out HI.out (by decide))))
            have HP2 := Lib.hid (HO2.out.kept hg (.inr (own_differ HO2.out HI.out (by decide))))
            have HC := Lib.hid (below_only HB.out hg hz)
            have HJ := Lib.hid hi2
            have HQ := HD
            clear hg hi2 HCT HI HB HO1 HO2 HD HT
            go_wp2_with fail
            go_loop [14, 15] (fun s k => Inner (ns) (ns.length) s k) (fun _ k => (intOf k + 1).toNat)
            case atStart => exact ⟨ns.length, _, Nat.le_refl _, (by omega : ((ns.length : Nat) : Int) - 1 + 1 = ((ns.length : Nat) : Int)), by rw [List.drop_eq_nil_of_le (Nat.le_of_eq ((rfl : ns.length = ns.length)))]; rfl, by first | rfl | go_num⟩
            case round =>
              obtain ⟨m, q, hm, hq, rfl, rfl⟩ := hrel
              by_cases hm0 : m = 0
              · subst hm0
                obtain rfl : q = -1 := by omega
                clear hq hm
                go_wp2_with fail
                go_roundw
                case rel => exact ⟨k + 1, nb % 100000, L', ts, ns, by omega, by go_num, rfl, by omega, by omega, HT2.out, by have := (rfl : ns.length = ns.length); omega, by omega, by omega, by omega, ⟨_, _, by first | rfl | rw [(rfl : ts.length = ts.length)]⟩, ⟨_, _, by first | rfl | rw [(rfl : ns.length = ns.length)]⟩, by first | exact HP1.out | (rw [(rfl : ts.length = ts.length)]; exact HP1.out), by first | exact HP2.out | (rw [(rfl : ns.length = ns.length)]; exact HP2.out), HQ.out, HJ.out, HC.out⟩
                case measure => simp [intOf]; omega
              · obtain ⟨p, rfl⟩ : ∃ p, m = p + 1 := ⟨m - 1, by omega⟩
                obtain rfl : q = (p : Int) := by omega
                clear hq
                have hp : p < ns.length := by omega
                have hpt : p < ts.length := by have h1 := (rfl : ts.length = ts.length); have h2 := (rfl : ns.length = ns.length); have h3 := HT2.out.1; omega
                obtain ⟨d1, d2, d3, d4, d5⟩ := HT2.out.2 p (by have h2 := (rfl : ns.length = ns.length); omega)
                obtain ⟨q1, q2⟩ := sum_bd HT2.out (p + 1) (by have h2 := (rfl : ns.length = ns.length); omega)
                replace q2 := Int.le_trans q2 (show 99999 * (((ns).length : Int) - (p + 1 : Nat)) ≤ 4100000 by have h2 := (rfl : ns.length = ns.length); omega)
                have hs := sum_step (l := ns) (p := p) (by have h2 := (rfl : ns.length = ns.length); omega)
                rw [hs] at d5
                obtain ⟨z1, z2⟩ := row_bd r0 r1 (show 0 ≤ nb % 100000 - ix (ts) p by omega) (show nb % 100000 - ix (ts) p ≤ 99999 by omega)
                obtain ⟨b1, o1, hA1, _, hc1⟩ := arr_ints HP1.out ((rfl : ts.length = ts.length)) (by omega)
                obtain ⟨b2, o2, hA2, _, hc2⟩ := arr_ints HP2.out ((rfl : ns.length = ns.length)) (by omega)
                have k1 := hc1 p hpt
                have k2 := hc2 p hp
                have HS := Lib.hid hs
                subst hA1
                subst hA2
                clear hs hc1 hc2
                generalize hgt : ix (ts) p = tp at *
                generalize hgn : ix (ns) p = np at *
                generalize hgs : sumL ((ns).drop (p + 1)) = sp at *
                have HGS := Lib.hid hgs
                clear hgt hgn hgs
                go_wp2_with fail
                go_round
                case rel => exact ⟨p, _, by omega, (by omega : (p : Int) - 1 + 1 = (p : Int)), by rw [HS.out]; go_num, by go_num⟩
                case measure => simp [intOf] <;> omega
        · have hTw := budget_wait (now' := x) HT.out (by omega) r0
          obtain ⟨f0, f1⟩ := fill_bd (r := r) (s := s + 1) (t := x) (now := x) r0 L0 L1
          have hty : fillT x (x) = x := by unfold fillT; split <;> omega
          by_cases htk : na % 100000 ≤ fillL r (s + 1) L x (x)
          · have ct := take_yes w0.heap.size r (s + 1) L x (na % 100000) (x) _ HI.out r0 (by omega) (by omega) L0 L1 x0 (by omega) (by omega) (by omega) htk
            rw [hty] at ct
            have hT2 := budget_take hTw (by omega : 0 ≤ na % 100000) (by omega) f1 (by omega)
            generalize fillL r (s + 1) L x (x) = L' at *
            have HCT := hide ct
            have HT2 := Lib.hid hT2
            clear ct hT2 hTw hty
            go_wp2_with fail
            refine (unhide HCT).mono ?_
            rintro e w2 ⟨rfl, hg, hi2⟩
            have hlw := HI.out.lt
            have ho1 := HO1.out.kept hg (.inr (own_differ HO1.out HI.out (by decide)))
            have ho2 := HO2.out.kept hg (.inr (own_differ HO2.out HI.out (by decide)))
            have hb2 := below_only HB.out hg hz
            have hs2 := hb2.size
            clear hg HCT
            go_wp2_with (first
              | (at_builtin
                 refine app1 (u := .int .u64 (x)) (.tmp 61) (.tmp 63) 77 rfl rfl Try.underlying77 hi0 hz0 hz1 hz2 rfl rfl (ho1.alloc _) rfl ((Is.new _ _ #[_]).cell 0) rfl (by omega) (by omega) (by simp; omega) ?_
                 intro g1 cap1 w3 own1 grow1 at1 lt1
                 clear ho1
                 have hz3 := grow1.size
                 have hh2 : (w2.alloc (.cells #[.int .u64 (x)] 52)).heap.size = w2.heap.size + 1 := by simp
                 rw [hh2] at at1 hz3
                 have own2 := (ho2.alloc (.cells #[.int .u64 (x)] 52)).kept grow1 HD.out.kept
                 have ap1 := HD.out.grow (n := ts.length + 1) (cap := cap1) at1 (fun k hk => by have := (ho2.lt k hk).2; omega)
                 have hi3 := (hi2.alloc (.cells #[.int .u64 (x)] 52)).only grow1 (fun e => own_differ HO1.out HI.out (by decide) e.symm)
                 have hb3 := (hb2.alloc hs2 (.cells #[.int .u64 (x)] 52)).grown grow1 (by omega) (fun k hk => (HO1.out.lt k hk).1)
                 have OWN1 := Lib.hid own1; have OWN2 := Lib.hid own2; have AP1 := Lib.hid ap1; have HI3 := Lib.hid hi3; have HB3 := Lib.hid hb3
                 clear own1 own2 ap1 hi3 hb3 at1 grow1 ho2 hi2 hb2 hh2)
              | (at_builtin
                 refine app1 (u := .int .u64 (na % 100000)) (.tmp 65) (.tmp 67) 77 rfl rfl Try.underlying77 hi0 hz0 hz1 hz2 rfl rfl (OWN2.out.alloc _) rfl ((Is.new _ _ #[_]).cell 0) rfl (by omega) (by omega) (by simp; omega) ?_
                 intro g2 cap2 w4 own2 grow2 at2 lt2
                 have hb3s := HB3.out.size
                 have hz4 := grow2.size
                 have hh3 : (w3.alloc (.cells #[.int .u64 (na % 100000)] 52)).heap.size = w3.heap.size + 1 := by simp
                 rw [hh3] at at2 hz4
                 have own3 := (OWN1.out.alloc (.cells #[.int .u64 (na % 100000)] 52)).kept grow2 AP1.out.symm.kept
                 have ap2 := (AP1.out.symm.grow (n := ns.length + 1) (cap := cap2) at2 (fun k hk => by have := (OWN1.out.lt k hk).2; omega)).symm
                 have hi4 := (HI3.out.alloc (.cells #[.int .u64 (na % 100000)] 52)).only grow2 (fun e => own_differ OWN2.out HI3.out (by decide) e.symm)
                 have hb4 := (HB3.out.alloc hb3s (.cells #[.int .u64 (na % 100000)] 52)).grown grow2 (by omega) (fun k hk => (OWN2.out.lt k hk).1)
                 rw [show u64s ts ++ [Value.int .u64 (x)] = u64s (ts ++ [x]) from by simp [u64s]] at own3
                 rw [show u64s ns ++ [Value.int .u64 (na % 100000)] = u64s (ns ++ [na % 100000]) from by simp [u64s]] at own2
                 have HP1 := Lib.hid own3; have HP2 := Lib.hid own2; have HQ := Lib.hid ap2; have HJ := Lib.hid hi4; have HC := Lib.hid hb4
                 clear own3 own2 ap2 hi4 hb4 at2 grow2 OWN1 OWN2 AP1 HI3 HB3 hh3 HI HB HO1 HO2 HD HT))
            have HTN := Lib.hid (show (ts ++ [x]).length = ts.length + 1 by simp)
            have HNN := Lib.hid (show (ns ++ [na % 100000]).length = ns.length + 1 by simp)
            go_wp2_with fail
            go_loop [14, 15] (fun s k => Inner (ns ++ [na % 100000]) (ns.length + 1) s k) (fun _ k => (intOf k + 1).toNat)
            case atStart => exact ⟨ns.length + 1, _, Nat.le_refl _, (by omega : ((ns.length + 1 : Nat) : Int) - 1 + 1 = ((ns.length + 1 : Nat) : Int)), by rw [List.drop_eq_nil_of_le (Nat.le_of_eq (HNN.out))]; rfl, by first | rfl | go_num⟩
            case round =>
              obtain ⟨m, q, hm, hq, rfl, rfl⟩ := hrel
              by_cases hm0 : m = 0
              · subst hm0
                obtain rfl : q = -1 := by omega
                clear hq hm
                go_wp2_with fail
                go_roundw
                case rel => exact ⟨k + 1, x, L' - na % 100000, ts ++ [x], ns ++ [na % 100000], by omega, by go_num, rfl, by omega, by omega, HT2.out, by have := HNN.out; omega, by omega, by omega, by omega, ⟨_, _, by first | rfl | rw [HTN.out]⟩, ⟨_, _, by first | rfl | rw [HNN.out]⟩, by first | exact HP1.out | (rw [HTN.out]; exact HP1.out), by first | exact HP2.out | (rw [HNN.out]; exact HP2.out), HQ.out, HJ.out, HC.out⟩
                case measure => simp [intOf]; omega
              · obtain ⟨p, rfl⟩ : ∃ p, m = p + 1 := ⟨m - 1, by omega⟩
                obtain rfl : q = (p : Int) := by omega
                clear hq
                have hp : p < ns.length + 1 := by omega
                have hpt : p < ts.length + 1 := by have h1 := HTN.out; have h2 := HNN.out; have h3 := HT2.out.1; omega
                obtain ⟨d1, d2, d3, d4, d5⟩ := HT2.out.2 p (by have h2 := HNN.out; omega)
                obtain ⟨q1, q2⟩ := sum_bd HT2.out (p + 1) (by have h2 := HNN.out; omega)
                replace q2 := Int.le_trans q2 (show 99999 * (((ns ++ [na % 100000]).length : Int) - (p + 1 : Nat)) ≤ 4100000 by have h2 := HNN.out; omega)
                have hs := sum_step (l := ns ++ [na % 100000]) (p := p) (by have h2 := HNN.out; omega)
                rw [hs] at d5
                obtain ⟨z1, z2⟩ := row_bd r0 r1 (show 0 ≤ x - ix (ts ++ [x]) p by omega) (show x - ix (ts ++ [x]) p ≤ 99999 by omega)
                obtain ⟨b1, o1, hA1, _, hc1⟩ := arr_ints HP1.out (HTN.out) (by omega)
                obtain ⟨b2, o2, hA2, _, hc2⟩ := arr_ints HP2.out (HNN.out) (by omega)
                have k1 := hc1 p hpt
                have k2 := hc2 p hp
                have HS := Lib.hid hs
                injection hA1 with hA1; injection hA1 with e1 e2; subst e1 e2; rw [Nat.zero_add] at k1
                injection hA2 with hA2; injection hA2 with e1 e2; subst e1 e2; rw [Nat.zero_add] at k2
                clear hs hc1 hc2
                generalize hgt : ix (ts ++ [x]) p = tp at *
                generalize hgn : ix (ns ++ [na % 100000]) p = np at *
                generalize hgs : sumL ((ns ++ [na % 100000]).drop (p + 1)) = sp at *
                have HGS := Lib.hid hgs
                clear hgt hgn hgs
                go_wp2_with fail
                go_round
                case rel => exact ⟨p, _, by omega, (by omega : (p : Int) - 1 + 1 = (p : Int)), by rw [HS.out]; go_num, by go_num⟩
                case measure => simp [intOf] <;> omega
          · have ct := take_no w0.heap.size r (s + 1) L x (na % 100000) (x) _ HI.out r0 (by omega) (by omega) L0 L1 x0 (by omega) (by omega) (by omega) (by omega)
            rw [hty] at ct
            generalize fillL r (s + 1) L x (x) = L' at *
            have HCT := hide ct
            have HT2 := Lib.hid hTw
            clear ct hTw hty
            go_wp2_with fail
            refine (unhide HCT).mono ?_
            rintro e w2 ⟨rfl, hg, hi2⟩
            have HP1 := Lib.hid (HO1.out.kept hg (.inr (own_differ HO1.out HI.out (by decide))))
            have HP2 := Lib.hid (HO2.out.kept hg (.inr (own_differ HO2.out HI.out (by decide))))
            have HC := Lib.hid (below_only HB.out hg hz)
            have HJ := Lib.hid hi2
            have HQ := HD
            clear hg hi2 HCT HI HB HO1 HO2 HD HT
            go_wp2_with fail
            go_loop [14, 15] (fun s k => Inner (ns) (ns.length) s k) (fun _ k => (intOf k + 1).toNat)
            case atStart => exact ⟨ns.length, _, Nat.le_refl _, (by omega : ((ns.length : Nat) : Int) - 1 + 1 = ((ns.length : Nat) : Int)), by rw [List.drop_eq_nil_of_le (Nat.le_of_eq ((rfl : ns.length = ns.length)))]; rfl, by first | rfl | go_num⟩
            case round =>
              obtain ⟨m, q, hm, hq, rfl, rfl⟩ := hrel
              by_cases hm0 : m = 0
              · subst hm0
                obtain rfl : q = -1 := by omega
                clear hq hm
                go_wp2_with fail
                go_roundw
                case rel => exact ⟨k + 1, x, L', ts, ns, by omega, by go_num, rfl, by omega, by omega, HT2.out, by have := (rfl : ns.length = ns.length); omega, by omega, by omega, by omega, ⟨_, _, by first | rfl | rw [(rfl : ts.length = ts.length)]⟩, ⟨_, _, by first | rfl | rw [(rfl : ns.length = ns.length)]⟩, by first | exact HP1.out | (rw [(rfl : ts.length = ts.length)]; exact HP1.out), by first | exact HP2.out | (rw [(rfl : ns.length = ns.length)]; exact HP2.out), HQ.out, HJ.out, HC.out⟩
                case measure => simp [intOf]; omega
              · obtain ⟨p, rfl⟩ : ∃ p, m = p + 1 := ⟨m - 1, by omega⟩
                obtain rfl : q = (p : Int) := by omega
                clear hq
                have hp : p < ns.length := by omega
                have hpt : p < ts.length := by have h1 := (rfl : ts.length = ts.length); have h2 := (rfl : ns.length = ns.length); have h3 := HT2.out.1; omega
                obtain ⟨d1, d2, d3, d4, d5⟩ := HT2.out.2 p (by have h2 := (rfl : ns.length = ns.length); omega)
                obtain ⟨q1, q2⟩ := sum_bd HT2.out (p + 1) (by have h2 := (rfl : ns.length = ns.length); omega)
                replace q2 := Int.le_trans q2 (show 99999 * (((ns).length : Int) - (p + 1 : Nat)) ≤ 4100000 by have h2 := (rfl : ns.length = ns.length); omega)
                have hs := sum_step (l := ns) (p := p) (by have h2 := (rfl : ns.length = ns.length); omega)
                rw [hs] at d5
                obtain ⟨z1, z2⟩ := row_bd r0 r1 (show 0 ≤ x - ix (ts) p by omega) (show x - ix (ts) p ≤ 99999 by omega)
                obtain ⟨b1, o1, hA1, _, hc1⟩ := arr_ints HP1.out ((rfl : ts.length = ts.length)) (by omega)
                obtain ⟨b2, o2, hA2, _, hc2⟩ := arr_ints HP2.out ((rfl : ns.length = ns.length)) (by omega)
                have k1 := hc1 p hpt
                have k2 := hc2 p hp
                have HS := Lib.hid hs
                subst hA1
                subst hA2
                clear hs hc1 hc2
                generalize hgt : ix (ts) p = tp at *
                generalize hgn : ix (ns) p = np at *
                generalize hgs : sumL ((ns).drop (p + 1)) = sp at *
                have HGS := Lib.hid hgs
                clear hgt hgn hgs
                go_wp2_with fail
                go_round
                case rel => exact ⟨p, _, by omega, (by omega : (p : Int) - 1 + 1 = (p : Int)), by rw [HS.out]; go_num, by go_num⟩
                case measure => simp [intOf] <;> omega
      · go_wp2_with fail
        refine (awake43 _).mono ?_
        rintro e w3 ⟨rfl, hb3⟩
        go_wp2_with fail
        go_ret
        exact ⟨rfl, HB.out.trans (hb3.mono HB.out.size)⟩
    · go_wp2_with fail
      refine (awake43 _).mono ?_
      rintro e w3 ⟨rfl, hb3⟩
      go_wp2_with fail
      go_ret
      exact ⟨rfl, HB.out.trans (hb3.mono HB.out.size)⟩

/-! ### The step from the walk to the row -/
set_option maxRecDepth 100000 in
theorem lifted (os : Os) (started : os.Started) (H : Type) (enc : TypeId × Value → H) :
    ReturnsInHanded {} Try.checked os 11 .any (Rows.meterBoundsSpec.pre6 enc Try.prog Try.f11 Rows.meterBoundsRow.domain false) (Rows.meterBoundsSpec.post enc Try.prog Try.f11 false true false false) := by
  refine returnsInHanded_of_change (C := Try.checked) own started (by kernel_rfl) Try.func11
    (ChangeSpec.witness6 (enc := enc) (C := Try.checked) false ⟨#[], #[.int .u16 0, .int .u16 0, .slice none 0 0], []⟩ 8 (by kernel_rfl) (by kernel_rfl) (by kernel_rfl) (by kernel_rfl)) ?_
  intro W base args ds gs before hval0 hW hcnd _
  have hval : ∀ (j : Nat) t v, Try.f11.params[j]? = some t → args[j]? = some v → Value.okWide Try.prog W .any base t v := hval0
  have hW' := hW
  obtain ⟨p, q, hA0, hV, rfl, hfz, hnd⟩ := hW
  have hA : DataW.TrodAll enc Try.prog W 0 (fun _ => true) true Try.f11.params.toList args.toList ds p := hA0
  rw [Try.params11] at hA hval
  obtain ⟨v0, vs0, d0, ds0, p0, q0, hargs, rfl, rfl, h0, r0⟩ := trodAll_cons hA
  obtain ⟨v1, vs1, d1, ds1, p1, q1, rfl, rfl, rfl, h1, r1⟩ := trodAll_cons r0
  obtain ⟨v2, vs2, d2, ds2, p2, q2, rfl, rfl, rfl, h2, r2⟩ := trodAll_cons r1
  obtain ⟨rfl, rfl, rfl⟩ := trodAll_nil r2
  obtain rfl : args = #[v0, v1, v2] := by cases args; simp_all
  obtain ⟨rfl, rfl⟩ := trodVars_none hV
  have k0 := h0
  have lt0 : ∀ x ∈ p0, x.block < W.heap.size := by obtain ⟨m, hm⟩ := k0; exact DataW.trod_lt m _ _ _ hm
  have ok0 := hval 0 23 v0 rfl rfl
  have k1 := h1
  have lt1 : ∀ x ∈ p1, x.block < W.heap.size := by obtain ⟨m, hm⟩ := k1; exact DataW.trod_lt m _ _ _ hm
  have ok1 := hval 1 23 v1 rfl rfl
  have k2 := h2
  have lt2 : ∀ x ∈ p2, x.block < W.heap.size := by obtain ⟨m, hm⟩ := k2; exact DataW.trod_lt m _ _ _ hm
  have ok2 := hval 2 63 v2 rfl rfl
  clear hA0 hval0
  obtain ⟨r, rfl, rfl, rfl, w0⟩ := open_int Try.underlying23 ok0 h0
  obtain ⟨s, rfl, rfl, rfl, w1⟩ := open_int Try.underlying23 ok1 h1
  obtain ⟨A, n, c, rfl⟩ := okWide_slice Try.underlying63 ok2
  obtain ⟨l, rfl, hm, hc, hw⟩ := open_acts h2
  refine (walk A c l r s W hc hm hw (bounds_u16 w0).1 (bounds_u16 w0).2 (bounds_u16 w1).1 (bounds_u16 w1).2).mono fun e W' ⟨he, bel⟩ => ?_
  subst he
  exact ⟨_, rfl, _, _, _, [], _, [], hW', trodAll_mk1 (shut_bool Try.underlying4 _), (trodAll_cons_mk (Below.trod laidOut (by kernel_rfl) (of_decide_eq_true (by kernel_rfl)) k0 bel lt0) (trodAll_cons_mk (Below.trod laidOut (by kernel_rfl) (of_decide_eq_true (by kernel_rfl)) k1 bel lt1) (trodAll_cons_mk (Below.trod laidOut (by kernel_rfl) (of_decide_eq_true (by kernel_rfl)) k2 bel lt2) trodAll_mk0))), rfl, bel.frame _, fun h => by cases h⟩

theorem over : Rows.meterBoundsRow.holds Try.pinned (OpenSpec.ofChange Rows.meterBoundsSpec) :=
  OpenClaim.holds_of_wide 11 Try.f11 rfl rfl rfl rfl rfl rfl rfl ⟨rfl, rfl, rfl, rfl, rfl⟩ rfl rfl rfl rfl rfl (by kernel_rfl) Try.func11 (by kernel_rfl)
    (of_decide_eq_true (by kernel_rfl)) (by unfold Func.isWrapper; first | (rw [if_pos (by decide +kernel)]; kernel_rfl) | (rw [if_neg (by decide +kernel)]; exact ⟨rfl, rfl⟩))
    (fun os started H enc _ => lifted os started H enc)

theorem proved : Rows.MeterBoundsSaid := over
#print axioms proved
end Go.Proofs.Ytppafabmmcdlfaa.meterBounds
