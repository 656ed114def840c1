/-
  The reference of layer 10: Sum: what a call returns. Helper of the claims on layers 10 and 11.
-/
import Derived.Test.YthjkjohmaemmiaaRf2
import Derived.Test.YthjkjohmaemmiaaSipF
namespace Go.Proofs.Ythjkjohmaemmiaa
open Go.ChangeShapes Go.WideShapes Go.ChangeAt Go.RowKit
set_option linter.unusedSimpArgs false
set_option linter.unusedVariables false
def zs (k : Nat) : List Int := List.replicate k 0
theorem zs_len (k : Nat) : (zs k).length = k := by simp [zs]
def PadRel (w : World) (l : List Int) (g : Nat) (cs : Array Value) (r : Value) (wr : World) : Prop :=
  ∃ k : Nat, k + l.length % 8 ≤ 7 ∧ OwnB wr (g + 1) r (l ++ zs k) ∧ Is wr g 167 cs ∧ Below w.heap.size w wr
def pk (l : List Int) (k : Nat) : List Int := l ++ zs k ++ [((l.length % 256 : Nat) : Int)]
theorem pk_len {l : List Int} {k : Nat} (h : k + l.length % 8 = 7) : (pk l k).length = 8 * (l.length / 8 + 1) := by
  unfold pk; rw [List.length_append, List.length_append, zs_len, List.length_singleton]; omega
theorem pk_ok {l : List Int} (h : Octets l) (k : Nat) : Octets (pk l k) := by
  refine Octets.ofAll fun x hx => ?_
  unfold pk at hx
  rcases List.mem_append.1 hx with hx | hx
  · rcases List.mem_append.1 hx with hx | hx
    · exact h.all x hx
    · obtain rfl := List.eq_of_mem_replicate hx; omega
  · obtain rfl := List.mem_singleton.1 hx; omega
theorem pk_at {l : List Int} {k j : Nat} (h : j < l.length) : at0 (pk l k) j = at0 l j := by
  unfold pk; rw [List.append_assoc, at0_app_l h]
theorem pk_word {l : List Int} {k i : Nat} (h : i < l.length / 8) : wordN (pk l k) i = wordN l i := by
  unfold wordN
  congr 1
  unfold pad
  apply List.map_congr_left
  intro j hj
  have := List.mem_range.1 hj
  rw [at0_drop, at0_drop, pk_at (by omega)]
theorem pk_last {l : List Int} {k : Nat} (h : k + l.length % 8 = 7) : wordN (pk l k) (l.length / 8) = le (lastW l) := by
  unfold wordN
  congr 1
  have e1 : (lastW l).length = 8 := by unfold lastW; rw [List.length_set, pad_len]
  apply List.ext_getElem?
  intro j
  by_cases hj : j < 8
  · have e2 : (pad ((pk l k).drop (8 * (l.length / 8))) 8)[j]? = some (at0 (pk l k) (8 * (l.length / 8) + j)) := by
      rw [List.getElem?_eq_getElem (by rw [pad_len]; exact hj)]
      simp only [pad, List.getElem_map, List.getElem_range, at0_drop]
    rw [e2]
    unfold lastW
    rw [List.getElem?_set]
    by_cases h7 : 7 = j
    · subst h7
      rw [if_pos rfl, if_pos (by rw [pad_len]; omega)]
      congr 1
      unfold pk
      rw [at0_app_r (by rw [List.length_append, zs_len]; omega), List.length_append, zs_len, show 8 * (l.length / 8) + 7 - (l.length + k) = 0 by omega]
      rfl
    · rw [if_neg h7, List.getElem?_eq_getElem (by rw [pad_len]; exact hj)]
      simp only [pad, List.getElem_map, List.getElem_range, at0_drop]
      congr 1
      unfold pk
      rw [at0_app_l (by rw [List.length_append, zs_len]; omega)]
      by_cases h1 : 8 * (l.length / 8) + j < l.length
      · rw [at0_app_l h1]
      · rw [at0_app_r (by omega)]; unfold zs; rw [at0_rep, at0_out (by omega)]
  · rw [List.getElem?_eq_none (by rw [pad_len]; omega), List.getElem?_eq_none (by omega)]
theorem pk_eat {l : List Int} {k : Nat} (s : St) (i : Nat) (h : i ≤ l.length / 8) : eat s (pk l k) i = eat s l i := by
  induction i with
  | zero => rfl
  | succ i ih => rw [eat, eat, ih (by omega), pk_word (by omega)]
theorem pk_sip {key l : List Int} {k : Nat} (h : k + l.length % 8 = 7) : sip key l = fin (eat (start key) (pk l k) (l.length / 8 + 1)) := by
  rw [eat, pk_eat _ _ (Nat.le_refl _), pk_last h]; rfl
def EatRel (w : World) (key p : List Int) (q g : Nat) (A : Option Addr) (cp : Nat) (i : Value) (wr : World) : Prop :=
  ∃ j a b c d : Nat, j ≤ q ∧ i = .int .i64 ((8 * j : Nat) : Int) ∧ eat (start key) p j = ⟨a, b, c, d⟩ ∧ OwnB wr (g + 1) (.slice A (8 * q) cp) p ∧
    Is wr g 167 #[.int .u64 (a : Int), .int .u64 (b : Int), .int .u64 (c : Int), .int .u64 (d : Int)] ∧ Below w.heap.size w wr
theorem own_put {w : World} {g : Nat} {v : Value} {l : List Int} (h : OwnB w (g + 1) v l) (i : Nat) (y : Value) : OwnB (w.setCell ⟨g, i, none⟩ y) (g + 1) v l := own_set h (own_far h (Nat.lt_succ_self g)) _
set_option maxRecDepth 100000 in
set_option maxHeartbeats 4000000 in
theorem rsum_any (key l : List Int) (cs : Array Value) (A : Option Addr) (n cp : Nat) (w : World) (hcs : cs = (u8s key).toArray) (hl : key.length = 16) (ho : Octets key) (hb : Bytes w w.heap.size A l) (hn : l.length = n) (hcp : n ≤ cp) (hlo : Octets l) (hm : n ≤ 90000000) (hA : cp ≤ maxLen) :
    Calls Try.prog 61 #[.agg cs, .slice A n cp] w fun e w' => e = .returned (.int .u64 ((sip key l : Nat) : Int)) ∧ Below w.heap.size w w' := by
  subst hn
  unfold maxLen at hA
  have HKL := Lib.hid hl; have HKO := Lib.hid ho; have HB0 := Lib.hid hb; have HO := Lib.hid hlo
  have HK : Hid (Is (w.alloc (.cells cs 36)) w.heap.size 36 (u8s key).toArray) := hide (by rw [← hcs]; exact Is.new w _ _)
  obtain ⟨a1, b1, a2, b2, est⟩ : ∃ a b c d, start key = ⟨a, b, c, d⟩ := ⟨_, _, _, _, rfl⟩
  have HST := Lib.hid est
  unfold start at est
  have ka := wordN_lt key ho 0
  have kb := wordN_lt key ho 1
  have ga : le (pad key 8) = wordN key 0 := by unfold wordN; rw [Nat.mul_zero, List.drop_zero]
  have gb : le (pad (key.drop 8) 8) = wordN key 1 := rfl
  generalize wordN key 0 = a at *
  generalize wordN key 1 = b at *
  have f1 : bits .xor .u64 (a : Int) 8317987319222330741 = ((a ^^^ 8317987319222330741 : Nat) : Int) := u64_xor_nat a 8317987319222330741 ka (by omega)
  have f2 : bits .xor .u64 (b : Int) 7237128888997146477 = ((b ^^^ 7237128888997146477 : Nat) : Int) := u64_xor_nat b 7237128888997146477 kb (by omega)
  have f3 : bits .xor .u64 (a : Int) 7816392313619706465 = ((a ^^^ 7816392313619706465 : Nat) : Int) := u64_xor_nat a 7816392313619706465 ka (by omega)
  have f4 : bits .xor .u64 (b : Int) 8387220255154660723 = ((b ^^^ 8387220255154660723 : Nat) : Int) := u64_xor_nat b 8387220255154660723 kb (by omega)
  simp only [St.mk.injEq] at est
  obtain ⟨e1, e2, e3, e4⟩ := est
  rw [e1] at f1
  rw [e2] at f2
  rw [e3] at f3
  rw [e4] at f4
  have HA := Lib.hid ga; have HB := Lib.hid gb
  clear hcs hl ho e1 e2 e3 e4 ka kb ga gb hb hlo
  go_enter Try.func61, Try.ntmps61
  go_wp2_with fail
  refine Lin.wp_region_lin_tail Lin.keeps (n := 86) 4 (fun slotq => match slotq with | 11 => Lin.Spec.val (.slice (some ⟨w.heap.size, 0, none⟩) 8 16) | 12 => Lin.Spec.val (.int .u64 (a : Int)) | 13 => Lin.Spec.val (.slice (some ⟨w.heap.size, 8, none⟩) 8 8) | 14 => Lin.Spec.val (.int .u64 (b : Int)) | _ => Lin.Spec.any) (by kernel_rfl) rfl (by kernel_rfl) ⟨?_, ?_, ?_, ?_, trivial⟩ ?_
  · intro ρ wq hb ho hc hd
    have hC : ∀ v, ρ (.const v) = v := fun v => hc _ (by intro t e; cases e)
    have hF : ∀ f, ρ (.func f) = .func (.func f) #[] #[] := fun f => hc _ (by intro t e; cases e)
    have h2 : ρ (.tmp 2) = .pointer (some ⟨w.heap.size, 0, none⟩) := ho 2 (by kernel_rfl)
    exact Lin.Runs.value Lin.keeps (v := .slice (some ⟨w.heap.size, 0, none⟩) 8 16) (by simp [execOp, go_sem, hC, hF, h2]) rfl
  · intro ρ wq hb ho hc hd
    have hC : ∀ v, ρ (.const v) = v := fun v => hc _ (by intro t e; cases e)
    have hF : ∀ f, ρ (.func f) = .func (.func f) #[] #[] := fun f => hc _ (by intro t e; cases e)
    have h11 : ρ (.tmp 11) = .slice (some ⟨w.heap.size, 0, none⟩) 8 16 := hd 11 (by kernel_rfl)
    refine Lin.Runs.call Lin.keeps (f := 103) (args := #[.slice (some ⟨w.heap.size, 0, none⟩) 8 16]) (by simp [execOp, go_sem, hC, hF, h11]) ?_
    have hk := bytes_of_is (HK.out.below hb HK.out.lt) 0 8 (by rw [HKL.out]; omega)
    rw [List.drop_zero] at hk
    have h := little_any (some ⟨w.heap.size, 0, none⟩) 8 16 (key.take 8) wq _ hk (by rw [List.length_take, HKL.out]; rfl) (by omega) (HKO.out.take 8)
    rw [pad_take, HA.out] at h
    exact h.mono fun e w2 ⟨he, hb2⟩ => ⟨_, he, hb2 ▸ Below.refl _ _, rfl⟩
  · intro ρ wq hb ho hc hd
    have hC : ∀ v, ρ (.const v) = v := fun v => hc _ (by intro t e; cases e)
    have hF : ∀ f, ρ (.func f) = .func (.func f) #[] #[] := fun f => hc _ (by intro t e; cases e)
    have h2 : ρ (.tmp 2) = .pointer (some ⟨w.heap.size, 0, none⟩) := ho 2 (by kernel_rfl)
    exact Lin.Runs.value Lin.keeps (v := .slice (some ⟨w.heap.size, 8, none⟩) 8 8) (by simp [execOp, go_sem, hC, hF, h2]) rfl
  · intro ρ wq hb ho hc hd
    have hC : ∀ v, ρ (.const v) = v := fun v => hc _ (by intro t e; cases e)
    have hF : ∀ f, ρ (.func f) = .func (.func f) #[] #[] := fun f => hc _ (by intro t e; cases e)
    have h13 : ρ (.tmp 13) = .slice (some ⟨w.heap.size, 8, none⟩) 8 8 := hd 13 (by kernel_rfl)
    refine Lin.Runs.call Lin.keeps (f := 103) (args := #[.slice (some ⟨w.heap.size, 8, none⟩) 8 8]) (by simp [execOp, go_sem, hC, hF, h13]) ?_
    have hk := bytes_of_is (HK.out.below hb HK.out.lt) 8 8 (by rw [HKL.out]; omega)
    have h := little_any (some ⟨w.heap.size, 8, none⟩) 8 8 ((key.drop 8).take 8) wq _ hk (by rw [List.length_take, List.length_drop, HKL.out]; rfl) (by omega) ((HKO.out.drop 8).take 8)
    rw [pad_take, HB.out] at h
    exact h.mono fun e w2 ⟨he, hb2⟩ => ⟨_, he, hb2 ▸ Below.refl _ _, rfl⟩
  · intro vals w2 hb2 hv
    have e12 : vals 12 = .int .u64 (a : Int) := hv 12 (by kernel_rfl)
    have e14 : vals 14 = .int .u64 (b : Int) := hv 14 (by kernel_rfl)
    change wpList _ _ _ [_, _] _ _
    simp only [Lin.putAll, Option.getD_some, List.take_succ_cons, List.take_zero, List.drop_succ_cons, List.drop_zero]
    rw [e12, e14]
    have hbe := ((Below.refl w.heap.size w).alloc (Nat.le_refl _) (.cells cs 36)).trans (hb2.mono (by simp))
    have hown := own_empty (w2.alloc (.cells #[.int .u64 (a1 : Int), .int .u64 (b1 : Int), .int .u64 (a2 : Int), .int .u64 (b2 : Int)] 167))
    rw [show (w2.alloc (.cells #[.int .u64 (a1 : Int), .int .u64 (b1 : Int), .int .u64 (a2 : Int), .int .u64 (b2 : Int)] 167)).heap.size = w2.heap.size + 1 from by simp] at hown
    have hzz : w2.heap.size + 1 ≤ ((w2.alloc (.cells #[.int .u64 (a1 : Int), .int .u64 (b1 : Int), .int .u64 (a2 : Int), .int .u64 (b2 : Int)] 167)).alloc (.cells #[] 5)).heap.size := by simp
    have hby := ((HB0.out.below hbe).alloc hbe.size (.cells #[.int .u64 (a1 : Int), .int .u64 (b1 : Int), .int .u64 (a2 : Int), .int .u64 (b2 : Int)] 167)).alloc (Nat.le_trans hbe.size (by simp)) (.cells #[] 5)
    have hi2 := (Is.new w2 167 #[.int .u64 (a1 : Int), .int .u64 (b1 : Int), .int .u64 (a2 : Int), .int .u64 (b2 : Int)]).alloc (.cells #[] 5)
    have hb3 := (hbe.alloc hbe.size (.cells #[.int .u64 (a1 : Int), .int .u64 (b1 : Int), .int .u64 (a2 : Int), .int .u64 (b2 : Int)] 167)).alloc (Nat.le_trans hbe.size (by simp)) (.cells #[] 5)
    have HOW := Lib.hid hown; have HBY := Lib.hid hby; have HI2 := Lib.hid hi2; have HB3 := Lib.hid hb3; have hgw := hbe.size
    clear hb2 hv hbe hown hby hi2 hb3
    go_simp
    generalize vals = vv
    go_wp2_with (with_reducible show wpList _ _ _ (⟨some 26, _, _, _, _, _⟩ :: _) _ _; (go_loud (refine app_bytes (.tmp 24) (.tmp 25) _ rfl rfl Try.underlying22 info8 (v := .slice (some ⟨w2.heap.size + 1, 0, none⟩) 0 0) (base := w2.heap.size + 1) (xs := []) (l := l) rfl HOW.out rfl rfl HBY.out (by rw [List.length_nil]; omega) hzz ?_); rw [List.length_nil, Nat.zero_add, List.nil_append]; intro A2 c2 w3 ho3 hg3 _))
    have hi3 := HI2.out.only hg3 (fun e => by have := (World.ownsRow.lt HOW.out _ e.symm).1; omega)
    have hb3 := HB3.out.grown hg3 (by simp; omega) (fun q hq => by have := (World.ownsRow.lt HOW.out _ hq).1; omega)
    clear HOW HBY HI2 HB3 hg3
    generalize w2.heap.size = g at *
    go_loopw [8] (fun r wr => PadRel w l g #[.int .u64 (a1 : Int), .int .u64 (b1 : Int), .int .u64 (a2 : Int), .int .u64 (b2 : Int)] r wr) (fun r _ => 7 - sliceLen r % 8)
    case atStart => exact ⟨0, by omega, by rw [show zs 0 = [] from rfl, List.append_nil]; exact ho3, hi3, hb3⟩
    case round =>
      obtain ⟨k, hk, ho, hi, hb⟩ := hrel
      obtain ⟨A3, c3, rfl⟩ := ho.shape
      have hlen : (l ++ zs k).length = l.length + k := by rw [List.length_append, zs_len]
      rw [hlen] at ho ⊢
      have hrem : ((l.length + k : Nat) : Int).tmod 8 = ((l.length % 8 + k : Nat) : Int) := by rw [Int.tmod_eq_emod_of_nonneg (by omega)]; omega
      have hrem2 : ((l.length + k : Nat) : Int) % 8 = ((l.length % 8 + k : Nat) : Int) := by omega
      have HOW := Lib.hid ho; have HI := Lib.hid hi; have HB := Lib.hid hb; have HLEN := Lib.hid hlen
      have hz := hi.lt
      clear ho hi hb hlen ho3 hi3 hb3
      by_cases hlt : k + l.length % 8 < 7
      · have HST : Hid (l ++ zs k ++ [0] = l ++ zs (k + 1)) := hide (by rw [List.append_assoc]; congr 1; unfold zs; rw [List.replicate_succ'])
        have h7 : ¬ ((l.length % 8 + k : Nat) : Int) = 7 := by omega
        go_wp2_with (with_reducible show wpList _ _ _ (⟨some 33, _, _, _, _, _⟩ :: _) _ _; (go_loud (refine app_bytes (.tmp 31) (.tmp 32) _ rfl rfl Try.underlying22 info8 (v := .slice A3 (l.length + k) c3) (base := g + 1) (xs := l ++ zs k) (l := [0]) rfl (HOW.out.alloc _) rfl rfl (Bytes.one _ _) (by rw [HLEN.out, List.length_singleton]; omega) (Nat.le_trans hz (by simp)) ?_); rw [HLEN.out]; intro A4 c4 w4 ho4 hg4 _))
        rw [HST.out] at ho4
        exact ⟨⟨k + 1, by omega, ho4, (HI.out.alloc _).only hg4 (fun e => by have := (World.ownsRow.lt (HOW.out.alloc (.cells #[.int .u8 0] 5)) _ e.symm).1; omega), (HB.out.alloc HB.out.size _).grown hg4 (by have := HB.out.size; simp at this ⊢; omega) (fun q hq => by have := (World.ownsRow.lt (HOW.out.alloc (.cells #[.int .u8 0] 5)) _ hq).1; omega)⟩, by simp [sliceLen]; omega⟩
      · have hk7 : k + l.length % 8 = 7 := by omega
        have HK7 := Lib.hid hk7
        have hm1 : (l.length : Int).tmod 256 = ((l.length % 256 : Nat) : Int) := by rw [Int.tmod_eq_emod_of_nonneg (by omega)]; rfl
        have hm2 : (l.length : Int) % 256 = ((l.length % 256 : Nat) : Int) := rfl
        have hm3 : IntKind.u8.wrap ((l.length % 256 : Nat) : Int) = ((l.length % 256 : Nat) : Int) := by rw [IntKind.wrap_u8]; omega
        have HPK : Hid (l ++ zs k ++ [((l.length % 256 : Nat) : Int)] = pk l k) := hide rfl
        have h7 : ((l.length % 8 + k : Nat) : Int) = 7 := by omega
        generalize l.length % 256 = x at *
        go_wp2_with (with_reducible show wpList _ _ _ (⟨some 40, _, _, _, _, _⟩ :: _) _ _; (go_loud (refine app_bytes (.tmp 34) (.tmp 39) _ rfl rfl Try.underlying22 info8 (v := .slice A3 (l.length + k) c3) (base := g + 1) (xs := l ++ zs k) (l := [(x : Int)]) rfl (HOW.out.alloc _) rfl rfl (Bytes.one _ _) (by rw [HLEN.out, List.length_singleton]; omega) (Nat.le_trans hz (by simp)) ?_); rw [HLEN.out]; intro A4 c4 w4 ho4 hg4 _))
        rw [HPK.out] at ho4
        obtain ⟨q, hq⟩ : ∃ q, q = l.length / 8 + 1 := ⟨_, rfl⟩
        have hl4 : l.length + k + 1 = 8 * q := by omega
        have hpl := pk_len HK7.out
        have hpo := pk_ok HO.out k
        have hsip := pk_sip (key := key) HK7.out
        rw [← hq] at hpl hsip
        have hi4 := (HI.out.alloc (.cells #[.int .u8 (x : Int)] 5)).only hg4 (fun e => by have := (World.ownsRow.lt (HOW.out.alloc (.cells #[.int .u8 (x : Int)] 5)) _ e.symm).1; omega)
        have hb4 := (HB.out.alloc HB.out.size (.cells #[.int .u8 (x : Int)] 5)).grown hg4 (by have := HB.out.size; simp at this ⊢; omega) (fun q hq => by have := (World.ownsRow.lt (HOW.out.alloc (.cells #[.int .u8 (x : Int)] 5)) _ hq).1; omega)
        have hq9 : q ≤ 20000000 := by omega
        rw [hl4]
        rw [List.length_singleton, hl4] at ho4
        clear hg4 HI HB HOW HPK HLEN hrem hrem2 hm1 hm2 hm3 h7 HK7 hk7 hlt hk hl4 hq hz hcp f1 f2 f3 f4 HA
        generalize pk l k = p at *
        go_loopw [9] (fun i wr => EatRel w key p q g A4 c4 i wr) (fun i _ => (8 * q - intOf i).toNat)
        case atStart => exact ⟨0, _, _, _, _, Nat.zero_le _, rfl, HST.out, ho4, hi4, hb4⟩
        case round =>
          obtain ⟨j, a, b, c, d, hj, rfl, heat, ho, hi, hb⟩ := hrel
          clear ho4 hi4 hb4
          have hok : St.ok ⟨a, b, c, d⟩ := by rw [← heat]; exact eat_ok (start_ok HKO.out) hpo j
          have hcp := ho.cap
          have hby := ho.bytes
          rw [hpl] at hcp
          have hcp1 := hcp.1
          have hcp2 := hcp.2.1
          unfold maxLen at hcp2
          clear hcp
          have HOW := Lib.hid ho; have HI := Lib.hid hi; have HB := Lib.hid hb; have HEAT := Lib.hid heat; have HBY := Lib.hid hby
          have c0 := hi.cell 0
          have c1 := hi.cell 1
          have c2' := hi.cell 2
          have c3' := hi.cell 3
          have y0 := hi.free 0
          have y1 := hi.free 1
          have y2 := hi.free 2
          have y3 := hi.free 3
          have hgz := hi.lt
          simp at c0 c1 c2' c3'
          clear ho hi hb heat hby
          by_cases hlt : j < q
          · obtain ⟨m, hmm⟩ : ∃ m, wordN p j = m := ⟨_, rfl⟩
            have hml : m < 18446744073709551616 := by rw [← hmm]; exact wordN_lt p hpo j
            have f1 := u64_xor_nat d m hok.2.2.2 hml
            have k1 : St.ok ⟨a, b, c, d ^^^ m⟩ := ⟨hok.1, hok.2.1, hok.2.2.1, xor_lt64 hok.2.2.2 hml⟩
            have hnext : eat (start key) p (j + 1) = ⟨(rnd (rnd ⟨a, b, c, d ^^^ m⟩)).a ^^^ m, (rnd (rnd ⟨a, b, c, d ^^^ m⟩)).b, (rnd (rnd ⟨a, b, c, d ^^^ m⟩)).c, (rnd (rnd ⟨a, b, c, d ^^^ m⟩)).d⟩ := by rw [eat, HEAT.out, hmm]; rfl
            generalize d ^^^ m = dm at *
            have k2 := rnd_ok k1
            obtain ⟨ra, rb, rc, rd, er1⟩ : ∃ a1 b1 c1 d1, rnd ⟨a, b, c, dm⟩ = ⟨a1, b1, c1, d1⟩ := ⟨_, _, _, _, rfl⟩
            have HR1 := hide (fun W => rround_lit k1 er1 W)
            rw [er1] at k2 hnext
            have k3 := rnd_ok k2
            obtain ⟨sa, sb, sc, sd, er2⟩ : ∃ a1 b1 c1 d1, rnd ⟨ra, rb, rc, rd⟩ = ⟨a1, b1, c1, d1⟩ := ⟨_, _, _, _, rfl⟩
            have HR2 := hide (fun W => rround_lit k2 er2 W)
            rw [er2] at k3 hnext
            have f2 := u64_xor_nat sa m k3.1 hml
            simp only at hnext
            generalize sa ^^^ m = ta at *
            have HN := Lib.hid hnext; have HM := Lib.hid hmm
            clear hnext hmm hml k1 k2 k3 er1 er2 hok
            have hby := bytes_take (bytes_drop HBY.out (8 * j) c4 (by rw [hpl]; exact hcp1)) 8
            have hb8 : ((p.drop (8 * j)).take 8).length = 8 := by rw [List.length_take, List.length_drop, hpl]; omega
            have ho8 : Octets ((p.drop (8 * j)).take 8) := (hpo.drop _).take 8
            have hpw : le (pad ((p.drop (8 * j)).take 8) 8) = m := by rw [pad_take]; exact HM.out
            have HLT := fun A' c' (e : A' = (if c4 = 8 * j then A4 else A4.map (·.add (8 * j)))) => little_any A' 8 c' _ wr wr.heap.size (by rw [e]; exact hby) hb8 (by omega) ho8
            rw [hpw] at HLT
            have HLIT := Lib.hid HLT
            clear HLT hby hb8 ho8 hpw HBY
            go_wp2_with fail
            refine (HLIT.out _ _ (if_neg (by omega)).symm).mono ?_
            rintro e w5 ⟨rfl, rfl⟩
            have HO1 := hide (own_put HOW.out 3 (.int .u64 (dm : Int)))
            have HI1 := hide (HI.out.put 3 (.int .u64 (dm : Int)))
            have HB1 := hide (HB.out.setCell (p := ⟨g, 3, none⟩) hgw (.int .u64 (dm : Int)))
            clear HLIT
            go_wp2_with fail
            refine (unhide HR1 _).mono ?_
            rintro e w6 ⟨rfl, hb6⟩
            have HO6 := hide (HO1.out.below hb6)
            have HI6 := hide (HI1.out.below hb6 HI1.out.lt)
            have HB6 := hide (HB1.out.trans (hb6.mono HB1.out.size))
            clear hb6 c0 c1 c2' c3' y0 y1 y2 y3
            go_wp2_with fail
            refine (unhide HR2 _).mono ?_
            rintro e w7 ⟨rfl, hb7⟩
            have hi7 := HI6.out.below hb7 HI6.out.lt
            have HO7 := hide (HO6.out.below hb7)
            have HB7 := hide (HB6.out.trans (hb7.mono HB6.out.size))
            have z0 := hi7.cell 0
            have z1 := hi7.cell 1
            have z2 := hi7.cell 2
            have z3 := hi7.cell 3
            have y0 := hi7.free 0
            have y1 := hi7.free 1
            have y2 := hi7.free 2
            have y3 := hi7.free 3
            have hz7 := hi7.lt
            simp at z0 z1 z2 z3
            have HI7 := Lib.hid hi7
            clear hi7 hb7
            go_wp2_with fail
            exact ⟨⟨j + 1, ta, sb, sc, sd, by omega, by go_num, HN.out, own_put (own_put (own_put (own_put (own_put HO7.out _ _) _ _) _ _) _ _) _ _, (four_put HI7.out).put 0 _, (below4 HB7.out hgw).setCell (p := ⟨g, 0, none⟩) hgw _⟩, by simp [intOf]; omega⟩
          · obtain rfl : j = q := by omega
            rw [HEAT.out] at hsip
            have fx : bits .xor .u64 (c : Int) 255 = ((c ^^^ 255 : Nat) : Int) := u64_xor_nat c 255 hok.2.2.1 (by omega)
            have k0 : St.ok ⟨a, b, c ^^^ 255, d⟩ := ⟨hok.1, hok.2.1, xor_lt64 hok.2.2.1 (by omega), hok.2.2.2⟩
            have hfin : sip key l = (rnd (rnd (rnd (rnd ⟨a, b, c ^^^ 255, d⟩)))).a ^^^ (rnd (rnd (rnd (rnd ⟨a, b, c ^^^ 255, d⟩)))).b ^^^ (rnd (rnd (rnd (rnd ⟨a, b, c ^^^ 255, d⟩)))).c ^^^ (rnd (rnd (rnd (rnd ⟨a, b, c ^^^ 255, d⟩)))).d := hsip
            clear hsip
            generalize c ^^^ 255 = cx at *
            have k1 := rnd_ok k0
            obtain ⟨ra1, rb1, rc1, rd1, er1⟩ : ∃ a' b' c' d', rnd ⟨a, b, cx, d⟩ = ⟨a', b', c', d'⟩ := ⟨_, _, _, _, rfl⟩
            have HR1 := hide (fun W => rround_lit k0 er1 W)
            rw [er1] at k1 hfin
            have k2 := rnd_ok k1
            obtain ⟨ra2, rb2, rc2, rd2, er2⟩ : ∃ a' b' c' d', rnd ⟨ra1, rb1, rc1, rd1⟩ = ⟨a', b', c', d'⟩ := ⟨_, _, _, _, rfl⟩
            have HR2 := hide (fun W => rround_lit k1 er2 W)
            rw [er2] at k2 hfin
            have k3 := rnd_ok k2
            obtain ⟨ra3, rb3, rc3, rd3, er3⟩ : ∃ a' b' c' d', rnd ⟨ra2, rb2, rc2, rd2⟩ = ⟨a', b', c', d'⟩ := ⟨_, _, _, _, rfl⟩
            have HR3 := hide (fun W => rround_lit k2 er3 W)
            rw [er3] at k3 hfin
            have k4 := rnd_ok k3
            obtain ⟨ra4, rb4, rc4, rd4, er4⟩ : ∃ a' b' c' d', rnd ⟨ra3, rb3, rc3, rd3⟩ = ⟨a', b', c', d'⟩ := ⟨_, _, _, _, rfl⟩
            have HR4 := hide (fun W => rround_lit k3 er4 W)
            rw [er4] at k4 hfin
            simp only at hfin
            have x1 := u64_xor_nat ra4 rb4 k4.1 k4.2.1
            have x2 := u64_xor_nat (ra4 ^^^ rb4) rc4 (xor_lt64 k4.1 k4.2.1) k4.2.2.1
            have x3 := u64_xor_nat (ra4 ^^^ rb4 ^^^ rc4) rd4 (xor_lt64 (xor_lt64 k4.1 k4.2.1) k4.2.2.1) k4.2.2.2
            rw [← hfin] at x3
            generalize ra4 ^^^ rb4 ^^^ rc4 = y2' at *
            generalize ra4 ^^^ rb4 = y1' at *
            have HI1 := hide (HI.out.put 2 (.int .u64 (cx : Int)))
            have HB1 := hide (HB.out.setCell (p := ⟨g, 2, none⟩) hgw (.int .u64 (cx : Int)))
            clear k0 k1 k2 k3 k4 er1 er2 er3 er4 hfin hok hlt HBY HOW
            go_wp2_with fail
            refine (unhide HR1 _).mono ?_
            rintro e w5 ⟨rfl, hb5⟩
            have HI5 := hide (HI1.out.below hb5 HI1.out.lt)
            have HB5 := hide (HB1.out.trans (hb5.mono HB1.out.size))
            clear hb5 c0 c1 c2' c3' y0 y1 y2 y3
            go_wp2_with fail
            refine (unhide HR2 _).mono ?_
            rintro e w6 ⟨rfl, hb6⟩
            have HI6 := hide (HI5.out.below hb6 HI5.out.lt)
            have HB6 := hide (HB5.out.trans (hb6.mono HB5.out.size))
            clear hb6
            go_wp2_with fail
            refine (unhide HR3 _).mono ?_
            rintro e w7 ⟨rfl, hb7⟩
            have HI7 := hide (HI6.out.below hb7 HI6.out.lt)
            have HB7 := hide (HB6.out.trans (hb7.mono HB6.out.size))
            clear hb7
            go_wp2_with fail
            refine (unhide HR4 _).mono ?_
            rintro e w8 ⟨rfl, hb8⟩
            have hi8 := HI7.out.below hb8 HI7.out.lt
            have z0 := hi8.cell 0
            have z1 := hi8.cell 1
            have z2 := hi8.cell 2
            have z3 := hi8.cell 3
            have y0 := hi8.free 0
            have y1 := hi8.free 1
            have y2 := hi8.free 2
            have y3 := hi8.free 3
            have hz8 := hi8.lt
            simp at z0 z1 z2 z3
            have HB8 := hide (HB7.out.trans (hb8.mono HB7.out.size))
            clear hi8 hb8
            go_wp2_with fail
            go_ret
            exact ⟨rfl, below4 HB8.out hgw⟩
end Go.Proofs.Ythjkjohmaemmiaa
