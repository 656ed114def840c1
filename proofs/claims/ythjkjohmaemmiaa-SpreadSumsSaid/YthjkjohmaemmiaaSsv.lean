/-
  Flow of package spread, and the law SpreadSums, walked. Helper of the claim SpreadSums. No condition.
-/
import Derived.Test.YthjkjohmaemmiaaSsu
import Derived.Test.YthjkjohmaemmiaaFlo
namespace Go.Proofs.Ythjkjohmaemmiaa
open Go.ChangeShapes Go.WideShapes Go.ChangeAt Go.RowKit
set_option linter.unusedSimpArgs false
set_option linter.unusedVariables false
set_option maxRecDepth 100000
theorem is_raw7 {w : World} {g : Nat} {t : TypeId} {cs : Array Value} (h : Is w g t cs) : w.heap[g]? = some (.cells cs t (0, 0)) := h
theorem kb_len (s6 : Bool) (sh sl : Nat) (d6 : Bool) (dh dl sp dp po : Nat) : (ab s6 sh sl ++ ab d6 dh dl ++ be sp 2 ++ be dp 2).length = (abn s6 + abn d6 + 2 + 2) := by simp [ab_len, be_len]; omega
theorem kb_ok (s6 : Bool) (sh sl : Nat) (d6 : Bool) (dh dl sp dp po : Nat) : Octets (ab s6 sh sl ++ ab d6 dh dl ++ be sp 2 ++ be dp 2) := (((ab_ok _ _ _).app (ab_ok _ _ _)).app (be_ok _ _)).app (be_ok _ _)
theorem kb_le (s6 d6 : Bool) : (abn s6 + abn d6 + 2 + 2) ≤ 36 := by have := abn_le s6; have := abn_le d6; omega
theorem isb_bytes {l : List Int} {n c : Nat} {A : Option Addr} {w : World} (h : IsB l n (.slice A n c) w) : Bytes w w.heap.size A l := by
  obtain ⟨A', c', e, h1, h2, _⟩ := h
  injection e with e1 e2 e3; subst e1; exact h2
theorem isb_caps {l : List Int} {n c : Nat} {A : Option Addr} {w : World} (h : IsB l n (.slice A n c) w) : n ≤ c ∧ c ≤ maxLen := by
  obtain ⟨A', c', e, h1, h2, h3, h4, _⟩ := h
  injection e with e1 e2 e3; subst e3; exact ⟨h3, h4⟩
theorem isb_len {l : List Int} {n : Nat} {v : Value} {w : World} (h : IsB l n v w) : l.length = n := by
  obtain ⟨A', c', e, h1, _⟩ := h; exact h1
/-- Sum of a slice that reads as l. -/
theorem ssum {key l : List Int} {nk n ck c : Nat} {K A : Option Addr} {w : World} (hk : IsB key nk (.slice K nk ck) w) (hok : Octets key) (hl : IsB l n (.slice A n c) w) (ho : Octets l) (hnk : nk ≤ 1000000) (hn : n ≤ 1000000) :
    Calls Try.prog 15 #[.slice K nk ck, .slice A n c] w fun e w' => e = .returned (.int .u32 ((tsum key l (8 * n) : Nat) : Int)) ∧ Below w.heap.size w w' := by
  have e1 := isb_len hk; have e2 := isb_len hl
  subst e1; subst e2
  exact (sum_any K A ck c key l w _ (isb_bytes hk) hok (isb_bytes hl) ho hnk hn).mono fun e w' h => ⟨h.1, by rw [← h.2]; exact Below.refl _ _⟩
theorem srsum {key l : List Int} {nk n ck c : Nat} {K A : Option Addr} {w : World} (hk : IsB key nk (.slice K nk ck) w) (hok : Octets key) (hl : IsB l n (.slice A n c) w) (ho : Octets l) (hnk : nk ≤ 1000000) (hn : n ≤ 1000000) :
    Calls Try.prog 16 #[.slice K nk ck, .slice A n c] w fun e w' => e = .returned (.int .u32 ((tsum key l (8 * n) : Nat) : Int)) ∧ Below w.heap.size w w' := by
  have e1 := isb_len hk; have e2 := isb_len hl
  subst e1; subst e2
  exact (rsum41 K A ck c key l w _ (isb_bytes hk) hok (isb_bytes hl) ho hnk hn).mono fun e w' h => ⟨h.1, by rw [← h.2]; exact Below.refl _ _⟩
theorem isb_front {a b : List Int} {q c : Nat} {A : Option Addr} {w : World} (h : IsB (a ++ b) (q + 1) (.slice A (q + 1) c) w) (ha : a.length = q) : IsB a q (.slice A q c) w := by
  have h1 := IsB.take h (Nat.le_succ q)
  rwa [List.take_left' ha] at h1
set_option maxHeartbeats 1000000 in
theorem cflow (s6 : Bool) (sh sl : Nat) (d6 : Bool) (dh dl sp dp po : Nat) (hsh : sh < 18446744073709551616) (hsl : sl < 18446744073709551616) (hdh : dh < 18446744073709551616) (hdl : dl < 18446744073709551616) (hsp : sp ≤ 65535) (hdp : dp ≤ 65535) (hpo : po ≤ 255) (key : List Int) (hok : Octets key) (nk ck : Nat) (K : Option Addr) (hnk : nk ≤ 1000) (w : World) (hk : IsB key nk (.slice K nk ck) w) :
    Calls Try.prog 18 #[.slice K nk ck, .agg #[.bool s6, .int .u64 (sh : Int), .int .u64 (sl : Int), .bool d6, .int .u64 (dh : Int), .int .u64 (dl : Int), .int .u16 (sp : Int), .int .u16 (dp : Int), .int .u8 (po : Int)]] w fun e w' => e = .returned (.int .u32 ((tsum key (ab s6 sh sl ++ ab d6 dh dl ++ be sp 2 ++ be dp 2) (8 * (abn s6 + abn d6 + 2 + 2)) : Nat) : Int)) ∧ Below w.heap.size w w' := by
  have KT := hide (fun W => akey s6 sh sl d6 dh dl sp dp po hsh hsl hdh hdl hsp hdp hpo W)
  unfold kf kfn at KT
  have LL := Lib.hid (kb_len s6 sh sl d6 dh dl sp dp po); have OO := Lib.hid (kb_ok s6 sh sl d6 dh dl sp dp po)
  have hq := kb_le s6 d6
  generalize (ab s6 sh sl ++ ab d6 dh dl ++ be sp 2 ++ be dp 2) = l at *
  generalize (abn s6 + abn d6 + 2 + 2) = q at *
  have HK := Lib.hid hk; have HOK := Lib.hid hok
  obtain ⟨fc, hfc⟩ : ∃ fc : Array Value, fc = #[.bool s6, .int .u64 (sh : Int), .int .u64 (sl : Int), .bool d6, .int .u64 (dh : Int), .int .u64 (dl : Int), .int .u16 (sp : Int), .int .u16 (dp : Int), .int .u8 (po : Int)] := ⟨_, rfl⟩
  have FSZ := Lib.hid (show fc.size = 9 from by rw [hfc]; rfl)
  rw [← hfc] at KT ⊢
  have HB0 := Lib.hid (show Below w.heap.size w (w.alloc (.cells fc 28)) from (Below.refl _ _).alloc (Nat.le_refl _) _)
  clear hk hok hfc
  have F0 := Lib.hid (Is.new w 28 fc)
  go_enter Try.func18, Try.ntmps18
  go_wp2_with (with_reducible show wpList _ _ _ (⟨some 6, _, _, _, _, _⟩ :: _) _ _; go_loud (refine Go.wpList_load_row rfl 28 (.tmp 3) rfl w.heap.size rfl 28 fc (0, 0) _ (is_raw7 F0.out) Try.underlying28 rfl (by rw [FSZ.out]; kernel_rfl) ?_))
  generalize w.alloc (.cells fc 28) = W at *
  refine (unhide KT _).mono ?_
  rintro e w1 ⟨v, rfl, hb, hv⟩
  obtain ⟨A, c, rfl⟩ := hv.shape
  have HV := Lib.hid hv.isb
  have HB1 := Lib.hid (HB0.out.trans (hb.mono HB0.out.size))
  have hcp := isb_caps hv.isb
  unfold maxLen at hcp
  obtain ⟨hc0, hc1⟩ := hcp
  clear hb hv HB0
  have e1 : ((q + 1 : Nat) : Int) - 1 = (q : Int) := by omega
  have e2 : (q : Int) ≤ (c : Int) := by omega
  have e3 : (0 : Int) ≤ (q : Int) := by omega
  have e4 : (q : Int) ≤ ((q + 1 : Nat) : Int) := by omega
  go_wp2_with fail
  refine (ssum (HK.out.st HB1.out) HOK.out (isb_front HV.out LL.out) OO.out (by omega) (by omega)).mono ?_
  rintro e w2 ⟨rfl, hb⟩
  have HB2 := Lib.hid (HB1.out.trans (hb.mono HB1.out.size))
  clear hb
  go_wp2_with fail
  go_ret
  exact ⟨rfl, HB2.out⟩
end Go.Proofs.Ythjkjohmaemmiaa
