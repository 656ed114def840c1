/-
  The law SpreadSums, walked. Helper of the claim SpreadSums. No condition.
-/
import Derived.Test.YthjkjohmaemmiaaSsv
namespace Go.Proofs.Ythjkjohmaemmiaa
open Go.ChangeShapes Go.WideShapes Go.ChangeAt Go.RowKit
set_option linter.unusedSimpArgs false
set_option linter.unusedVariables false
set_option maxRecDepth 100000
set_option maxHeartbeats 1000000 in
theorem sums_big (K : Option Addr) (nk ck : Nat) (key : List Int) (A : Option Addr) (n c : Nat) (l : List Int) (s6 : Bool) (sh sl : Nat) (d6 : Bool) (dh dl sp dp po : Nat) (w : World) (h : 60 < nk ∨ nk ≤ 60 ∧ 100 < n) : Calls Try.prog 3 #[.slice K nk ck, .slice A n c, .agg #[.bool s6, .int .u64 (sh : Int), .int .u64 (sl : Int), .bool d6, .int .u64 (dh : Int), .int .u64 (dl : Int), .int .u16 (sp : Int), .int .u16 (dp : Int), .int .u8 (po : Int)]] w fun e w' => e = .returned (.bool true) ∧ Below w.heap.size w w' := by
  have HB0 := Lib.hid (show Below w.heap.size w (w.alloc (.cells #[.bool s6, .int .u64 (sh : Int), .int .u64 (sl : Int), .bool d6, .int .u64 (dh : Int), .int .u64 (dl : Int), .int .u16 (sp : Int), .int .u16 (dp : Int), .int .u8 (po : Int)] 28)) from (Below.refl _ _).alloc (Nat.le_refl _) _)
  rcases h with h | ⟨h, h2⟩
  · have g1 : (60 : Int) < (nk : Int) := by omega
    go_enter Try.func3, Try.ntmps3
    go_wp2_with fail
    generalize (w.alloc (.cells #[.bool s6, .int .u64 (sh : Int), .int .u64 (sl : Int), .bool d6, .int .u64 (dh : Int), .int .u64 (dl : Int), .int .u16 (sp : Int), .int .u16 (dp : Int), .int .u8 (po : Int)] 28)) = W at *
    refine (awake41 _).mono ?_
    rintro e w9 ⟨rfl, hb⟩
    have HB9 := Lib.hid (HB0.out.trans (hb.mono HB0.out.size))
    clear hb
    go_wp2_with fail
    go_ret
    exact ⟨rfl, HB9.out⟩
  · have g1 : ¬ (60 : Int) < (nk : Int) := by omega
    have g2 : (100 : Int) < (n : Int) := by omega
    go_enter Try.func3, Try.ntmps3
    go_wp2_with fail
    generalize (w.alloc (.cells #[.bool s6, .int .u64 (sh : Int), .int .u64 (sl : Int), .bool d6, .int .u64 (dh : Int), .int .u64 (dl : Int), .int .u16 (sp : Int), .int .u16 (dp : Int), .int .u8 (po : Int)] 28)) = W at *
    refine (awake41 _).mono ?_
    rintro e w9 ⟨rfl, hb⟩
    have HB9 := Lib.hid (HB0.out.trans (hb.mono HB0.out.size))
    clear hb
    go_wp2_with fail
    go_ret
    exact ⟨rfl, HB9.out⟩
set_option maxHeartbeats 1000000 in
theorem sums_no1 (K : Option Addr) (nk ck : Nat) (key : List Int) (A : Option Addr) (n c : Nat) (l : List Int) (s6 : Bool) (sh sl : Nat) (d6 : Bool) (dh dl sp dp po : Nat) (hsh : sh < 18446744073709551616) (hsl : sl < 18446744073709551616) (hdh : dh < 18446744073709551616) (hdl : dl < 18446744073709551616) (hsp : sp ≤ 65535) (hdp : dp ≤ 65535) (hpo : po ≤ 255) (w : World) (hk : IsB key nk (.slice K nk ck) w) (hok : Octets key) (hl : IsB l n (.slice A n c) w) (ho : Octets l) (hnk : nk ≤ 60) (hn : n ≤ 100) (hr : aright s6 sh sl = false) : Calls Try.prog 3 #[.slice K nk ck, .slice A n c, .agg #[.bool s6, .int .u64 (sh : Int), .int .u64 (sl : Int), .bool d6, .int .u64 (dh : Int), .int .u64 (dl : Int), .int .u16 (sp : Int), .int .u16 (dp : Int), .int .u8 (po : Int)]] w fun e w' => e = .returned (.bool true) ∧ Below w.heap.size w w' := by
  have KTT := hide (fun W h => (ssum (w := W) (key := key) (l := l) (nk := nk) (n := n) (ck := ck) (c := c) (K := K) (A := A) h hok)); have RTT := hide (fun W h => (srsum (w := W) (key := key) (l := l) (nk := nk) (n := n) (ck := ck) (c := c) (K := K) (A := A) h hok))
  have HO := Lib.hid ho
  have HB0 := Lib.hid (show Below w.heap.size w (w.alloc (.cells #[.bool s6, .int .u64 (sh : Int), .int .u64 (sl : Int), .bool d6, .int .u64 (dh : Int), .int .u64 (dl : Int), .int .u16 (sp : Int), .int .u16 (dp : Int), .int .u8 (po : Int)] 28)) from (Below.refl _ _).alloc (Nat.le_refl _) _)
  have F0 := Lib.hid (Is.new w 28 #[.bool s6, .int .u64 (sh : Int), .int .u64 (sl : Int), .bool d6, .int .u64 (dh : Int), .int .u64 (dl : Int), .int .u16 (sp : Int), .int .u16 (dp : Int), .int .u8 (po : Int)])
  have HK := Lib.hid hk; have HL := Lib.hid hl
  have g1 : ¬ (60 : Int) < (nk : Int) := by omega
  have g2 : ¬ (100 : Int) < (n : Int) := by omega
  have R1 := hide (fun W => aright_any s6 sh sl W); have R2 := hide (fun W => aright_any d6 dh dl W)
  rw [hr] at R1
  clear hk hl hok ho hr
  go_enter Try.func3, Try.ntmps3
  go_wp2_with fail
  generalize (w.alloc (.cells #[.bool s6, .int .u64 (sh : Int), .int .u64 (sl : Int), .bool d6, .int .u64 (dh : Int), .int .u64 (dl : Int), .int .u16 (sp : Int), .int .u16 (dp : Int), .int .u8 (po : Int)] 28)) = W at *
  refine (unhide R1 _).mono ?_
  rintro e w1 ⟨rfl, hb⟩
  have HB1 := Lib.hid (HB0.out.trans (hb.mono HB0.out.size)); have F1 := Lib.hid (F0.out.below hb F0.out.lt)
  have a3 := F1.out.cell 3; have a4 := F1.out.cell 4; have a5 := F1.out.cell 5
  simp at a3 a4 a5
  clear hb HB0 F0
  go_wp2_with fail
  have HBX := HB1
  refine (unhide KTT _ (HK.out.st HBX.out) (HL.out.st HBX.out) HO.out (by omega) (by omega)).mono ?_
  rintro e w3 ⟨rfl, hb⟩
  have HB3 := Lib.hid (HBX.out.trans (hb.mono HBX.out.size))
  clear hb
  go_wp2_with fail
  refine (unhide RTT _ (HK.out.st HB3.out) (HL.out.st HB3.out) HO.out (by omega) (by omega)).mono ?_
  rintro e w4 ⟨rfl, hb⟩
  have HB4 := Lib.hid (HB3.out.trans (hb.mono HB3.out.size))
  clear hb
  go_wp2_with fail
  refine (awake41 _).mono ?_
  rintro e w9 ⟨rfl, hb⟩
  have HB9 := Lib.hid (HB4.out.trans (hb.mono HB4.out.size))
  clear hb
  go_wp2_with fail
  go_ret
  exact ⟨rfl, HB9.out⟩
set_option maxHeartbeats 1000000 in
theorem sums_no2 (K : Option Addr) (nk ck : Nat) (key : List Int) (A : Option Addr) (n c : Nat) (l : List Int) (s6 : Bool) (sh sl : Nat) (d6 : Bool) (dh dl sp dp po : Nat) (hsh : sh < 18446744073709551616) (hsl : sl < 18446744073709551616) (hdh : dh < 18446744073709551616) (hdl : dl < 18446744073709551616) (hsp : sp ≤ 65535) (hdp : dp ≤ 65535) (hpo : po ≤ 255) (w : World) (hk : IsB key nk (.slice K nk ck) w) (hok : Octets key) (hl : IsB l n (.slice A n c) w) (ho : Octets l) (hnk : nk ≤ 60) (hn : n ≤ 100) (hr : aright s6 sh sl = true) (hr2 : aright d6 dh dl = false) : Calls Try.prog 3 #[.slice K nk ck, .slice A n c, .agg #[.bool s6, .int .u64 (sh : Int), .int .u64 (sl : Int), .bool d6, .int .u64 (dh : Int), .int .u64 (dl : Int), .int .u16 (sp : Int), .int .u16 (dp : Int), .int .u8 (po : Int)]] w fun e w' => e = .returned (.bool true) ∧ Below w.heap.size w w' := by
  have KTT := hide (fun W h => (ssum (w := W) (key := key) (l := l) (nk := nk) (n := n) (ck := ck) (c := c) (K := K) (A := A) h hok)); have RTT := hide (fun W h => (srsum (w := W) (key := key) (l := l) (nk := nk) (n := n) (ck := ck) (c := c) (K := K) (A := A) h hok))
  have HO := Lib.hid ho
  have HB0 := Lib.hid (show Below w.heap.size w (w.alloc (.cells #[.bool s6, .int .u64 (sh : Int), .int .u64 (sl : Int), .bool d6, .int .u64 (dh : Int), .int .u64 (dl : Int), .int .u16 (sp : Int), .int .u16 (dp : Int), .int .u8 (po : Int)] 28)) from (Below.refl _ _).alloc (Nat.le_refl _) _)
  have F0 := Lib.hid (Is.new w 28 #[.bool s6, .int .u64 (sh : Int), .int .u64 (sl : Int), .bool d6, .int .u64 (dh : Int), .int .u64 (dl : Int), .int .u16 (sp : Int), .int .u16 (dp : Int), .int .u8 (po : Int)])
  have HK := Lib.hid hk; have HL := Lib.hid hl
  have g1 : ¬ (60 : Int) < (nk : Int) := by omega
  have g2 : ¬ (100 : Int) < (n : Int) := by omega
  have R1 := hide (fun W => aright_any s6 sh sl W); have R2 := hide (fun W => aright_any d6 dh dl W)
  rw [hr] at R1; rw [hr2] at R2
  clear hk hl hok ho hr hr2
  go_enter Try.func3, Try.ntmps3
  go_wp2_with fail
  generalize (w.alloc (.cells #[.bool s6, .int .u64 (sh : Int), .int .u64 (sl : Int), .bool d6, .int .u64 (dh : Int), .int .u64 (dl : Int), .int .u16 (sp : Int), .int .u16 (dp : Int), .int .u8 (po : Int)] 28)) = W at *
  refine (unhide R1 _).mono ?_
  rintro e w1 ⟨rfl, hb⟩
  have HB1 := Lib.hid (HB0.out.trans (hb.mono HB0.out.size)); have F1 := Lib.hid (F0.out.below hb F0.out.lt)
  have a3 := F1.out.cell 3; have a4 := F1.out.cell 4; have a5 := F1.out.cell 5
  simp at a3 a4 a5
  clear hb HB0 F0
  go_wp2_with fail
  refine (unhide R2 _).mono ?_
  rintro e w2 ⟨rfl, hb⟩
  have HB2 := Lib.hid (HB1.out.trans (hb.mono HB1.out.size)); have F2 := Lib.hid (F1.out.below hb F1.out.lt)
  clear hb HB1 F1 a3 a4 a5
  go_wp2_with fail
  have HBX := HB2
  refine (unhide KTT _ (HK.out.st HBX.out) (HL.out.st HBX.out) HO.out (by omega) (by omega)).mono ?_
  rintro e w3 ⟨rfl, hb⟩
  have HB3 := Lib.hid (HBX.out.trans (hb.mono HBX.out.size))
  clear hb
  go_wp2_with fail
  refine (unhide RTT _ (HK.out.st HB3.out) (HL.out.st HB3.out) HO.out (by omega) (by omega)).mono ?_
  rintro e w4 ⟨rfl, hb⟩
  have HB4 := Lib.hid (HB3.out.trans (hb.mono HB3.out.size))
  clear hb
  go_wp2_with fail
  refine (awake41 _).mono ?_
  rintro e w9 ⟨rfl, hb⟩
  have HB9 := Lib.hid (HB4.out.trans (hb.mono HB4.out.size))
  clear hb
  go_wp2_with fail
  go_ret
  exact ⟨rfl, HB9.out⟩
theorem Lin.Runs.load_row7 {P : Program} {o : Oper} {s : Lin.Spec Lin.Keeps} {ρ : Operand → Value} {w : World} (ty : TypeId) (x : Operand) (ho : o.op = .load ty x) (g : Nat) (hx : ρ x = .pointer (some ⟨g, 0, none⟩)) (t : TypeId) (cs : Array Value) (hg : Is w g t cs) (d : TypeDesc)
    (hu : P.underlying ty = some d) (hd : (match d with | .struct _ | .array _ _ => true | _ => false) = true) (hi : (P.info? ty).map (·.size) = some cs.size) (hs : s.p (.agg cs) w) (hdst : o.dst ≠ none := by simp) : Lin.Runs P o s ρ w := by
  refine Lin.Runs.value Lin.keeps (v := .agg cs) ?_ hs
  unfold execOp
  simp only [ho, hx, Instr.loadAt, Instr.sureAddr, Sem.run_bind, Sem.run_pure, Result.andThen_ok, run_loadVar_row w g t ty cs (0, 0) d hg hu hd hi]
set_option maxHeartbeats 2000000 in
theorem sums_yes (K : Option Addr) (nk ck : Nat) (key : List Int) (A : Option Addr) (n c : Nat) (l : List Int) (s6 : Bool) (sh sl : Nat) (d6 : Bool) (dh dl sp dp po : Nat) (hsh : sh < 18446744073709551616) (hsl : sl < 18446744073709551616) (hdh : dh < 18446744073709551616) (hdl : dl < 18446744073709551616) (hsp : sp ≤ 65535) (hdp : dp ≤ 65535) (hpo : po ≤ 255) (w : World) (hk : IsB key nk (.slice K nk ck) w) (hok : Octets key) (hl : IsB l n (.slice A n c) w) (ho : Octets l) (hnk : nk ≤ 60) (hn : n ≤ 100) (hr : aright s6 sh sl = true) (hr2 : aright d6 dh dl = true) : Calls Try.prog 3 #[.slice K nk ck, .slice A n c, .agg #[.bool s6, .int .u64 (sh : Int), .int .u64 (sl : Int), .bool d6, .int .u64 (dh : Int), .int .u64 (dl : Int), .int .u16 (sp : Int), .int .u16 (dp : Int), .int .u8 (po : Int)]] w fun e w' => e = .returned (.bool true) ∧ Below w.heap.size w w' := by
  have KTT := hide (fun W h => (ssum (w := W) (key := key) (l := l) (nk := nk) (n := n) (ck := ck) (c := c) (K := K) (A := A) h hok)); have RTT := hide (fun W h => (srsum (w := W) (key := key) (l := l) (nk := nk) (n := n) (ck := ck) (c := c) (K := K) (A := A) h hok))
  have HO := Lib.hid ho
  have HB0 := Lib.hid (show Below w.heap.size w (w.alloc (.cells #[.bool s6, .int .u64 (sh : Int), .int .u64 (sl : Int), .bool d6, .int .u64 (dh : Int), .int .u64 (dl : Int), .int .u16 (sp : Int), .int .u16 (dp : Int), .int .u8 (po : Int)] 28)) from (Below.refl _ _).alloc (Nat.le_refl _) _)
  have F0 := Lib.hid (Is.new w 28 #[.bool s6, .int .u64 (sh : Int), .int .u64 (sl : Int), .bool d6, .int .u64 (dh : Int), .int .u64 (dl : Int), .int .u16 (sp : Int), .int .u16 (dp : Int), .int .u8 (po : Int)])
  have HK := Lib.hid hk; have HL := Lib.hid hl
  have g1 : ¬ (60 : Int) < (nk : Int) := by omega
  have g2 : ¬ (100 : Int) < (n : Int) := by omega
  have R1 := hide (fun W => aright_any s6 sh sl W); have R2 := hide (fun W => aright_any d6 dh dl W)
  rw [hr] at R1; rw [hr2] at R2
  have RK := hide (fun W => rkey s6 sh sl d6 dh dl sp dp po hsh hsl hdh hdl hsp hdp hpo W)
  have CF := hide (fun W h => cflow s6 sh sl d6 dh dl sp dp po hsh hsl hdh hdl hsp hdp hpo key hok nk ck K (by omega) W h)
  unfold kf kfn at RK
  have LLEN := kb_len s6 sh sl d6 dh dl sp dp po; have LOK := kb_ok s6 sh sl d6 dh dl sp dp po
  have hq := kb_le s6 d6
  generalize (ab s6 sh sl ++ ab d6 dh dl ++ be sp 2 ++ be dp 2) = kb at *
  generalize (abn s6 + abn d6 + 2 + 2) = q at *
  have RTQ := hide (fun W h A7 c7 h7 => (srsum (w := W) (key := key) (l := kb) (nk := nk) (n := q) (ck := ck) (c := c7) (K := K) (A := A7) h hok h7 LOK (by omega) (by omega)))
  obtain ⟨s1, hs1⟩ : ∃ s, tsum key l (8 * n) = s := ⟨_, rfl⟩
  obtain ⟨s2, hs2⟩ : ∃ s, tsum key kb (8 * q) = s := ⟨_, rfl⟩
  have HS1 := Lib.hid hs1; have HS2 := Lib.hid hs2
  have LL := Lib.hid LLEN
  clear hk hl hok ho hr hr2 LLEN LOK hs1 hs2
  go_enter Try.func3, Try.ntmps3
  go_wp2_with fail
  generalize (w.alloc (.cells #[.bool s6, .int .u64 (sh : Int), .int .u64 (sl : Int), .bool d6, .int .u64 (dh : Int), .int .u64 (dl : Int), .int .u16 (sp : Int), .int .u16 (dp : Int), .int .u8 (po : Int)] 28)) = W at *
  refine (unhide R1 _).mono ?_
  rintro e w1 ⟨rfl, hb⟩
  have HB1 := Lib.hid (HB0.out.trans (hb.mono HB0.out.size)); have F1 := Lib.hid (F0.out.below hb F0.out.lt)
  have a3 := F1.out.cell 3; have a4 := F1.out.cell 4; have a5 := F1.out.cell 5
  simp at a3 a4 a5
  clear hb HB0 F0
  go_wp2_with fail
  refine (unhide R2 _).mono ?_
  rintro e w2 ⟨rfl, hb⟩
  have HB2 := Lib.hid (HB1.out.trans (hb.mono HB1.out.size)); have F2 := Lib.hid (F1.out.below hb F1.out.lt)
  clear hb HB1 F1 a3 a4 a5
  go_wp2_with (with_reducible show wpList _ _ _ (⟨some 37, _, _, _, _, _⟩ :: _) _ _; go_loud (refine Go.wpList_load_row rfl 28 (.tmp 5) rfl w.heap.size rfl 28 #[.bool s6, .int .u64 (sh : Int), .int .u64 (sl : Int), .bool d6, .int .u64 (dh : Int), .int .u64 (dl : Int), .int .u16 (sp : Int), .int .u16 (dp : Int), .int .u8 (po : Int)] (0, 0) _ (is_raw7 F2.out) Try.underlying28 rfl (by kernel_rfl) ?_))
  refine (unhide RK _).mono ?_
  rintro e w3 ⟨v, rfl, hb, hv⟩
  obtain ⟨A7, c7, rfl⟩ := hv.shape
  have HB3 := Lib.hid (HB2.out.trans (hb.mono HB2.out.size)); have F3 := Lib.hid (F2.out.below hb F2.out.lt)
  have HV := Lib.hid (isb_front hv LL.out)
  have hcp := isb_caps hv
  unfold maxLen at hcp
  obtain ⟨hc0, hc1⟩ := hcp
  have RTQ := hide (fun W h h7 => (unhide RTQ) W h A7 c7 h7)
  have e2 : (q : Int) ≤ (c7 : Int) := by omega
  have e3 : (0 : Int) ≤ (q : Int) := by omega
  clear hb hv HB2 F2
  go_wp2_with fail
  refine Lin.wp_region_lin Lin.keeps (n := 62)  (fun slotq => match slotq with | 39 => Lin.Spec.val (.slice K nk ck) | 40 => Lin.Spec.val (.slice A n c) | 41 => Lin.Spec.val (.int .u32 (s1 : Int)) | 42 => Lin.Spec.val (.slice K nk ck) | 43 => Lin.Spec.val (.slice A n c) | 44 => Lin.Spec.val (.int .u32 (s1 : Int)) | 45 => Lin.Spec.val (.bool true) | 46 => Lin.Spec.val (.bool true) | 47 => Lin.Spec.val (.slice K nk ck) | 48 => Lin.Spec.val (.agg #[.bool s6, .int .u64 (sh : Int), .int .u64 (sl : Int), .bool d6, .int .u64 (dh : Int), .int .u64 (dl : Int), .int .u16 (sp : Int), .int .u16 (dp : Int), .int .u8 (po : Int)]) | 49 => Lin.Spec.val (.int .u32 (s2 : Int)) | 50 => Lin.Spec.val (.slice K nk ck) | 51 => Lin.Spec.val (.slice A7 (q + 1) c7) | 52 => Lin.Spec.val (.slice A7 (q + 1) c7) | 53 => Lin.Spec.val (.int .i64 ((q + 1 : Nat) : Int)) | 54 => Lin.Spec.val (.int .i64 (q : Int)) | 55 => Lin.Spec.val (.slice A7 q c7) | 56 => Lin.Spec.val (.int .u32 (s2 : Int)) | 57 => Lin.Spec.val (.bool true) | 58 => Lin.Spec.val (.bool true) | 59 => Lin.Spec.val (.bool true) | 60 => Lin.Spec.val (.bool true) | 61 => Lin.Spec.val (.bool true) | 6 => Lin.Spec.val (.bool true) | _ => Lin.Spec.any) (by kernel_rfl) rfl (by kernel_rfl) ⟨?_, ?_, ?_, ?_, ?_, ?_, ?_, ?_, ?_, ?_, ?_, ?_, ?_, ?_, ?_, ?_, ?_, ?_, ?_, ?_, ?_, ?_, ?_, ?_, trivial⟩ ?_
  · intro ρ wq hb ho hc hd
    have hC : ∀ v, ρ (.const v) = v := fun v => hc _ (by intro t e; cases e)
    have hF : ∀ f, ρ (.func f) = .func (.func f) #[] #[] := fun f => hc _ (by intro t e; cases e)
    have h0 : ρ (.tmp 0) = .slice K nk ck := ho 0 (by kernel_rfl)
    exact Lin.Runs.value Lin.keeps (Lin.exec_move rfl) h0
  · intro ρ wq hb ho hc hd
    have hC : ∀ v, ρ (.const v) = v := fun v => hc _ (by intro t e; cases e)
    have hF : ∀ f, ρ (.func f) = .func (.func f) #[] #[] := fun f => hc _ (by intro t e; cases e)
    have h1 : ρ (.tmp 1) = .slice A n c := ho 1 (by kernel_rfl)
    exact Lin.Runs.value Lin.keeps (Lin.exec_move rfl) h1
  · intro ρ wq hb ho hc hd
    have hC : ∀ v, ρ (.const v) = v := fun v => hc _ (by intro t e; cases e)
    have hF : ∀ f, ρ (.func f) = .func (.func f) #[] #[] := fun f => hc _ (by intro t e; cases e)
    have h39 : ρ (.tmp 39) = .slice K nk ck := hd 39 (by kernel_rfl)
    have h40 : ρ (.tmp 40) = .slice A n c := hd 40 (by kernel_rfl)
    exact Lin.Runs.call Lin.keeps (f := 15) (args := #[.slice K nk ck, .slice A n c]) (by simp [execOp, go_sem, hF, h39, h40]) ((unhide KTT wq ((HK.out.st HB3.out).st hb) ((HL.out.st HB3.out).st hb) HO.out (by omega) (by omega)).mono fun e w9 h => ⟨_, h.1, h.2, by rw [HS1.out]; rfl⟩)
  · intro ρ wq hb ho hc hd
    have hC : ∀ v, ρ (.const v) = v := fun v => hc _ (by intro t e; cases e)
    have hF : ∀ f, ρ (.func f) = .func (.func f) #[] #[] := fun f => hc _ (by intro t e; cases e)
    have h0 : ρ (.tmp 0) = .slice K nk ck := ho 0 (by kernel_rfl)
    exact Lin.Runs.value Lin.keeps (Lin.exec_move rfl) h0
  · intro ρ wq hb ho hc hd
    have hC : ∀ v, ρ (.const v) = v := fun v => hc _ (by intro t e; cases e)
    have hF : ∀ f, ρ (.func f) = .func (.func f) #[] #[] := fun f => hc _ (by intro t e; cases e)
    have h1 : ρ (.tmp 1) = .slice A n c := ho 1 (by kernel_rfl)
    exact Lin.Runs.value Lin.keeps (Lin.exec_move rfl) h1
  · intro ρ wq hb ho hc hd
    have hC : ∀ v, ρ (.const v) = v := fun v => hc _ (by intro t e; cases e)
    have hF : ∀ f, ρ (.func f) = .func (.func f) #[] #[] := fun f => hc _ (by intro t e; cases e)
    have h42 : ρ (.tmp 42) = .slice K nk ck := hd 42 (by kernel_rfl)
    have h43 : ρ (.tmp 43) = .slice A n c := hd 43 (by kernel_rfl)
    exact Lin.Runs.call Lin.keeps (f := 16) (args := #[.slice K nk ck, .slice A n c]) (by simp [execOp, go_sem, hF, h42, h43]) ((unhide RTT wq ((HK.out.st HB3.out).st hb) ((HL.out.st HB3.out).st hb) HO.out (by omega) (by omega)).mono fun e w9 h => ⟨_, h.1, h.2, by rw [HS1.out]; rfl⟩)
  · intro ρ wq hb ho hc hd
    have hC : ∀ v, ρ (.const v) = v := fun v => hc _ (by intro t e; cases e)
    have hF : ∀ f, ρ (.func f) = .func (.func f) #[] #[] := fun f => hc _ (by intro t e; cases e)
    have h41 : ρ (.tmp 41) = .int .u32 (s1 : Int) := hd 41 (by kernel_rfl)
    have h44 : ρ (.tmp 44) = .int .u32 (s1 : Int) := hd 44 (by kernel_rfl)
    exact Lin.Runs.value Lin.keeps (v := .bool true) (by simp [execOp, go_sem, h41, h44]) rfl
  · intro ρ wq hb ho hc hd
    have hC : ∀ v, ρ (.const v) = v := fun v => hc _ (by intro t e; cases e)
    have hF : ∀ f, ρ (.func f) = .func (.func f) #[] #[] := fun f => hc _ (by intro t e; cases e)
    have h45 : ρ (.tmp 45) = .bool true := hd 45 (by kernel_rfl)
    exact Lin.Runs.value Lin.keeps (Lin.exec_move rfl) h45
  · intro ρ wq hb ho hc hd
    have hC : ∀ v, ρ (.const v) = v := fun v => hc _ (by intro t e; cases e)
    have hF : ∀ f, ρ (.func f) = .func (.func f) #[] #[] := fun f => hc _ (by intro t e; cases e)
    intro t ht; cases (show some 46 = some t from ht)
    refine ⟨fun _ => ?_, fun hn => absurd (hd 46 (by kernel_rfl)) hn⟩
    have h0 : ρ (.tmp 0) = .slice K nk ck := ho 0 (by kernel_rfl)
    exact Lin.Runs.value Lin.keeps (Lin.exec_move rfl) h0
  · intro ρ wq hb ho hc hd
    have hC : ∀ v, ρ (.const v) = v := fun v => hc _ (by intro t e; cases e)
    have hF : ∀ f, ρ (.func f) = .func (.func f) #[] #[] := fun f => hc _ (by intro t e; cases e)
    intro t ht; cases (show some 46 = some t from ht)
    refine ⟨fun _ => ?_, fun hn => absurd (hd 46 (by kernel_rfl)) hn⟩
    have h5 : ρ (.tmp 5) = .pointer (some ⟨w.heap.size, 0, none⟩) := ho 5 (by kernel_rfl)
    exact Lin.Runs.load_row7 28 (.tmp 5) rfl w.heap.size h5 28 #[.bool s6, .int .u64 (sh : Int), .int .u64 (sl : Int), .bool d6, .int .u64 (dh : Int), .int .u64 (dl : Int), .int .u16 (sp : Int), .int .u16 (dp : Int), .int .u8 (po : Int)] (F3.out.below hb F3.out.lt) _ Try.underlying28 rfl (by kernel_rfl) rfl
  · intro ρ wq hb ho hc hd
    have hC : ∀ v, ρ (.const v) = v := fun v => hc _ (by intro t e; cases e)
    have hF : ∀ f, ρ (.func f) = .func (.func f) #[] #[] := fun f => hc _ (by intro t e; cases e)
    intro t ht; cases (show some 46 = some t from ht)
    refine ⟨fun _ => ?_, fun hn => absurd (hd 46 (by kernel_rfl)) hn⟩
    have h47 : ρ (.tmp 47) = .slice K nk ck := hd 47 (by kernel_rfl)
    have h48 : ρ (.tmp 48) = .agg #[.bool s6, .int .u64 (sh : Int), .int .u64 (sl : Int), .bool d6, .int .u64 (dh : Int), .int .u64 (dl : Int), .int .u16 (sp : Int), .int .u16 (dp : Int), .int .u8 (po : Int)] := hd 48 (by kernel_rfl)
    exact Lin.Runs.call Lin.keeps (f := 18) (args := #[.slice K nk ck, .agg #[.bool s6, .int .u64 (sh : Int), .int .u64 (sl : Int), .bool d6, .int .u64 (dh : Int), .int .u64 (dl : Int), .int .u16 (sp : Int), .int .u16 (dp : Int), .int .u8 (po : Int)]]) (by simp [execOp, go_sem, hF, h47, h48]) ((unhide CF wq ((HK.out.st HB3.out).st hb)).mono fun e w9 h => ⟨_, h.1, h.2, by rw [HS2.out]; rfl⟩)
  · intro ρ wq hb ho hc hd
    have hC : ∀ v, ρ (.const v) = v := fun v => hc _ (by intro t e; cases e)
    have hF : ∀ f, ρ (.func f) = .func (.func f) #[] #[] := fun f => hc _ (by intro t e; cases e)
    intro t ht; cases (show some 46 = some t from ht)
    refine ⟨fun _ => ?_, fun hn => absurd (hd 46 (by kernel_rfl)) hn⟩
    have h0 : ρ (.tmp 0) = .slice K nk ck := ho 0 (by kernel_rfl)
    exact Lin.Runs.value Lin.keeps (Lin.exec_move rfl) h0
  · intro ρ wq hb ho hc hd
    have hC : ∀ v, ρ (.const v) = v := fun v => hc _ (by intro t e; cases e)
    have hF : ∀ f, ρ (.func f) = .func (.func f) #[] #[] := fun f => hc _ (by intro t e; cases e)
    intro t ht; cases (show some 46 = some t from ht)
    refine ⟨fun _ => ?_, fun hn => absurd (hd 46 (by kernel_rfl)) hn⟩
    have h7 : ρ (.tmp 7) = .slice A7 (q + 1) c7 := ho 7 (by kernel_rfl)
    exact Lin.Runs.value Lin.keeps (Lin.exec_move rfl) h7
  · intro ρ wq hb ho hc hd
    have hC : ∀ v, ρ (.const v) = v := fun v => hc _ (by intro t e; cases e)
    have hF : ∀ f, ρ (.func f) = .func (.func f) #[] #[] := fun f => hc _ (by intro t e; cases e)
    intro t ht; cases (show some 46 = some t from ht)
    refine ⟨fun _ => ?_, fun hn => absurd (hd 46 (by kernel_rfl)) hn⟩
    have h7 : ρ (.tmp 7) = .slice A7 (q + 1) c7 := ho 7 (by kernel_rfl)
    exact Lin.Runs.value Lin.keeps (Lin.exec_move rfl) h7
  · intro ρ wq hb ho hc hd
    have hC : ∀ v, ρ (.const v) = v := fun v => hc _ (by intro t e; cases e)
    have hF : ∀ f, ρ (.func f) = .func (.func f) #[] #[] := fun f => hc _ (by intro t e; cases e)
    intro t ht; cases (show some 46 = some t from ht)
    refine ⟨fun _ => ?_, fun hn => absurd (hd 46 (by kernel_rfl)) hn⟩
    have h52 : ρ (.tmp 52) = .slice A7 (q + 1) c7 := hd 52 (by kernel_rfl)
    exact Lin.Runs.value Lin.keeps (v := .int .i64 ((q + 1 : Nat) : Int)) (by simp [execOp, go_sem, h52]) rfl
  · intro ρ wq hb ho hc hd
    have hC : ∀ v, ρ (.const v) = v := fun v => hc _ (by intro t e; cases e)
    have hF : ∀ f, ρ (.func f) = .func (.func f) #[] #[] := fun f => hc _ (by intro t e; cases e)
    intro t ht; cases (show some 46 = some t from ht)
    refine ⟨fun _ => ?_, fun hn => absurd (hd 46 (by kernel_rfl)) hn⟩
    have h53 : ρ (.tmp 53) = .int .i64 ((q + 1 : Nat) : Int) := hd 53 (by kernel_rfl)
    exact Lin.Runs.value Lin.keeps (v := .int .i64 (q : Int)) (by simp [execOp, go_sem, hC, h53]; first | done | exact IntWalk.i64_in _ (by omega)) rfl
  · intro ρ wq hb ho hc hd
    have hC : ∀ v, ρ (.const v) = v := fun v => hc _ (by intro t e; cases e)
    have hF : ∀ f, ρ (.func f) = .func (.func f) #[] #[] := fun f => hc _ (by intro t e; cases e)
    intro t ht; cases (show some 46 = some t from ht)
    refine ⟨fun _ => ?_, fun hn => absurd (hd 46 (by kernel_rfl)) hn⟩
    have h51 : ρ (.tmp 51) = .slice A7 (q + 1) c7 := hd 51 (by kernel_rfl)
    have h54 : ρ (.tmp 54) = .int .i64 (q : Int) := hd 54 (by kernel_rfl)
    exact Lin.Runs.value Lin.keeps (v := .slice A7 q c7) (by simp [execOp, go_sem, h51, h54, e2, e3]) rfl
  · intro ρ wq hb ho hc hd
    have hC : ∀ v, ρ (.const v) = v := fun v => hc _ (by intro t e; cases e)
    have hF : ∀ f, ρ (.func f) = .func (.func f) #[] #[] := fun f => hc _ (by intro t e; cases e)
    intro t ht; cases (show some 46 = some t from ht)
    refine ⟨fun _ => ?_, fun hn => absurd (hd 46 (by kernel_rfl)) hn⟩
    have h50 : ρ (.tmp 50) = .slice K nk ck := hd 50 (by kernel_rfl)
    have h55 : ρ (.tmp 55) = .slice A7 q c7 := hd 55 (by kernel_rfl)
    exact Lin.Runs.call Lin.keeps (f := 16) (args := #[.slice K nk ck, .slice A7 q c7]) (by simp [execOp, go_sem, hF, h50, h55]) ((unhide RTQ wq ((HK.out.st HB3.out).st hb) (HV.out.st hb)).mono fun e w9 h => ⟨_, h.1, h.2, by rw [HS2.out]; rfl⟩)
  · intro ρ wq hb ho hc hd
    have hC : ∀ v, ρ (.const v) = v := fun v => hc _ (by intro t e; cases e)
    have hF : ∀ f, ρ (.func f) = .func (.func f) #[] #[] := fun f => hc _ (by intro t e; cases e)
    intro t ht; cases (show some 46 = some t from ht)
    refine ⟨fun _ => ?_, fun hn => absurd (hd 46 (by kernel_rfl)) hn⟩
    have h49 : ρ (.tmp 49) = .int .u32 (s2 : Int) := hd 49 (by kernel_rfl)
    have h56 : ρ (.tmp 56) = .int .u32 (s2 : Int) := hd 56 (by kernel_rfl)
    exact Lin.Runs.value Lin.keeps (v := .bool true) (by simp [execOp, go_sem, h49, h56]) rfl
  · intro ρ wq hb ho hc hd
    have hC : ∀ v, ρ (.const v) = v := fun v => hc _ (by intro t e; cases e)
    have hF : ∀ f, ρ (.func f) = .func (.func f) #[] #[] := fun f => hc _ (by intro t e; cases e)
    have h46 : ρ (.tmp 46) = .bool true := hd 46 (by kernel_rfl)
    have h57 : ρ (.tmp 57) = .bool true := hd 57 (by kernel_rfl)
    exact Lin.Runs.value Lin.keeps (v := .bool true) (by simp [execOp, go_sem, hC, h46, h57]) rfl
  · intro ρ wq hb ho hc hd
    have hC : ∀ v, ρ (.const v) = v := fun v => hc _ (by intro t e; cases e)
    have hF : ∀ f, ρ (.func f) = .func (.func f) #[] #[] := fun f => hc _ (by intro t e; cases e)
    have h58 : ρ (.tmp 58) = .bool true := hd 58 (by kernel_rfl)
    exact Lin.Runs.value Lin.keeps (Lin.exec_move rfl) h58
  · intro ρ wq hb ho hc hd
    have hC : ∀ v, ρ (.const v) = v := fun v => hc _ (by intro t e; cases e)
    have hF : ∀ f, ρ (.func f) = .func (.func f) #[] #[] := fun f => hc _ (by intro t e; cases e)
    intro t ht; cases (show some 59 = some t from ht)
    refine ⟨fun _ => ?_, fun hn => absurd (hd 59 (by kernel_rfl)) hn⟩
    exact Lin.Runs.call Lin.keeps (f := 13) (args := #[]) (by simp [execOp, go_sem, hF]) ((awake41 wq).mono fun e w9 h => ⟨_, h.1, h.2, rfl⟩)
  · intro ρ wq hb ho hc hd
    have hC : ∀ v, ρ (.const v) = v := fun v => hc _ (by intro t e; cases e)
    have hF : ∀ f, ρ (.func f) = .func (.func f) #[] #[] := fun f => hc _ (by intro t e; cases e)
    have h59 : ρ (.tmp 59) = .bool true := hd 59 (by kernel_rfl)
    have h60 : ρ (.tmp 60) = .bool true := hd 60 (by kernel_rfl)
    exact Lin.Runs.value Lin.keeps (v := .bool true) (by simp [execOp, go_sem, hC, h59, h60]) rfl
  · intro ρ wq hb ho hc hd
    have hC : ∀ v, ρ (.const v) = v := fun v => hc _ (by intro t e; cases e)
    have hF : ∀ f, ρ (.func f) = .func (.func f) #[] #[] := fun f => hc _ (by intro t e; cases e)
    have h61 : ρ (.tmp 61) = .bool true := hd 61 (by kernel_rfl)
    exact Lin.Runs.value Lin.keeps (Lin.exec_assign rfl) h61
  · intro vals w5 hb2 hv
    have ee : vals 6 = .bool true := hv 6 (by kernel_rfl)
    have HB5 := Lib.hid (HB3.out.trans (hb2.mono HB3.out.size))
    clear hb2 hv
    simp only [Lin.putAll, Option.getD_some]
    rw [ee]
    clear ee
    go_simp
    generalize vals = vq
    go_wp2_with fail
    go_ret
    exact ⟨rfl, HB5.out⟩
theorem sums_all (K : Option Addr) (nk ck : Nat) (key : List Int) (A : Option Addr) (n c : Nat) (l : List Int) (s6 : Bool) (sh sl : Nat) (d6 : Bool) (dh dl sp dp po : Nat) (hsh : sh < 18446744073709551616) (hsl : sl < 18446744073709551616) (hdh : dh < 18446744073709551616) (hdl : dl < 18446744073709551616) (hsp : sp ≤ 65535) (hdp : dp ≤ 65535) (hpo : po ≤ 255) (w : World) (hk : IsB key nk (.slice K nk ck) w) (hok : Octets key) (hl : IsB l n (.slice A n c) w) (ho : Octets l) : Calls Try.prog 3 #[.slice K nk ck, .slice A n c, .agg #[.bool s6, .int .u64 (sh : Int), .int .u64 (sl : Int), .bool d6, .int .u64 (dh : Int), .int .u64 (dl : Int), .int .u16 (sp : Int), .int .u16 (dp : Int), .int .u8 (po : Int)]] w fun e w' => e = .returned (.bool true) ∧ Below w.heap.size w w' := by
  by_cases h1 : 60 < nk
  · exact sums_big K nk ck key A n c l s6 sh sl d6 dh dl sp dp po w (.inl h1)
  · by_cases h2 : 100 < n
    · exact sums_big K nk ck key A n c l s6 sh sl d6 dh dl sp dp po w (.inr ⟨by omega, h2⟩)
    · cases hr : aright s6 sh sl with
      | false => exact sums_no1 K nk ck key A n c l s6 sh sl d6 dh dl sp dp po hsh hsl hdh hdl hsp hdp hpo w hk hok hl ho (by omega) (by omega) hr
      | true => cases hr2 : aright d6 dh dl with
        | false => exact sums_no2 K nk ck key A n c l s6 sh sl d6 dh dl sp dp po hsh hsl hdh hdl hsp hdp hpo w hk hok hl ho (by omega) (by omega) hr hr2
        | true => exact sums_yes K nk ck key A n c l s6 sh sl d6 dh dl sp dp po hsh hsl hdh hdl hsp hdp hpo w hk hok hl ho (by omega) (by omega) hr hr2
end Go.Proofs.Ythjkjohmaemmiaa
