/-
  The example of layer 13; the law CidReads, walked. Helper of the claims of layer 13. No condition.
-/
import Derived.Test.YthjkjohmaemmiaaCd3
import Derived.Test.YthjkjohmaemmiaaCd4
import Derived.Test.YthjkjohmaemmiaaCd5
namespace Go.Proofs.Ythjkjohmaemmiaa
open Go.ChangeShapes Go.WideShapes Go.ChangeAt Go.RowKit
set_option linter.unusedSimpArgs false
set_option linter.unusedVariables false
set_option maxRecDepth 100000
set_option maxHeartbeats 400000 in
theorem awake13 (w : World) : Calls Try.prog 28 #[] w fun e w' => e = .returned (.bool true) ∧ Below w.heap.size w w' := by
  have CT := hide (fun W => show Calls Try.prog 35 #[.agg #[.int .u64 3, .int .u64 5], .int .u64 1] W fun e w' => e = .returned (.tuple #[.agg #[.int .u64 3, .int .u64 4], .agg #[.int .u64 4, .int .u64 5], .int .i64 0]) ∧ Below W.heap.size W w' from cut_yes 3 5 1 (by omega) (by omega) (by decide) (by omega) (by omega) W)
  have LT := hide (fun W => show Calls Try.prog 36 #[.agg #[.int .u64 4, .int .u64 5]] W fun e w' => e = .returned (.int .u64 1) ∧ Below W.heap.size W w' from cleft 4 5 (by omega) W)
  go_enter Try.func28, Try.ntmps28
  go_wp2_with fail
  refine (unhide CT _).mono ?_
  rintro e w1 ⟨rfl, hb⟩
  have HB1 := Lib.hid hb
  clear hb
  go_wp2_with fail
  refine (unhide LT _).mono ?_
  rintro e w2 ⟨rfl, hb⟩
  have HB2 := Lib.hid (HB1.out.trans ((hb.mono (by simp; have := HB1.out.size; omega) |> fun h => ((Below.refl w.heap.size w1).alloc HB1.out.size _ |>.alloc (by simp; have := HB1.out.size; omega) _).trans h)))
  clear hb
  go_wp2_with fail
  go_ret
  exact ⟨rfl, HB2.out⟩
set_option maxHeartbeats 1000000 in
theorem reads_long (key : List Int) (n : Nat) (A : Option Addr) (k c : Nat) (hk : 100 < k) (w : World) : Calls Try.prog 5 #[.agg (rcs key n), .slice A k c] w fun e w' => e = .returned (.bool true) ∧ Below w.heap.size w w' := by
  have g : (100 : Int) < (k : Int) := by omega
  have HB1 := Lib.hid (show Below w.heap.size w (w.alloc (.cells (rcs key n) 38)) from (Below.refl _ _).alloc (Nat.le_refl _) _)
  generalize (rcs key n) = rs at *
  go_enter Try.func5, Try.ntmps5
  go_wp2_with fail
  generalize w.alloc (.cells rs 38) = W at *
  refine (awake13 _).mono ?_
  rintro e w9 ⟨rfl, hb⟩
  have HB9 := Lib.hid (HB1.out.trans (hb.mono HB1.out.size))
  clear hb
  go_wp2_with fail
  go_ret
  exact ⟨rfl, HB9.out⟩
set_option maxHeartbeats 1000000 in
theorem reads_any (key : List Int) (hk : key.length = 16) (n : Nat) (A : Option Addr) (k c : Nat) (L : List Int) (hkk : k ≤ 100) (a b o e0 : Int) (w : World) (hl : IsB L k (.slice A k c) w)
    (RP : Hid (∀ W : World, IsB L k (.slice A k c) W → Calls Try.prog 29 #[.agg (rcs key n), .slice A k c] W fun e w' => e = .returned (.tuple #[.agg #[.int .i64 a, .int .i64 b], .int .u64 o, .int .i64 e0]) ∧ Below W.heap.size W w'))
    (RR : Hid (∀ W : World, IsB L k (.slice A k c) W → Calls Try.prog 30 #[.agg (rcs key n), .slice A k c] W fun e w' => e = .returned (.tuple #[.int .i64 a, .int .i64 b, .int .u64 o, .int .i64 e0]) ∧ Below W.heap.size W w')) :
    Calls Try.prog 5 #[.agg (rcs key n), .slice A k c] w fun e w' => e = .returned (.bool true) ∧ Below w.heap.size w w' := by
  have g : ¬ (100 : Int) < (k : Int) := by omega
  have HB0 := Lib.hid (show Below w.heap.size w (w.alloc (.cells (rcs key n) 38)) from (Below.refl _ _).alloc (Nat.le_refl _) _)
  have R0 := Lib.hid (Is.new w 38 (rcs key n)); have HK := Lib.hid hk; have RSZ := Lib.hid (rcs_size hk n); have H16 := rcs_now hk n
  have HL := Lib.hid hl
  clear hk hl
  go_enter Try.func5, Try.ntmps5
  go_wp2_with (with_reducible show wpList _ _ _ (⟨some 18, _, _, _, _, _⟩ :: _) _ _; go_loud (refine wpList_load_mid rfl 36 (.tmp 17) rfl w.heap.size 0 rfl (u8s key) _ (ring_range HK.out R0.out) Try.underlying36 rfl (by rw [show (u8s key).length = 16 from by simp [u8s, HK.out]]; kernel_rfl) ?_))
  generalize w.alloc (.cells (rcs key n) 38) = V at *
  refine (hnew key HK.out n _).mono ?_
  rintro e w1 ⟨rfl, hb⟩
  have HB1 := Lib.hid (HB0.out.trans (hb.mono HB0.out.size)); have R1 := Lib.hid (R0.out.below hb R0.out.lt)
  clear hb HB0 R0
  go_wp2_with fail
  refine (unhide RP _ (HL.out.st HB1.out)).mono ?_
  rintro e w2 ⟨rfl, hb⟩
  have HB2 := Lib.hid (HB1.out.trans (hb.mono HB1.out.size)); have R2 := Lib.hid (R1.out.below hb R1.out.lt)
  clear hb HB1 R1
  have P2 := Lib.hid (Is.new w2 41 #[.int .i64 a, .int .i64 b])
  have Ra := Lib.hid (R2.out.alloc (.cells #[.int .i64 a, .int .i64 b] 41)); have HBa := Lib.hid (HB2.out.alloc HB2.out.size (.cells #[.int .i64 a, .int .i64 b] 41))
  clear R2 HB2
  go_wp2_with (with_reducible show wpList _ _ _ (⟨some 28, _, _, _, _, _⟩ :: _) _ _; go_loud (refine Go.wpList_load_row rfl 38 (.tmp 2) rfl w.heap.size rfl 38 (rcs key n) (0, 0) _ (is_raw Ra.out) Try.underlying38 rfl (by rw [RSZ.out]; kernel_rfl) ?_))
  generalize w2.alloc (.cells #[.int .i64 a, .int .i64 b] 41) = V2 at *
  generalize w2.heap.size = gp at *
  refine (unhide RR _ (HL.out.st HBa.out)).mono ?_
  rintro e w3 ⟨rfl, hb⟩
  have HB3 := Lib.hid (HBa.out.trans (hb.mono HBa.out.size)); have P3 := Lib.hid (P2.out.below hb P2.out.lt)
  clear hb HBa Ra P2
  have a0 := P3.out.cell 0; have a1 := P3.out.cell 1
  simp at a0 a1
  go_wp2_with fail
  refine (awake13 _).mono ?_
  rintro e w9 ⟨rfl, hb⟩
  have HB9 := Lib.hid (HB3.out.trans (hb.mono HB3.out.size))
  clear hb
  go_wp2_with fail
  go_ret
  exact ⟨rfl, HB9.out⟩
theorem nw2_nat {L : List Int} {i : Nat} (h : i + 2 ≤ L.length) (ho : Octets L) : ∃ x : Nat, nw L i 2 = (x : Int) ∧ x < 65536 := by
  have := nw2_bd h ho
  exact ⟨(nw L i 2).toNat, by omega, by omega⟩
theorem nw_nat (L : List Int) (i k : Nat) : ∃ x : Nat, nw L i k = (x : Int) ∧ x < 18446744073709551616 := by
  have := numW_bd ((L.drop i).take k)
  exact ⟨(nw L i k).toNat, by unfold nw; omega, by unfold nw; omega⟩
theorem reads_all (key : List Int) (hk : key.length = 16) (ho : Octets key) (n : Nat) (hn : n < 18446744073709551616) (A : Option Addr) (k c : Nat) (L : List Int) (hlo : Octets L) (w : World) (hl : IsB L k (.slice A k c) w) : Calls Try.prog 5 #[.agg (rcs key n), .slice A k c] w fun e w' => e = .returned (.bool true) ∧ Below w.heap.size w w' := by
  by_cases h1 : 100 < k
  · exact reads_long key n A k c h1 w
  · by_cases h2 : k = 12
    · subst h2
      have LEN := isbk_len hl
      obtain ⟨wd, hw5, hwd⟩ := nw2_nat (L := L) (i := 5) (by omega) hlo
      obtain ⟨on, hon, _⟩ := nw_nat L 0 5
      cases hok : ato n ((wd / 32768 : Nat) : Int) with
      | false =>
        exact reads_any key hk n A 12 c L (by omega) 0 0 0 26 w hl
          (hide (fun W h => read_C key hk ho n hn L hlo A c wd _ on hwd hw5 hon rfl _ (atp_len key n _) (atp_ok key n _) rfl hok W h))
          (hide (fun W h => rread_C key hk ho n hn L hlo A c wd _ on hwd hw5 hon rfl _ (atp_len key n _) (atp_ok key n _) rfl hok W h))
      | true =>
        by_cases htg : tgc (atp key n ((wd / 32768 : Nat) : Int)) (L.take 7) = L.drop 7
        · exact reads_any key hk n A 12 c L (by omega) _ _ _ 0 w hl
            (hide (fun W h => read_E key hk ho n hn L hlo A c wd _ on hwd hw5 hon rfl _ (atp_len key n _) (atp_ok key n _) rfl hok htg _ rfl W h))
            (hide (fun W h => rread_E key hk ho n hn L hlo A c wd _ on hwd hw5 hon rfl _ (atp_len key n _) (atp_ok key n _) rfl hok htg _ rfl W h))
        · exact reads_any key hk n A 12 c L (by omega) 0 0 0 26 w hl
            (hide (fun W h => read_D key hk ho n hn L hlo A c wd _ on hwd hw5 hon rfl _ (atp_len key n _) (atp_ok key n _) rfl hok htg W h))
            (hide (fun W h => rread_D key hk ho n hn L hlo A c wd _ on hwd hw5 hon rfl _ (atp_len key n _) (atp_ok key n _) rfl hok htg W h))
    · exact reads_any key hk n A k c L (by omega) 0 0 0 20 w hl (hide (fun W _ => read_short key n A k c h2 W)) (hide (fun W _ => rread_short key n A k c h2 W))
end Go.Proofs.Ythjkjohmaemmiaa
