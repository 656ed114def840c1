/-
  first and Take of package varint on what was written. Helper of the claim VarintPuts. No condition.
-/
import Derived.Test.YtkgmgmlicgjfdaaVq
import Derived.Test.YtkgmgmlicgjfdaaRq
import Derived.Test.YtkgmgmlicgjfdaaRef01
import Derived.Test.YtkgmgmlicgjfdaaLinB
import Derived.Test.YtkgmgmlicgjfdaaIcmp
import Derived.Test.YtkgmgmlicgjfdaaSl
namespace Go.Proofs.Ytkgmgmlicgjfdaa
open Go.ChangeShapes Go.WideShapes Go.ChangeAt Go.RowKit
set_option linter.unusedVariables false
set_option maxRecDepth 100000
theorem numW_be (N : Nat) : ∀ s : Nat, numW (be N s) = (((N % 256 ^ s) % 18446744073709551616 : Nat) : Int) := by
  have key : ∀ (s : Nat) (a : Int) (m : Nat), a = ((m % 18446744073709551616 : Nat) : Int) → (be N s).foldl (fun n x => (n * 256 + x) % 18446744073709551616) a = (((m * 256 ^ s + N % 256 ^ s) % 18446744073709551616 : Nat) : Int) := by
    intro s
    induction s with
    | zero => intro a m h; simp [be, Nat.mod_one, h]
    | succ s ih =>
      intro a m h
      rw [be, List.foldl_cons, ih _ (m * 256 + N / 256 ^ s % 256) (by rw [h]; omega)]
      have e : N % 256 ^ (s + 1) = N / 256 ^ s % 256 * 256 ^ s + N % 256 ^ s := by
        rw [Nat.pow_succ, Nat.mod_mul]
        rw [Nat.mul_comm (N / 256 ^ s % 256)]
        omega
      rw [e, Nat.pow_succ]
      rw [show (m * 256 + N / 256 ^ s % 256) * 256 ^ s + N % 256 ^ s = m * (256 ^ s * 256) + (N / 256 ^ s % 256 * 256 ^ s + N % 256 ^ s) from by rw [Nat.add_mul, Nat.mul_assoc, Nat.mul_comm 256 (256 ^ s), Nat.add_assoc]]
  intro s
  have h := key s 0 0 rfl
  unfold numW
  rw [h]
  simp
theorem num_q {W : World} {g i : Nat} {l : List Int} {w : World} (n j : Nat) (x : Int) (h : RS W g l i w) (ho : Octets l) (hj : i + n = j) (hn : j ≤ l.length) (h8 : n ≤ 8) (hx : nw l i n = x) :
    Calls Try.prog 130 #[.pointer (some ⟨g, 0, none⟩), .int .i64 (n : Int)] w (RNext W g l j w (.int .u64 x)) := by
  subst hx
  exact (num_ok g _ false n w h.1 (ho.drop i) (by rw [List.length_drop]; omega) h8).mono fun e w' ⟨h1, h2, h3⟩ => ⟨h1, h.step h2 h3 hj, h3⟩
theorem shr6 (k : Nat) (y : Int) (h : y / 64 = k) : y / 2 ^ 6 = k := h
theorem vnum_0 (n : Nat) (h : n < 64) : numW (be (0 + n) 1) = ((0 + n : Nat) : Int) := by
  rw [numW_be]; omega
set_option maxHeartbeats 2000000 in
theorem vfirst_0 (n : Nat) (b L : List Int) (hL : L = be (0 + n) 1 ++ b) (A : Option Addr) (c : Nat) (w : World) (h : IsB L L.length (.slice A L.length c) w) (hb : Octets b) (hm : b.length ≤ 1000) (hn : n < 64) :
    Calls Try.prog 113 #[.slice A L.length c] w fun e w' => e = .returned (.tuple #[.int .u64 (n : Int), .int .i64 1, .bool true]) ∧ Below w.heap.size w w' := by
  have hlen : L.length = 1 + b.length := by rw [hL, List.length_append, be_len]
  have hok : Octets L := by rw [hL]; exact (be_ok _ _).app hb
  have hy : at0 L 0 = (((0 + n) / 256 ^ 0 % 256 : Nat) : Int) := by rw [hL]; rfl
  have hq : at0 L 0 / 64 = 0 := by rw [hy]; omega
  have y0 : 0 ≤ at0 L 0 := by rw [hy]; omega
  have y1 : at0 L 0 < 256 := by rw [hy]; omega
  have hT : L.take 1 = be (0 + n) 1 := by rw [hL, List.take_append_of_le_length (by rw [be_len]; exact Nat.le_refl _), List.take_of_length_le (by rw [be_len]; exact Nat.le_refl _)]
  have hby : Bytes w w.heap.size A L := by obtain ⟨A', c', e, _, h, _⟩ := h; injection e with e; subst e; exact h
  obtain ⟨bl, ol, rfl, hbl, hcl⟩ := hby.cells (by omega)
  have dc : w.cell? ⟨bl, ol, none⟩ = some (.int .u8 (at0 L 0)) := hcl 0 (by omega)
  have hT1 := h.take (k := 1) (by omega)
  rw [hT] at hT1
  have HT1 := hide hT1
  obtain ⟨N, hN⟩ : ∃ N : Nat, 0 + n = N := ⟨_, rfl⟩
  have r1 : (N : Int) % 64 = (n : Int) := by omega
  have r2 : (N : Int).tmod 64 = (n : Int) := by rw [Int.tmod_eq_emod_of_nonneg (by omega)]; omega
  have HNW := Lib.hid (show nw (be N 1) 0 1 = (N : Int) from by rw [← hN]; unfold nw; rw [List.drop_zero, List.take_of_length_le (by rw [be_len]; exact Nat.le_refl _)]; exact vnum_0 n hn)
  rw [hN] at HT1
  clear hT1 hN
  have l0 : ¬ (L.length : Int) = 0 := by omega
  have ls : ¬ (L.length : Int) < 1 := by omega
  have lz : 0 < L.length := by omega
  have lsz : 1 ≤ L.length := by omega
  have ls2 : (1 : Int) ≤ (L.length : Int) := by omega
  obtain ⟨q1, q2⟩ := h.caps
  unfold maxLen at q2
  have hL90 : L.length ≤ 90000 := by omega
  clear h hT hcl hby hy hL hok
  generalize at0 L 0 = y at *
  generalize L.length = len at *
  clear hlen
  go_enter Try.func113, Try.ntmps113
  go_wp2_with fail
  refine (read_q HT1.out (by omega)).mono ?_
  rintro e w1 ⟨g, rfl, h1⟩
  have R1 := hide h1; clear h1
  go_wp2_with fail
  refine (num_q 1 1 N R1.out (be_ok _ _) rfl (by rw [be_len]; exact Nat.le_refl _) (by omega) HNW.out).mono ?_
  rintro e w2 ⟨rfl, h1, _⟩
  have R2 := hide h1; clear h1 R1
  go_wp2_with fail
  refine (vbound 0 (by omega) _).mono ?_
  rintro e w3 ⟨rfl, rfl⟩
  rw [show vbd 0 = 64 from rfl]
  go_wp2_with fail
  go_ret3
  exact ⟨by first | rfl | simp, R2.out.bel⟩
set_option maxHeartbeats 2000000 in
theorem vtake_0 (n : Nat) (b L : List Int) (m : Nat) (hL : L = be (0 + n) 1 ++ b) (v : Value) (w : World) (h : IsB L m v w) (hb : Octets b) (hm : b.length ≤ 1000) (hn : n < 64) :
    Calls Try.prog 53 #[v] w fun e w' => ∃ u, e = .returned (.tuple #[.int .u64 (n : Int), u, .int .i64 0]) ∧ Below w.heap.size w w' ∧ IsB b b.length u w' := by
  obtain ⟨A, c, rfl⟩ := h.shape
  have hm2 : L.length = m := by obtain ⟨_, _, _, e, _⟩ := h; exact e
  subst hm2
  have hlen : L.length = 1 + b.length := by rw [hL, List.length_append, be_len]
  have hD : L.drop 1 = b := by rw [hL, List.drop_append_of_le_length (by rw [be_len]; exact Nat.le_refl _), List.drop_of_length_le (by rw [be_len]; exact Nat.le_refl _), List.nil_append]
  have HL := Lib.hid hL; have HI := hide h; have HO := hide hb; have HD := Lib.hid hD; have HE := Lib.hid hlen
  clear hL h hb hD hlen
  go_enter Try.func53, Try.ntmps53
  go_wp2_with fail
  refine (vfirst_0 n b L HL.out A c _ HI.out HO.out hm hn).mono ?_
  rintro e w1 ⟨rfl, hb1⟩
  have HI1 := hide (HI.out.st hb1); have HB1 := Lib.hid hb1
  clear hb1 HI
  go_wp2_with (first
    | ((with_reducible show wpList _ _ _ (⟨some 19, _, _, _, _, _⟩ :: _) _ _)
       refine sl_q1 _ _ rfl rfl (i := 1) (k := b.length) rfl rfl HI1.out HE.out.symm ?_
       intro X9 d9 hX9
       rw [HD.out] at hX9
       have HX9 := hide hX9
       clear hX9))
  refine (clone_k HX9.out (by omega)).mono ?_
  rintro e w2 ⟨A2, c2, rfl, ho, hb2⟩
  have HO2 := hide (IsB.own ho); have HB2 := Lib.hid (HB1.out.trans (hb2.mono HB1.out.size))
  clear ho hb2
  go_wp2_with fail
  go_ret3
  exact ⟨.slice A2 b.length c2, by simp, HB2.out, HO2.out⟩
theorem vnum_1 (n : Nat) (h : n < 16384) : numW (be (16384 + n) 2) = ((16384 + n : Nat) : Int) := by
  rw [numW_be]; omega
set_option maxHeartbeats 2000000 in
theorem vfirst_1 (n : Nat) (b L : List Int) (hL : L = be (16384 + n) 2 ++ b) (A : Option Addr) (c : Nat) (w : World) (h : IsB L L.length (.slice A L.length c) w) (hb : Octets b) (hm : b.length ≤ 1000) (hn : n < 16384) :
    Calls Try.prog 113 #[.slice A L.length c] w fun e w' => e = .returned (.tuple #[.int .u64 (n : Int), .int .i64 2, .bool true]) ∧ Below w.heap.size w w' := by
  have hlen : L.length = 2 + b.length := by rw [hL, List.length_append, be_len]
  have hok : Octets L := by rw [hL]; exact (be_ok _ _).app hb
  have hy : at0 L 0 = (((16384 + n) / 256 ^ 1 % 256 : Nat) : Int) := by rw [hL]; rfl
  have hq : at0 L 0 / 64 = 1 := by rw [hy]; omega
  have y0 : 0 ≤ at0 L 0 := by rw [hy]; omega
  have y1 : at0 L 0 < 256 := by rw [hy]; omega
  have hT : L.take 2 = be (16384 + n) 2 := by rw [hL, List.take_append_of_le_length (by rw [be_len]; exact Nat.le_refl _), List.take_of_length_le (by rw [be_len]; exact Nat.le_refl _)]
  have hby : Bytes w w.heap.size A L := by obtain ⟨A', c', e, _, h, _⟩ := h; injection e with e; subst e; exact h
  obtain ⟨bl, ol, rfl, hbl, hcl⟩ := hby.cells (by omega)
  have dc : w.cell? ⟨bl, ol, none⟩ = some (.int .u8 (at0 L 0)) := hcl 0 (by omega)
  have hT1 := h.take (k := 2) (by omega)
  rw [hT] at hT1
  have HT1 := hide hT1
  obtain ⟨N, hN⟩ : ∃ N : Nat, 16384 + n = N := ⟨_, rfl⟩
  have r1 : (N : Int) % 16384 = (n : Int) := by omega
  have r2 : (N : Int).tmod 16384 = (n : Int) := by rw [Int.tmod_eq_emod_of_nonneg (by omega)]; omega
  have HNW := Lib.hid (show nw (be N 2) 0 2 = (N : Int) from by rw [← hN]; unfold nw; rw [List.drop_zero, List.take_of_length_le (by rw [be_len]; exact Nat.le_refl _)]; exact vnum_1 n hn)
  rw [hN] at HT1
  clear hT1 hN
  have l0 : ¬ (L.length : Int) = 0 := by omega
  have ls : ¬ (L.length : Int) < 2 := by omega
  have lz : 0 < L.length := by omega
  have lsz : 2 ≤ L.length := by omega
  have ls2 : (2 : Int) ≤ (L.length : Int) := by omega
  obtain ⟨q1, q2⟩ := h.caps
  unfold maxLen at q2
  have hL90 : L.length ≤ 90000 := by omega
  clear h hT hcl hby hy hL hok
  generalize at0 L 0 = y at *
  generalize L.length = len at *
  clear hlen
  go_enter Try.func113, Try.ntmps113
  go_wp2_with fail
  refine (read_q HT1.out (by omega)).mono ?_
  rintro e w1 ⟨g, rfl, h1⟩
  have R1 := hide h1; clear h1
  go_wp2_with fail
  refine (num_q 2 2 N R1.out (be_ok _ _) rfl (by rw [be_len]; exact Nat.le_refl _) (by omega) HNW.out).mono ?_
  rintro e w2 ⟨rfl, h1, _⟩
  have R2 := hide h1; clear h1 R1
  go_wp2_with fail
  refine (vbound 1 (by omega) _).mono ?_
  rintro e w3 ⟨rfl, rfl⟩
  rw [show vbd 1 = 16384 from rfl]
  go_wp2_with fail
  go_ret3
  exact ⟨by first | rfl | simp, R2.out.bel⟩
set_option maxHeartbeats 2000000 in
theorem vtake_1 (n : Nat) (b L : List Int) (m : Nat) (hL : L = be (16384 + n) 2 ++ b) (v : Value) (w : World) (h : IsB L m v w) (hb : Octets b) (hm : b.length ≤ 1000) (hn : n < 16384) :
    Calls Try.prog 53 #[v] w fun e w' => ∃ u, e = .returned (.tuple #[.int .u64 (n : Int), u, .int .i64 0]) ∧ Below w.heap.size w w' ∧ IsB b b.length u w' := by
  obtain ⟨A, c, rfl⟩ := h.shape
  have hm2 : L.length = m := by obtain ⟨_, _, _, e, _⟩ := h; exact e
  subst hm2
  have hlen : L.length = 2 + b.length := by rw [hL, List.length_append, be_len]
  have hD : L.drop 2 = b := by rw [hL, List.drop_append_of_le_length (by rw [be_len]; exact Nat.le_refl _), List.drop_of_length_le (by rw [be_len]; exact Nat.le_refl _), List.nil_append]
  have HL := Lib.hid hL; have HI := hide h; have HO := hide hb; have HD := Lib.hid hD; have HE := Lib.hid hlen
  clear hL h hb hD hlen
  go_enter Try.func53, Try.ntmps53
  go_wp2_with fail
  refine (vfirst_1 n b L HL.out A c _ HI.out HO.out hm hn).mono ?_
  rintro e w1 ⟨rfl, hb1⟩
  have HI1 := hide (HI.out.st hb1); have HB1 := Lib.hid hb1
  clear hb1 HI
  go_wp2_with (first
    | ((with_reducible show wpList _ _ _ (⟨some 19, _, _, _, _, _⟩ :: _) _ _)
       refine sl_q1 _ _ rfl rfl (i := 2) (k := b.length) rfl rfl HI1.out HE.out.symm ?_
       intro X9 d9 hX9
       rw [HD.out] at hX9
       have HX9 := hide hX9
       clear hX9))
  refine (clone_k HX9.out (by omega)).mono ?_
  rintro e w2 ⟨A2, c2, rfl, ho, hb2⟩
  have HO2 := hide (IsB.own ho); have HB2 := Lib.hid (HB1.out.trans (hb2.mono HB1.out.size))
  clear ho hb2
  go_wp2_with fail
  go_ret3
  exact ⟨.slice A2 b.length c2, by simp, HB2.out, HO2.out⟩
theorem vnum_2 (n : Nat) (h : n < 1073741824) : numW (be (2147483648 + n) 4) = ((2147483648 + n : Nat) : Int) := by
  rw [numW_be]; omega
set_option maxHeartbeats 2000000 in
theorem vfirst_2 (n : Nat) (b L : List Int) (hL : L = be (2147483648 + n) 4 ++ b) (A : Option Addr) (c : Nat) (w : World) (h : IsB L L.length (.slice A L.length c) w) (hb : Octets b) (hm : b.length ≤ 1000) (hn : n < 1073741824) :
    Calls Try.prog 113 #[.slice A L.length c] w fun e w' => e = .returned (.tuple #[.int .u64 (n : Int), .int .i64 4, .bool true]) ∧ Below w.heap.size w w' := by
  have hlen : L.length = 4 + b.length := by rw [hL, List.length_append, be_len]
  have hok : Octets L := by rw [hL]; exact (be_ok _ _).app hb
  have hy : at0 L 0 = (((2147483648 + n) / 256 ^ 3 % 256 : Nat) : Int) := by rw [hL]; rfl
  have hq : at0 L 0 / 64 = 2 := by rw [hy]; omega
  have y0 : 0 ≤ at0 L 0 := by rw [hy]; omega
  have y1 : at0 L 0 < 256 := by rw [hy]; omega
  have hT : L.take 4 = be (2147483648 + n) 4 := by rw [hL, List.take_append_of_le_length (by rw [be_len]; exact Nat.le_refl _), List.take_of_length_le (by rw [be_len]; exact Nat.le_refl _)]
  have hby : Bytes w w.heap.size A L := by obtain ⟨A', c', e, _, h, _⟩ := h; injection e with e; subst e; exact h
  obtain ⟨bl, ol, rfl, hbl, hcl⟩ := hby.cells (by omega)
  have dc : w.cell? ⟨bl, ol, none⟩ = some (.int .u8 (at0 L 0)) := hcl 0 (by omega)
  have hT1 := h.take (k := 4) (by omega)
  rw [hT] at hT1
  have HT1 := hide hT1
  obtain ⟨N, hN⟩ : ∃ N : Nat, 2147483648 + n = N := ⟨_, rfl⟩
  have r1 : (N : Int) % 1073741824 = (n : Int) := by omega
  have r2 : (N : Int).tmod 1073741824 = (n : Int) := by rw [Int.tmod_eq_emod_of_nonneg (by omega)]; omega
  have HNW := Lib.hid (show nw (be N 4) 0 4 = (N : Int) from by rw [← hN]; unfold nw; rw [List.drop_zero, List.take_of_length_le (by rw [be_len]; exact Nat.le_refl _)]; exact vnum_2 n hn)
  rw [hN] at HT1
  clear hT1 hN
  have l0 : ¬ (L.length : Int) = 0 := by omega
  have ls : ¬ (L.length : Int) < 4 := by omega
  have lz : 0 < L.length := by omega
  have lsz : 4 ≤ L.length := by omega
  have ls2 : (4 : Int) ≤ (L.length : Int) := by omega
  obtain ⟨q1, q2⟩ := h.caps
  unfold maxLen at q2
  have hL90 : L.length ≤ 90000 := by omega
  clear h hT hcl hby hy hL hok
  generalize at0 L 0 = y at *
  generalize L.length = len at *
  clear hlen
  go_enter Try.func113, Try.ntmps113
  go_wp2_with fail
  refine (read_q HT1.out (by omega)).mono ?_
  rintro e w1 ⟨g, rfl, h1⟩
  have R1 := hide h1; clear h1
  go_wp2_with fail
  refine (num_q 4 4 N R1.out (be_ok _ _) rfl (by rw [be_len]; exact Nat.le_refl _) (by omega) HNW.out).mono ?_
  rintro e w2 ⟨rfl, h1, _⟩
  have R2 := hide h1; clear h1 R1
  go_wp2_with fail
  refine (vbound 2 (by omega) _).mono ?_
  rintro e w3 ⟨rfl, rfl⟩
  rw [show vbd 2 = 1073741824 from rfl]
  go_wp2_with fail
  go_ret3
  exact ⟨by first | rfl | simp, R2.out.bel⟩
set_option maxHeartbeats 2000000 in
theorem vtake_2 (n : Nat) (b L : List Int) (m : Nat) (hL : L = be (2147483648 + n) 4 ++ b) (v : Value) (w : World) (h : IsB L m v w) (hb : Octets b) (hm : b.length ≤ 1000) (hn : n < 1073741824) :
    Calls Try.prog 53 #[v] w fun e w' => ∃ u, e = .returned (.tuple #[.int .u64 (n : Int), u, .int .i64 0]) ∧ Below w.heap.size w w' ∧ IsB b b.length u w' := by
  obtain ⟨A, c, rfl⟩ := h.shape
  have hm2 : L.length = m := by obtain ⟨_, _, _, e, _⟩ := h; exact e
  subst hm2
  have hlen : L.length = 4 + b.length := by rw [hL, List.length_append, be_len]
  have hD : L.drop 4 = b := by rw [hL, List.drop_append_of_le_length (by rw [be_len]; exact Nat.le_refl _), List.drop_of_length_le (by rw [be_len]; exact Nat.le_refl _), List.nil_append]
  have HL := Lib.hid hL; have HI := hide h; have HO := hide hb; have HD := Lib.hid hD; have HE := Lib.hid hlen
  clear hL h hb hD hlen
  go_enter Try.func53, Try.ntmps53
  go_wp2_with fail
  refine (vfirst_2 n b L HL.out A c _ HI.out HO.out hm hn).mono ?_
  rintro e w1 ⟨rfl, hb1⟩
  have HI1 := hide (HI.out.st hb1); have HB1 := Lib.hid hb1
  clear hb1 HI
  go_wp2_with (first
    | ((with_reducible show wpList _ _ _ (⟨some 19, _, _, _, _, _⟩ :: _) _ _)
       refine sl_q1 _ _ rfl rfl (i := 4) (k := b.length) rfl rfl HI1.out HE.out.symm ?_
       intro X9 d9 hX9
       rw [HD.out] at hX9
       have HX9 := hide hX9
       clear hX9))
  refine (clone_k HX9.out (by omega)).mono ?_
  rintro e w2 ⟨A2, c2, rfl, ho, hb2⟩
  have HO2 := hide (IsB.own ho); have HB2 := Lib.hid (HB1.out.trans (hb2.mono HB1.out.size))
  clear ho hb2
  go_wp2_with fail
  go_ret3
  exact ⟨.slice A2 b.length c2, by simp, HB2.out, HO2.out⟩
theorem vnum_3 (n : Nat) (h : n < 4611686018427387904) : numW (be (13835058055282163712 + n) 8) = ((13835058055282163712 + n : Nat) : Int) := by
  rw [numW_be]; omega
set_option maxHeartbeats 2000000 in
theorem vfirst_3 (n : Nat) (b L : List Int) (hL : L = be (13835058055282163712 + n) 8 ++ b) (A : Option Addr) (c : Nat) (w : World) (h : IsB L L.length (.slice A L.length c) w) (hb : Octets b) (hm : b.length ≤ 1000) (hn : n < 4611686018427387904) :
    Calls Try.prog 113 #[.slice A L.length c] w fun e w' => e = .returned (.tuple #[.int .u64 (n : Int), .int .i64 8, .bool true]) ∧ Below w.heap.size w w' := by
  have hlen : L.length = 8 + b.length := by rw [hL, List.length_append, be_len]
  have hok : Octets L := by rw [hL]; exact (be_ok _ _).app hb
  have hy : at0 L 0 = (((13835058055282163712 + n) / 256 ^ 7 % 256 : Nat) : Int) := by rw [hL]; rfl
  have hq : at0 L 0 / 64 = 3 := by rw [hy]; omega
  have y0 : 0 ≤ at0 L 0 := by rw [hy]; omega
  have y1 : at0 L 0 < 256 := by rw [hy]; omega
  have hT : L.take 8 = be (13835058055282163712 + n) 8 := by rw [hL, List.take_append_of_le_length (by rw [be_len]; exact Nat.le_refl _), List.take_of_length_le (by rw [be_len]; exact Nat.le_refl _)]
  have hby : Bytes w w.heap.size A L := by obtain ⟨A', c', e, _, h, _⟩ := h; injection e with e; subst e; exact h
  obtain ⟨bl, ol, rfl, hbl, hcl⟩ := hby.cells (by omega)
  have dc : w.cell? ⟨bl, ol, none⟩ = some (.int .u8 (at0 L 0)) := hcl 0 (by omega)
  have hT1 := h.take (k := 8) (by omega)
  rw [hT] at hT1
  have HT1 := hide hT1
  obtain ⟨N, hN⟩ : ∃ N : Nat, 13835058055282163712 + n = N := ⟨_, rfl⟩
  have r1 : (N : Int) % 4611686018427387904 = (n : Int) := by omega
  have r2 : (N : Int).tmod 4611686018427387904 = (n : Int) := by rw [Int.tmod_eq_emod_of_nonneg (by omega)]; omega
  have HNW := Lib.hid (show nw (be N 8) 0 8 = (N : Int) from by rw [← hN]; unfold nw; rw [List.drop_zero, List.take_of_length_le (by rw [be_len]; exact Nat.le_refl _)]; exact vnum_3 n hn)
  rw [hN] at HT1
  clear hT1 hN
  have l0 : ¬ (L.length : Int) = 0 := by omega
  have ls : ¬ (L.length : Int) < 8 := by omega
  have lz : 0 < L.length := by omega
  have lsz : 8 ≤ L.length := by omega
  have ls2 : (8 : Int) ≤ (L.length : Int) := by omega
  obtain ⟨q1, q2⟩ := h.caps
  unfold maxLen at q2
  have hL90 : L.length ≤ 90000 := by omega
  clear h hT hcl hby hy hL hok
  generalize at0 L 0 = y at *
  generalize L.length = len at *
  clear hlen
  go_enter Try.func113, Try.ntmps113
  go_wp2_with fail
  refine (read_q HT1.out (by omega)).mono ?_
  rintro e w1 ⟨g, rfl, h1⟩
  have R1 := hide h1; clear h1
  go_wp2_with fail
  refine (num_q 8 8 N R1.out (be_ok _ _) rfl (by rw [be_len]; exact Nat.le_refl _) (by omega) HNW.out).mono ?_
  rintro e w2 ⟨rfl, h1, _⟩
  have R2 := hide h1; clear h1 R1
  go_wp2_with fail
  refine (vbound 3 (by omega) _).mono ?_
  rintro e w3 ⟨rfl, rfl⟩
  rw [show vbd 3 = 4611686018427387904 from rfl]
  go_wp2_with fail
  go_ret3
  exact ⟨by first | rfl | simp, R2.out.bel⟩
set_option maxHeartbeats 2000000 in
theorem vtake_3 (n : Nat) (b L : List Int) (m : Nat) (hL : L = be (13835058055282163712 + n) 8 ++ b) (v : Value) (w : World) (h : IsB L m v w) (hb : Octets b) (hm : b.length ≤ 1000) (hn : n < 4611686018427387904) :
    Calls Try.prog 53 #[v] w fun e w' => ∃ u, e = .returned (.tuple #[.int .u64 (n : Int), u, .int .i64 0]) ∧ Below w.heap.size w w' ∧ IsB b b.length u w' := by
  obtain ⟨A, c, rfl⟩ := h.shape
  have hm2 : L.length = m := by obtain ⟨_, _, _, e, _⟩ := h; exact e
  subst hm2
  have hlen : L.length = 8 + b.length := by rw [hL, List.length_append, be_len]
  have hD : L.drop 8 = b := by rw [hL, List.drop_append_of_le_length (by rw [be_len]; exact Nat.le_refl _), List.drop_of_length_le (by rw [be_len]; exact Nat.le_refl _), List.nil_append]
  have HL := Lib.hid hL; have HI := hide h; have HO := hide hb; have HD := Lib.hid hD; have HE := Lib.hid hlen
  clear hL h hb hD hlen
  go_enter Try.func53, Try.ntmps53
  go_wp2_with fail
  refine (vfirst_3 n b L HL.out A c _ HI.out HO.out hm hn).mono ?_
  rintro e w1 ⟨rfl, hb1⟩
  have HI1 := hide (HI.out.st hb1); have HB1 := Lib.hid hb1
  clear hb1 HI
  go_wp2_with (first
    | ((with_reducible show wpList _ _ _ (⟨some 19, _, _, _, _, _⟩ :: _) _ _)
       refine sl_q1 _ _ rfl rfl (i := 8) (k := b.length) rfl rfl HI1.out HE.out.symm ?_
       intro X9 d9 hX9
       rw [HD.out] at hX9
       have HX9 := hide hX9
       clear hX9))
  refine (clone_k HX9.out (by omega)).mono ?_
  rintro e w2 ⟨A2, c2, rfl, ho, hb2⟩
  have HO2 := hide (IsB.own ho); have HB2 := Lib.hid (HB1.out.trans (hb2.mono HB1.out.size))
  clear ho hb2
  go_wp2_with fail
  go_ret3
  exact ⟨.slice A2 b.length c2, by simp, HB2.out, HO2.out⟩
end Go.Proofs.Ytkgmgmlicgjfdaa
