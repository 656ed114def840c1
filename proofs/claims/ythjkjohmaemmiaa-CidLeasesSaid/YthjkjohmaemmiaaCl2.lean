/-
  The law CidLeases, walked. Helper of the claim CidLeases. No condition.
-/
import Derived.Test.YthjkjohmaemmiaaCl1
namespace Go.Proofs.Ythjkjohmaemmiaa
open Go.ChangeShapes Go.WideShapes Go.ChangeAt Go.RowKit
set_option linter.unusedSimpArgs false
set_option linter.unusedVariables false
set_option maxRecDepth 100000
def idv (kk : List Int) (wdf : Nat → Nat) (a j : Nat) : List Int := idl kk (a + j) (wdf (a + j))
def idrow (kk : List Int) (wdf : Nat → Nat) (a i : Nat) : List Value := (List.range i).map fun j => .string (strOfNums (idv kk wdf a j))
theorem idrow_len (kk : List Int) (wdf : Nat → Nat) (a i : Nat) : (idrow kk wdf a i).length = i := by simp [idrow]
theorem idrow_at {kk : List Int} {wdf : Nat → Nat} {a i k : Nat} (h : k < i) : (idrow kk wdf a i)[k]? = some (.string (strOfNums (idv kk wdf a k))) := by simp [idrow, h]
theorem idrow_snoc (kk : List Int) (wdf : Nat → Nat) (a i : Nat) : idrow kk wdf a i ++ [.string (strOfNums (idv kk wdf a i))] = idrow kk wdf a (i + 1) := by simp [idrow, List.range_succ]
def ClRel (w : World) (gl gp g9 BB : Nat) (key kk : List Int) (n : Nat) (v s : Int) (a b : Nat) (wdf : Nat → Nat) (v14 v15 : Value) (wr : World) : Prop :=
  ∃ i : Nat, i ≤ 4 ∧ v15 = .int .i64 (i : Int) ∧ (i = 0 ∨ a + i ≤ 1099511627776) ∧ Is wr w.heap.size 38 (rcs key n) ∧ Is wr gl 66 #[.int .u64 ((a + i : Nat) : Int), .int .u64 (b : Int)] ∧ Is wr gp 41 #[.int .i64 v, .int .i64 s] ∧ Is wr g9 45 (rcs key n) ∧ wr.ownsRow BB 9 1 v14 i (idrow kk wdf a i) ∧ Below w.heap.size w wr ∧ BB ≤ wr.heap.size
def KIn (w0 : World) (i : Nat) (v : Value) (wr : World) : Prop := ∃ k : Nat, k ≤ i ∧ v = .int .i64 (k : Int) ∧ Below w0.heap.size w0 wr
theorem own_cells {w : World} {base i c : Nat} {A : Option Addr} {xs : List Value} (h : w.ownsRow base 9 1 (.slice A i c) i xs) (h0 : 0 < i) : ∃ g, A = some ⟨g, 0, none⟩ ∧ i ≤ c ∧ ∀ k u, k < i → xs[k]? = some u → w.cell? ⟨g, k, none⟩ = some u := by
  obtain ⟨hl, h2⟩ := h
  rcases h2 with ⟨_, h00⟩ | ⟨g, cap, cur, hv, hg, hh, hnc, hm, hs, ht⟩
  · omega
  · injection hv with e1 e2 e3
    refine ⟨g, e1, by omega, fun k u hk hx => ?_⟩
    rw [Is.cell hh]
    rw [← ht, List.getElem?_take, if_pos (by omega)] at hx
    rw [← Array.getElem?_toList]; exact hx
theorem own_in {w : World} {base e sz n k : Nat} {v : Value} {xs : List Value} (h : w.ownsRow base e sz v n xs) (hk : v.ownBlock = some k) : base ≤ k := by
  apply Decidable.byContradiction; intro hn; exact own_far h (by omega) hk
theorem infoS : (Try.prog.info? 9).map (fun i => (i.zero, i.size, i.bytes)) = some (some (.string ByteArray.empty), 1, 16) := by kernel_rfl
theorem infoT : ∃ inf, Try.prog.info? 9 = some inf ∧ inf.zero = some (.string ByteArray.empty) ∧ inf.size = 1 ∧ inf.bytes = 16 := by
  obtain ⟨i, h0, h1, h2, h3⟩ := info_parts infoS
  exact ⟨i, h0, h1, h2, h3⟩
set_option maxHeartbeats 4000000 in
theorem leases_yes (key : List Int) (hk : key.length = 16) (ho : Octets key) (n : Nat) (hn : n < 18446744073709551616) (a b cut : Nat) (ha64 : a < 18446744073709551616) (hb64 : b < 18446744073709551616) (hcut : cut < 18446744073709551616) (v s : Int) (hc1 : cut ≤ lleft a b) (w : World) :
    Calls Try.prog 7 #[.agg (rcs key n), .agg #[.int .u64 (a : Int), .int .u64 (b : Int)], .agg #[.int .i64 v, .int .i64 s], .int .u64 (cut : Int)] w fun e w' => e = .returned (.bool true) ∧ Below w.heap.size w w' := by
  have RLT := hide (fun W => rleft13 a b hb64 W); have LTA := hide (fun W => cleft a b hb64 W)
  have hq : a + cut < 18446744073709551616 := by unfold lleft at hc1; omega
  have CT := hide (fun W => cut_yes a b cut hb64 hcut hc1 (by unfold lleft at hc1; omega) ha64 W)
  have q1 : IntKind.u64.wrap ((a : Int) + (cut : Int)) = ((a + cut : Nat) : Int) := by rw [IntKind.wrap_u64]; omega
  have q2 : (a : Int) + (cut : Int) = ((a + cut : Nat) : Int) := by omega
  have q3 : (cut : Int) ≤ ((lleft a b : Nat) : Int) := by omega
  generalize a + cut = q at *
  clear hc1
  generalize hlf : lleft a b = lfa at RLT LTA q3
  clear hlf
  obtain ⟨kk, hkd⟩ : ∃ k, dvk key n = k := ⟨_, rfl⟩
  have HKD := Lib.hid hkd
  obtain ⟨wdf, hwf⟩ : ∃ g : Nat → Nat, ∀ o, n % 2 * 32768 + ((v.toNat * 4096 + s.toNat) ^^^ mkc (dvk key n) (be o 5)) = g o := ⟨_, fun _ => rfl⟩
  have HWF := hide hwf
  clear hkd hwf
  have HKK := Lib.hid hk; have HOO := Lib.hid ho; have HNN := Lib.hid hn; have RSZ := Lib.hid (rcs_size hk n); have RONE := Lib.hid (rcs_one key n); have HK := HKK; have HA64 := Lib.hid ha64
  have HB0 := Lib.hid (show Below w.heap.size w (((w.alloc (.cells (rcs key n) 38)).alloc (.cells #[.int .u64 (a : Int), .int .u64 (b : Int)] 66)).alloc (.cells #[.int .i64 v, .int .i64 s] 41)) from (((Below.refl _ _).alloc (Nat.le_refl _) _).alloc (by simp) _).alloc (by simp; omega) _)
  have R0 := Lib.hid (((Is.new w 38 (rcs key n)).alloc (.cells #[.int .u64 (a : Int), .int .u64 (b : Int)] 66)).alloc (.cells #[.int .i64 v, .int .i64 s] 41))
  have L0 := Lib.hid ((Is.new (w.alloc (.cells (rcs key n) 38)) 66 #[.int .u64 (a : Int), .int .u64 (b : Int)]).alloc (.cells #[.int .i64 v, .int .i64 s] 41))
  have P0 := Lib.hid (Is.new ((w.alloc (.cells (rcs key n) 38)).alloc (.cells #[.int .u64 (a : Int), .int .u64 (b : Int)] 66)) 41 #[.int .i64 v, .int .i64 s])
  rw [show (w.alloc (.cells (rcs key n) 38)).heap.size = w.heap.size + 1 from by simp] at L0
  rw [show ((w.alloc (.cells (rcs key n) 38)).alloc (.cells #[.int .u64 (a : Int), .int .u64 (b : Int)] 66)).heap.size = w.heap.size + 1 + 1 from by simp] at P0
  have m16 := ring_now HK.out R0.out
  clear hk ho hn
  go_enter Try.func7, Try.ntmps7
  go_wp2_with (with_reducible show wpList _ _ _ (⟨some 22, _, _, _, _, _⟩ :: _) _ _; go_loud (refine wpList_load_mid rfl 36 (.tmp 21) rfl w.heap.size 0 rfl (u8s key) _ (ring_range HK.out R0.out) Try.underlying36 rfl (by rw [show (u8s key).length = 16 from by simp [u8s, HK.out]]; kernel_rfl) ?_))
  generalize (((w.alloc (.cells (rcs key n) 38)).alloc (.cells #[.int .u64 (a : Int), .int .u64 (b : Int)] 66)).alloc (.cells #[.int .i64 v, .int .i64 s] 41)) = V at *
  have HGL := Lib.hid (Nat.le_succ w.heap.size)
  generalize hgp : w.heap.size + 1 + 1 = gp at *
  generalize hgl : w.heap.size + 1 = gl at *
  have HGL : Hid (w.heap.size ≤ gl) := hide (by omega)
  clear m16 hgp hgl
  refine (hnew key HK.out n _).mono ?_
  rintro e w1 ⟨rfl, hb⟩
  have R1 := Lib.hid (R0.out.below hb R0.out.lt)
  have L1 := Lib.hid (L0.out.below hb L0.out.lt)
  have P1 := Lib.hid (P0.out.below hb P0.out.lt)
  have HB1 := Lib.hid (HB0.out.trans (hb.mono HB0.out.size))
  clear hb R0 L0 P0 HB0
  have J1 := Lib.hid (Is.new w1 45 #[.int .u8 0, .int .u8 0, .int .u8 0, .int .u8 0, .int .u8 0, .int .u8 0, .int .u8 0, .int .u8 0, .int .u8 0, .int .u8 0, .int .u8 0, .int .u8 0, .int .u8 0, .int .u8 0, .int .u8 0, .int .u8 0, .int .u64 0])
  have hz := HB1.out.size
  have HB2 := Lib.hid (below_setRow (HB1.out.alloc hz (.cells #[.int .u8 0, .int .u8 0, .int .u8 0, .int .u8 0, .int .u8 0, .int .u8 0, .int .u8 0, .int .u8 0, .int .u8 0, .int .u8 0, .int .u8 0, .int .u8 0, .int .u8 0, .int .u8 0, .int .u8 0, .int .u8 0, .int .u64 0] 45)) (g := w1.heap.size) hz (rcs key n))
  have G2 := Lib.hid (is_row (cs' := (rcs key n)) J1.out)
  have R2 := Lib.hid (show Is ((w1.alloc (.cells #[.int .u8 0, .int .u8 0, .int .u8 0, .int .u8 0, .int .u8 0, .int .u8 0, .int .u8 0, .int .u8 0, .int .u8 0, .int .u8 0, .int .u8 0, .int .u8 0, .int .u8 0, .int .u8 0, .int .u8 0, .int .u8 0, .int .u64 0] 45)).setRow w1.heap.size (rcs key n)) w.heap.size 38 (rcs key n) from (setRow_other _ _ _ _ (by have := R1.out.lt; omega)).trans (R1.out.alloc _))
  have L2 := Lib.hid (show Is ((w1.alloc (.cells #[.int .u8 0, .int .u8 0, .int .u8 0, .int .u8 0, .int .u8 0, .int .u8 0, .int .u8 0, .int .u8 0, .int .u8 0, .int .u8 0, .int .u8 0, .int .u8 0, .int .u8 0, .int .u8 0, .int .u8 0, .int .u8 0, .int .u64 0] 45)).setRow w1.heap.size (rcs key n)) gl 66 #[.int .u64 (a : Int), .int .u64 (b : Int)] from (setRow_other _ _ _ _ (by have := L1.out.lt; omega)).trans (L1.out.alloc _))
  have P2 := Lib.hid (show Is ((w1.alloc (.cells #[.int .u8 0, .int .u8 0, .int .u8 0, .int .u8 0, .int .u8 0, .int .u8 0, .int .u8 0, .int .u8 0, .int .u8 0, .int .u8 0, .int .u8 0, .int .u8 0, .int .u8 0, .int .u8 0, .int .u8 0, .int .u8 0, .int .u64 0] 45)).setRow w1.heap.size (rcs key n)) gp 41 #[.int .i64 v, .int .i64 s] from (setRow_other _ _ _ _ (by have := P1.out.lt; omega)).trans (P1.out.alloc _))
  clear R1 L1 P1 HB1 hz
  go_wp2_with (
    (with_reducible show wpList _ _ _ (⟨none, _, _, _, _, _⟩ :: _) _ _)
    go_loud (refine Go.wpList_store_row rfl 45 (.tmp 9) (.tmp 25) rfl w1.heap.size (rcs key n) rfl rfl 45 #[.int .u8 0, .int .u8 0, .int .u8 0, .int .u8 0, .int .u8 0, .int .u8 0, .int .u8 0, .int .u8 0, .int .u8 0, .int .u8 0, .int .u8 0, .int .u8 0, .int .u8 0, .int .u8 0, .int .u8 0, .int .u8 0, .int .u64 0] (is_raw J1.out) (by rw [RSZ.out]; kernel_rfl) (by rw [RSZ.out]; simp) RONE.out ?_)
    generalize ((w1.alloc (.cells #[.int .u8 0, .int .u8 0, .int .u8 0, .int .u8 0, .int .u8 0, .int .u8 0, .int .u8 0, .int .u8 0, .int .u8 0, .int .u8 0, .int .u8 0, .int .u8 0, .int .u8 0, .int .u8 0, .int .u8 0, .int .u8 0, .int .u64 0] 45)).setRow w1.heap.size (rcs key n)) = X at *
    generalize w1.heap.size = g9 at *
    have a0 := L2.out.cell 0
    have a1 := L2.out.cell 1
    simp at a0 a1)
  clear J1
  refine (unhide RLT _).mono ?_
  rintro e w2 ⟨rfl, rfl⟩
  go_wp2_with fail
  refine (unhide CT _).mono ?_
  rintro e w3 ⟨rfl, hb⟩
  clear a0 a1
  have R3 := Lib.hid (R2.out.below hb R2.out.lt)
  have L3 := Lib.hid (L2.out.below hb L2.out.lt)
  have P3 := Lib.hid (P2.out.below hb P2.out.lt)
  have G3 := Lib.hid (G2.out.below hb G2.out.lt)
  have HB3 := Lib.hid (HB2.out.trans (hb.mono HB2.out.size))
  clear hb R2 L2 P2 G2 HB2
  have C4 := Lib.hid ((Is.new w3 66 #[.int .u64 (a : Int), .int .u64 (q : Int)]).alloc (.cells #[.int .u64 (q : Int), .int .u64 (b : Int)] 66))
  have C2 := Is.new (w3.alloc (.cells #[.int .u64 (a : Int), .int .u64 (q : Int)] 66)) 66 #[.int .u64 (q : Int), .int .u64 (b : Int)]
  rw [show (w3.alloc (.cells #[.int .u64 (a : Int), .int .u64 (q : Int)] 66)).heap.size = w3.heap.size + 1 from by simp] at C2
  have D4 := Lib.hid C2
  clear C2
  have R4 := Lib.hid ((R3.out.alloc (.cells #[.int .u64 (a : Int), .int .u64 (q : Int)] 66)).alloc (.cells #[.int .u64 (q : Int), .int .u64 (b : Int)] 66))
  have L4 := Lib.hid ((L3.out.alloc (.cells #[.int .u64 (a : Int), .int .u64 (q : Int)] 66)).alloc (.cells #[.int .u64 (q : Int), .int .u64 (b : Int)] 66))
  have P4 := Lib.hid ((P3.out.alloc (.cells #[.int .u64 (a : Int), .int .u64 (q : Int)] 66)).alloc (.cells #[.int .u64 (q : Int), .int .u64 (b : Int)] 66))
  have G4 := Lib.hid ((G3.out.alloc (.cells #[.int .u64 (a : Int), .int .u64 (q : Int)] 66)).alloc (.cells #[.int .u64 (q : Int), .int .u64 (b : Int)] 66))
  have HB4 := Lib.hid ((HB3.out.alloc HB3.out.size (.cells #[.int .u64 (a : Int), .int .u64 (q : Int)] 66)).alloc (Nat.le_trans HB3.out.size (by simp)) (.cells #[.int .u64 (q : Int), .int .u64 (b : Int)] 66))
  clear R3 L3 P3 G3 HB3
  have a0 := L4.out.cell 0; have a1 := L4.out.cell 1
  simp at a0 a1
  go_wp2_with fail
  generalize ((w3.alloc (.cells #[.int .u64 (a : Int), .int .u64 (q : Int)] 66)).alloc (.cells #[.int .u64 (q : Int), .int .u64 (b : Int)] 66)) = V3 at *
  generalize w3.heap.size + 1 = gc2 at *
  generalize w3.heap.size = gc1 at *
  refine (unhide LTA _).mono ?_
  rintro e w5 ⟨rfl, hb⟩
  clear a0 a1
  have R5 := Lib.hid (R4.out.below hb R4.out.lt)
  have L5 := Lib.hid (L4.out.below hb L4.out.lt)
  have P5 := Lib.hid (P4.out.below hb P4.out.lt)
  have G5 := Lib.hid (G4.out.below hb G4.out.lt)
  have C5 := Lib.hid (C4.out.below hb C4.out.lt)
  have D5 := Lib.hid (D4.out.below hb D4.out.lt)
  have HB5 := Lib.hid (HB4.out.trans (hb.mono HB4.out.size))
  clear hb R4 L4 P4 G4 C4 D4 HB4
  have a0 := L5.out.cell 0; have a1 := L5.out.cell 1; have c0 := C5.out.cell 0; have c1 := C5.out.cell 1; have d0 := D5.out.cell 0; have d1 := D5.out.cell 1
  simp at a0 a1 c0 c1 d0 d1
  go_wp2_with fail
  clear a0 a1 c0 c1 d0 d1 C5 D5
  obtain ⟨BB, hBB⟩ : ∃ B, B = w5.heap.size := ⟨_, rfl⟩
  have HS := Lib.hid (show w.heap.size < BB ∧ gl < BB ∧ gp < BB ∧ g9 < BB from by rw [hBB]; exact ⟨R5.out.lt, L5.out.lt, P5.out.lt, G5.out.lt⟩)
  go_loopw [14, 15] (fun v14 v15 wr => ClRel w gl gp g9 BB key kk n v s a b wdf v14 v15 wr) (fun _ v _ => (4 - intOf v).toNat)
  case atStart => exact ⟨0, by omega, rfl, .inl rfl, R5.out, L5.out, P5.out, G5.out, World.ownsRow_nil _ _ _ _, HB5.out, by rw [hBB]; exact Nat.le_refl _⟩
  case round =>
    clear R5 L5 P5 G5 HB5 hBB
    obtain ⟨i, hi, rfl, hai, hR, hL, hP, hG, hO, hB, hz0⟩ := hrel
    obtain ⟨o, hoi⟩ : ∃ o, a + i = o := ⟨_, rfl⟩
    rw [hoi] at hL
    have R0 := Lib.hid hR; have L0 := Lib.hid hL; have P0 := Lib.hid hP; have G0 := Lib.hid hG; have O0 := hide hO; have HB0 := Lib.hid hB
    clear hR hL hP hG hO hB
    by_cases hi4 : i < 4
    · have kl4 : (i : Int) < 4 := by omega
      have ho64 : o < 18446744073709551616 := by have := HA64.out; omega
      have hk := HKK.out; have ho := HOO.out; have hn := HNN.out
      by_cases h0 : lleft o b = 0
      · clear hai hi hi4 hoi
        have LT := hide (fun W => cleft o b hb64 W)
        rw [h0] at LT
        have TKT := hide (fun W => ctake_none key hk ho n hn o b ho64 hb64 v s h0 W)
        clear h0 hk ho hn
        have a0 := L0.out.cell 0; have a1 := L0.out.cell 1; have p0 := P0.out.cell 0; have p1 := P0.out.cell 1
        simp at a0 a1 p0 p1
        go_wp2_with (with_reducible show wpList _ _ _ (⟨some 98, _, _, _, _, _⟩ :: _) _ _; go_loud (refine Go.wpList_load_row rfl 45 (.tmp 9) rfl g9 rfl 45 (rcs key n) (0, 0) _ (is_raw G0.out) Try.underlying45 rfl (by rw [RSZ.out]; kernel_rfl) ?_))
        refine (unhide TKT _).mono ?_
        rintro e w1 ⟨rfl, hb⟩
        clear a0 a1 p0 p1
        have R1 := Lib.hid (R0.out.below hb R0.out.lt)
        have L1 := Lib.hid (L0.out.below hb L0.out.lt)
        have P1 := Lib.hid (P0.out.below hb P0.out.lt)
        have G1 := Lib.hid (G0.out.below hb G0.out.lt)
        have O1 := hide (own_below O0.out hb)
        have HB1 := Lib.hid (HB0.out.trans (hb.mono HB0.out.size)); have hz1 : BB ≤ _ := Nat.le_trans hz0 hb.size
        clear hb R0 L0 P0 G0 HB0 hz0 O0
        have T2 := Lib.hid (Is.new w1 66 #[.int .u64 (o : Int), .int .u64 (b : Int)])
        have R2 := Lib.hid (R1.out.alloc (.cells #[.int .u64 (o : Int), .int .u64 (b : Int)] 66))
        have L2 := Lib.hid (L1.out.alloc (.cells #[.int .u64 (o : Int), .int .u64 (b : Int)] 66))
        have P2 := Lib.hid (P1.out.alloc (.cells #[.int .u64 (o : Int), .int .u64 (b : Int)] 66))
        have G2 := Lib.hid (G1.out.alloc (.cells #[.int .u64 (o : Int), .int .u64 (b : Int)] 66))
        have O2 := hide (World.ownsRow.alloc O1.out (.cells #[.int .u64 (o : Int), .int .u64 (b : Int)] 66))
        have HB2 := Lib.hid (HB1.out.alloc HB1.out.size (.cells #[.int .u64 (o : Int), .int .u64 (b : Int)] 66)); have hz2 : BB ≤ (w1.alloc (.cells #[.int .u64 (o : Int), .int .u64 (b : Int)] 66)).heap.size := Nat.le_trans hz1 (by simp)
        clear R1 L1 P1 G1 HB1 hz1 O1
        have a0 := L2.out.cell 0; have a1 := L2.out.cell 1; have p0 := P2.out.cell 0; have p1 := P2.out.cell 1; have t0 := T2.out.cell 0; have t1 := T2.out.cell 1
        simp at a0 a1 p0 p1 t0 t1
        go_wp2_with fail
        generalize w1.alloc (.cells #[.int .u64 (o : Int), .int .u64 (b : Int)] 66) = V2 at *
        generalize w1.heap.size = g17 at *
        refine (unhide LT _).mono ?_
        rintro e w3 ⟨rfl, hb⟩
        clear a0 a1 p0 p1 t0 t1
        have R3 := Lib.hid (R2.out.below hb R2.out.lt)
        have L3 := Lib.hid (L2.out.below hb L2.out.lt)
        have P3 := Lib.hid (P2.out.below hb P2.out.lt)
        have G3 := Lib.hid (G2.out.below hb G2.out.lt)
        have T3 := Lib.hid (T2.out.below hb T2.out.lt)
        have O3 := hide (own_below O2.out hb)
        have HB3 := Lib.hid (HB2.out.trans (hb.mono HB2.out.size)); have hz3 : BB ≤ _ := Nat.le_trans hz2 hb.size
        clear hb R2 L2 P2 G2 T2 HB2 hz2 O2
        have a0 := L3.out.cell 0; have a1 := L3.out.cell 1; have p0 := P3.out.cell 0; have p1 := P3.out.cell 1; have t0 := T3.out.cell 0; have t1 := T3.out.cell 1
        simp at a0 a1 p0 p1 t0 t1
        go_wp2_with fail
        refine (unhide LT _).mono ?_
        rintro e w5 ⟨rfl, hb⟩
        clear a0 a1 p0 p1 t0 t1
        have R5 := Lib.hid (R3.out.below hb R3.out.lt)
        have L5 := Lib.hid (L3.out.below hb L3.out.lt)
        have P5 := Lib.hid (P3.out.below hb P3.out.lt)
        have G5 := Lib.hid (G3.out.below hb G3.out.lt)
        have T5 := Lib.hid (T3.out.below hb T3.out.lt)
        have O5 := hide (own_below O3.out hb)
        have HB5 := Lib.hid (HB3.out.trans (hb.mono HB3.out.size)); have hz5 : BB ≤ _ := Nat.le_trans hz3 hb.size
        clear hb R3 L3 P3 G3 T3 HB3 hz3 O3
        have a0 := L5.out.cell 0; have a1 := L5.out.cell 1; have p0 := P5.out.cell 0; have p1 := P5.out.cell 1; have t0 := T5.out.cell 0; have t1 := T5.out.cell 1
        simp at a0 a1 p0 p1 t0 t1
        go_wp2_with fail
        refine (awake13 _).mono ?_
        rintro e wz ⟨rfl, hb⟩
        have HBZ := Lib.hid (HB5.out.trans (hb.mono HB5.out.size))
        clear hb
        go_wp2_with fail
        go_ret
        exact ⟨rfl, HBZ.out⟩
      · cases hr : (pright v s && decide (o < 1099511627776)) with
        | false =>
          clear hai hi hi4 hoi
          have LT := hide (fun W => cleft o b hb64 W)
          have TKT := hide (fun W => ctake_err key hk ho n hn o b ho64 hb64 v s h0 hr W)
          have RT := hide (fun W => rright13 v s o W)
          rw [hr] at RT
          have hnz : (((lleft o b : Nat) : Int) == 0) = false := by rw [beq_eq_false_iff_ne]; omega
          clear hr
          generalize lleft o b = lf at *
          clear h0 hk ho hn
          have a0 := L0.out.cell 0; have a1 := L0.out.cell 1; have p0 := P0.out.cell 0; have p1 := P0.out.cell 1
          simp at a0 a1 p0 p1
          go_wp2_with (with_reducible show wpList _ _ _ (⟨some 98, _, _, _, _, _⟩ :: _) _ _; go_loud (refine Go.wpList_load_row rfl 45 (.tmp 9) rfl g9 rfl 45 (rcs key n) (0, 0) _ (is_raw G0.out) Try.underlying45 rfl (by rw [RSZ.out]; kernel_rfl) ?_))
          refine (unhide TKT _).mono ?_
          rintro e w1 ⟨rfl, hb⟩
          clear a0 a1 p0 p1
          have R1 := Lib.hid (R0.out.below hb R0.out.lt)
          have L1 := Lib.hid (L0.out.below hb L0.out.lt)
          have P1 := Lib.hid (P0.out.below hb P0.out.lt)
          have G1 := Lib.hid (G0.out.below hb G0.out.lt)
          have O1 := hide (own_below O0.out hb)
          have HB1 := Lib.hid (HB0.out.trans (hb.mono HB0.out.size)); have hz1 : BB ≤ _ := Nat.le_trans hz0 hb.size
          clear hb R0 L0 P0 G0 HB0 hz0 O0
          have T2 := Lib.hid (Is.new w1 66 #[.int .u64 (o : Int), .int .u64 (b : Int)])
          have R2 := Lib.hid (R1.out.alloc (.cells #[.int .u64 (o : Int), .int .u64 (b : Int)] 66))
          have L2 := Lib.hid (L1.out.alloc (.cells #[.int .u64 (o : Int), .int .u64 (b : Int)] 66))
          have P2 := Lib.hid (P1.out.alloc (.cells #[.int .u64 (o : Int), .int .u64 (b : Int)] 66))
          have G2 := Lib.hid (G1.out.alloc (.cells #[.int .u64 (o : Int), .int .u64 (b : Int)] 66))
          have O2 := hide (World.ownsRow.alloc O1.out (.cells #[.int .u64 (o : Int), .int .u64 (b : Int)] 66))
          have HB2 := Lib.hid (HB1.out.alloc HB1.out.size (.cells #[.int .u64 (o : Int), .int .u64 (b : Int)] 66)); have hz2 : BB ≤ (w1.alloc (.cells #[.int .u64 (o : Int), .int .u64 (b : Int)] 66)).heap.size := Nat.le_trans hz1 (by simp)
          clear R1 L1 P1 G1 HB1 hz1 O1
          have a0 := L2.out.cell 0; have a1 := L2.out.cell 1; have p0 := P2.out.cell 0; have p1 := P2.out.cell 1; have t0 := T2.out.cell 0; have t1 := T2.out.cell 1
          simp at a0 a1 p0 p1 t0 t1
          go_wp2_with fail
          generalize w1.alloc (.cells #[.int .u64 (o : Int), .int .u64 (b : Int)] 66) = V2 at *
          generalize w1.heap.size = g17 at *
          refine (unhide LT _).mono ?_
          rintro e w3 ⟨rfl, hb⟩
          clear a0 a1 p0 p1 t0 t1
          have R3 := Lib.hid (R2.out.below hb R2.out.lt)
          have L3 := Lib.hid (L2.out.below hb L2.out.lt)
          have P3 := Lib.hid (P2.out.below hb P2.out.lt)
          have G3 := Lib.hid (G2.out.below hb G2.out.lt)
          have T3 := Lib.hid (T2.out.below hb T2.out.lt)
          have O3 := hide (own_below O2.out hb)
          have HB3 := Lib.hid (HB2.out.trans (hb.mono HB2.out.size)); have hz3 : BB ≤ _ := Nat.le_trans hz2 hb.size
          clear hb R2 L2 P2 G2 T2 HB2 hz2 O2
          have a0 := L3.out.cell 0; have a1 := L3.out.cell 1; have p0 := P3.out.cell 0; have p1 := P3.out.cell 1; have t0 := T3.out.cell 0; have t1 := T3.out.cell 1
          simp at a0 a1 p0 p1 t0 t1
          go_wp2_with fail
          refine (unhide RT _).mono ?_
          rintro e w4 ⟨rfl, rfl⟩
          go_wp2_with fail
          refine (unhide LT _).mono ?_
          rintro e w5 ⟨rfl, hb⟩
          clear a0 a1 p0 p1 t0 t1
          have R5 := Lib.hid (R3.out.below hb R3.out.lt)
          have L5 := Lib.hid (L3.out.below hb L3.out.lt)
          have P5 := Lib.hid (P3.out.below hb P3.out.lt)
          have G5 := Lib.hid (G3.out.below hb G3.out.lt)
          have T5 := Lib.hid (T3.out.below hb T3.out.lt)
          have O5 := hide (own_below O3.out hb)
          have HB5 := Lib.hid (HB3.out.trans (hb.mono HB3.out.size)); have hz5 : BB ≤ _ := Nat.le_trans hz3 hb.size
          clear hb R3 L3 P3 G3 T3 HB3 hz3 O3
          have a0 := L5.out.cell 0; have a1 := L5.out.cell 1; have p0 := P5.out.cell 0; have p1 := P5.out.cell 1; have t0 := T5.out.cell 0; have t1 := T5.out.cell 1
          simp at a0 a1 p0 p1 t0 t1
          go_wp2_with fail
          refine (awake13 _).mono ?_
          rintro e wz ⟨rfl, hb⟩
          have HBZ := Lib.hid (HB5.out.trans (hb.mono HB5.out.size))
          clear hb
          go_wp2_with fail
          go_ret
          exact ⟨rfl, HBZ.out⟩
        | true =>
          have HOI := Lib.hid hoi
          have hon : o < 1099511627776 := by simp only [Bool.and_eq_true, decide_eq_true_eq] at hr; exact hr.2
          have hvs : (0 ≤ v ∧ v < 8) ∧ 0 ≤ s ∧ s < 4096 := by simp only [Bool.and_eq_true, decide_eq_true_eq, pright] at hr; omega
          obtain ⟨⟨v0, v8⟩, s0, s8⟩ := hvs
          have hv : ((v.toNat : Nat) : Int) = v := Int.toNat_of_nonneg v0
          have hs : ((s.toNat : Nat) : Int) = s := Int.toNat_of_nonneg s0
          have LT := hide (fun W => cleft o b hb64 W)
          have TKT := hide (fun W => by have h := ctake_ok key hk ho n hn o b ho64 hb64 v.toNat s.toNat (by omega) (by omega) h0 hon (wdf o) (by rw [HWF.out]) W; rw [hv, hs] at h; exact h)
          have RMT := hide (fun W => by have h := rmake_yes key hk ho n hn v.toNat s.toNat o (by omega) (by omega) hon (wdf o) (by rw [HWF.out]) W; rw [hv, hs] at h; exact h)
          have RT := hide (fun W => rright13 v s o W)
          rw [hr] at RT
          have hnz : (((lleft o b : Nat) : Int) == 0) = false := by rw [beq_eq_false_iff_ne]; omega
          have NEQ := hide (fun (k : Nat) (hk : k < i) => show ¬ (strOfNums (idv kk wdf a k)).toList = (strOfNums (idl kk o (wdf o))).toList from by unfold idv; exact idl_ne (by omega) hon (by omega))
          have E1 := Lib.hid (show IntKind.u64.wrap ((o : Int) + 1) = ((o + 1 : Nat) : Int) from by rw [IntKind.wrap_u64]; omega)
          have e1 : (o : Int) + 1 = ((o + 1 : Nat) : Int) := by omega
          have HON := Lib.hid hon
          have HIDE := Lib.hid (show idl kk o (wdf o) = idv kk wdf a i from by unfold idv; rw [hoi])
          rw [HKD.out] at TKT RMT
          generalize idl kk o (wdf o) = ID at *
          have HO1 := Lib.hid (rfl : o + 1 = o + 1)
          generalize ho1 : o + 1 = o1 at TKT E1 e1
          clear HO1
          have HO1 := Lib.hid ho1
          generalize lleft o b = lf at *
          have KB := Lib.hid hi4
          clear hr h0 hon v0 v8 s0 s8 hv hs hk ho hn hai hi hi4 ho1
          have a0 := L0.out.cell 0; have a1 := L0.out.cell 1; have p0 := P0.out.cell 0; have p1 := P0.out.cell 1
          simp at a0 a1 p0 p1
          go_wp2_with (with_reducible show wpList _ _ _ (⟨some 98, _, _, _, _, _⟩ :: _) _ _; go_loud (refine Go.wpList_load_row rfl 45 (.tmp 9) rfl g9 rfl 45 (rcs key n) (0, 0) _ (is_raw G0.out) Try.underlying45 rfl (by rw [RSZ.out]; kernel_rfl) ?_))
          refine (unhide TKT _).mono ?_
          rintro e w1 ⟨u, rfl, hb, hu⟩
          obtain ⟨Au, cu, rfl⟩ := hu.shape
          have I1 := hide hu
          clear hu
          clear a0 a1 p0 p1
          have R1 := Lib.hid (R0.out.below hb R0.out.lt)
          have L1 := Lib.hid (L0.out.below hb L0.out.lt)
          have P1 := Lib.hid (P0.out.below hb P0.out.lt)
          have G1 := Lib.hid (G0.out.below hb G0.out.lt)
          have O1 := hide (own_below O0.out hb)
          have HB1 := Lib.hid (HB0.out.trans (hb.mono HB0.out.size)); have hz1 : BB ≤ _ := Nat.le_trans hz0 hb.size
          clear hb R0 L0 P0 G0 HB0 hz0 O0
          have T2 := Lib.hid (Is.new w1 66 #[.int .u64 (o1 : Int), .int .u64 (b : Int)])
          have I2 := hide (IsB.alloc I1.out (.cells #[.int .u64 (o1 : Int), .int .u64 (b : Int)] 66))
          clear I1
          have R2 := Lib.hid (R1.out.alloc (.cells #[.int .u64 (o1 : Int), .int .u64 (b : Int)] 66))
          have L2 := Lib.hid (L1.out.alloc (.cells #[.int .u64 (o1 : Int), .int .u64 (b : Int)] 66))
          have P2 := Lib.hid (P1.out.alloc (.cells #[.int .u64 (o1 : Int), .int .u64 (b : Int)] 66))
          have G2 := Lib.hid (G1.out.alloc (.cells #[.int .u64 (o1 : Int), .int .u64 (b : Int)] 66))
          have O2 := hide (World.ownsRow.alloc O1.out (.cells #[.int .u64 (o1 : Int), .int .u64 (b : Int)] 66))
          have HB2 := Lib.hid (HB1.out.alloc HB1.out.size (.cells #[.int .u64 (o1 : Int), .int .u64 (b : Int)] 66)); have hz2 : BB ≤ (w1.alloc (.cells #[.int .u64 (o1 : Int), .int .u64 (b : Int)] 66)).heap.size := Nat.le_trans hz1 (by simp)
          clear R1 L1 P1 G1 HB1 hz1 O1
          have a0 := L2.out.cell 0; have a1 := L2.out.cell 1; have p0 := P2.out.cell 0; have p1 := P2.out.cell 1; have t0 := T2.out.cell 0; have t1 := T2.out.cell 1
          simp at a0 a1 p0 p1 t0 t1
          go_wp2_with fail
          generalize w1.alloc (.cells #[.int .u64 (o1 : Int), .int .u64 (b : Int)] 66) = V2 at *
          generalize w1.heap.size = g17 at *
          refine (unhide LT _).mono ?_
          rintro e w3 ⟨rfl, hb⟩
          clear a0 a1 p0 p1 t0 t1
          have I3 := hide (I2.out.st hb)
          clear I2
          have R3 := Lib.hid (R2.out.below hb R2.out.lt)
          have L3 := Lib.hid (L2.out.below hb L2.out.lt)
          have P3 := Lib.hid (P2.out.below hb P2.out.lt)
          have G3 := Lib.hid (G2.out.below hb G2.out.lt)
          have T3 := Lib.hid (T2.out.below hb T2.out.lt)
          have O3 := hide (own_below O2.out hb)
          have HB3 := Lib.hid (HB2.out.trans (hb.mono HB2.out.size)); have hz3 : BB ≤ _ := Nat.le_trans hz2 hb.size
          clear hb R2 L2 P2 G2 T2 HB2 hz2 O2
          have a0 := L3.out.cell 0; have a1 := L3.out.cell 1; have p0 := P3.out.cell 0; have p1 := P3.out.cell 1; have t0 := T3.out.cell 0; have t1 := T3.out.cell 1
          simp at a0 a1 p0 p1 t0 t1
          go_wp2_with fail
          refine (unhide RT _).mono ?_
          rintro e w4 ⟨rfl, rfl⟩
          clear a0 a1 p0 p1 t0 t1
          go_wp2_with fail
          refine Lin.wp_region_lin Lin.keeps (n := 182)  (fun slotq => match slotq with | 136 => Lin.Spec.val (.int .i64 0) | 137 => Lin.Spec.val (.bool false) | 138 => Lin.Spec.val (.bool false) | 139 => Lin.Spec.val (.slice Au 12 cu) | 140 => Lin.Spec.val (.string (strOfNums ID)) | 141 => Lin.Spec.val (.agg (rcs key n)) | 142 => Lin.Spec.val (.pointer (some ⟨gp, 0, none⟩)) | 143 => Lin.Spec.val (.int .i64 v) | 144 => Lin.Spec.val (.pointer (some ⟨gp, 1, none⟩)) | 145 => Lin.Spec.val (.int .i64 s) | 146 => Lin.Spec.val (.pointer (some ⟨gl, 0, none⟩)) | 147 => Lin.Spec.val (.int .u64 (o : Int)) | 148 => Lin.Spec.sl ID 12 | 149 => Lin.Spec.val (.string (strOfNums ID)) | 150 => Lin.Spec.val (.bool false) | 151 => Lin.Spec.val (.bool false) | 152 => Lin.Spec.val (.bool false) | 153 => Lin.Spec.val (.agg #[.int .u64 (o1 : Int), .int .u64 (b : Int)]) | 154 => Lin.Spec.val (.pointer (some ⟨gl, 0, none⟩)) | 155 => Lin.Spec.val (.int .u64 (o : Int)) | 156 => Lin.Spec.val (.int .u64 (o1 : Int)) | 157 => Lin.Spec.val (.pointer (some ⟨gl, 1, none⟩)) | 158 => Lin.Spec.val (.int .u64 (b : Int)) | 159 => Lin.Spec.val (.agg #[.int .u64 (o1 : Int), .int .u64 (b : Int)]) | 160 => Lin.Spec.val (.bool false) | 161 => Lin.Spec.val (.bool false) | _ => Lin.Spec.any) (by kernel_rfl) rfl (by kernel_rfl) ⟨?_, ?_, ?_, ?_, ?_, ?_, ?_, ?_, ?_, ?_, ?_, ?_, ?_, ?_, ?_, ?_, ?_, ?_, ?_, ?_, ?_, ?_, ?_, ?_, ?_, ?_, trivial⟩ ?_
          · intro ρ wq hb ho hc hd
            have hC : ∀ v, ρ (.const v) = v := fun v => hc _ (by intro t e; cases e)
            have hF : ∀ f, ρ (.func f) = .func (.func f) #[] #[] := fun f => hc _ (by intro t e; cases e)
            have h18 : ρ (.tmp 18) = .int .i64 0 := ho 18 (by kernel_rfl)
            exact Lin.Runs.value Lin.keeps (Lin.exec_move rfl) h18
          · intro ρ wq hb ho hc hd
            have hC : ∀ v, ρ (.const v) = v := fun v => hc _ (by intro t e; cases e)
            have hF : ∀ f, ρ (.func f) = .func (.func f) #[] #[] := fun f => hc _ (by intro t e; cases e)
            have h136 : ρ (.tmp 136) = .int .i64 0 := hd 136 (by kernel_rfl)
            exact Lin.Runs.value Lin.keeps (v := .bool false) (by simp [execOp, go_sem, hC, h136]) rfl
          · intro ρ wq hb ho hc hd
            have hC : ∀ v, ρ (.const v) = v := fun v => hc _ (by intro t e; cases e)
            have hF : ∀ f, ρ (.func f) = .func (.func f) #[] #[] := fun f => hc _ (by intro t e; cases e)
            have h137 : ρ (.tmp 137) = .bool false := hd 137 (by kernel_rfl)
            exact Lin.Runs.value Lin.keeps (Lin.exec_move rfl) h137
          · intro ρ wq hb ho hc hd
            have hC : ∀ v, ρ (.const v) = v := fun v => hc _ (by intro t e; cases e)
            have hF : ∀ f, ρ (.func f) = .func (.func f) #[] #[] := fun f => hc _ (by intro t e; cases e)
            intro t ht; cases (show some 138 = some t from ht)
            refine ⟨fun _ => ?_, fun hn => absurd (hd 138 (by kernel_rfl)) hn⟩
            have h16 : ρ (.tmp 16) = .slice Au 12 cu := ho 16 (by kernel_rfl)
            exact Lin.Runs.value Lin.keeps (Lin.exec_move rfl) h16
          · intro ρ wq hb ho hc hd
            have hC : ∀ v, ρ (.const v) = v := fun v => hc _ (by intro t e; cases e)
            have hF : ∀ f, ρ (.func f) = .func (.func f) #[] #[] := fun f => hc _ (by intro t e; cases e)
            intro t ht; cases (show some 138 = some t from ht)
            refine ⟨fun _ => ?_, fun hn => absurd (hd 138 (by kernel_rfl)) hn⟩
            have h139 : ρ (.tmp 139) = .slice Au 12 cu := hd 139 (by kernel_rfl)
            exact Lin.Runs.value Lin.keeps (Lin.exec_convert rfl (by rw [h139]; exact (I3.out.st hb).conv)) rfl
          · intro ρ wq hb ho hc hd
            have hC : ∀ v, ρ (.const v) = v := fun v => hc _ (by intro t e; cases e)
            have hF : ∀ f, ρ (.func f) = .func (.func f) #[] #[] := fun f => hc _ (by intro t e; cases e)
            intro t ht; cases (show some 138 = some t from ht)
            refine ⟨fun _ => ?_, fun hn => absurd (hd 138 (by kernel_rfl)) hn⟩
            have h4 : ρ (.tmp 4) = .pointer (some ⟨w.heap.size, 0, none⟩) := ho 4 (by kernel_rfl)
            exact Lin.Runs.load_row Lin.keeps 38 (.tmp 4) rfl w.heap.size h4 38 (rcs key n) (R3.out.below hb R3.out.lt) _ Try.underlying38 rfl (by rw [RSZ.out]; kernel_rfl) rfl
          · intro ρ wq hb ho hc hd
            have hC : ∀ v, ρ (.const v) = v := fun v => hc _ (by intro t e; cases e)
            have hF : ∀ f, ρ (.func f) = .func (.func f) #[] #[] := fun f => hc _ (by intro t e; cases e)
            intro t ht; cases (show some 138 = some t from ht)
            refine ⟨fun _ => ?_, fun hn => absurd (hd 138 (by kernel_rfl)) hn⟩
            have h6 : ρ (.tmp 6) = .pointer (some ⟨gp, 0, none⟩) := ho 6 (by kernel_rfl)
            exact Lin.Runs.value Lin.keeps (v := .pointer (some ⟨gp, 0, none⟩)) (by simp [execOp, go_sem, h6]) rfl
          · intro ρ wq hb ho hc hd
            have hC : ∀ v, ρ (.const v) = v := fun v => hc _ (by intro t e; cases e)
            have hF : ∀ f, ρ (.func f) = .func (.func f) #[] #[] := fun f => hc _ (by intro t e; cases e)
            intro t ht; cases (show some 138 = some t from ht)
            refine ⟨fun _ => ?_, fun hn => absurd (hd 138 (by kernel_rfl)) hn⟩
            have h142 : ρ (.tmp 142) = .pointer (some ⟨gp, 0, none⟩) := hd 142 (by kernel_rfl)
            have hg8 := P3.out.below hb P3.out.lt
            have m0 := hg8.cell 0
            simp at m0
            exact Lin.Runs.value Lin.keeps (v := .int .i64 v) (by simp [execOp, go_sem, h142, m0]) rfl
          · intro ρ wq hb ho hc hd
            have hC : ∀ v, ρ (.const v) = v := fun v => hc _ (by intro t e; cases e)
            have hF : ∀ f, ρ (.func f) = .func (.func f) #[] #[] := fun f => hc _ (by intro t e; cases e)
            intro t ht; cases (show some 138 = some t from ht)
            refine ⟨fun _ => ?_, fun hn => absurd (hd 138 (by kernel_rfl)) hn⟩
            have h6 : ρ (.tmp 6) = .pointer (some ⟨gp, 0, none⟩) := ho 6 (by kernel_rfl)
            exact Lin.Runs.value Lin.keeps (v := .pointer (some ⟨gp, 1, none⟩)) (by simp [execOp, go_sem, h6]) rfl
          · intro ρ wq hb ho hc hd
            have hC : ∀ v, ρ (.const v) = v := fun v => hc _ (by intro t e; cases e)
            have hF : ∀ f, ρ (.func f) = .func (.func f) #[] #[] := fun f => hc _ (by intro t e; cases e)
            intro t ht; cases (show some 138 = some t from ht)
            refine ⟨fun _ => ?_, fun hn => absurd (hd 138 (by kernel_rfl)) hn⟩
            have h144 : ρ (.tmp 144) = .pointer (some ⟨gp, 1, none⟩) := hd 144 (by kernel_rfl)
            have hg8 := P3.out.below hb P3.out.lt
            have m1 := hg8.cell 1
            simp at m1
            exact Lin.Runs.value Lin.keeps (v := .int .i64 s) (by simp [execOp, go_sem, h144, m1]) rfl
          · intro ρ wq hb ho hc hd
            have hC : ∀ v, ρ (.const v) = v := fun v => hc _ (by intro t e; cases e)
            have hF : ∀ f, ρ (.func f) = .func (.func f) #[] #[] := fun f => hc _ (by intro t e; cases e)
            intro t ht; cases (show some 138 = some t from ht)
            refine ⟨fun _ => ?_, fun hn => absurd (hd 138 (by kernel_rfl)) hn⟩
            have h5 : ρ (.tmp 5) = .pointer (some ⟨gl, 0, none⟩) := ho 5 (by kernel_rfl)
            exact Lin.Runs.value Lin.keeps (v := .pointer (some ⟨gl, 0, none⟩)) (by simp [execOp, go_sem, h5]) rfl
          · intro ρ wq hb ho hc hd
            have hC : ∀ v, ρ (.const v) = v := fun v => hc _ (by intro t e; cases e)
            have hF : ∀ f, ρ (.func f) = .func (.func f) #[] #[] := fun f => hc _ (by intro t e; cases e)
            intro t ht; cases (show some 138 = some t from ht)
            refine ⟨fun _ => ?_, fun hn => absurd (hd 138 (by kernel_rfl)) hn⟩
            have h146 : ρ (.tmp 146) = .pointer (some ⟨gl, 0, none⟩) := hd 146 (by kernel_rfl)
            have hg8 := L3.out.below hb L3.out.lt
            have m0 := hg8.cell 0
            simp at m0
            exact Lin.Runs.value Lin.keeps (v := .int .u64 (o : Int)) (by simp [execOp, go_sem, h146, m0]) rfl
          · intro ρ wq hb ho hc hd
            have hC : ∀ v, ρ (.const v) = v := fun v => hc _ (by intro t e; cases e)
            have hF : ∀ f, ρ (.func f) = .func (.func f) #[] #[] := fun f => hc _ (by intro t e; cases e)
            intro t ht; cases (show some 138 = some t from ht)
            refine ⟨fun _ => ?_, fun hn => absurd (hd 138 (by kernel_rfl)) hn⟩
            have h141 : ρ (.tmp 141) = .agg (rcs key n) := hd 141 (by kernel_rfl)
            have h143 : ρ (.tmp 143) = .int .i64 v := hd 143 (by kernel_rfl)
            have h145 : ρ (.tmp 145) = .int .i64 s := hd 145 (by kernel_rfl)
            have h147 : ρ (.tmp 147) = .int .u64 (o : Int) := hd 147 (by kernel_rfl)
            exact Lin.Runs.call Lin.keeps (f := 33) (args := #[.agg (rcs key n), .int .i64 v, .int .i64 s, .int .u64 (o : Int)]) (by simp [execOp, go_sem, hF, h141, h143, h145, h147]) ((unhide RMT wq).mono fun e w9 ⟨v9, h1, h2, h3⟩ => ⟨v9, h1, h2, h3⟩)
          · intro ρ wq hb ho hc hd
            have hC : ∀ v, ρ (.const v) = v := fun v => hc _ (by intro t e; cases e)
            have hF : ∀ f, ρ (.func f) = .func (.func f) #[] #[] := fun f => hc _ (by intro t e; cases e)
            intro t ht; cases (show some 138 = some t from ht)
            refine ⟨fun _ => ?_, fun hn => absurd (hd 138 (by kernel_rfl)) hn⟩
            have h148 := hd 148 (by kernel_rfl)
            exact Lin.Runs.value Lin.keeps (Lin.exec_convert rfl h148.conv) rfl
          · intro ρ wq hb ho hc hd
            have hC : ∀ v, ρ (.const v) = v := fun v => hc _ (by intro t e; cases e)
            have hF : ∀ f, ρ (.func f) = .func (.func f) #[] #[] := fun f => hc _ (by intro t e; cases e)
            intro t ht; cases (show some 138 = some t from ht)
            refine ⟨fun _ => ?_, fun hn => absurd (hd 138 (by kernel_rfl)) hn⟩
            have h140 : ρ (.tmp 140) = .string (strOfNums ID) := hd 140 (by kernel_rfl)
            have h149 : ρ (.tmp 149) = .string (strOfNums ID) := hd 149 (by kernel_rfl)
            exact Lin.Runs.value Lin.keeps (v := .bool false) (by simp [execOp, go_sem, h140, h149]) rfl
          · intro ρ wq hb ho hc hd
            have hC : ∀ v, ρ (.const v) = v := fun v => hc _ (by intro t e; cases e)
            have hF : ∀ f, ρ (.func f) = .func (.func f) #[] #[] := fun f => hc _ (by intro t e; cases e)
            have h138 : ρ (.tmp 138) = .bool false := hd 138 (by kernel_rfl)
            have h150 : ρ (.tmp 150) = .bool false := hd 150 (by kernel_rfl)
            exact Lin.Runs.value Lin.keeps (v := .bool false) (by simp [execOp, go_sem, hC, h138, h150]) rfl
          · intro ρ wq hb ho hc hd
            have hC : ∀ v, ρ (.const v) = v := fun v => hc _ (by intro t e; cases e)
            have hF : ∀ f, ρ (.func f) = .func (.func f) #[] #[] := fun f => hc _ (by intro t e; cases e)
            have h151 : ρ (.tmp 151) = .bool false := hd 151 (by kernel_rfl)
            exact Lin.Runs.value Lin.keeps (Lin.exec_move rfl) h151
          · intro ρ wq hb ho hc hd
            have hC : ∀ v, ρ (.const v) = v := fun v => hc _ (by intro t e; cases e)
            have hF : ∀ f, ρ (.func f) = .func (.func f) #[] #[] := fun f => hc _ (by intro t e; cases e)
            intro t ht; cases (show some 152 = some t from ht)
            refine ⟨fun _ => ?_, fun hn => absurd (hd 152 (by kernel_rfl)) hn⟩
            have h17 : ρ (.tmp 17) = .pointer (some ⟨g17, 0, none⟩) := ho 17 (by kernel_rfl)
            have hg8 := T3.out.below hb T3.out.lt
            have m0 := hg8.cell 0
            have m1 := hg8.cell 1
            simp at m0 m1
            exact Lin.Runs.value Lin.keeps (v := .agg #[.int .u64 (o1 : Int), .int .u64 (b : Int)]) (by simp [execOp, go_sem, h17, m0, m1]) rfl
          · intro ρ wq hb ho hc hd
            have hC : ∀ v, ρ (.const v) = v := fun v => hc _ (by intro t e; cases e)
            have hF : ∀ f, ρ (.func f) = .func (.func f) #[] #[] := fun f => hc _ (by intro t e; cases e)
            intro t ht; cases (show some 152 = some t from ht)
            refine ⟨fun _ => ?_, fun hn => absurd (hd 152 (by kernel_rfl)) hn⟩
            have h5 : ρ (.tmp 5) = .pointer (some ⟨gl, 0, none⟩) := ho 5 (by kernel_rfl)
            exact Lin.Runs.value Lin.keeps (v := .pointer (some ⟨gl, 0, none⟩)) (by simp [execOp, go_sem, h5]) rfl
          · intro ρ wq hb ho hc hd
            have hC : ∀ v, ρ (.const v) = v := fun v => hc _ (by intro t e; cases e)
            have hF : ∀ f, ρ (.func f) = .func (.func f) #[] #[] := fun f => hc _ (by intro t e; cases e)
            intro t ht; cases (show some 152 = some t from ht)
            refine ⟨fun _ => ?_, fun hn => absurd (hd 152 (by kernel_rfl)) hn⟩
            have h154 : ρ (.tmp 154) = .pointer (some ⟨gl, 0, none⟩) := hd 154 (by kernel_rfl)
            have hg8 := L3.out.below hb L3.out.lt
            have m0 := hg8.cell 0
            simp at m0
            exact Lin.Runs.value Lin.keeps (v := .int .u64 (o : Int)) (by simp [execOp, go_sem, h154, m0]) rfl
          · intro ρ wq hb ho hc hd
            have hC : ∀ v, ρ (.const v) = v := fun v => hc _ (by intro t e; cases e)
            have hF : ∀ f, ρ (.func f) = .func (.func f) #[] #[] := fun f => hc _ (by intro t e; cases e)
            intro t ht; cases (show some 152 = some t from ht)
            refine ⟨fun _ => ?_, fun hn => absurd (hd 152 (by kernel_rfl)) hn⟩
            have h155 : ρ (.tmp 155) = .int .u64 (o : Int) := hd 155 (by kernel_rfl)
            exact Lin.Runs.value Lin.keeps (v := .int .u64 (o1 : Int)) (by simp [execOp, go_sem, hC, h155]; first | done | exact E1.out) rfl
          · intro ρ wq hb ho hc hd
            have hC : ∀ v, ρ (.const v) = v := fun v => hc _ (by intro t e; cases e)
            have hF : ∀ f, ρ (.func f) = .func (.func f) #[] #[] := fun f => hc _ (by intro t e; cases e)
            intro t ht; cases (show some 152 = some t from ht)
            refine ⟨fun _ => ?_, fun hn => absurd (hd 152 (by kernel_rfl)) hn⟩
            have h5 : ρ (.tmp 5) = .pointer (some ⟨gl, 0, none⟩) := ho 5 (by kernel_rfl)
            exact Lin.Runs.value Lin.keeps (v := .pointer (some ⟨gl, 1, none⟩)) (by simp [execOp, go_sem, h5]) rfl
          · intro ρ wq hb ho hc hd
            have hC : ∀ v, ρ (.const v) = v := fun v => hc _ (by intro t e; cases e)
            have hF : ∀ f, ρ (.func f) = .func (.func f) #[] #[] := fun f => hc _ (by intro t e; cases e)
            intro t ht; cases (show some 152 = some t from ht)
            refine ⟨fun _ => ?_, fun hn => absurd (hd 152 (by kernel_rfl)) hn⟩
            have h157 : ρ (.tmp 157) = .pointer (some ⟨gl, 1, none⟩) := hd 157 (by kernel_rfl)
            have hg8 := L3.out.below hb L3.out.lt
            have m1 := hg8.cell 1
            simp at m1
            exact Lin.Runs.value Lin.keeps (v := .int .u64 (b : Int)) (by simp [execOp, go_sem, h157, m1]) rfl
          · intro ρ wq hb ho hc hd
            have hC : ∀ v, ρ (.const v) = v := fun v => hc _ (by intro t e; cases e)
            have hF : ∀ f, ρ (.func f) = .func (.func f) #[] #[] := fun f => hc _ (by intro t e; cases e)
            intro t ht; cases (show some 152 = some t from ht)
            refine ⟨fun _ => ?_, fun hn => absurd (hd 152 (by kernel_rfl)) hn⟩
            have h156 : ρ (.tmp 156) = .int .u64 (o1 : Int) := hd 156 (by kernel_rfl)
            have h158 : ρ (.tmp 158) = .int .u64 (b : Int) := hd 158 (by kernel_rfl)
            exact Lin.Runs.value Lin.keeps (v := .agg #[.int .u64 (o1 : Int), .int .u64 (b : Int)]) (by simp [execOp, go_sem, h156, h158]) rfl
          · intro ρ wq hb ho hc hd
            have hC : ∀ v, ρ (.const v) = v := fun v => hc _ (by intro t e; cases e)
            have hF : ∀ f, ρ (.func f) = .func (.func f) #[] #[] := fun f => hc _ (by intro t e; cases e)
            intro t ht; cases (show some 152 = some t from ht)
            refine ⟨fun _ => ?_, fun hn => absurd (hd 152 (by kernel_rfl)) hn⟩
            have h153 : ρ (.tmp 153) = .agg #[.int .u64 (o1 : Int), .int .u64 (b : Int)] := hd 153 (by kernel_rfl)
            have h159 : ρ (.tmp 159) = .agg #[.int .u64 (o1 : Int), .int .u64 (b : Int)] := hd 159 (by kernel_rfl)
            exact Lin.Runs.value Lin.keeps (v := .bool false) (by simp [execOp, go_sem, h153, h159]) rfl
          · intro ρ wq hb ho hc hd
            have hC : ∀ v, ρ (.const v) = v := fun v => hc _ (by intro t e; cases e)
            have hF : ∀ f, ρ (.func f) = .func (.func f) #[] #[] := fun f => hc _ (by intro t e; cases e)
            have h152 : ρ (.tmp 152) = .bool false := hd 152 (by kernel_rfl)
            have h160 : ρ (.tmp 160) = .bool false := hd 160 (by kernel_rfl)
            exact Lin.Runs.value Lin.keeps (v := .bool false) (by simp [execOp, go_sem, hC, h152, h160]) rfl
          · intro vals w4 hb hv
            have ee : vals 161 = .bool false := hv 161 (by kernel_rfl)
            clear hv
            have I4 := hide (I3.out.st hb)
            have R4 := Lib.hid (R3.out.below hb R3.out.lt)
            have L4 := Lib.hid (L3.out.below hb L3.out.lt)
            have P4 := Lib.hid (P3.out.below hb P3.out.lt)
            have G4 := Lib.hid (G3.out.below hb G3.out.lt)
            have T4 := Lib.hid (T3.out.below hb T3.out.lt)
            have O4 := hide (own_below O3.out hb)
            have HB4 := Lib.hid (HB3.out.trans (hb.mono HB3.out.size)); have hz4 : BB ≤ _ := Nat.le_trans hz3 hb.size
            clear hb R3 L3 P3 G3 T3 HB3 hz3 O3
            clear I3
            simp only [Lin.putAll, Option.getD_some]
            rw [ee]
            clear ee
            go_simp
            generalize vals = vq
            obtain ⟨A14, c14, rfl⟩ := own_shape O4.out
            go_wp2_with fail
            go_loopw [20] (fun v20 wr => KIn w4 i v20 wr) (fun v _ => (i - intOf v).toNat)
            case atStart => exact ⟨0, by omega, rfl, Below.refl _ _⟩
            case round =>
              obtain ⟨k, hki, rfl, hb⟩ := hrel
              by_cases hk2 : k < i
              · have kl : (k : Int) < (i : Int) := by omega
                have k0 : (0 : Int) ≤ (k : Int) := by omega
                obtain ⟨gs, rfl, hcap, hcells⟩ := own_cells O4.out (by omega)
                have HKB := Lib.hid hb
                have dw := hcells k _ hk2 (idrow_at hk2)
                have dk := (hb.cell (p := ⟨gs, k, none⟩) (World.block_lt_of_cell? _ _ dw)).trans dw
                have DK := Lib.hid dk
                have DL := Lib.hid (World.block_lt_of_cell? _ _ dk)
                have SNE := hide ((unhide NEQ) k hk2)
                generalize idv kk wdf a k = idk at DK SNE
                have KI := Lib.hid hk2
                clear hb hcells hcap dk dw hk2 hki
                go_wp2_with fail
                refine Lin.wp_region_lin Lin.keeps (n := 182)  (fun slotq => match slotq with | 168 => Lin.Spec.val (.slice (some ⟨gs, 0, none⟩) i c14) | 169 => Lin.Spec.val (.int .i64 (k : Int)) | 170 => Lin.Spec.val (.pointer (some ⟨gs, k, none⟩)) | 171 => Lin.Spec.val (.string (strOfNums idk)) | 172 => Lin.Spec.val (.slice Au 12 cu) | 173 => Lin.Spec.val (.string (strOfNums ID)) | 174 => Lin.Spec.val (.bool false) | _ => Lin.Spec.any) (by kernel_rfl) rfl (by kernel_rfl) ⟨?_, ?_, ?_, ?_, ?_, ?_, ?_, trivial⟩ ?_
                · intro ρ wq hb ho hc hd
                  have hC : ∀ v, ρ (.const v) = v := fun v => hc _ (by intro t e; cases e)
                  have hF : ∀ f, ρ (.func f) = .func (.func f) #[] #[] := fun f => hc _ (by intro t e; cases e)
                  have h14 : ρ (.tmp 14) = .slice (some ⟨gs, 0, none⟩) i c14 := ho 14 (by kernel_rfl)
                  exact Lin.Runs.value Lin.keeps (Lin.exec_move rfl) h14
                · intro ρ wq hb ho hc hd
                  have hC : ∀ v, ρ (.const v) = v := fun v => hc _ (by intro t e; cases e)
                  have hF : ∀ f, ρ (.func f) = .func (.func f) #[] #[] := fun f => hc _ (by intro t e; cases e)
                  have h20 : ρ (.tmp 20) = .int .i64 (k : Int) := ho 20 (by kernel_rfl)
                  exact Lin.Runs.value Lin.keeps (Lin.exec_move rfl) h20
                · intro ρ wq hb ho hc hd
                  have hC : ∀ v, ρ (.const v) = v := fun v => hc _ (by intro t e; cases e)
                  have hF : ∀ f, ρ (.func f) = .func (.func f) #[] #[] := fun f => hc _ (by intro t e; cases e)
                  have h168 : ρ (.tmp 168) = .slice (some ⟨gs, 0, none⟩) i c14 := hd 168 (by kernel_rfl)
                  have h169 : ρ (.tmp 169) = .int .i64 (k : Int) := hd 169 (by kernel_rfl)
                  exact Lin.Runs.value Lin.keeps (v := .pointer (some ⟨gs, k, none⟩)) (by simp [execOp, go_sem, h168, h169, k0, kl]) rfl
                · intro ρ wq hb ho hc hd
                  have hC : ∀ v, ρ (.const v) = v := fun v => hc _ (by intro t e; cases e)
                  have hF : ∀ f, ρ (.func f) = .func (.func f) #[] #[] := fun f => hc _ (by intro t e; cases e)
                  have h170 : ρ (.tmp 170) = .pointer (some ⟨gs, k, none⟩) := hd 170 (by kernel_rfl)
                  have dd := (hb.cell (p := ⟨gs, k, none⟩) DL.out).trans DK.out
                  exact Lin.Runs.value Lin.keeps (v := .string (strOfNums idk)) (by simp [execOp, go_sem, h170, dd]) rfl
                · intro ρ wq hb ho hc hd
                  have hC : ∀ v, ρ (.const v) = v := fun v => hc _ (by intro t e; cases e)
                  have hF : ∀ f, ρ (.func f) = .func (.func f) #[] #[] := fun f => hc _ (by intro t e; cases e)
                  have h16 : ρ (.tmp 16) = .slice Au 12 cu := ho 16 (by kernel_rfl)
                  exact Lin.Runs.value Lin.keeps (Lin.exec_move rfl) h16
                · intro ρ wq hb ho hc hd
                  have hC : ∀ v, ρ (.const v) = v := fun v => hc _ (by intro t e; cases e)
                  have hF : ∀ f, ρ (.func f) = .func (.func f) #[] #[] := fun f => hc _ (by intro t e; cases e)
                  have h172 : ρ (.tmp 172) = .slice Au 12 cu := hd 172 (by kernel_rfl)
                  exact Lin.Runs.value Lin.keeps (Lin.exec_convert rfl (by rw [h172]; exact ((I4.out.st HKB.out).st hb).conv)) rfl
                · intro ρ wq hb ho hc hd
                  have hC : ∀ v, ρ (.const v) = v := fun v => hc _ (by intro t e; cases e)
                  have hF : ∀ f, ρ (.func f) = .func (.func f) #[] #[] := fun f => hc _ (by intro t e; cases e)
                  have h171 : ρ (.tmp 171) = .string (strOfNums idk) := hd 171 (by kernel_rfl)
                  have h173 : ρ (.tmp 173) = .string (strOfNums ID) := hd 173 (by kernel_rfl)
                  have sne := SNE.out
                  exact Lin.Runs.value Lin.keeps (v := .bool false) (by simp [execOp, go_sem, h171, h173, sne]) rfl
                · intro vals w5 hb2 hv
                  have ee : vals 174 = .bool false := hv 174 (by kernel_rfl)
                  have HK5 := Lib.hid (HKB.out.trans (hb2.mono HKB.out.size))
                  clear hv hb2
                  simp only [Lin.putAll, Option.getD_some]
                  rw [ee]
                  clear ee
                  go_simp
                  generalize vals = vr
                  go_wp2_with fail
                  go_roundw
                  case rel => exact ⟨k + 1, KI.out, by go_num, HK5.out⟩
                  case measure => have := KI.out; simp [intOf]; omega
              · obtain rfl : k = i := by omega
                have kl : ¬ (k : Int) < (k : Int) := by omega
                have I5 := hide (I4.out.st hb)
                have R5 := Lib.hid (R4.out.below hb R4.out.lt)
                have L5 := Lib.hid (L4.out.below hb L4.out.lt)
                have P5 := Lib.hid (P4.out.below hb P4.out.lt)
                have G5 := Lib.hid (G4.out.below hb G4.out.lt)
                have T5 := Lib.hid (T4.out.below hb T4.out.lt)
                have O5 := hide (own_below O4.out hb)
                have HB5 := Lib.hid (HB4.out.trans (hb.mono HB4.out.size)); have hz5 : BB ≤ _ := Nat.le_trans hz4 hb.size
                clear hb R4 L4 P4 G4 T4 HB4 hz4 O4
                have cv : (convert 22 9 (.slice Au 12 cu)).run Try.prog wr = .ok (.string (strOfNums ID)) wr := I5.out.conv
                clear I4 I5
                obtain ⟨inf, i0, i1, i2, i3⟩ := infoT
                have HI0 := Lib.hid i0; have HI1 := Lib.hid i1; have HI2 := Lib.hid i2; have HI3 := Lib.hid i3
                clear i0 i1 i2 i3
                have HN := Lib.hid hki
                clear hki
                go_wp2_with (
                  (with_reducible show wpList _ _ _ (⟨some 179, _, _, _, _, _⟩ :: _) _ _)
                  go_loud (refine app1 (.tmp 175) (.tmp 178) _ rfl rfl Try.underlying71 HI0.out HI1.out HI2.out HI3.out rfl (v := .slice A14 k c14) (base := BB) (n := k) (xs := idrow kk wdf a k) rfl (World.ownsRow.alloc O5.out _) (g0 := wr.heap.size) (u := .string (strOfNums ID)) rfl (by simp) rfl (by have := KB.out; omega) (by omega) (Nat.le_trans hz5 (by simp)) ?_)
                  intro ga capa w6 ho6 hg6 hat6 hl6
                  have OB := own_far O5.out (g := w.heap.size) (by have := HS.out; omega)
                  have OL := own_far O5.out (g := gl) (by have := HS.out; omega)
                  have OP := own_far O5.out (g := gp) (by have := HS.out; omega)
                  have OG := own_far O5.out (g := g9) (by have := HS.out; omega)
                  have OT := own_differ O5.out T5.out (by decide)
                  have R6 := Lib.hid ((R5.out.alloc _).only hg6 (fun e => OB e.symm))
                  have L6 := Lib.hid ((L5.out.alloc _).only hg6 (fun e => OL e.symm))
                  have P6 := Lib.hid ((P5.out.alloc _).only hg6 (fun e => OP e.symm))
                  have G6 := Lib.hid ((G5.out.alloc _).only hg6 (fun e => OG e.symm))
                  have T6 := Lib.hid ((T5.out.alloc _).only hg6 (fun e => OT e.symm))
                  have HB6 := Lib.hid ((HB5.out.alloc HB5.out.size _).grown hg6 (by have := HB5.out.size; simp; omega) (fun q hq => by have := own_in O5.out hq; have := HS.out; omega))
                  have hz6 : BB ≤ w6.heap.size := Nat.le_trans (Nat.le_trans hz5 (by simp)) hg6.size
                  rw [HIDE.out, idrow_snoc] at ho6
                  have O6 := hide ho6
                  have RL := Lib.hid (R6.out.differ L6.out (by decide)); have PL := Lib.hid (P6.out.differ L6.out (by decide)); have GL := Lib.hid (G6.out.differ L6.out (by decide))
                  have OL6 := Lib.hid (own_far O6.out (g := gl) (by have := HS.out; omega))
                  have a0 := L6.out.cell 0; have a1 := L6.out.cell 1; have b0 := L6.out.free 0; have b1 := L6.out.free 1; have t0 := T6.out.cell 0; have t1 := T6.out.cell 1
                  simp at a0 a1 t0 t1
                  clear ho6 hg6 hat6 hl6 OB OL OP OG OT R5 L5 P5 G5 T5 O5 HB5 hz5)
                go_roundw
                case rel =>
                  have hn1 : a + (k + 1) = o1 := by have := HOI.out; have := HO1.out; omega
                  have kb := KB.out
                  refine ⟨k + 1, by omega, by go_num, .inr (by have := HON.out; have := HOI.out; omega), ?_, ?_, ?_, ?_, ?_, ?_, ?_⟩
                  · exact (R6.out.other (p := ⟨gl, 0, none⟩) RL.out _).other (p := ⟨gl, 1, none⟩) RL.out _
                  · rw [hn1]; exact (L6.out.put 0 _).put 1 _
                  · exact (P6.out.other (p := ⟨gl, 0, none⟩) PL.out _).other (p := ⟨gl, 1, none⟩) PL.out _
                  · exact (G6.out.other (p := ⟨gl, 0, none⟩) GL.out _).other (p := ⟨gl, 1, none⟩) GL.out _
                  · exact own_set (own_set O6.out OL6.out _) OL6.out _
                  · repeat' first | with_reducible exact HB6.out | with_reducible apply Below.set1
                    all_goals have := HGL.out; omega
                  · simpa [World.setCell] using hz6
                case measure => have kb := KB.out; simp [intOf]; omega
    · have kl4 : ¬ (i : Int) < 4 := by omega
      clear hai hi hi4 hoi L0 P0 G0 O0 R0
      go_wp2_with fail
      refine (awake13 _).mono ?_
      rintro e wz ⟨rfl, hb⟩
      have HBZ := Lib.hid (HB0.out.trans (hb.mono HB0.out.size))
      clear hb
      go_wp2_with fail
      go_ret
      exact ⟨rfl, HBZ.out⟩
end Go.Proofs.Ythjkjohmaemmiaa
