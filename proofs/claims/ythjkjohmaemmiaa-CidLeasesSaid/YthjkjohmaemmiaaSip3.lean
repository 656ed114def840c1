/-
  The other functions of package siphash: absorb, load, value, start, Sum, Of, Derive, Fold: what each call returns. Helper of the claims on layers 10 and 11.
-/
import Derived.Test.YthjkjohmaemmiaaSip2
namespace Go.Proofs.Ythjkjohmaemmiaa
open Go.ChangeShapes Go.WideShapes Go.ChangeAt Go.RowKit
set_option linter.unusedSimpArgs false
set_option linter.unusedVariables false
theorem round_lit {a b c d a1 b1 c1 d1 : Nat} (h : St.ok ⟨a, b, c, d⟩) (e : rnd ⟨a, b, c, d⟩ = ⟨a1, b1, c1, d1⟩) (w : World) :
    Calls Try.prog 124 #[.agg #[.int .u64 (a : Int), .int .u64 (b : Int), .int .u64 (c : Int), .int .u64 (d : Int)]] w fun e w' => e = .returned (.agg #[.int .u64 (a1 : Int), .int .u64 (b1 : Int), .int .u64 (c1 : Int), .int .u64 (d1 : Int)]) ∧ Below w.heap.size w w' := by
  have := round_any a b c d w h
  rw [e] at this; exact this
set_option maxRecDepth 100000 in
set_option maxHeartbeats 4000000 in
theorem absorb_lit {a b c d a2 b2 c2 d2 : Nat} (m : Nat) (w : World) (h : St.ok ⟨a, b, c, d⟩) (hm : m < 18446744073709551616) (e : absorb ⟨a, b, c, d⟩ m = ⟨a2, b2, c2, d2⟩) :
    Calls Try.prog 121 #[.agg #[.int .u64 (a : Int), .int .u64 (b : Int), .int .u64 (c : Int), .int .u64 (d : Int)], .int .u64 (m : Int)] w fun e w' => e = .returned (.agg #[.int .u64 (a2 : Int), .int .u64 (b2 : Int), .int .u64 (c2 : Int), .int .u64 (d2 : Int)]) ∧ Below w.heap.size w w' := by
  obtain ⟨ha, hb, hc, hd⟩ := h
  simp only at ha hb hc hd
  have f1 := u64_xor_nat d m hd hm
  have k1 : St.ok ⟨a, b, c, d ^^^ m⟩ := ⟨ha, hb, hc, xor_lt64 hd hm⟩
  have E0 : absorb ⟨a, b, c, d⟩ m = ⟨(rnd (rnd ⟨a, b, c, d ^^^ m⟩)).a ^^^ m, (rnd (rnd ⟨a, b, c, d ^^^ m⟩)).b, (rnd (rnd ⟨a, b, c, d ^^^ m⟩)).c, (rnd (rnd ⟨a, b, c, d ^^^ m⟩)).d⟩ := rfl
  rw [E0] at e
  clear E0
  generalize d ^^^ m = dm at *
  have k2 := rnd_ok k1
  obtain ⟨a1, b1, c1, d1, e1⟩ : ∃ a1 b1 c1 d1, rnd ⟨a, b, c, dm⟩ = ⟨a1, b1, c1, d1⟩ := ⟨_, _, _, _, rfl⟩
  have R1 := fun W => round_lit k1 e1 W
  rw [e1] at k2 e
  have k3 := rnd_ok k2
  obtain ⟨a3, b3, c3, d3, e2⟩ : ∃ a1' b1' c1' d1', rnd ⟨a1, b1, c1, d1⟩ = ⟨a1', b1', c1', d1'⟩ := ⟨_, _, _, _, rfl⟩
  have R2 := fun W => round_lit k2 e2 W
  rw [e2] at k3 e
  simp only [St.mk.injEq] at e
  obtain ⟨e3, rfl, rfl, rfl⟩ := e
  have f2 := u64_xor_nat a3 m k3.1 hm
  rw [e3] at f2
  have HR1 := hide R1; have HR2 := hide R2
  clear R1 R2 k1 k2 k3 e1 e2 e3 ha hb hc hd hm
  go_enter Try.func121, Try.ntmps121
  go_wp2_with fail
  refine (unhide HR1 _).mono ?_
  rintro e w1 ⟨rfl, hb1⟩
  have HI := hide ((((Is.new w 186 #[.int .u64 (a : Int), .int .u64 (b : Int), .int .u64 (c : Int), .int .u64 (dm : Int)]).alloc (.cells #[.int .u64 0, .int .u64 0, .int .u64 0, .int .u64 0] 186)).below hb1 (by simp; omega)))
  have hz0 := (Is.new (w.alloc (.cells #[.int .u64 (a : Int), .int .u64 (b : Int), .int .u64 (c : Int), .int .u64 (dm : Int)] 186)) 186 #[.int .u64 0, .int .u64 0, .int .u64 0, .int .u64 0]).below hb1 (by simp)
  rw [show (w.alloc (.cells #[.int .u64 (a : Int), .int .u64 (b : Int), .int .u64 (c : Int), .int .u64 (dm : Int)] 186)).heap.size = w.heap.size + 1 from by simp] at hz0
  have HZ := hide hz0
  have HB := hide ((((Below.refl w.heap.size w).alloc (Nat.le_refl _) (.cells #[.int .u64 (a : Int), .int .u64 (b : Int), .int .u64 (c : Int), .int .u64 (dm : Int)] 186)).alloc (by simp) (.cells #[.int .u64 0, .int .u64 0, .int .u64 0, .int .u64 0] 186)).trans (hb1.mono (by simp; omega)))
  clear hb1 hz0
  go_wp2_with fail
  refine (unhide HR2 _).mono ?_
  rintro e w2 ⟨rfl, hb2⟩
  have HI2 := hide (HI.out.below hb2 HI.out.lt)
  have HZ2 := hide (HZ.out.below hb2 HZ.out.lt)
  have HB2 := hide (HB.out.trans (hb2.mono HB.out.size))
  clear hb2
  have z2 : w.heap.size + 1 < w2.heap.size := HZ2.out.lt
  have c0 := HI2.out.cell 0
  have f0' := HI2.out.free 0
  have d0' := HZ2.out.cell 0
  have g0' := HZ2.out.free 0
  have c1' := HI2.out.cell 1
  have f1' := HI2.out.free 1
  have d1' := HZ2.out.cell 1
  have g1' := HZ2.out.free 1
  have c2' := HI2.out.cell 2
  have f2' := HI2.out.free 2
  have d2' := HZ2.out.cell 2
  have g2' := HZ2.out.free 2
  have c3' := HI2.out.cell 3
  have f3' := HI2.out.free 3
  have d3' := HZ2.out.cell 3
  have g3' := HZ2.out.free 3
  simp at c0 c1' c2' c3' d0' d1' d2' d3'
  go_wp2_with fail
  refine bodyPost_ret (v := .agg #[.int .u64 (a2 : Int), .int .u64 (b3 : Int), .int .u64 (c3 : Int), .int .u64 (d3 : Int)]) (by simp [results, Try.results121, go_sem, c0, c1', c2', c3', d0', d1', d2', d3']) rfl ⟨rfl, ?_⟩
  iterate 9 refine Below.setCell ?_ (by simp) _
  exact HB2.out

/-! ### Words -/
/-- Eight bytes by value. -/
def W8 (l : List Int) : Value := .agg #[.int .u8 (at0 l 0), .int .u8 (at0 l 1), .int .u8 (at0 l 2), .int .u8 (at0 l 3), .int .u8 (at0 l 4), .int .u8 (at0 l 5), .int .u8 (at0 l 6), .int .u8 (at0 l 7)]
theorem u8s8 (l : List Int) (h : l.length = 8) : (u8s l).toArray = #[.int .u8 (at0 l 0), .int .u8 (at0 l 1), .int .u8 (at0 l 2), .int .u8 (at0 l 3), .int .u8 (at0 l 4), .int .u8 (at0 l 5), .int .u8 (at0 l 6), .int .u8 (at0 l 7)] := by
  match l, h with
  | [a, b, c, d, e, f, g, i], _ => rfl
theorem at0_rep (n j : Nat) : at0 (List.replicate n (0 : Int)) j = 0 := by
  by_cases hj : j < n
  · unfold at0; rw [List.getD_eq_getElem?_getD, List.getElem?_replicate, if_pos hj]; rfl
  · exact at0_out (by rw [List.length_replicate]; omega)
theorem pad_splice (l : List Int) : splice (u8s (List.replicate 8 0)) 0 ((u8s l).take 8) = u8s (pad l 8) := by
  apply List.ext_getElem?
  intro k
  have e1 : (u8s l).take 8 = u8s (l.take 8) := by simp [u8s, List.map_take]
  rw [e1, u8s_splice]
  have hl : (splice (List.replicate 8 0) 0 (l.take 8)).length = 8 := by rw [length_splice _ _ _ (by simp; omega)]; simp
  by_cases hk : k < 8
  · rw [u8s_get (by omega), u8s_get (by rw [pad_len]; exact hk), pad_at hk]
    congr 2
    simp only [splice, List.take_zero, List.nil_append, Nat.zero_add]
    by_cases h2 : k < (l.take 8).length
    · rw [at0_app_l h2, at0_take hk]
    · rw [at0_app_r (by omega), at0_drop]
      have h3 : l.length ≤ k := by rw [List.length_take] at h2; omega
      rw [at0_out h3]
      exact at0_rep 8 _
  · rw [List.getElem?_eq_none (by rw [u8s_len, hl]; omega), List.getElem?_eq_none (by rw [u8s_len, pad_len]; omega)]
theorem word_new (w : World) : ((w.alloc (.cells #[.int .u8 0, .int .u8 0, .int .u8 0, .int .u8 0, .int .u8 0, .int .u8 0, .int .u8 0, .int .u8 0] 190)).alloc (.cells #[.int .u8 0, .int .u8 0, .int .u8 0, .int .u8 0, .int .u8 0, .int .u8 0, .int .u8 0, .int .u8 0] 190)).heap[w.heap.size + 1]? = some (.cells (u8s (List.replicate 8 0)).toArray 190 (0, 0)) := by
  have := Is.new (w.alloc (.cells #[.int .u8 0, .int .u8 0, .int .u8 0, .int .u8 0, .int .u8 0, .int .u8 0, .int .u8 0, .int .u8 0] 190)) 190 #[.int .u8 0, .int .u8 0, .int .u8 0, .int .u8 0, .int .u8 0, .int .u8 0, .int .u8 0, .int .u8 0]
  rw [show (w.alloc (.cells #[.int .u8 0, .int .u8 0, .int .u8 0, .int .u8 0, .int .u8 0, .int .u8 0, .int .u8 0, .int .u8 0] 190)).heap.size = w.heap.size + 1 from by simp] at this
  exact this
theorem load_facts {w w1 : World} {l : List Int} (hg1 : Hid (w1.heap[w.heap.size + 1]? = some (.cells (splice (u8s (List.replicate 8 0)) 0 ((u8s l).take 8)).toArray 190 (0, 0)))) (hb1 : Below (w.heap.size + 1) ((w.alloc (.cells #[.int .u8 0, .int .u8 0, .int .u8 0, .int .u8 0, .int .u8 0, .int .u8 0, .int .u8 0, .int .u8 0] 190)).alloc (.cells #[.int .u8 0, .int .u8 0, .int .u8 0, .int .u8 0, .int .u8 0, .int .u8 0, .int .u8 0, .int .u8 0] 190)) w1) :
    Hid (Below w.heap.size w w1) ∧ w1.cell? ⟨w.heap.size + 1, 0, none⟩ = some (.int .u8 (at0 (pad l 8) 0)) ∧ w1.cell? ⟨w.heap.size, 0, none⟩ = some (.int .u8 0) ∧ w1.frozen? ⟨w.heap.size + 1, 0, none⟩ = false ∧ w1.frozen? ⟨w.heap.size, 0, none⟩ = false ∧ w1.cell? ⟨w.heap.size + 1, 1, none⟩ = some (.int .u8 (at0 (pad l 8) 1)) ∧ w1.cell? ⟨w.heap.size, 1, none⟩ = some (.int .u8 0) ∧ w1.frozen? ⟨w.heap.size + 1, 1, none⟩ = false ∧ w1.frozen? ⟨w.heap.size, 1, none⟩ = false ∧ w1.cell? ⟨w.heap.size + 1, 2, none⟩ = some (.int .u8 (at0 (pad l 8) 2)) ∧ w1.cell? ⟨w.heap.size, 2, none⟩ = some (.int .u8 0) ∧ w1.frozen? ⟨w.heap.size + 1, 2, none⟩ = false ∧ w1.frozen? ⟨w.heap.size, 2, none⟩ = false ∧ w1.cell? ⟨w.heap.size + 1, 3, none⟩ = some (.int .u8 (at0 (pad l 8) 3)) ∧ w1.cell? ⟨w.heap.size, 3, none⟩ = some (.int .u8 0) ∧ w1.frozen? ⟨w.heap.size + 1, 3, none⟩ = false ∧ w1.frozen? ⟨w.heap.size, 3, none⟩ = false ∧ w1.cell? ⟨w.heap.size + 1, 4, none⟩ = some (.int .u8 (at0 (pad l 8) 4)) ∧ w1.cell? ⟨w.heap.size, 4, none⟩ = some (.int .u8 0) ∧ w1.frozen? ⟨w.heap.size + 1, 4, none⟩ = false ∧ w1.frozen? ⟨w.heap.size, 4, none⟩ = false ∧ w1.cell? ⟨w.heap.size + 1, 5, none⟩ = some (.int .u8 (at0 (pad l 8) 5)) ∧ w1.cell? ⟨w.heap.size, 5, none⟩ = some (.int .u8 0) ∧ w1.frozen? ⟨w.heap.size + 1, 5, none⟩ = false ∧ w1.frozen? ⟨w.heap.size, 5, none⟩ = false ∧ w1.cell? ⟨w.heap.size + 1, 6, none⟩ = some (.int .u8 (at0 (pad l 8) 6)) ∧ w1.cell? ⟨w.heap.size, 6, none⟩ = some (.int .u8 0) ∧ w1.frozen? ⟨w.heap.size + 1, 6, none⟩ = false ∧ w1.frozen? ⟨w.heap.size, 6, none⟩ = false ∧ w1.cell? ⟨w.heap.size + 1, 7, none⟩ = some (.int .u8 (at0 (pad l 8) 7)) ∧ w1.cell? ⟨w.heap.size, 7, none⟩ = some (.int .u8 0) ∧ w1.frozen? ⟨w.heap.size + 1, 7, none⟩ = false ∧ w1.frozen? ⟨w.heap.size, 7, none⟩ = false := by
  have i1 : Is w1 (w.heap.size + 1) 190 (u8s (pad l 8)).toArray := by have := hg1.out; rw [pad_splice] at this; exact this
  rw [u8s8 (pad l 8) (pad_len l 8)] at i1
  have i0 := ((Is.new w 190 #[.int .u8 0, .int .u8 0, .int .u8 0, .int .u8 0, .int .u8 0, .int .u8 0, .int .u8 0, .int .u8 0]).alloc (.cells #[.int .u8 0, .int .u8 0, .int .u8 0, .int .u8 0, .int .u8 0, .int .u8 0, .int .u8 0, .int .u8 0] 190)).below hb1 (by omega)
  refine ⟨hide ((((Below.refl w.heap.size w).alloc (Nat.le_refl _) (.cells #[.int .u8 0, .int .u8 0, .int .u8 0, .int .u8 0, .int .u8 0, .int .u8 0, .int .u8 0, .int .u8 0] 190)).alloc (by simp) (.cells #[.int .u8 0, .int .u8 0, .int .u8 0, .int .u8 0, .int .u8 0, .int .u8 0, .int .u8 0, .int .u8 0] 190)).trans (hb1.mono (by omega))), i1.cell 0, i0.cell 0, i1.free 0, i0.free 0, i1.cell 1, i0.cell 1, i1.free 1, i0.free 1, i1.cell 2, i0.cell 2, i1.free 2, i0.free 2, i1.cell 3, i0.cell 3, i1.free 3, i0.free 3, i1.cell 4, i0.cell 4, i1.free 4, i0.free 4, i1.cell 5, i0.cell 5, i1.free 5, i0.free 5, i1.cell 6, i0.cell 6, i1.free 6, i0.free 6, i1.cell 7, i0.cell 7, i1.free 7, i0.free 7⟩
set_option maxRecDepth 100000 in
set_option maxHeartbeats 4000000 in
theorem load_any (A : Option Addr) (n c : Nat) (l : List Int) (w : World) (B : Nat) (h : Bytes w B A l) (hB : B ≤ w.heap.size) (hn : l.length = n) :
    Calls Try.prog 122 #[.slice A n c] w fun e w' => e = .returned (W8 (pad l 8)) ∧ Below w.heap.size w w' := by
  have HA := Lib.hid h; have HN := Lib.hid hn
  have E8 := hide (u8s8 (pad l 8) (pad_len l 8))
  clear h hn
  go_enter Try.func122, Try.ntmps122
  go_wp2_with (with_reducible show wpList _ _ _ (⟨some 6, _, _, _, _, _⟩ :: _) _ _; go_loud (refine wpList_copy_splice rfl (.tmp 4) (.tmp 5) 22 22 rfl 5 Try.underlying22 (by kernel_rfl) (some ⟨w.heap.size + 1, 0, none⟩) A 8 8 n c rfl rfl (w.heap.size + 1) 0 (u8s (List.replicate 8 0)) 190 (word_new w) ((u8s l).take 8) (by rw [List.length_take, u8s_len, HN.out]; exact Nat.min_comm ..) (fun h0 => ⟨rfl, take_src (((HA.out.alloc hB _).alloc (by simp; omega) _)) h0⟩) (by simp [u8s]; omega) (fun u hu => u8s_one l u (List.mem_of_mem_take hu)) (w.heap.size + 1) _ (Below.refl _ _) (Nat.le_refl _) ?_); intro w1 hg1 hb1; obtain ⟨HB, a0, b0, fa0, fb0, a1, b1, fa1, fb1, a2, b2, fa2, fb2, a3, b3, fa3, fb3, a4, b4, fa4, fb4, a5, b5, fa5, fb5, a6, b6, fa6, fb6, a7, b7, fa7, fb7⟩ := load_facts hg1 hb1; clear hg1 hb1)
  refine bodyPost_ret (v := W8 (pad l 8)) (by simp [results, Try.results122, go_sem, W8, a0, a1, a2, a3, a4, a5, a6, a7, b0, b1, b2, b3, b4, b5, b6, b7]) rfl ⟨rfl, ?_⟩
  iterate 8 refine Below.setCell ?_ (by simp) _
  exact HB.out

/-- The value of the first k bytes, the least significant one first. -/
theorem le_snoc (l : List Int) (x : Int) : le (l ++ [x]) = le l + 256 ^ l.length * x.toNat := by
  induction l with
  | nil => simp [le]
  | cons y l ih => rw [List.cons_append, le, ih, le, List.length_cons, Nat.pow_succ, Nat.mul_add, ← Nat.mul_assoc, Nat.mul_comm (256 ^ l.length) 256]; omega
theorem le_take (l : List Int) (k : Nat) (h : k < l.length) : le (l.take (k + 1)) = le (l.take k) + 256 ^ k * (at0 l k).toNat := by
  rw [take_at0 h, le_snoc, List.length_take, Nat.min_eq_left (by omega)]
theorem le_take_lt (l : List Int) (ho : Octets l) (k : Nat) (h : k ≤ l.length) : le (l.take k) < 256 ^ k := by
  have := le_lt (l.take k) (ho.take k)
  rwa [List.length_take, Nat.min_eq_left h] at this
theorem or_shift (n k : Nat) (x : Int) (hn : n < 256 ^ k) (hk : k < 8) (hx : 0 ≤ x ∧ x ≤ 255) : bits .or .u64 (n : Int) (IntKind.u64.wrap (x * 2 ^ (8 * k))) = ((n + 256 ^ k * x.toNat : Nat) : Int) := by
  obtain ⟨y, rfl⟩ := Int.eq_ofNat_of_zero_le hx.1
  have hp : (256 : Nat) ^ k ≤ 256 ^ 7 := Nat.pow_le_pow_right (by omega) (by omega)
  have h1 : 256 ^ k * y ≤ 256 ^ 7 * 255 := Nat.mul_le_mul hp (by omega)
  have h7 : (256 : Nat) ^ 7 = 72057594037927936 := by decide
  have e : (y : Int) * 2 ^ (8 * k) = ((256 ^ k * y : Nat) : Int) := by
    rw [pow256, Int.natCast_mul, Int.natCast_pow]; exact Int.mul_comm _ _
  rw [e, IntKind.wrap_u64, Int.emod_eq_of_lt (by omega) (by omega), u64_or_nat _ _ (by omega) (by omega), Nat.or_comm, nat_join (8 * k) _ _ (by rw [pow256]; exact Nat.mul_mod_right _ _) (by rw [← pow256]; exact hn), Int.toNat_natCast, Nat.add_comm]
theorem or_lit {n x C r : Int} {k : Nat} (h : bits .or .u64 n (IntKind.u64.wrap (x * 2 ^ (8 * k))) = r) (hx : 0 ≤ x ∧ x ≤ 255) (hC : C = 2 ^ (8 * k)) : bits .or .u64 n (IntKind.u64.wrap (IntKind.u64.wrap x * C)) = r := by
  rw [← h, hC]; congr 2
  rw [IntKind.wrap_u64, Int.emod_eq_of_lt hx.1 (by omega)]
def ValRel (l : List Int) (v i : Value) : Prop := ∃ k : Nat, k ≤ 8 ∧ i = .int .i64 k ∧ v = .int .u64 (le (l.take k) : Nat)
set_option maxRecDepth 100000 in
set_option maxHeartbeats 4000000 in
theorem value_any (l : List Int) (w : World) (hl : l.length = 8) (ho : Octets l) :
    Calls Try.prog 123 #[W8 l] w fun e w' => e = .returned (.int .u64 ((le l : Nat) : Int)) ∧ Below w.heap.size w w' := by
  have HL := Lib.hid hl; have HO := Lib.hid ho
  clear hl ho
  unfold W8
  go_enter Try.func123, Try.ntmps123
  go_wp2_with fail
  go_loop [3, 7] (fun v i => ValRel l v i) (fun _ i => (8 - intOf i).toNat)
  case atStart => exact ⟨0, by omega, rfl, rfl⟩
  case round =>
    obtain ⟨k, hk, rfl, rfl⟩ := hrel
    by_cases hlt : k < 8
    · have hs := le_take l k (by rw [HL.out]; exact hlt)
      have hor := or_shift (le (l.take k)) k (at0 l k) (le_take_lt l HO.out k (by rw [HL.out]; exact hk)) hlt (HO.out k)
      rw [← hs] at hor
      have HOR := Lib.hid hor
      have HX := Lib.hid (HO.out k)
      clear hs hor hk
      have hk8 : k = 0 ∨ k = 1 ∨ k = 2 ∨ k = 3 ∨ k = 4 ∨ k = 5 ∨ k = 6 ∨ k = 7 := by omega
      clear hlt
      obtain ⟨x0, hx0⟩ : ∃ x, x = at0 l 0 := ⟨_, rfl⟩
      obtain ⟨x1, hx1⟩ : ∃ x, x = at0 l 1 := ⟨_, rfl⟩
      obtain ⟨x2, hx2⟩ : ∃ x, x = at0 l 2 := ⟨_, rfl⟩
      obtain ⟨x3, hx3⟩ : ∃ x, x = at0 l 3 := ⟨_, rfl⟩
      obtain ⟨x4, hx4⟩ : ∃ x, x = at0 l 4 := ⟨_, rfl⟩
      obtain ⟨x5, hx5⟩ : ∃ x, x = at0 l 5 := ⟨_, rfl⟩
      obtain ⟨x6, hx6⟩ : ∃ x, x = at0 l 6 := ⟨_, rfl⟩
      obtain ⟨x7, hx7⟩ : ∃ x, x = at0 l 7 := ⟨_, rfl⟩
      rw [← hx0, ← hx1, ← hx2, ← hx3, ← hx4, ← hx5, ← hx6, ← hx7]
      have ix0 : ∀ W, (Instr.index 190 (.agg #[.int .u8 x0, .int .u8 x1, .int .u8 x2, .int .u8 x3, .int .u8 x4, .int .u8 x5, .int .u8 x6, .int .u8 x7]) (.int .i64 0)).run Try.prog W = .ok (.int .u8 x0) W := fun _ => rfl
      have ix1 : ∀ W, (Instr.index 190 (.agg #[.int .u8 x0, .int .u8 x1, .int .u8 x2, .int .u8 x3, .int .u8 x4, .int .u8 x5, .int .u8 x6, .int .u8 x7]) (.int .i64 1)).run Try.prog W = .ok (.int .u8 x1) W := fun _ => rfl
      have ix2 : ∀ W, (Instr.index 190 (.agg #[.int .u8 x0, .int .u8 x1, .int .u8 x2, .int .u8 x3, .int .u8 x4, .int .u8 x5, .int .u8 x6, .int .u8 x7]) (.int .i64 2)).run Try.prog W = .ok (.int .u8 x2) W := fun _ => rfl
      have ix3 : ∀ W, (Instr.index 190 (.agg #[.int .u8 x0, .int .u8 x1, .int .u8 x2, .int .u8 x3, .int .u8 x4, .int .u8 x5, .int .u8 x6, .int .u8 x7]) (.int .i64 3)).run Try.prog W = .ok (.int .u8 x3) W := fun _ => rfl
      have ix4 : ∀ W, (Instr.index 190 (.agg #[.int .u8 x0, .int .u8 x1, .int .u8 x2, .int .u8 x3, .int .u8 x4, .int .u8 x5, .int .u8 x6, .int .u8 x7]) (.int .i64 4)).run Try.prog W = .ok (.int .u8 x4) W := fun _ => rfl
      have ix5 : ∀ W, (Instr.index 190 (.agg #[.int .u8 x0, .int .u8 x1, .int .u8 x2, .int .u8 x3, .int .u8 x4, .int .u8 x5, .int .u8 x6, .int .u8 x7]) (.int .i64 5)).run Try.prog W = .ok (.int .u8 x5) W := fun _ => rfl
      have ix6 : ∀ W, (Instr.index 190 (.agg #[.int .u8 x0, .int .u8 x1, .int .u8 x2, .int .u8 x3, .int .u8 x4, .int .u8 x5, .int .u8 x6, .int .u8 x7]) (.int .i64 6)).run Try.prog W = .ok (.int .u8 x6) W := fun _ => rfl
      have ix7 : ∀ W, (Instr.index 190 (.agg #[.int .u8 x0, .int .u8 x1, .int .u8 x2, .int .u8 x3, .int .u8 x4, .int .u8 x5, .int .u8 x6, .int .u8 x7]) (.int .i64 7)).run Try.prog W = .ok (.int .u8 x7) W := fun _ => rfl
      rcases hk8 with rfl | rfl | rfl | rfl | rfl | rfl | rfl | rfl
      · rw [← hx0] at HOR HX
        have HK := Lib.hid (show bits .or .u64 ((le [] : Nat) : Int) (IntKind.u64.wrap (IntKind.u64.wrap x0)) = ((le (l.take 1) : Nat) : Int) from by have := or_lit (C := 1) HOR.out HX.out (by decide); rwa [Int.mul_one] at this)
        clear hx0 hx1 hx2 hx3 hx4 hx5 hx6 hx7 ix1 ix2 ix3 ix4 ix5 ix6 ix7
        go_wp2_with fail
        go_round
        case rel => exact ⟨1, by omega, rfl, congrArg (Value.int .u64) HK.out⟩
        case measure => simp [intOf]
      · rw [← hx1] at HOR HX
        have HK := Lib.hid (or_lit (C := 256) HOR.out HX.out (by decide))
        clear hx0 hx1 hx2 hx3 hx4 hx5 hx6 hx7 ix0 ix2 ix3 ix4 ix5 ix6 ix7
        go_wp2_with fail
        go_round
        case rel => exact ⟨2, by omega, rfl, congrArg (Value.int .u64) HK.out⟩
        case measure => simp [intOf]
      · rw [← hx2] at HOR HX
        have HK := Lib.hid (or_lit (C := 65536) HOR.out HX.out (by decide))
        clear hx0 hx1 hx2 hx3 hx4 hx5 hx6 hx7 ix0 ix1 ix3 ix4 ix5 ix6 ix7
        go_wp2_with fail
        go_round
        case rel => exact ⟨3, by omega, rfl, congrArg (Value.int .u64) HK.out⟩
        case measure => simp [intOf]
      · rw [← hx3] at HOR HX
        have HK := Lib.hid (or_lit (C := 16777216) HOR.out HX.out (by decide))
        clear hx0 hx1 hx2 hx3 hx4 hx5 hx6 hx7 ix0 ix1 ix2 ix4 ix5 ix6 ix7
        go_wp2_with fail
        go_round
        case rel => exact ⟨4, by omega, rfl, congrArg (Value.int .u64) HK.out⟩
        case measure => simp [intOf]
      · rw [← hx4] at HOR HX
        have HK := Lib.hid (or_lit (C := 4294967296) HOR.out HX.out (by decide))
        clear hx0 hx1 hx2 hx3 hx4 hx5 hx6 hx7 ix0 ix1 ix2 ix3 ix5 ix6 ix7
        go_wp2_with fail
        go_round
        case rel => exact ⟨5, by omega, rfl, congrArg (Value.int .u64) HK.out⟩
        case measure => simp [intOf]
      · rw [← hx5] at HOR HX
        have HK := Lib.hid (or_lit (C := 1099511627776) HOR.out HX.out (by decide))
        clear hx0 hx1 hx2 hx3 hx4 hx5 hx6 hx7 ix0 ix1 ix2 ix3 ix4 ix6 ix7
        go_wp2_with fail
        go_round
        case rel => exact ⟨6, by omega, rfl, congrArg (Value.int .u64) HK.out⟩
        case measure => simp [intOf]
      · rw [← hx6] at HOR HX
        have HK := Lib.hid (or_lit (C := 281474976710656) HOR.out HX.out (by decide))
        clear hx0 hx1 hx2 hx3 hx4 hx5 hx6 hx7 ix0 ix1 ix2 ix3 ix4 ix5 ix7
        go_wp2_with fail
        go_round
        case rel => exact ⟨7, by omega, rfl, congrArg (Value.int .u64) HK.out⟩
        case measure => simp [intOf]
      · rw [← hx7] at HOR HX
        have HK := Lib.hid (or_lit (C := 72057594037927936) HOR.out HX.out (by decide))
        clear hx0 hx1 hx2 hx3 hx4 hx5 hx6 hx7 ix0 ix1 ix2 ix3 ix4 ix5 ix6
        go_wp2_with fail
        go_round
        case rel => exact ⟨8, by omega, rfl, congrArg (Value.int .u64) HK.out⟩
        case measure => simp [intOf]
    · obtain rfl : k = 8 := by omega
      have hf : le (l.take 8) = le l := by rw [List.take_of_length_le (by rw [HL.out]; omega)]
      have HF := Lib.hid hf
      clear hf hlt hk
      go_wp2_with fail
      go_ret
      exact ⟨ret_int (by rw [HF.out]), (Below.refl _ _).alloc (Nat.le_refl _) _⟩

/-- Sixteen bytes by value. -/
def K16 (l : List Int) : Value := .agg #[.int .u8 (at0 l 0), .int .u8 (at0 l 1), .int .u8 (at0 l 2), .int .u8 (at0 l 3), .int .u8 (at0 l 4), .int .u8 (at0 l 5), .int .u8 (at0 l 6), .int .u8 (at0 l 7), .int .u8 (at0 l 8), .int .u8 (at0 l 9), .int .u8 (at0 l 10), .int .u8 (at0 l 11), .int .u8 (at0 l 12), .int .u8 (at0 l 13), .int .u8 (at0 l 14), .int .u8 (at0 l 15)]
def C16 (l : List Int) : Array Value := #[.int .u8 (at0 l 0), .int .u8 (at0 l 1), .int .u8 (at0 l 2), .int .u8 (at0 l 3), .int .u8 (at0 l 4), .int .u8 (at0 l 5), .int .u8 (at0 l 6), .int .u8 (at0 l 7), .int .u8 (at0 l 8), .int .u8 (at0 l 9), .int .u8 (at0 l 10), .int .u8 (at0 l 11), .int .u8 (at0 l 12), .int .u8 (at0 l 13), .int .u8 (at0 l 14), .int .u8 (at0 l 15)]
theorem u8s16 (l : List Int) (h : l.length = 16) : C16 l = (u8s l).toArray := by
  match l, h with
  | [a, b, c, d, e, f, g, i, j, k, m, n, o, p, q, r], _ => rfl
/-- Part of an array of bytes in a block. -/
theorem bytes_of_is {w : World} {g : Nat} {t : TypeId} {l : List Int} (h : Is w g t (u8s l).toArray) (i n : Nat) (hi : i + n ≤ l.length) : Bytes w (g + 1) (some ⟨g, i, none⟩) ((l.drop i).take n) := fun h0 =>
  ⟨g, i, rfl, by omega, fun j q hj hq => by
    rw [List.length_take, List.length_drop] at hj
    obtain rfl : q = 0 := by omega
    rw [show i + j * 1 + 0 = i + j by omega, h.cell]
    have : (u8s l).toArray[i + j]? = some (.int .u8 (at0 l (i + j))) := by simpa using u8s_get (l := l) (k := i + j) (by omega)
    rw [this]; exact congrArg (fun x => some (Value.int .u8 x)) (by rw [at0_take (by omega), at0_drop])⟩
theorem pad_take {l : List Int} {n : Nat} : pad (l.take n) n = pad l n := by
  unfold pad
  apply List.map_congr_left
  intro i hi
  exact at0_take (List.mem_range.1 hi)
theorem value_lit {l : List Int} {m : Nat} (w : World) (hl : l.length = 8) (ho : Octets l) (hm : le l = m) :
    Calls Try.prog 123 #[W8 l] w fun e w' => e = .returned (.int .u64 (m : Int)) ∧ Below w.heap.size w w' := by subst hm; exact value_any l w hl ho
end Go.Proofs.Ythjkjohmaemmiaa
