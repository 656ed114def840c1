/-
  Rings with abstract keys: New, Bit, At of package ring. Helper of the claims of layer 11. No condition.
-/
import Derived.Test.YthjkjohmaemmiaaKy5
import Derived.Test.YthjkjohmaemmiaaLin4
import Derived.Deep.MidRow
namespace Go.Proofs.Ythjkjohmaemmiaa
open Go.ChangeShapes Go.WideShapes Go.ChangeAt Go.RowKit
set_option linter.unusedSimpArgs false
set_option linter.unusedVariables false
set_option maxRecDepth 100000
def rcs (key : List Int) (n : Nat) : Array Value := (u8s key ++ [Value.int .u64 (n : Int)]).toArray
theorem rcs_size {key : List Int} (h : key.length = 16) (n : Nat) : (rcs key n).size = 17 := by simp [rcs, u8s, h]
theorem rcs_now {key : List Int} (h : key.length = 16) (n : Nat) : (rcs key n)[16]? = some (.int .u64 (n : Int)) := by simp [rcs, u8s, h]
theorem rcs_key {key : List Int} (h : key.length = 16) (n j : Nat) (v : Value) (hj : (u8s key)[j]? = some v) : (rcs key n)[j]? = some v := by
  unfold rcs
  rw [List.getElem?_toArray, List.getElem?_append_left]
  · exact hj
  · exact (List.getElem?_eq_some_iff.1 hj).1
theorem rcs_one (key : List Int) (n : Nat) : ((rcs key n).all (·.oneCell')) = true := by simp [rcs, u8s, Value.oneCell']
theorem key_size {key : List Int} (h : key.length = 16) : (u8s key).toArray.size = 16 := by simp [u8s, h]
theorem built_ring16 (k0 k1 k2 k3 k4 k5 k6 k7 k8 k9 k10 k11 k12 k13 k14 k15 : Int) (n : Nat) : Try.prog.built 45 [(0, Value.agg (u8s [k0, k1, k2, k3, k4, k5, k6, k7, k8, k9, k10, k11, k12, k13, k14, k15]).toArray), (1, Value.int .u64 (n : Int))] = some (rcs [k0, k1, k2, k3, k4, k5, k6, k7, k8, k9, k10, k11, k12, k13, k14, k15] n) := by kernel_rfl
theorem built_ring (key : List Int) (h : key.length = 16) (n : Nat) : Try.prog.built 45 [(0, Value.agg (u8s key).toArray), (1, Value.int .u64 (n : Int))] = some (rcs key n) := by
  match key, h with
  | [k0, k1, k2, k3, k4, k5, k6, k7, k8, k9, k10, k11, k12, k13, k14, k15], _ => exact built_ring16 k0 k1 k2 k3 k4 k5 k6 k7 k8 k9 k10 k11 k12 k13 k14 k15 n
theorem arm_build {w : World} {ops : Array Oper} {rest : List Oper} {o : Oper} {a : Act} {Q : Exit → Act → World → Prop} (x y : Operand) (hg : o.guard = none) (ho : o.op = .build 45 #[(0, x), (1, y)]) (key : List Int) (n : Nat) (hk : key.length = 16)
    (hx : a.eval x = .agg (u8s key).toArray) (hy : a.eval y = .int .u64 (n : Int)) (h : wpList Try.prog ops Q rest (a.put o.dst (.agg (rcs key n))) w) : wpList Try.prog ops Q (o :: rest) a w := by
  have hp : (#[(0, x), (1, y)] : Array (Nat × Operand)).map (fun (i, x) => (i, a.eval x)) = #[(0, .agg (u8s key).toArray), (1, .int .u64 (n : Int))] := by simp [hx, hy]
  refine wpList_build hg 45 #[(0, x), (1, y)] ho ?_ ?_
  · rw [hp, show (#[(0, Value.agg (u8s key).toArray), (1, Value.int .u64 (n : Int))] : Array (Nat × Value)).toList = [(0, .agg (u8s key).toArray), (1, .int .u64 (n : Int))] from rfl, built_ring key hk n]; rfl
  · rw [hp, show (#[(0, Value.agg (u8s key).toArray), (1, Value.int .u64 (n : Int))] : Array (Nat × Value)).toList = [(0, .agg (u8s key).toArray), (1, .int .u64 (n : Int))] from rfl, built_ring key hk n]; exact h
theorem bit1h (n : Nat) (h : n < 18446744073709551616) : bits .and .u64 (n : Int) 1 = ((n % 2 : Nat) : Int) := by
  have e := u64_and (n : Int) 1 (by omega) (by omega) (by omega) (by omega)
  rw [e, show ((1 : Int)).toNat = 2 ^ 1 - 1 from rfl, Nat.and_two_pow_sub_one_eq_mod, Int.toNat_natCast]
set_option maxHeartbeats 400000 in
theorem hnew (key : List Int) (hk : key.length = 16) (n : Nat) (w : World) : Calls Try.prog 22 #[.agg (u8s key).toArray, .int .u64 (n : Int)] w fun e w' => e = .returned (.agg (rcs key n)) ∧ Below w.heap.size w w' := by
  have hb0 : Below w.heap.size w ((w.alloc (.cells (u8s key).toArray 43)).alloc (.cells #[.int .u8 0, .int .u8 0, .int .u8 0, .int .u8 0, .int .u8 0, .int .u8 0, .int .u8 0, .int .u8 0, .int .u8 0, .int .u8 0, .int .u8 0, .int .u8 0, .int .u8 0, .int .u8 0, .int .u8 0, .int .u8 0, .int .u64 0] 45)) := ((Below.refl _ _).alloc (Nat.le_refl _) _).alloc (by simp) _
  have j0 := (Is.new w 43 (u8s key).toArray).alloc (.cells #[.int .u8 0, .int .u8 0, .int .u8 0, .int .u8 0, .int .u8 0, .int .u8 0, .int .u8 0, .int .u8 0, .int .u8 0, .int .u8 0, .int .u8 0, .int .u8 0, .int .u8 0, .int .u8 0, .int .u8 0, .int .u8 0, .int .u64 0] 45)
  have j1 := Is.new (w.alloc (.cells (u8s key).toArray 43)) 45 #[.int .u8 0, .int .u8 0, .int .u8 0, .int .u8 0, .int .u8 0, .int .u8 0, .int .u8 0, .int .u8 0, .int .u8 0, .int .u8 0, .int .u8 0, .int .u8 0, .int .u8 0, .int .u8 0, .int .u8 0, .int .u8 0, .int .u64 0]
  rw [show (w.alloc (.cells (u8s key).toArray 43)).heap.size = w.heap.size + 1 from by simp] at j1
  have J0 := Lib.hid j0; have J1 := Lib.hid j1; have HB := Lib.hid hb0
  have RS := Lib.hid (rcs_size hk n); have KS := Lib.hid (key_size hk); have RO := Lib.hid (rcs_one key n)
  have HBU := hide (fun (w : World) ops rest o a Q h1 h2 h3 h4 h5 => arm_build (w := w) (ops := ops) (rest := rest) (o := o) (a := a) (Q := Q) (.tmp 5) (.tmp 6) h1 h2 key n hk h3 h4 h5)
  clear j0 j1 hb0 hk
  generalize rcs key n = rs at *
  generalize (u8s key).toArray = cs at *
  go_enter Try.func22, Try.ntmps22
  go_wp2_with (first
    | (with_reducible show wpList _ _ _ (⟨some 5, _, _, _, _, _⟩ :: _) _ _; go_loud (refine Go.wpList_load_row rfl 43 (.tmp 2) rfl w.heap.size rfl 43 cs (0, 0) _ (is_raw J0.out) Try.underlying43 rfl (by rw [KS.out]; kernel_rfl) ?_))
    | (with_reducible show wpList _ _ _ (⟨some 7, _, _, _, _, _⟩ :: _) _ _; go_loud (refine (unhide HBU) _ _ _ _ _ _ rfl rfl rfl rfl ?_))
    | (with_reducible show wpList _ _ _ (⟨none, _, _, _, _, _⟩ :: _) _ _; go_loud (refine Go.wpList_store_row rfl 45 (.tmp 4) (.tmp 7) rfl (w.heap.size + 1) rs rfl rfl 45 #[.int .u8 0, .int .u8 0, .int .u8 0, .int .u8 0, .int .u8 0, .int .u8 0, .int .u8 0, .int .u8 0, .int .u8 0, .int .u8 0, .int .u8 0, .int .u8 0, .int .u8 0, .int .u8 0, .int .u8 0, .int .u8 0, .int .u64 0] (is_raw J1.out) (by rw [RS.out]; kernel_rfl) (by rw [RS.out]; simp) RO.out ?_)))
  refine bodyPost_ret (v := .agg rs) ?_ rfl ⟨rfl, below_setRow HB.out (Nat.le_succ _) _⟩
  exact (results_cell_row Try.results22 _ _ (w.heap.size + 1) 45 rs (0, 0) _ rfl (is_raw (is_row J1.out)) Try.underlying45 rfl (by rw [RS.out]; kernel_rfl))
set_option maxHeartbeats 400000 in
theorem hbit (key : List Int) (hk : key.length = 16) (n : Nat) (hn : n < 18446744073709551616) (w : World) : Calls Try.prog 72 #[.agg (rcs key n)] w fun e w' => e = .returned (.int .i64 ((n % 2 : Nat) : Int)) ∧ Below w.heap.size w w' := by
  have h16 := rcs_now hk n
  have h2 : n % 2 ≤ 1 := by omega
  have hbt := bit1h n hn
  generalize n % 2 = b at *
  generalize rcs key n = rs at *
  have hb0 : Below w.heap.size w (w.alloc (.cells rs 45)) := (Below.refl _ _).alloc (Nat.le_refl _) _
  go_enter Try.func72, Try.ntmps72
  go_wp2_with fail
  go_ret
  exact ⟨rfl, hb0⟩
end Go.Proofs.Ythjkjohmaemmiaa
