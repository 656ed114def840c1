/-
  Masks and places of package cookie. Helper of the claims of layers 12 and 13. No condition.
-/
import Derived.Test.YthjkjohmaemmiaaRk
import Derived.Test.YthjkjohmaemmiaaAk
namespace Go.Proofs.Ythjkjohmaemmiaa
open Go.ChangeShapes Go.WideShapes Go.ChangeAt Go.RowKit
set_option linter.unusedSimpArgs false
set_option linter.unusedVariables false
set_option maxRecDepth 100000
/-- The cells of a flow, and its bytes. -/
def FlowK (fc : Array Value) (l : List Int) (n : Nat) : Prop := fc.size = 9 ∧ l.length = n ∧ n ≤ 37 ∧ Octets l ∧ ∀ W : World, Calls Try.prog 69 #[.agg fc] W fun e w' => ∃ v, e = .returned v ∧ Below W.heap.size W w' ∧ OwnP W.heap.size l n v w'
theorem flowk (s6 : Bool) (sh sl : Nat) (d6 : Bool) (dh dl sp dp po : Nat) (hsh : sh < 18446744073709551616) (hsl : sl < 18446744073709551616) (hdh : dh < 18446744073709551616) (hdl : dl < 18446744073709551616) (hsp : sp ≤ 65535) (hdp : dp ≤ 65535) (hpo : po ≤ 255) : FlowK #[.bool s6, .int .u64 (sh : Int), .int .u64 (sl : Int), .bool d6, .int .u64 (dh : Int), .int .u64 (dl : Int), .int .u16 (sp : Int), .int .u16 (dp : Int), .int .u8 (po : Int)] (kf s6 sh sl d6 dh dl sp dp po) (kfn s6 d6) :=
  ⟨rfl, kf_len s6 sh sl d6 dh dl sp dp po, kfn_le _ _, kf_ok s6 sh sl d6 dh dl sp dp po, fun W => akey s6 sh sl d6 dh dl sp dp po hsh hsl hdh hdl hsp hdp hpo W⟩
/-- What hides a flow's word under a key. -/
def mk (key l : List Int) : Nat := sip key (l ++ be 1 1) % 32768
theorem mk_lt (key l : List Int) : mk key l < 32768 := Nat.mod_lt _ (by omega)
set_option maxHeartbeats 1000000 in
theorem cmask (key : List Int) (hk : key.length = 16) (ho : Octets key) (fc : Array Value) (l : List Int) (n : Nat) (fk : FlowK fc l n) (w : World) : Calls Try.prog 73 #[.agg (u8s key).toArray, .agg fc] w fun e w' => e = .returned (.int .u16 ((mk key l : Nat) : Int)) ∧ Below w.heap.size w w' := by
  have KSZ := Lib.hid (key_size hk)
  have hs := sip_lt ho (fk.2.2.2.1.app (be_ok 1 1))
  unfold mk
  have hn := fk.2.2.1
  have FK := Lib.hid fk; have HK := Lib.hid hk; have HO := Lib.hid ho
  clear fk hk ho
  generalize hks : (u8s key).toArray = ks at KSZ ⊢
  have KEQ := hide hks.symm
  clear hks
  generalize hsq : sip key (l ++ be 1 1) = s at hs ⊢
  have HS := hide hsq
  clear hsq
  have hr0 := (Is.new w 43 ks).alloc (.cells fc 28)
  have hg0 := Is.new (w.alloc (.cells ks 43)) 28 fc
  rw [show (w.alloc (.cells ks 43)).heap.size = w.heap.size + 1 from by simp] at hg0
  have R0 := Lib.hid hr0; have J0 := Lib.hid hg0; have HB0 := Lib.hid (show Below w.heap.size w ((w.alloc (.cells ks 43)).alloc (.cells fc 28)) from ((Below.refl _ _).alloc (Nat.le_refl _) _).alloc (by simp) _)
  clear hr0 hg0
  go_enter Try.func73, Try.ntmps73
  go_wp2_with fail
  refine Lin.wp_region_lin Lin.keeps (n := 12)  (fun slotq => match slotq with | 5 => Lin.Spec.val (.agg ks) | 6 => Lin.Spec.val (.agg fc) | 7 => Lin.Spec.sl l n | 8 => Lin.Spec.sl (l ++ be 1 1) (n + 1) | 9 => Lin.Spec.val (.int .u64 (s : Int)) | 10 => Lin.Spec.val (.int .u64 ((s % 32768 : Nat) : Int)) | 11 => Lin.Spec.val (.int .u16 ((s % 32768 : Nat) : Int)) | 4 => Lin.Spec.val (.int .u16 ((s % 32768 : Nat) : Int)) | _ => Lin.Spec.any) (by kernel_rfl) rfl (by kernel_rfl) ⟨?_, ?_, ?_, ?_, ?_, ?_, ?_, ?_, trivial⟩ ?_
  · intro ρ wq hb ho hc hd
    have hC : ∀ v, ρ (.const v) = v := fun v => hc _ (by intro t e; cases e)
    have hF : ∀ f, ρ (.func f) = .func (.func f) #[] #[] := fun f => hc _ (by intro t e; cases e)
    have h2 : ρ (.tmp 2) = .pointer (some ⟨w.heap.size, 0, none⟩) := ho 2 (by kernel_rfl)
    exact Lin.Runs.load_row Lin.keeps 43 (.tmp 2) rfl w.heap.size h2 43 ks (R0.out.below hb R0.out.lt) _ Try.underlying43 rfl (by rw [KSZ.out]; kernel_rfl) rfl
  · intro ρ wq hb ho hc hd
    have hC : ∀ v, ρ (.const v) = v := fun v => hc _ (by intro t e; cases e)
    have hF : ∀ f, ρ (.func f) = .func (.func f) #[] #[] := fun f => hc _ (by intro t e; cases e)
    have h3 : ρ (.tmp 3) = .pointer (some ⟨w.heap.size + 1, 0, none⟩) := ho 3 (by kernel_rfl)
    exact Lin.Runs.load_row Lin.keeps 28 (.tmp 3) rfl (w.heap.size + 1) h3 28 fc (J0.out.below hb J0.out.lt) _ Try.underlying28 rfl (by rw [FK.out.1]; kernel_rfl) rfl
  · intro ρ wq hb ho hc hd
    have hC : ∀ v, ρ (.const v) = v := fun v => hc _ (by intro t e; cases e)
    have hF : ∀ f, ρ (.func f) = .func (.func f) #[] #[] := fun f => hc _ (by intro t e; cases e)
    have h6 : ρ (.tmp 6) = .agg fc := hd 6 (by kernel_rfl)
    exact Lin.Runs.call Lin.keeps (f := 69) (args := #[.agg fc]) (by simp [execOp, go_sem, hF, h6]) ((FK.out.2.2.2.2 wq).mono fun e w9 ⟨v9, h1, h2, h3⟩ => ⟨v9, h1, h2, h3.isb⟩)
  · intro ρ wq hb ho hc hd
    have hC : ∀ v, ρ (.const v) = v := fun v => hc _ (by intro t e; cases e)
    have hF : ∀ f, ρ (.func f) = .func (.func f) #[] #[] := fun f => hc _ (by intro t e; cases e)
    have h7 := hd 7 (by kernel_rfl)
    obtain ⟨A7, c7, e7⟩ := IsB.shape h7
    refine Lin.Runs.call Lin.keeps (f := 85) (args := #[.slice A7 n c7, .int .u64 1, .int .i64 1]) (by simp [execOp, go_sem, hC, hF, e7]) ?_
    rw [e7] at h7
    exact (put_k 1 1 1 (n + 1) h7 (by omega) (by omega) (by omega) (by omega) rfl rfl).mono fun e w9 ⟨A9, c9, h1, h2, h3⟩ => ⟨_, h1, h3, IsB.own h2⟩
  · intro ρ wq hb ho hc hd
    have hC : ∀ v, ρ (.const v) = v := fun v => hc _ (by intro t e; cases e)
    have hF : ∀ f, ρ (.func f) = .func (.func f) #[] #[] := fun f => hc _ (by intro t e; cases e)
    have h5 : ρ (.tmp 5) = .agg ks := hd 5 (by kernel_rfl)
    have h8 := hd 8 (by kernel_rfl)
    obtain ⟨A8, c8, e8, hl8, hb8, hc8, hm8, _⟩ := h8
    refine Lin.Runs.call Lin.keeps (f := 97) (args := #[.agg ks, .slice A8 (n + 1) c8]) (by simp [execOp, go_sem, hF, h5, e8]) ?_
    exact (sum_any key (l ++ be 1 1) ks A8 (n + 1) c8 wq KEQ.out HK.out HO.out hb8 hl8 hc8 (FK.out.2.2.2.1.app (be_ok _ _)) (by omega) hm8).mono fun e w9 h => ⟨_, h.1, h.2, by rw [HS.out]; rfl⟩
  · intro ρ wq hb ho hc hd
    have hC : ∀ v, ρ (.const v) = v := fun v => hc _ (by intro t e; cases e)
    have hF : ∀ f, ρ (.func f) = .func (.func f) #[] #[] := fun f => hc _ (by intro t e; cases e)
    have h9 : ρ (.tmp 9) = .int .u64 (s : Int) := hd 9 (by kernel_rfl)
    refine Lin.Runs.call Lin.keeps (f := 107) (args := #[.int .u64 (s : Int), .int .i64 15]) (by simp [execOp, go_sem, hC, hF, h9]) ?_
    exact (fold_mid s 15 wq (by omega) (by omega) hs).mono fun e w9 h => ⟨_, h.1, by rw [← h.2]; exact Below.refl _ _, rfl⟩
  · intro ρ wq hb ho hc hd
    have hC : ∀ v, ρ (.const v) = v := fun v => hc _ (by intro t e; cases e)
    have hF : ∀ f, ρ (.func f) = .func (.func f) #[] #[] := fun f => hc _ (by intro t e; cases e)
    have h10 : ρ (.tmp 10) = .int .u64 ((s % 32768 : Nat) : Int) := hd 10 (by kernel_rfl)
    exact Lin.Runs.value Lin.keeps (v := .int .u16 ((s % 32768 : Nat) : Int)) (by simp [execOp, go_sem, h10]; first | done | exact IntWalk.u16_in _ (by omega)) rfl
  · intro ρ wq hb ho hc hd
    have hC : ∀ v, ρ (.const v) = v := fun v => hc _ (by intro t e; cases e)
    have hF : ∀ f, ρ (.func f) = .func (.func f) #[] #[] := fun f => hc _ (by intro t e; cases e)
    have h11 : ρ (.tmp 11) = .int .u16 ((s % 32768 : Nat) : Int) := hd 11 (by kernel_rfl)
    exact Lin.Runs.value Lin.keeps (Lin.exec_assign rfl) h11
  · intro vals w5 hb2 hv
    have ee : vals 4 = .int .u16 ((s % 32768 : Nat) : Int) := hv 4 (by kernel_rfl)
    have HB5 := Lib.hid (HB0.out.trans (hb2.mono HB0.out.size))
    clear hb2 hv
    simp only [Lin.putAll, Option.getD_some]
    rw [ee]
    clear ee
    go_simp
    generalize vals = vq
    go_wp2_with fail
    go_ret
    exact ⟨rfl, HB5.out⟩
theorem and15 (x : Nat) (h : x < 65536) : bits .and .u16 (x : Int) 32767 = ((x % 32768 : Nat) : Int) := by
  have e := u16_and (x : Int) 32767 (by omega) (by omega) (by omega) (by omega)
  rw [e, show ((32767 : Int)).toNat = 2 ^ 15 - 1 from rfl, Nat.and_two_pow_sub_one_eq_mod, Int.toNat_natCast]
set_option maxHeartbeats 400000 in
theorem cof (x : Nat) (h : x < 65536) (w : World) : Calls Try.prog 21 #[.int .u16 (x : Int)] w fun e w' => e = .returned (.agg #[.int .i64 ((x % 32768 / 4096 : Nat) : Int), .int .i64 ((x % 32768 % 4096 : Nat) : Int)]) ∧ Below w.heap.size w w' := by
  have hb0 : Below w.heap.size w (w.alloc (.cells #[.int .i64 0, .int .i64 0] 41)) := (Below.refl _ _).alloc (Nat.le_refl _) _
  have f1 := and15 x h
  have hy : x % 32768 < 32768 := by omega
  generalize x % 32768 = y at *
  have f2 : IntKind.i64.wrap (y : Int) = (y : Int) := IntWalk.i64_in _ (by omega)
  have f3 : (y : Int).tdiv 4096 = ((y / 4096 : Nat) : Int) := by rw [Int.tdiv_eq_ediv_of_nonneg (by omega)]; omega
  have f4 : (y : Int).tmod 4096 = ((y % 4096 : Nat) : Int) := by rw [Int.tmod_eq_emod_of_nonneg (by omega)]; omega
  have f5 : (y : Int) / 4096 = ((y / 4096 : Nat) : Int) := by omega
  have f6 : (y : Int) % 4096 = ((y % 4096 : Nat) : Int) := by omega
  generalize y / 4096 = a at *
  generalize y % 4096 = b at *
  go_enter Try.func21, Try.ntmps21
  go_wp2_with fail
  refine bodyPost_ret (v := .agg #[.int .i64 (a : Int), .int .i64 (b : Int)]) (by simp [results, Try.results21, go_sem]) rfl ⟨rfl, ?_⟩
  exact (Below.refl _ _).alloc (Nat.le_refl _) _
def pright (v s : Int) : Bool := decide (0 ≤ v) && (decide (v < 8) && (decide (0 ≤ s) && decide (s < 4096)))
set_option maxHeartbeats 1000000 in
theorem cright (v s : Int) (w : World) : Calls Try.prog 26 #[.agg #[.int .i64 v, .int .i64 s]] w fun e w' => e = .returned (.bool (pright v s)) ∧ Below w.heap.size w w' := by
  have hb0 : Below w.heap.size w (w.alloc (.cells #[.int .i64 v, .int .i64 s] 41)) := (Below.refl _ _).alloc (Nat.le_refl _) _
  by_cases h1 : 0 ≤ v
  · by_cases h2 : v < 8
    · by_cases h3 : 0 ≤ s
      · by_cases h4 : s < 4096
        · rw [show pright v s = true from by simp [pright, h1, h2, h3, h4]]
          go_enter Try.func26, Try.ntmps26
          go_wp2_with fail
          go_ret
          exact ⟨rfl, hb0⟩
        · rw [show pright v s = false from by simp [pright, h4]]
          go_enter Try.func26, Try.ntmps26
          go_wp2_with fail
          go_ret
          exact ⟨rfl, hb0⟩
      · rw [show pright v s = false from by simp [pright, h3]]
        go_enter Try.func26, Try.ntmps26
        go_wp2_with fail
        go_ret
        exact ⟨rfl, hb0⟩
    · rw [show pright v s = false from by simp [pright, h2]]
      go_enter Try.func26, Try.ntmps26
      go_wp2_with fail
      go_ret
      exact ⟨rfl, hb0⟩
  · rw [show pright v s = false from by simp [pright, h1]]
    go_enter Try.func26, Try.ntmps26
    go_wp2_with fail
    go_ret
    exact ⟨rfl, hb0⟩
theorem cright_nat (v s : Nat) (hv : v < 8) (hs : s < 4096) : pright (v : Int) (s : Int) = true := by
  simp only [pright, Bool.and_eq_true, decide_eq_true_eq]; omega
set_option maxHeartbeats 400000 in
theorem cword (v s : Nat) (hv : v < 8) (hs : s < 4096) (w : World) : Calls Try.prog 27 #[.agg #[.int .i64 (v : Int), .int .i64 (s : Int)]] w fun e w' => e = .returned (.int .u16 ((v * 4096 + s : Nat) : Int)) ∧ Below w.heap.size w w' := by
  have hb0 : Below w.heap.size w (w.alloc (.cells #[.int .i64 (v : Int), .int .i64 (s : Int)] 41)) := (Below.refl _ _).alloc (Nat.le_refl _) _
  have hg0 := Is.new w 41 #[.int .i64 (v : Int), .int .i64 (s : Int)]
  have f1 : IntKind.u16.wrap ((v : Int) * 4096 + (s : Int)) = ((v * 4096 + s : Nat) : Int) := by rw [IntKind.wrap_u16]; omega
  go_enter Try.func27, Try.ntmps27
  go_wp2_with fail
  generalize w.alloc (.cells #[.int .i64 (v : Int), .int .i64 (s : Int)] 41) = W at *
  refine (cright (v : Int) (s : Int) W).mono ?_
  rintro e w1 ⟨rfl, hb⟩
  rw [cright_nat v s hv hs]
  have HB := Lib.hid (hb0.trans (hb.mono hb0.size)); have hg1 := hg0.below hb hg0.lt
  have a0 := hg1.cell 0; have a1 := hg1.cell 1
  simp at a0 a1
  clear hb hb0 hg0 hg1
  go_wp2_with fail
  go_ret
  exact ⟨rfl, HB.out⟩
/-- A word with a bit above it, hidden: exclusive-or leaves the bit. -/
theorem or_bit {x w m : Nat} (hx : x ≤ 1) (hw : w < 32768) (hm : m < 32768) : (x * 32768 ||| w) ^^^ m = x * 32768 + (w ^^^ m) := by
  have hwm : w ^^^ m < 2 ^ 15 := Nat.xor_lt_two_pow hw hm
  rcases (show x = 0 ∨ x = 1 from by omega) with rfl | rfl
  · simp
  · rw [show (1 * 32768 : Nat) = 2 ^ 15 * 1 from rfl, Nat.two_pow_add_eq_or_of_lt hwm]
    apply Nat.eq_of_testBit_eq
    intro i
    simp only [Nat.testBit_xor, Nat.testBit_or]
    by_cases h : i = 15
    · subst h
      have e : m.testBit 15 = false := Nat.testBit_lt_two_pow hm
      have e2 : w.testBit 15 = false := Nat.testBit_lt_two_pow hw
      simp [e, e2]
    · have e : (2 ^ 15 * 1).testBit i = false := by rw [Nat.mul_one, Nat.testBit_two_pow_of_ne (by omega)]
      simp [e]
theorem show_word {x w m : Nat} (hx : x ≤ 1) (hw : w < 32768) (hm : m < 32768) : ((x * 32768 + (w ^^^ m)) ^^^ m) % 32768 = w := by
  have hwm : w ^^^ m < 2 ^ 15 := Nat.xor_lt_two_pow hw hm
  rw [show (32768 : Nat) = 2 ^ 15 from rfl, Nat.xor_mod_two_pow, show (x * 2 ^ 15 + (w ^^^ m)) % 2 ^ 15 = w ^^^ m from by omega, Nat.mod_eq_of_lt (show m < 2 ^ 15 from hm), Nat.xor_assoc, Nat.xor_self, Nat.xor_zero]
end Go.Proofs.Ythjkjohmaemmiaa
