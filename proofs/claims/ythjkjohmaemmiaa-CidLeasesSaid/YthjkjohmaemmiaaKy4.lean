/-
  Derive of the reference of layer 10: what a call returns. Helper of the claim on SiphashKeys.
-/
import Derived.Test.YthjkjohmaemmiaaKy3
namespace Go.Proofs.Ythjkjohmaemmiaa
open Go.ChangeShapes Go.WideShapes Go.ChangeAt Go.RowKit
set_option linter.unusedSimpArgs false
set_option linter.unusedVariables false
/-- A slice literal of one byte: its capacity is one. -/
def OneP (x : Int) (v : Value) (w : World) : Prop := ∃ b, v = .slice (some b) 1 1 ∧ Bytes w w.heap.size (some b) [x]
theorem OneP.st {x : Int} {v : Value} {w w' : World} (h : OneP x v w) (hb : Below w.heap.size w w') : OneP x v w' := by
  obtain ⟨b, e, hy⟩ := h
  exact ⟨b, e, (hy.below hb).more hb.size⟩
def OneB (x : Int) : Lin.Spec Lin.Keeps := ⟨OneP x, OneP.st⟩
theorem oneb_new (w : World) (x : Int) : OneP x (.slice (some ⟨w.heap.size, 0, none⟩) 1 1) (w.alloc (.cells #[.int .u8 x] 5)) :=
  ⟨_, rfl, by have := Bytes.one w x; rwa [show w.heap.size + 1 = (w.alloc (.cells #[.int .u8 x] 5)).heap.size from by simp] at this⟩
theorem bytes_at {w : World} {B : Nat} {b : Addr} {l : List Int} (h : Bytes w B (some b) l) : ∀ j u, (u8s l)[j]? = some u → w.cell? (b.add j) = some u := fun j u hj => by
  have hjl : j < l.length := by
    apply Decidable.byContradiction; intro hn'
    rw [List.getElem?_eq_none (by simp [u8s]; omega)] at hj; cases hj
  rw [u8s_get hjl] at hj; injection hj with hj; subst hj
  obtain ⟨b', off, e, _, hc⟩ := h.cells (by omega)
  injection e with e; subst e
  rw [addr_add]; exact hc j hjl
/-- Bytes appended to a literal of one byte: a new row. -/
theorem grow_one {P : Program} {t T : TypeId} {w : World} {b : Addr} {x : Int} {B1 B2 m : Nat} {A : Option Addr} {l : List Int} (ht : P.underlying t = some (.slice 5)) (hi : (P.info? 5).map (fun i => (i.zero, i.size, i.bytes)) = some (some (.int .u8 0), 1, 1))
    (h1 : Bytes w B1 (some b) [x]) (h2 : Bytes w B2 A l) (c : Nat) (hm : l.length = m + 1) (hmm : m ≤ 1000 := by omega) :
    ∃ A' c' w', (Builtin.append_ #[t, t] T #[.slice (some b) 1 1, .slice A (m + 1) c]).run P w = .ok (.slice A' (1 + (m + 1)) c') w' ∧ Below w.heap.size w w' ∧ IsB ([x] ++ l) (1 + (m + 1)) (.slice A' (1 + (m + 1)) c') w' := by
  obtain ⟨i, hi0, hz, hsz, hby⟩ := info_parts hi
  obtain ⟨b2, o2, rfl, _, _⟩ := h2.cells (by omega)
  obtain ⟨v', w', hr, hown, hg⟩ := run_append_arg_grows (P := P) (w := w) t T 5 i (.int .u8 0) 1 1 ht hi0 hz hsz hby rfl (by omega) b 1 1 (u8s [x]) (by simp [u8s]) (bytes_at h1) _ (m + 1) c (u8s l) (by simp [u8s, hm]) (bytes_at h2) (by omega) (by unfold maxLen; omega) (by omega)
  obtain ⟨A', c', rfl⟩ := own_shape hown
  have ho : OwnB w' w.heap.size (.slice A' (1 + (m + 1)) c') ([x] ++ l) := by
    unfold OwnB
    rw [List.length_append, ← u8s_app, hm]; exact hown
  exact ⟨A', c', w', hr, (Below.refl w.heap.size w).grown hg (Nat.le_refl _) (fun q hq => by cases hq), IsB.own ho⟩
set_option maxRecDepth 100000 in
set_option maxHeartbeats 4000000 in
theorem rderive_any (key : List Int) (cs : Array Value) (n : Nat) (w : World) (hcs : cs = (u8s key).toArray) (hl : key.length = 16) (ho : Octets key) (hn : n < 18446744073709551616) :
    Calls Try.prog 111 #[.agg cs, .int .u64 (n : Int)] w fun e w' => e = .returned (.agg (u8s (kof (sip key ([1] ++ be n 8)) (sip key ([2] ++ be n 8)))).toArray) ∧ Below w.heap.size w w' := by
  have hsz : cs.size = 16 := by rw [hcs]; simp [u8s, hl]
  have h1 := sip_lt (l := [1] ++ be n 8) ho (Octets.app (Octets.ofAll (by decide)) (be_ok _ _))
  have h2 := sip_lt (l := [2] ++ be n 8) ho (Octets.app (Octets.ofAll (by decide)) (be_ok _ _))
  obtain ⟨s1, e1⟩ : ∃ s, sip key ([1] ++ be n 8) = s := ⟨_, rfl⟩
  obtain ⟨s2, e2⟩ : ∃ s, sip key ([2] ++ be n 8) = s := ⟨_, rfl⟩
  rw [e1] at h1 ⊢
  rw [e2] at h2 ⊢
  have S1 := Lib.hid e1; have S2 := Lib.hid e2; have S1L := hide h1; have S2L := hide h2
  have HCS := Lib.hid hcs; have HKL := Lib.hid hl; have HKO := Lib.hid ho; have HSZ := Lib.hid hsz
  have i0 := (Is.new w 36 cs).alloc (.cells (u8s (List.replicate 16 0)).toArray 36)
  have i1 := Is.new (w.alloc (.cells cs 36)) 36 (u8s (List.replicate 16 0)).toArray
  rw [show (w.alloc (.cells cs 36)).heap.size = w.heap.size + 1 from by simp] at i1
  have hbw := ((Below.refl w.heap.size w).alloc (Nat.le_refl _) (.cells cs 36)).alloc (by simp) (.cells (u8s (List.replicate 16 0)).toArray 36)
  have I0 := Lib.hid i0; have I1' := Lib.hid i1; have HB := Lib.hid hbw
  clear hcs hl ho hsz h1 h2 e1 e2 i0 i1 hbw
  go_enter Try.func111, Try.ntmps111
  go_wp2_with fail
  refine (rbytes_any n 8 _ hn).mono ?_
  rintro e w1 ⟨A5, c5, rfl, ho5, hb5⟩
  rw [show sz8 8 = 8 from rfl, be_len] at ho5 ⊢
  have HBY := Lib.hid ho5.bytes
  have HI := Lib.hid (I0.out.below hb5 I0.out.lt)
  have I1 := Lib.hid (I1'.out.below hb5 I1'.out.lt)
  have HBE := Lib.hid (HB.out.trans (hb5.mono HB.out.size))
  have HB1 : Hid (w1.heap.size ≤ w1.heap.size) := hide (Nat.le_refl _)
  clear ho5 hb5 I0 I1' HB
  go_wp2_with fail
  refine Lin.wp_region_lin_tail Lin.keeps (n := 19) 11 (fun slotq => match slotq with | 8 => Lin.Spec.val (.agg cs) | 9 => OneB 1 | 10 => Lin.Spec.val (.slice A5 8 c5) | 11 => Lin.Spec.sl ([1] ++ be n 8) 9 | 12 => Lin.Spec.val (.int .u64 (s1 : Int)) | 13 => Lin.Spec.val (.agg cs) | 14 => OneB 2 | 15 => Lin.Spec.val (.slice A5 8 c5) | 16 => Lin.Spec.sl ([2] ++ be n 8) 9 | 17 => Lin.Spec.val (.int .u64 (s2 : Int)) | 18 => Lin.Spec.val (.agg (u8s (kof s1 s2)).toArray) | _ => Lin.Spec.any) (by kernel_rfl) rfl (by kernel_rfl) ⟨?_, ?_, ?_, ?_, ?_, ?_, ?_, ?_, ?_, ?_, ?_, trivial⟩ ?_
  · intro ρ wq hb ho hc hd
    have hC : ∀ v, ρ (.const v) = v := fun v => hc _ (by intro t e; cases e)
    have hF : ∀ f, ρ (.func f) = .func (.func f) #[] #[] := fun f => hc _ (by intro t e; cases e)
    have h2 : ρ (.tmp 2) = .pointer (some ⟨w.heap.size, 0, none⟩) := ho 2 (by kernel_rfl)
    exact Lin.Runs.load_row Lin.keeps 36 (.tmp 2) rfl w.heap.size h2 36 cs (HI.out.below hb HI.out.lt) _ Try.underlying36 rfl (by rw [HSZ.out]; kernel_rfl) rfl
  · intro ρ wq hb ho hc hd
    have hC : ∀ v, ρ (.const v) = v := fun v => hc _ (by intro t e; cases e)
    have hF : ∀ f, ρ (.func f) = .func (.func f) #[] #[] := fun f => hc _ (by intro t e; cases e)
    refine Lin.Runs.made (v := .slice (some ⟨wq.heap.size, 0, none⟩) 1 1) (w' := wq.alloc (.cells #[.int .u8 1] 5)) (by simp [execOp, go_sem, hC, hF]) ((Below.refl _ _).alloc (Nat.le_refl _) _) (oneb_new wq 1)
  · intro ρ wq hb ho hc hd
    have hC : ∀ v, ρ (.const v) = v := fun v => hc _ (by intro t e; cases e)
    have hF : ∀ f, ρ (.func f) = .func (.func f) #[] #[] := fun f => hc _ (by intro t e; cases e)
    have h5 : ρ (.tmp 5) = .slice A5 8 c5 := ho 5 (by kernel_rfl)
    exact Lin.Runs.value Lin.keeps (Lin.exec_move rfl) h5
  · intro ρ wq hb ho hc hd
    have hC : ∀ v, ρ (.const v) = v := fun v => hc _ (by intro t e; cases e)
    have hF : ∀ f, ρ (.func f) = .func (.func f) #[] #[] := fun f => hc _ (by intro t e; cases e)
    have h9 := hd 9 (by kernel_rfl)
    have h10 : ρ (.tmp 10) = .slice A5 8 c5 := hd 10 (by kernel_rfl)
    obtain ⟨b9, e9, hy9⟩ := h9
    obtain ⟨A', c', w', hr, hb2, his⟩ := grow_one (T := 22) Try.underlying22 info8 hy9 ((HBY.out.below (hb.mono HB1.out)).more (Nat.le_trans HB1.out hb.size)) c5 (be_len n 8)
    exact Lin.Runs.made (by unfold execOp; simp only [resolve, invoke, builtin, Sem.run_bind, Sem.run_pure, Result.andThen_ok, List.map_toArray, List.map_cons, List.map_nil, e9, h10, hr]) hb2 his
  · intro ρ wq hb ho hc hd
    have hC : ∀ v, ρ (.const v) = v := fun v => hc _ (by intro t e; cases e)
    have hF : ∀ f, ρ (.func f) = .func (.func f) #[] #[] := fun f => hc _ (by intro t e; cases e)
    have h8 : ρ (.tmp 8) = .agg cs := hd 8 (by kernel_rfl)
    have h11 := hd 11 (by kernel_rfl)
    obtain ⟨A2, c2, e2, l2, b2, r2, r3, _⟩ := h11
    refine Lin.Runs.call Lin.keeps (f := 61) (args := #[.agg cs, .slice A2 9 c2]) (by simp [execOp, go_sem, hC, hF, h8, e2]) ?_
    have h := rsum_any key ([1] ++ be n 8) cs A2 9 c2 wq HCS.out HKL.out HKO.out b2 l2 r2 (Octets.app (Octets.ofAll (by decide)) (be_ok _ _)) (by omega) r3
    rw [S1.out] at h
    exact h.mono fun e w2 ⟨he, hb2⟩ => ⟨_, he, hb2, rfl⟩
  · intro ρ wq hb ho hc hd
    have hC : ∀ v, ρ (.const v) = v := fun v => hc _ (by intro t e; cases e)
    have hF : ∀ f, ρ (.func f) = .func (.func f) #[] #[] := fun f => hc _ (by intro t e; cases e)
    have h2 : ρ (.tmp 2) = .pointer (some ⟨w.heap.size, 0, none⟩) := ho 2 (by kernel_rfl)
    exact Lin.Runs.load_row Lin.keeps 36 (.tmp 2) rfl w.heap.size h2 36 cs (HI.out.below hb HI.out.lt) _ Try.underlying36 rfl (by rw [HSZ.out]; kernel_rfl) rfl
  · intro ρ wq hb ho hc hd
    have hC : ∀ v, ρ (.const v) = v := fun v => hc _ (by intro t e; cases e)
    have hF : ∀ f, ρ (.func f) = .func (.func f) #[] #[] := fun f => hc _ (by intro t e; cases e)
    refine Lin.Runs.made (v := .slice (some ⟨wq.heap.size, 0, none⟩) 1 1) (w' := wq.alloc (.cells #[.int .u8 2] 5)) (by simp [execOp, go_sem, hC, hF]) ((Below.refl _ _).alloc (Nat.le_refl _) _) (oneb_new wq 2)
  · intro ρ wq hb ho hc hd
    have hC : ∀ v, ρ (.const v) = v := fun v => hc _ (by intro t e; cases e)
    have hF : ∀ f, ρ (.func f) = .func (.func f) #[] #[] := fun f => hc _ (by intro t e; cases e)
    have h5 : ρ (.tmp 5) = .slice A5 8 c5 := ho 5 (by kernel_rfl)
    exact Lin.Runs.value Lin.keeps (Lin.exec_move rfl) h5
  · intro ρ wq hb ho hc hd
    have hC : ∀ v, ρ (.const v) = v := fun v => hc _ (by intro t e; cases e)
    have hF : ∀ f, ρ (.func f) = .func (.func f) #[] #[] := fun f => hc _ (by intro t e; cases e)
    have h14 := hd 14 (by kernel_rfl)
    have h15 : ρ (.tmp 15) = .slice A5 8 c5 := hd 15 (by kernel_rfl)
    obtain ⟨b9, e9, hy9⟩ := h14
    obtain ⟨A', c', w', hr, hb2, his⟩ := grow_one (T := 22) Try.underlying22 info8 hy9 ((HBY.out.below (hb.mono HB1.out)).more (Nat.le_trans HB1.out hb.size)) c5 (be_len n 8)
    exact Lin.Runs.made (by unfold execOp; simp only [resolve, invoke, builtin, Sem.run_bind, Sem.run_pure, Result.andThen_ok, List.map_toArray, List.map_cons, List.map_nil, e9, h15, hr]) hb2 his
  · intro ρ wq hb ho hc hd
    have hC : ∀ v, ρ (.const v) = v := fun v => hc _ (by intro t e; cases e)
    have hF : ∀ f, ρ (.func f) = .func (.func f) #[] #[] := fun f => hc _ (by intro t e; cases e)
    have h13 : ρ (.tmp 13) = .agg cs := hd 13 (by kernel_rfl)
    have h16 := hd 16 (by kernel_rfl)
    obtain ⟨A2, c2, e2, l2, b2, r2, r3, _⟩ := h16
    refine Lin.Runs.call Lin.keeps (f := 61) (args := #[.agg cs, .slice A2 9 c2]) (by simp [execOp, go_sem, hC, hF, h13, e2]) ?_
    have h := rsum_any key ([2] ++ be n 8) cs A2 9 c2 wq HCS.out HKL.out HKO.out b2 l2 r2 (Octets.app (Octets.ofAll (by decide)) (be_ok _ _)) (by omega) r3
    rw [S2.out] at h
    exact h.mono fun e w2 ⟨he, hb2⟩ => ⟨_, he, hb2, rfl⟩
  · intro ρ wq hb ho hc hd
    have hC : ∀ v, ρ (.const v) = v := fun v => hc _ (by intro t e; cases e)
    have hF : ∀ f, ρ (.func f) = .func (.func f) #[] #[] := fun f => hc _ (by intro t e; cases e)
    have h12 : ρ (.tmp 12) = .int .u64 (s1 : Int) := hd 12 (by kernel_rfl)
    have h17 : ρ (.tmp 17) = .int .u64 (s2 : Int) := hd 17 (by kernel_rfl)
    refine Lin.Runs.call Lin.keeps (f := 129) (args := #[.int .u64 (s1 : Int), .int .u64 (s2 : Int)]) (by simp [execOp, go_sem, hC, hF, h12, h17]) ?_
    exact (rof_any s1 s2 wq S1L.out S2L.out).mono fun e w2 ⟨he, hb2⟩ => ⟨_, he, hb2, rfl⟩
  · intro vals w2 hb2 hv
    have e18 : vals 18 = .agg (u8s (kof s1 s2)).toArray := hv 18 (by kernel_rfl)
    change wpList _ _ _ [_] _ _
    simp only [Lin.putAll, Option.getD_some, List.take_succ_cons, List.take_zero, List.drop_succ_cons, List.drop_zero]
    rw [e18]
    have J0 := Lib.hid (I1.out.below hb2 I1.out.lt); have HBW := Lib.hid (HBE.out.trans (hb2.mono HBE.out.size)); have KSZ : Hid ((u8s (kof s1 s2)).toArray.size = 16) := hide (by simp [u8s, kof_len])
    clear hv hb2 e18
    go_simp
    generalize vals = vv
    go_wp2_with (with_reducible show wpList _ _ _ (⟨none, _, _, _, _, _⟩ :: _) _ _; go_loud (refine Go.wpList_store_row rfl 36 (.tmp 4) (.tmp 18) rfl (w.heap.size + 1) (u8s (kof s1 s2)).toArray rfl rfl 36 (u8s (List.replicate 16 0)).toArray (is_raw J0.out) (by rw [KSZ.out]; kernel_rfl) (by rw [KSZ.out]; simp [u8s]) (one_u8s _) ?_))
    refine bodyPost_ret (v := .agg (u8s (kof s1 s2)).toArray) ?_ rfl ⟨rfl, below_setRow HBW.out (Nat.le_succ _) _⟩
    exact (results_cell_row Try.results111 _ _ (w.heap.size + 1) 36 (u8s (kof s1 s2)).toArray (0, 0) _ rfl (is_raw (is_row J0.out)) Try.underlying36 rfl (by rw [KSZ.out]; kernel_rfl))
end Go.Proofs.Ythjkjohmaemmiaa
