/-
  The number that any bytes begin with: first and Take of package varint, and Take of the reference. Helper of the claim VarintTakes. No condition.
-/
import Derived.Test.YtkgmgmlicgjfdaaVtk
import Derived.Test.YtkgmgmlicgjfdaaLin
import Derived.Test.YtkgmgmlicgjfdaaGrow
namespace Go.Proofs.Ytkgmgmlicgjfdaa
open Go.ChangeShapes Go.WideShapes Go.ChangeAt Go.RowKit
set_option linter.unusedVariables false
set_option maxRecDepth 100000
/-- How many bytes the number that l begins with has; 0: there is none. -/
def vpw (l : List Int) : Nat := (at0 l 0 / 64).toNat
def vsz (l : List Int) : Nat := if l.length = 0 ∨ l.length < 2 ^ vpw l then 0 else 2 ^ vpw l
def vmod (k : Nat) : Int := if k = 1 then 64 else if k = 2 then 16384 else if k = 4 then 1073741824 else 4611686018427387904
def vnum (l : List Int) : Int := if vsz l = 0 then 0 else numW (l.take (vsz l)) % vmod (vsz l)
theorem vpw_le {l : List Int} (ho : Octets l) : vpw l = 0 ∨ vpw l = 1 ∨ vpw l = 2 ∨ vpw l = 3 := by
  have h := ho 0; unfold vpw; omega
theorem vsz_le (l : List Int) : vsz l ≤ l.length := by unfold vsz; split <;> omega
theorem vnum_none {l : List Int} (h : vsz l = 0) : vnum l = 0 := by unfold vnum; rw [if_pos h]
theorem vnum_bd (l : List Int) : 0 ≤ vnum l := by
  unfold vnum vmod
  split
  · omega
  · repeat' split
    all_goals omega
theorem vsz_empty {l : List Int} (h : l.length = 0) : vsz l = 0 := by unfold vsz; rw [if_pos (.inl h)]
/-- A slice literal of one byte: its capacity is one. -/
def OneP (x : Int) (v : Value) (w : World) : Prop := ∃ b, v = .slice (some b) 1 1 ∧ Bytes w w.heap.size (some b) [x]
theorem OneP.st {x : Int} {v : Value} {w w' : World} (h : OneP x v w) (hb : Below w.heap.size w w') : OneP x v w' := by
  obtain ⟨b, e, hy⟩ := h
  exact ⟨b, e, (hy.below hb).more hb.size⟩
def OneB (x : Int) : Lin.Spec Lin.Keeps := ⟨OneP x, OneP.st⟩
theorem oneb_new (w : World) (x : Int) : OneP x (.slice (some ⟨w.heap.size, 0, none⟩) 1 1) (w.alloc (.cells #[.int .u8 x] 5)) :=
  ⟨_, rfl, by have := Bytes.one w x; rwa [show w.heap.size + 1 = (w.alloc (.cells #[.int .u8 x] 5)).heap.size from by simp] at this⟩
theorem bytes_at {w : World} {B : Nat} {b : Addr} {l : List Int} (h : Bytes w B (some b) l) : ∀ j u, (u8s l)[j]? = some u → w.cell? (b.add j) = some u := fun j u hj => by
  have hjl : j < l.length := by
    apply Decidable.byContradiction; intro hn'
    rw [List.getElem?_eq_none (by simp [u8s]; omega)] at hj; cases hj
  rw [u8s_get hjl] at hj; injection hj with hj; subst hj
  obtain ⟨b', off, e, _, hc⟩ := h.cells (by omega)
  injection e with e; subst e
  rw [addr_add]; exact hc j hjl
/-- Bytes appended to a literal of one byte: a new row. -/
theorem grow_one {P : Program} {t T : TypeId} {w : World} {b : Addr} {x : Int} {B1 B2 m : Nat} {A : Option Addr} {l : List Int} (ht : P.underlying t = some (.slice 5)) (hi : (P.info? 5).map (fun i => (i.zero, i.size, i.bytes)) = some (some (.int .u8 0), 1, 1))
    (h1 : Bytes w B1 (some b) [x]) (h2 : Bytes w B2 A l) (c : Nat) (hm : l.length = m + 1) (hmm : m ≤ 1000 := by omega) :
    ∃ A' c' w', (Builtin.append_ #[t, t] T #[.slice (some b) 1 1, .slice A (m + 1) c]).run P w = .ok (.slice A' (1 + (m + 1)) c') w' ∧ Below w.heap.size w w' ∧ IsB ([x] ++ l) (1 + (m + 1)) (.slice A' (1 + (m + 1)) c') w' := by
  obtain ⟨i, hi0, hz, hsz, hby⟩ := info_parts hi
  obtain ⟨b2, o2, rfl, _, _⟩ := h2.cells (by omega)
  obtain ⟨v', w', hr, hown, hg⟩ := run_append_arg_grows (P := P) (w := w) t T 5 i (.int .u8 0) 1 1 ht hi0 hz hsz hby rfl (by omega) b 1 1 (u8s [x]) (by simp [u8s]) (bytes_at h1) _ (m + 1) c (u8s l) (by simp [u8s, hm]) (bytes_at h2) (by omega) (by unfold maxLen; omega) (by omega)
  obtain ⟨A', c', rfl⟩ := own_shape hown
  have ho : OwnB w' w.heap.size (.slice A' (1 + (m + 1)) c') ([x] ++ l) := by
    unfold OwnB
    rw [List.length_append, ← u8s_app, hm]; exact hown
  exact ⟨A', c', w', hr, (Below.refl w.heap.size w).grown hg (Nat.le_refl _) (fun q hq => by cases hq), IsB.own ho⟩
theorem grow1 {P : Program} {t T : TypeId} {w : World} {v : Value} {x : Int} {B2 m : Nat} {A : Option Addr} {l : List Int} (ht : P.underlying t = some (.slice 5)) (hi : (P.info? 5).map (fun i => (i.zero, i.size, i.bytes)) = some (some (.int .u8 0), 1, 1))
    (h1 : OneP x v w) (h2 : Bytes w B2 A l) (c : Nat) (hm : l.length = m) (hmm : m ≤ 1000) :
    ∃ v' w', (Builtin.append_ #[t, t] T #[v, .slice A m c]).run P w = .ok v' w' ∧ Below w.heap.size w w' ∧ IsB ([x] ++ l) (1 + m) v' w' := by
  obtain ⟨b, rfl, hb⟩ := h1
  by_cases h0 : 0 < m
  · obtain ⟨k, rfl⟩ : ∃ k, m = k + 1 := ⟨m - 1, by omega⟩
    obtain ⟨A', c', w', h3, h4, h5⟩ := grow_one (T := T) ht hi hb h2 c hm (by omega)
    exact ⟨_, w', h3, h4, h5⟩
  · obtain ⟨i, hi0, hz, hsz, hby⟩ := info_parts hi
    obtain rfl : m = 0 := by omega
    obtain rfl : l = [] := List.eq_nil_of_length_eq_zero hm
    refine ⟨.slice (some b) 1 1, w, ?_, Below.refl _ _, _, _, rfl, rfl, hb, Nat.le_refl _, by unfold maxLen; omega, fun h => by cases h⟩
    cases A <;> simp [Builtin.append_, run_underlying ht, sizeOf, typeInfo, hi0, Builtin.lenOf, Builtin.firstCells, storeCells, loadCells, loadCellsFrom, Sem.run_pure]
theorem vn_eq0 (y0 : Int) (h0 : 0 ≤ y0 ∧ y0 ≤ 255) : numW [y0] % 64 = numW ([y0 % 64] ++ []) := by
  simp only [numW, List.foldl, List.cons_append, List.nil_append]; omega
theorem vt_eq0 {l : List Int} (ho : Octets l) (h : 1 ≤ l.length) : numW ([at0 l 0 % 64] ++ (l.drop 1).take 0) = numW (l.take 1) % 64 := by
  match l, h with
  | y0 :: t, _ =>
    have e := vn_eq0 y0 (ho 0)
    rw [show List.take 1 (y0 :: t) = [y0] from rfl, e]
    rfl
set_option maxHeartbeats 2000000 in
theorem vfirst_s0 (L : List Int) (A : Option Addr) (c : Nat) (w : World) (h : IsB L L.length (.slice A L.length c) w) (hok : Octets L) (hm : L.length ≤ 1000) (hq : at0 L 0 / 64 = 0) (hne : 0 < L.length) (hlt : L.length < 1) :
    Calls Try.prog 113 #[.slice A L.length c] w fun e w' => e = .returned (.tuple #[.int .u64 0, .int .i64 0, .bool false]) ∧ w = w' := by
  exfalso; omega
set_option maxHeartbeats 2000000 in
theorem vfirst_g0 (L : List Int) (A : Option Addr) (c : Nat) (w : World) (h : IsB L L.length (.slice A L.length c) w) (hok : Octets L) (hm : L.length ≤ 1000) (hq : at0 L 0 / 64 = 0) (hlen : 1 ≤ L.length) :
    Calls Try.prog 113 #[.slice A L.length c] w fun e w' => e = .returned (.tuple #[.int .u64 (numW (L.take 1) % 64), .int .i64 1, .bool true]) ∧ Below w.heap.size w w' := by
  obtain ⟨y0, y1⟩ := hok 0
  have hby : Bytes w w.heap.size A L := by obtain ⟨A', c', e, _, h, _⟩ := h; injection e with e; subst e; exact h
  obtain ⟨bl, ol, rfl, hbl, hcl⟩ := hby.cells (by omega)
  have dc : w.cell? ⟨bl, ol, none⟩ = some (.int .u8 (at0 L 0)) := hcl 0 (by omega)
  have hT1 := h.take (k := 1) (by omega)
  obtain ⟨N, hN⟩ := Int.eq_ofNat_of_zero_le (numW_bd (L.take 1)).1
  have n1 := (numW_bd (L.take 1)).2
  have hTL : (L.take 1).length = 1 := by rw [List.length_take]; omega
  have HTO := hide (hok.take 1)
  rw [hN] at n1 ⊢
  obtain ⟨xr, r1⟩ : ∃ xr : Int, (N : Int) % 64 = xr := ⟨_, rfl⟩
  have r2 : (N : Int).tmod 64 = xr := by rw [Int.tmod_eq_emod_of_nonneg (by omega)]; exact r1
  have xr0 : 0 ≤ xr ∧ xr < 64 := by omega
  obtain ⟨xr0, xr1⟩ := xr0
  rw [r1]
  clear n1 xr1
  have HNW := Lib.hid (show nw (L.take 1) 0 1 = (N : Int) from by unfold nw; rw [List.drop_zero, List.take_of_length_le (by omega)]; exact hN)
  have HT1 := hide hT1
  have HTL := Lib.hid hTL
  have l0 : ¬ (L.length : Int) = 0 := by omega
  have ls : ¬ (L.length : Int) < 1 := by omega
  have lz : 0 < L.length := by omega
  have lsz : 1 ≤ L.length := by omega
  have ls2 : (1 : Int) ≤ (L.length : Int) := by omega
  obtain ⟨q1, q2⟩ := h.caps
  unfold maxLen at q2
  have hL90 : L.length ≤ 90000 := by omega
  generalize L.take 1 = T at *
  clear h hby hT1 hN hTL hcl hok
  generalize at0 L 0 = y at *
  generalize L.length = len at *
  clear hlen
  go_enter Try.func113, Try.ntmps113
  go_wp2_with fail
  refine (read_q HT1.out (by omega)).mono ?_
  rintro e w1 ⟨g, rfl, h1⟩
  have R1 := hide h1; clear h1
  go_wp2_with fail
  refine (num_q 1 1 N R1.out HTO.out rfl (by rw [HTL.out]; exact Nat.le_refl _) (by omega) HNW.out).mono ?_
  rintro e w2 ⟨rfl, h1, _⟩
  have R2 := hide h1; clear h1 R1
  go_wp2_with fail
  refine (vbound 0 (by omega) _).mono ?_
  rintro e w3 ⟨rfl, rfl⟩
  rw [show vbd 0 = 64 from rfl]
  go_wp2_with fail
  go_ret3
  exact ⟨by first | rfl | simp, R2.out.bel⟩
set_option maxHeartbeats 2000000 in
theorem rtake_s0 (L : List Int) (A : Option Addr) (c : Nat) (w : World) (h : IsB L L.length (.slice A L.length c) w) (hok : Octets L) (hm : L.length ≤ 1000) (hq : at0 L 0 / 64 = 0) (hne : 0 < L.length) (hlt : L.length < 1) :
    Calls Try.prog 55 #[.slice A L.length c] w fun e w' => e = .returned (.tuple #[.int .u64 0, .int .i64 0]) ∧ w = w' := by
  exfalso; omega
set_option maxHeartbeats 2000000 in
theorem rtake_g0 (L : List Int) (A : Option Addr) (c : Nat) (w : World) (h : IsB L L.length (.slice A L.length c) w) (hok : Octets L) (hm : L.length ≤ 1000) (hq : at0 L 0 / 64 = 0) (hlen : 1 ≤ L.length) :
    Calls Try.prog 55 #[.slice A L.length c] w fun e w' => e = .returned (.tuple #[.int .u64 (numW (L.take 1) % 64), .int .i64 1]) ∧ Below w.heap.size w w' := by
  have HEQ := Lib.hid (vt_eq0 hok hlen)
  have HXO := Lib.hid (show Octets ([at0 L 0 % 64] ++ ((L.drop 1).take 0)) from (Octets.ofAll (by intro x hx; simp at hx; subst hx; have := hok 0; omega)).app ((hok.drop 1).take 0))
  have HXL := Lib.hid (show ([at0 L 0 % 64] ++ ((L.drop 1).take 0)).length = 1 from by rw [List.length_append, List.length_take, List.length_drop, List.length_singleton]; omega)
  obtain ⟨y0, y1⟩ := hok 0
  have hby : Bytes w w.heap.size A L := by obtain ⟨A', c', e, _, h, _⟩ := h; injection e with e; subst e; exact h
  obtain ⟨bl, ol, rfl, hbl, hcl⟩ := hby.cells (by omega)
  have dc : w.cell? ⟨bl, ol, none⟩ = some (.int .u8 (at0 L 0)) := hcl 0 (by omega)
  have HIL := hide h
  have l0 : ¬ (L.length : Int) = 0 := by omega
  have ls : ¬ (L.length : Int) < 1 := by omega
  have lz : 0 < L.length := by omega
  have lsz : 1 ≤ L.length := by omega
  have ls2 : (1 : Int) ≤ (L.length : Int) := by omega
  have l00 : (0 : Int) < (L.length : Int) := by omega
  clear h hby hcl hok
  generalize at0 L 0 = y at *
  generalize L.length = len at *
  have hq2 : y.tdiv 64 = 0 := by rw [Int.tdiv_eq_ediv_of_nonneg y0]; exact hq
  have tm : y.tmod 64 = y % 64 := Int.tmod_eq_emod_of_nonneg y0
  go_enter Try.func55, Try.ntmps55
  go_wp2_with fail
  refine (rpow 0 (by omega) 1 rfl _).mono ?_
  rintro e w1 ⟨rfl, rfl⟩
  go_wp2_with fail
  refine Lin.wp_region_lin Lin.keeps (n := 32)  (fun slotq => match slotq with | 20 => Lin.Spec.val (.slice (some ⟨bl, ol, none⟩) len c) | 21 => Lin.Spec.val (.pointer (some ⟨bl, ol, none⟩)) | 22 => Lin.Spec.val (.int .u8 y) | 23 => Lin.Spec.val (.int .u8 (y % 64)) | 24 => OneB (y % 64) | 25 => Lin.Spec.val (.slice (some ⟨bl, ol, none⟩) len c) | 26 => Lin.Spec.val (.int .i64 1) | 27 => Lin.Spec.sl ((L.drop 1).take 0) 0 | 28 => Lin.Spec.sl ([y % 64] ++ ((L.drop 1).take 0)) 1 | 5 => Lin.Spec.sl ([y % 64] ++ ((L.drop 1).take 0)) 1 | _ => Lin.Spec.any) (by kernel_rfl) rfl (by kernel_rfl) ⟨?_, ?_, ?_, ?_, ?_, ?_, ?_, ?_, ?_, ?_, trivial⟩ ?_
  · intro ρ wq hb ho hc hd
    have hC : ∀ v, ρ (.const v) = v := fun v => hc _ (by intro t e; cases e)
    have hF : ∀ f, ρ (.func f) = .func (.func f) #[] #[] := fun f => hc _ (by intro t e; cases e)
    have h0 : ρ (.tmp 0) = .slice (some ⟨bl, ol, none⟩) len c := ho 0 (by kernel_rfl)
    exact Lin.Runs.value Lin.keeps (Lin.exec_move rfl) h0
  · intro ρ wq hb ho hc hd
    have hC : ∀ v, ρ (.const v) = v := fun v => hc _ (by intro t e; cases e)
    have hF : ∀ f, ρ (.func f) = .func (.func f) #[] #[] := fun f => hc _ (by intro t e; cases e)
    have h20 : ρ (.tmp 20) = .slice (some ⟨bl, ol, none⟩) len c := hd 20 (by kernel_rfl)
    exact Lin.Runs.value Lin.keeps (v := .pointer (some ⟨bl, ol, none⟩)) (by simp [execOp, go_sem, hC, hF, h20, lz, l00]) rfl
  · intro ρ wq hb ho hc hd
    have hC : ∀ v, ρ (.const v) = v := fun v => hc _ (by intro t e; cases e)
    have hF : ∀ f, ρ (.func f) = .func (.func f) #[] #[] := fun f => hc _ (by intro t e; cases e)
    have h21 : ρ (.tmp 21) = .pointer (some ⟨bl, ol, none⟩) := hd 21 (by kernel_rfl)
    have dd := (hb.cell (p := ⟨bl, ol, none⟩) hbl).trans dc
    exact Lin.Runs.value Lin.keeps (v := .int .u8 y) (by simp [execOp, go_sem, hC, hF, h21, dd]) rfl
  · intro ρ wq hb ho hc hd
    have hC : ∀ v, ρ (.const v) = v := fun v => hc _ (by intro t e; cases e)
    have hF : ∀ f, ρ (.func f) = .func (.func f) #[] #[] := fun f => hc _ (by intro t e; cases e)
    have h22 : ρ (.tmp 22) = .int .u8 y := hd 22 (by kernel_rfl)
    exact Lin.Runs.value Lin.keeps (v := .int .u8 (y % 64)) (by simp [execOp, go_sem, hC, hF, h22, tm]) rfl
  · intro ρ wq hb ho hc hd
    have hC : ∀ v, ρ (.const v) = v := fun v => hc _ (by intro t e; cases e)
    have hF : ∀ f, ρ (.func f) = .func (.func f) #[] #[] := fun f => hc _ (by intro t e; cases e)
    have h23 : ρ (.tmp 23) = .int .u8 (y % 64) := hd 23 (by kernel_rfl)
    exact Lin.Runs.made (v := .slice (some ⟨wq.heap.size, 0, none⟩) 1 1) (w' := wq.alloc (.cells #[.int .u8 (y % 64)] 5)) (by simp [execOp, go_sem, hC, hF, h23]) ((Below.refl _ _).alloc (Nat.le_refl _) _) (oneb_new wq _)
  · intro ρ wq hb ho hc hd
    have hC : ∀ v, ρ (.const v) = v := fun v => hc _ (by intro t e; cases e)
    have hF : ∀ f, ρ (.func f) = .func (.func f) #[] #[] := fun f => hc _ (by intro t e; cases e)
    have h0 : ρ (.tmp 0) = .slice (some ⟨bl, ol, none⟩) len c := ho 0 (by kernel_rfl)
    exact Lin.Runs.value Lin.keeps (Lin.exec_move rfl) h0
  · intro ρ wq hb ho hc hd
    have hC : ∀ v, ρ (.const v) = v := fun v => hc _ (by intro t e; cases e)
    have hF : ∀ f, ρ (.func f) = .func (.func f) #[] #[] := fun f => hc _ (by intro t e; cases e)
    have h4 : ρ (.tmp 4) = .int .i64 1 := ho 4 (by kernel_rfl)
    exact Lin.Runs.value Lin.keeps (Lin.exec_move rfl) h4
  · intro ρ wq hb ho hc hd
    have hC : ∀ v, ρ (.const v) = v := fun v => hc _ (by intro t e; cases e)
    have hF : ∀ f, ρ (.func f) = .func (.func f) #[] #[] := fun f => hc _ (by intro t e; cases e)
    have h25 : ρ (.tmp 25) = .slice (some ⟨bl, ol, none⟩) len c := hd 25 (by kernel_rfl)
    have h26 : ρ (.tmp 26) = .int .i64 1 := hd 26 (by kernel_rfl)
    have hx := HIL.out.st hb
    obtain ⟨q1, q2⟩ := hx.caps
    exact Lin.Runs.value Lin.keeps (run_sl2 _ ρ wq (.tmp 25) (.const (.int .i64 1)) (.tmp 26) rfl (i := 1) (k := 0) h25 (hC _) h26 (by omega) q1 q2) (hx.part (by omega))
  · intro ρ wq hb ho hc hd
    have hC : ∀ v, ρ (.const v) = v := fun v => hc _ (by intro t e; cases e)
    have hF : ∀ f, ρ (.func f) = .func (.func f) #[] #[] := fun f => hc _ (by intro t e; cases e)
    have h24 := hd 24 (by kernel_rfl)
    have h27 := hd 27 (by kernel_rfl)
    obtain ⟨A27, c27, e27, l27, b27, _⟩ := h27
    obtain ⟨v9, w9, hr, hb2, his⟩ := grow1 (T := 22) Try.underlying22 info8 h24 b27 c27 l27 (by omega)
    exact Lin.Runs.made (by unfold execOp; simp only [resolve, invoke, builtin, Sem.run_bind, Sem.run_pure, Result.andThen_ok, List.map_toArray, List.map_cons, List.map_nil, e27, hr]) hb2 his
  · intro ρ wq hb ho hc hd
    have hC : ∀ v, ρ (.const v) = v := fun v => hc _ (by intro t e; cases e)
    have hF : ∀ f, ρ (.func f) = .func (.func f) #[] #[] := fun f => hc _ (by intro t e; cases e)
    have h28 := hd 28 (by kernel_rfl)
    exact Lin.Runs.value Lin.keeps (Lin.exec_assign rfl) h28
  · intro vals w5 hb2 hv
    have h5 := hv 5 (by kernel_rfl)
    have HB2 := Lib.hid hb2
    clear hv hb2
    obtain ⟨A5, c5, e5⟩ := IsB.shape h5
    rw [e5] at h5
    have H5 := hide h5
    clear h5
    simp only [Lin.putAll, Option.getD_some]
    rw [e5]
    go_simp
    generalize vals = vv
    go_wp2_with fail
    refine (rnum_p H5.out HXO.out (by rw [HXL.out]; omega)).mono ?_
    rintro e w6 ⟨rfl, rfl⟩
    rw [HEQ.out]
    go_wp2_with fail
    go_ret2
    exact ⟨rfl, HB2.out⟩
theorem vn_eq1 (y0 y1 : Int) (h0 : 0 ≤ y0 ∧ y0 ≤ 255) (h1 : 0 ≤ y1 ∧ y1 ≤ 255) : numW [y0, y1] % 16384 = numW ([y0 % 64] ++ [y1]) := by
  simp only [numW, List.foldl, List.cons_append, List.nil_append]; omega
theorem vt_eq1 {l : List Int} (ho : Octets l) (h : 2 ≤ l.length) : numW ([at0 l 0 % 64] ++ (l.drop 1).take 1) = numW (l.take 2) % 16384 := by
  match l, h with
  | y0 :: y1 :: t, _ =>
    have e := vn_eq1 y0 y1 (ho 0) (ho 1)
    rw [show List.take 2 (y0 :: y1 :: t) = [y0, y1] from rfl, e]
    rfl
set_option maxHeartbeats 2000000 in
theorem vfirst_s1 (L : List Int) (A : Option Addr) (c : Nat) (w : World) (h : IsB L L.length (.slice A L.length c) w) (hok : Octets L) (hm : L.length ≤ 1000) (hq : at0 L 0 / 64 = 1) (hne : 0 < L.length) (hlt : L.length < 2) :
    Calls Try.prog 113 #[.slice A L.length c] w fun e w' => e = .returned (.tuple #[.int .u64 0, .int .i64 0, .bool false]) ∧ w = w' := by
  have hy := hok 0
  have hby : Bytes w w.heap.size A L := by obtain ⟨A', c', e, _, h, _⟩ := h; injection e with e; subst e; exact h
  obtain ⟨bl, ol, rfl, hbl, hcl⟩ := hby.cells (by omega)
  have dc : w.cell? ⟨bl, ol, none⟩ = some (.int .u8 (at0 L 0)) := hcl 0 (by omega)
  have l0 : ¬ (L.length : Int) = 0 := by omega
  have ls : (L.length : Int) < 2 := by omega
  have lz : 0 < L.length := by omega
  obtain ⟨y0, y1⟩ := hy
  clear h hcl hby hok
  generalize at0 L 0 = y at *
  generalize L.length = len at *
  go_enter Try.func113, Try.ntmps113
  go_wp2_with fail
  go_ret3
  exact ⟨rfl, rfl⟩
set_option maxHeartbeats 2000000 in
theorem vfirst_g1 (L : List Int) (A : Option Addr) (c : Nat) (w : World) (h : IsB L L.length (.slice A L.length c) w) (hok : Octets L) (hm : L.length ≤ 1000) (hq : at0 L 0 / 64 = 1) (hlen : 2 ≤ L.length) :
    Calls Try.prog 113 #[.slice A L.length c] w fun e w' => e = .returned (.tuple #[.int .u64 (numW (L.take 2) % 16384), .int .i64 2, .bool true]) ∧ Below w.heap.size w w' := by
  obtain ⟨y0, y1⟩ := hok 0
  have hby : Bytes w w.heap.size A L := by obtain ⟨A', c', e, _, h, _⟩ := h; injection e with e; subst e; exact h
  obtain ⟨bl, ol, rfl, hbl, hcl⟩ := hby.cells (by omega)
  have dc : w.cell? ⟨bl, ol, none⟩ = some (.int .u8 (at0 L 0)) := hcl 0 (by omega)
  have hT1 := h.take (k := 2) (by omega)
  obtain ⟨N, hN⟩ := Int.eq_ofNat_of_zero_le (numW_bd (L.take 2)).1
  have n1 := (numW_bd (L.take 2)).2
  have hTL : (L.take 2).length = 2 := by rw [List.length_take]; omega
  have HTO := hide (hok.take 2)
  rw [hN] at n1 ⊢
  obtain ⟨xr, r1⟩ : ∃ xr : Int, (N : Int) % 16384 = xr := ⟨_, rfl⟩
  have r2 : (N : Int).tmod 16384 = xr := by rw [Int.tmod_eq_emod_of_nonneg (by omega)]; exact r1
  have xr0 : 0 ≤ xr ∧ xr < 16384 := by omega
  obtain ⟨xr0, xr1⟩ := xr0
  rw [r1]
  clear n1 xr1
  have HNW := Lib.hid (show nw (L.take 2) 0 2 = (N : Int) from by unfold nw; rw [List.drop_zero, List.take_of_length_le (by omega)]; exact hN)
  have HT1 := hide hT1
  have HTL := Lib.hid hTL
  have l0 : ¬ (L.length : Int) = 0 := by omega
  have ls : ¬ (L.length : Int) < 2 := by omega
  have lz : 0 < L.length := by omega
  have lsz : 2 ≤ L.length := by omega
  have ls2 : (2 : Int) ≤ (L.length : Int) := by omega
  obtain ⟨q1, q2⟩ := h.caps
  unfold maxLen at q2
  have hL90 : L.length ≤ 90000 := by omega
  generalize L.take 2 = T at *
  clear h hby hT1 hN hTL hcl hok
  generalize at0 L 0 = y at *
  generalize L.length = len at *
  clear hlen
  go_enter Try.func113, Try.ntmps113
  go_wp2_with fail
  refine (read_q HT1.out (by omega)).mono ?_
  rintro e w1 ⟨g, rfl, h1⟩
  have R1 := hide h1; clear h1
  go_wp2_with fail
  refine (num_q 2 2 N R1.out HTO.out rfl (by rw [HTL.out]; exact Nat.le_refl _) (by omega) HNW.out).mono ?_
  rintro e w2 ⟨rfl, h1, _⟩
  have R2 := hide h1; clear h1 R1
  go_wp2_with fail
  refine (vbound 1 (by omega) _).mono ?_
  rintro e w3 ⟨rfl, rfl⟩
  rw [show vbd 1 = 16384 from rfl]
  go_wp2_with fail
  go_ret3
  exact ⟨by first | rfl | simp, R2.out.bel⟩
set_option maxHeartbeats 2000000 in
theorem rtake_s1 (L : List Int) (A : Option Addr) (c : Nat) (w : World) (h : IsB L L.length (.slice A L.length c) w) (hok : Octets L) (hm : L.length ≤ 1000) (hq : at0 L 0 / 64 = 1) (hne : 0 < L.length) (hlt : L.length < 2) :
    Calls Try.prog 55 #[.slice A L.length c] w fun e w' => e = .returned (.tuple #[.int .u64 0, .int .i64 0]) ∧ w = w' := by
  have hy := hok 0
  have hby : Bytes w w.heap.size A L := by obtain ⟨A', c', e, _, h, _⟩ := h; injection e with e; subst e; exact h
  obtain ⟨bl, ol, rfl, hbl, hcl⟩ := hby.cells (by omega)
  have dc : w.cell? ⟨bl, ol, none⟩ = some (.int .u8 (at0 L 0)) := hcl 0 (by omega)
  have l0 : ¬ (L.length : Int) = 0 := by omega
  have ls : (L.length : Int) < 2 := by omega
  have lz : 0 < L.length := by omega
  obtain ⟨y0, y1⟩ := hy
  clear h hcl hby hok
  generalize at0 L 0 = y at *
  generalize L.length = len at *
  have hq2 : y.tdiv 64 = 1 := by rw [Int.tdiv_eq_ediv_of_nonneg y0]; exact hq
  go_enter Try.func55, Try.ntmps55
  go_wp2_with fail
  refine (rpow 1 (by omega) 2 rfl _).mono ?_
  rintro e w1 ⟨rfl, rfl⟩
  go_wp2_with fail
  go_ret2
  exact ⟨rfl, rfl⟩
set_option maxHeartbeats 2000000 in
theorem rtake_g1 (L : List Int) (A : Option Addr) (c : Nat) (w : World) (h : IsB L L.length (.slice A L.length c) w) (hok : Octets L) (hm : L.length ≤ 1000) (hq : at0 L 0 / 64 = 1) (hlen : 2 ≤ L.length) :
    Calls Try.prog 55 #[.slice A L.length c] w fun e w' => e = .returned (.tuple #[.int .u64 (numW (L.take 2) % 16384), .int .i64 2]) ∧ Below w.heap.size w w' := by
  have HEQ := Lib.hid (vt_eq1 hok hlen)
  have HXO := Lib.hid (show Octets ([at0 L 0 % 64] ++ ((L.drop 1).take 1)) from (Octets.ofAll (by intro x hx; simp at hx; subst hx; have := hok 0; omega)).app ((hok.drop 1).take 1))
  have HXL := Lib.hid (show ([at0 L 0 % 64] ++ ((L.drop 1).take 1)).length = 2 from by rw [List.length_append, List.length_take, List.length_drop, List.length_singleton]; omega)
  obtain ⟨y0, y1⟩ := hok 0
  have hby : Bytes w w.heap.size A L := by obtain ⟨A', c', e, _, h, _⟩ := h; injection e with e; subst e; exact h
  obtain ⟨bl, ol, rfl, hbl, hcl⟩ := hby.cells (by omega)
  have dc : w.cell? ⟨bl, ol, none⟩ = some (.int .u8 (at0 L 0)) := hcl 0 (by omega)
  have HIL := hide h
  have l0 : ¬ (L.length : Int) = 0 := by omega
  have ls : ¬ (L.length : Int) < 2 := by omega
  have lz : 0 < L.length := by omega
  have lsz : 2 ≤ L.length := by omega
  have ls2 : (2 : Int) ≤ (L.length : Int) := by omega
  have l00 : (0 : Int) < (L.length : Int) := by omega
  clear h hby hcl hok
  generalize at0 L 0 = y at *
  generalize L.length = len at *
  have hq2 : y.tdiv 64 = 1 := by rw [Int.tdiv_eq_ediv_of_nonneg y0]; exact hq
  have tm : y.tmod 64 = y % 64 := Int.tmod_eq_emod_of_nonneg y0
  go_enter Try.func55, Try.ntmps55
  go_wp2_with fail
  refine (rpow 1 (by omega) 2 rfl _).mono ?_
  rintro e w1 ⟨rfl, rfl⟩
  go_wp2_with fail
  refine Lin.wp_region_lin Lin.keeps (n := 32)  (fun slotq => match slotq with | 20 => Lin.Spec.val (.slice (some ⟨bl, ol, none⟩) len c) | 21 => Lin.Spec.val (.pointer (some ⟨bl, ol, none⟩)) | 22 => Lin.Spec.val (.int .u8 y) | 23 => Lin.Spec.val (.int .u8 (y % 64)) | 24 => OneB (y % 64) | 25 => Lin.Spec.val (.slice (some ⟨bl, ol, none⟩) len c) | 26 => Lin.Spec.val (.int .i64 2) | 27 => Lin.Spec.sl ((L.drop 1).take 1) 1 | 28 => Lin.Spec.sl ([y % 64] ++ ((L.drop 1).take 1)) 2 | 5 => Lin.Spec.sl ([y % 64] ++ ((L.drop 1).take 1)) 2 | _ => Lin.Spec.any) (by kernel_rfl) rfl (by kernel_rfl) ⟨?_, ?_, ?_, ?_, ?_, ?_, ?_, ?_, ?_, ?_, trivial⟩ ?_
  · intro ρ wq hb ho hc hd
    have hC : ∀ v, ρ (.const v) = v := fun v => hc _ (by intro t e; cases e)
    have hF : ∀ f, ρ (.func f) = .func (.func f) #[] #[] := fun f => hc _ (by intro t e; cases e)
    have h0 : ρ (.tmp 0) = .slice (some ⟨bl, ol, none⟩) len c := ho 0 (by kernel_rfl)
    exact Lin.Runs.value Lin.keeps (Lin.exec_move rfl) h0
  · intro ρ wq hb ho hc hd
    have hC : ∀ v, ρ (.const v) = v := fun v => hc _ (by intro t e; cases e)
    have hF : ∀ f, ρ (.func f) = .func (.func f) #[] #[] := fun f => hc _ (by intro t e; cases e)
    have h20 : ρ (.tmp 20) = .slice (some ⟨bl, ol, none⟩) len c := hd 20 (by kernel_rfl)
    exact Lin.Runs.value Lin.keeps (v := .pointer (some ⟨bl, ol, none⟩)) (by simp [execOp, go_sem, hC, hF, h20, lz, l00]) rfl
  · intro ρ wq hb ho hc hd
    have hC : ∀ v, ρ (.const v) = v := fun v => hc _ (by intro t e; cases e)
    have hF : ∀ f, ρ (.func f) = .func (.func f) #[] #[] := fun f => hc _ (by intro t e; cases e)
    have h21 : ρ (.tmp 21) = .pointer (some ⟨bl, ol, none⟩) := hd 21 (by kernel_rfl)
    have dd := (hb.cell (p := ⟨bl, ol, none⟩) hbl).trans dc
    exact Lin.Runs.value Lin.keeps (v := .int .u8 y) (by simp [execOp, go_sem, hC, hF, h21, dd]) rfl
  · intro ρ wq hb ho hc hd
    have hC : ∀ v, ρ (.const v) = v := fun v => hc _ (by intro t e; cases e)
    have hF : ∀ f, ρ (.func f) = .func (.func f) #[] #[] := fun f => hc _ (by intro t e; cases e)
    have h22 : ρ (.tmp 22) = .int .u8 y := hd 22 (by kernel_rfl)
    exact Lin.Runs.value Lin.keeps (v := .int .u8 (y % 64)) (by simp [execOp, go_sem, hC, hF, h22, tm]) rfl
  · intro ρ wq hb ho hc hd
    have hC : ∀ v, ρ (.const v) = v := fun v => hc _ (by intro t e; cases e)
    have hF : ∀ f, ρ (.func f) = .func (.func f) #[] #[] := fun f => hc _ (by intro t e; cases e)
    have h23 : ρ (.tmp 23) = .int .u8 (y % 64) := hd 23 (by kernel_rfl)
    exact Lin.Runs.made (v := .slice (some ⟨wq.heap.size, 0, none⟩) 1 1) (w' := wq.alloc (.cells #[.int .u8 (y % 64)] 5)) (by simp [execOp, go_sem, hC, hF, h23]) ((Below.refl _ _).alloc (Nat.le_refl _) _) (oneb_new wq _)
  · intro ρ wq hb ho hc hd
    have hC : ∀ v, ρ (.const v) = v := fun v => hc _ (by intro t e; cases e)
    have hF : ∀ f, ρ (.func f) = .func (.func f) #[] #[] := fun f => hc _ (by intro t e; cases e)
    have h0 : ρ (.tmp 0) = .slice (some ⟨bl, ol, none⟩) len c := ho 0 (by kernel_rfl)
    exact Lin.Runs.value Lin.keeps (Lin.exec_move rfl) h0
  · intro ρ wq hb ho hc hd
    have hC : ∀ v, ρ (.const v) = v := fun v => hc _ (by intro t e; cases e)
    have hF : ∀ f, ρ (.func f) = .func (.func f) #[] #[] := fun f => hc _ (by intro t e; cases e)
    have h4 : ρ (.tmp 4) = .int .i64 2 := ho 4 (by kernel_rfl)
    exact Lin.Runs.value Lin.keeps (Lin.exec_move rfl) h4
  · intro ρ wq hb ho hc hd
    have hC : ∀ v, ρ (.const v) = v := fun v => hc _ (by intro t e; cases e)
    have hF : ∀ f, ρ (.func f) = .func (.func f) #[] #[] := fun f => hc _ (by intro t e; cases e)
    have h25 : ρ (.tmp 25) = .slice (some ⟨bl, ol, none⟩) len c := hd 25 (by kernel_rfl)
    have h26 : ρ (.tmp 26) = .int .i64 2 := hd 26 (by kernel_rfl)
    have hx := HIL.out.st hb
    obtain ⟨q1, q2⟩ := hx.caps
    exact Lin.Runs.value Lin.keeps (run_sl2 _ ρ wq (.tmp 25) (.const (.int .i64 1)) (.tmp 26) rfl (i := 1) (k := 1) h25 (hC _) h26 (by omega) q1 q2) (hx.part (by omega))
  · intro ρ wq hb ho hc hd
    have hC : ∀ v, ρ (.const v) = v := fun v => hc _ (by intro t e; cases e)
    have hF : ∀ f, ρ (.func f) = .func (.func f) #[] #[] := fun f => hc _ (by intro t e; cases e)
    have h24 := hd 24 (by kernel_rfl)
    have h27 := hd 27 (by kernel_rfl)
    obtain ⟨A27, c27, e27, l27, b27, _⟩ := h27
    obtain ⟨v9, w9, hr, hb2, his⟩ := grow1 (T := 22) Try.underlying22 info8 h24 b27 c27 l27 (by omega)
    exact Lin.Runs.made (by unfold execOp; simp only [resolve, invoke, builtin, Sem.run_bind, Sem.run_pure, Result.andThen_ok, List.map_toArray, List.map_cons, List.map_nil, e27, hr]) hb2 his
  · intro ρ wq hb ho hc hd
    have hC : ∀ v, ρ (.const v) = v := fun v => hc _ (by intro t e; cases e)
    have hF : ∀ f, ρ (.func f) = .func (.func f) #[] #[] := fun f => hc _ (by intro t e; cases e)
    have h28 := hd 28 (by kernel_rfl)
    exact Lin.Runs.value Lin.keeps (Lin.exec_assign rfl) h28
  · intro vals w5 hb2 hv
    have h5 := hv 5 (by kernel_rfl)
    have HB2 := Lib.hid hb2
    clear hv hb2
    obtain ⟨A5, c5, e5⟩ := IsB.shape h5
    rw [e5] at h5
    have H5 := hide h5
    clear h5
    simp only [Lin.putAll, Option.getD_some]
    rw [e5]
    go_simp
    generalize vals = vv
    go_wp2_with fail
    refine (rnum_p H5.out HXO.out (by rw [HXL.out]; omega)).mono ?_
    rintro e w6 ⟨rfl, rfl⟩
    rw [HEQ.out]
    go_wp2_with fail
    go_ret2
    exact ⟨rfl, HB2.out⟩
theorem vn_eq2 (y0 y1 y2 y3 : Int) (h0 : 0 ≤ y0 ∧ y0 ≤ 255) (h1 : 0 ≤ y1 ∧ y1 ≤ 255) (h2 : 0 ≤ y2 ∧ y2 ≤ 255) (h3 : 0 ≤ y3 ∧ y3 ≤ 255) : numW [y0, y1, y2, y3] % 1073741824 = numW ([y0 % 64] ++ [y1, y2, y3]) := by
  simp only [numW, List.foldl, List.cons_append, List.nil_append]; omega
theorem vt_eq2 {l : List Int} (ho : Octets l) (h : 4 ≤ l.length) : numW ([at0 l 0 % 64] ++ (l.drop 1).take 3) = numW (l.take 4) % 1073741824 := by
  match l, h with
  | y0 :: y1 :: y2 :: y3 :: t, _ =>
    have e := vn_eq2 y0 y1 y2 y3 (ho 0) (ho 1) (ho 2) (ho 3)
    rw [show List.take 4 (y0 :: y1 :: y2 :: y3 :: t) = [y0, y1, y2, y3] from rfl, e]
    rfl
set_option maxHeartbeats 2000000 in
theorem vfirst_s2 (L : List Int) (A : Option Addr) (c : Nat) (w : World) (h : IsB L L.length (.slice A L.length c) w) (hok : Octets L) (hm : L.length ≤ 1000) (hq : at0 L 0 / 64 = 2) (hne : 0 < L.length) (hlt : L.length < 4) :
    Calls Try.prog 113 #[.slice A L.length c] w fun e w' => e = .returned (.tuple #[.int .u64 0, .int .i64 0, .bool false]) ∧ w = w' := by
  have hy := hok 0
  have hby : Bytes w w.heap.size A L := by obtain ⟨A', c', e, _, h, _⟩ := h; injection e with e; subst e; exact h
  obtain ⟨bl, ol, rfl, hbl, hcl⟩ := hby.cells (by omega)
  have dc : w.cell? ⟨bl, ol, none⟩ = some (.int .u8 (at0 L 0)) := hcl 0 (by omega)
  have l0 : ¬ (L.length : Int) = 0 := by omega
  have ls : (L.length : Int) < 4 := by omega
  have lz : 0 < L.length := by omega
  obtain ⟨y0, y1⟩ := hy
  clear h hcl hby hok
  generalize at0 L 0 = y at *
  generalize L.length = len at *
  go_enter Try.func113, Try.ntmps113
  go_wp2_with fail
  go_ret3
  exact ⟨rfl, rfl⟩
set_option maxHeartbeats 2000000 in
theorem vfirst_g2 (L : List Int) (A : Option Addr) (c : Nat) (w : World) (h : IsB L L.length (.slice A L.length c) w) (hok : Octets L) (hm : L.length ≤ 1000) (hq : at0 L 0 / 64 = 2) (hlen : 4 ≤ L.length) :
    Calls Try.prog 113 #[.slice A L.length c] w fun e w' => e = .returned (.tuple #[.int .u64 (numW (L.take 4) % 1073741824), .int .i64 4, .bool true]) ∧ Below w.heap.size w w' := by
  obtain ⟨y0, y1⟩ := hok 0
  have hby : Bytes w w.heap.size A L := by obtain ⟨A', c', e, _, h, _⟩ := h; injection e with e; subst e; exact h
  obtain ⟨bl, ol, rfl, hbl, hcl⟩ := hby.cells (by omega)
  have dc : w.cell? ⟨bl, ol, none⟩ = some (.int .u8 (at0 L 0)) := hcl 0 (by omega)
  have hT1 := h.take (k := 4) (by omega)
  obtain ⟨N, hN⟩ := Int.eq_ofNat_of_zero_le (numW_bd (L.take 4)).1
  have n1 := (numW_bd (L.take 4)).2
  have hTL : (L.take 4).length = 4 := by rw [List.length_take]; omega
  have HTO := hide (hok.take 4)
  rw [hN] at n1 ⊢
  obtain ⟨xr, r1⟩ : ∃ xr : Int, (N : Int) % 1073741824 = xr := ⟨_, rfl⟩
  have r2 : (N : Int).tmod 1073741824 = xr := by rw [Int.tmod_eq_emod_of_nonneg (by omega)]; exact r1
  have xr0 : 0 ≤ xr ∧ xr < 1073741824 := by omega
  obtain ⟨xr0, xr1⟩ := xr0
  rw [r1]
  clear n1 xr1
  have HNW := Lib.hid (show nw (L.take 4) 0 4 = (N : Int) from by unfold nw; rw [List.drop_zero, List.take_of_length_le (by omega)]; exact hN)
  have HT1 := hide hT1
  have HTL := Lib.hid hTL
  have l0 : ¬ (L.length : Int) = 0 := by omega
  have ls : ¬ (L.length : Int) < 4 := by omega
  have lz : 0 < L.length := by omega
  have lsz : 4 ≤ L.length := by omega
  have ls2 : (4 : Int) ≤ (L.length : Int) := by omega
  obtain ⟨q1, q2⟩ := h.caps
  unfold maxLen at q2
  have hL90 : L.length ≤ 90000 := by omega
  generalize L.take 4 = T at *
  clear h hby hT1 hN hTL hcl hok
  generalize at0 L 0 = y at *
  generalize L.length = len at *
  clear hlen
  go_enter Try.func113, Try.ntmps113
  go_wp2_with fail
  refine (read_q HT1.out (by omega)).mono ?_
  rintro e w1 ⟨g, rfl, h1⟩
  have R1 := hide h1; clear h1
  go_wp2_with fail
  refine (num_q 4 4 N R1.out HTO.out rfl (by rw [HTL.out]; exact Nat.le_refl _) (by omega) HNW.out).mono ?_
  rintro e w2 ⟨rfl, h1, _⟩
  have R2 := hide h1; clear h1 R1
  go_wp2_with fail
  refine (vbound 2 (by omega) _).mono ?_
  rintro e w3 ⟨rfl, rfl⟩
  rw [show vbd 2 = 1073741824 from rfl]
  go_wp2_with fail
  go_ret3
  exact ⟨by first | rfl | simp, R2.out.bel⟩
set_option maxHeartbeats 2000000 in
theorem rtake_s2 (L : List Int) (A : Option Addr) (c : Nat) (w : World) (h : IsB L L.length (.slice A L.length c) w) (hok : Octets L) (hm : L.length ≤ 1000) (hq : at0 L 0 / 64 = 2) (hne : 0 < L.length) (hlt : L.length < 4) :
    Calls Try.prog 55 #[.slice A L.length c] w fun e w' => e = .returned (.tuple #[.int .u64 0, .int .i64 0]) ∧ w = w' := by
  have hy := hok 0
  have hby : Bytes w w.heap.size A L := by obtain ⟨A', c', e, _, h, _⟩ := h; injection e with e; subst e; exact h
  obtain ⟨bl, ol, rfl, hbl, hcl⟩ := hby.cells (by omega)
  have dc : w.cell? ⟨bl, ol, none⟩ = some (.int .u8 (at0 L 0)) := hcl 0 (by omega)
  have l0 : ¬ (L.length : Int) = 0 := by omega
  have ls : (L.length : Int) < 4 := by omega
  have lz : 0 < L.length := by omega
  obtain ⟨y0, y1⟩ := hy
  clear h hcl hby hok
  generalize at0 L 0 = y at *
  generalize L.length = len at *
  have hq2 : y.tdiv 64 = 2 := by rw [Int.tdiv_eq_ediv_of_nonneg y0]; exact hq
  go_enter Try.func55, Try.ntmps55
  go_wp2_with fail
  refine (rpow 2 (by omega) 4 rfl _).mono ?_
  rintro e w1 ⟨rfl, rfl⟩
  go_wp2_with fail
  go_ret2
  exact ⟨rfl, rfl⟩
set_option maxHeartbeats 2000000 in
theorem rtake_g2 (L : List Int) (A : Option Addr) (c : Nat) (w : World) (h : IsB L L.length (.slice A L.length c) w) (hok : Octets L) (hm : L.length ≤ 1000) (hq : at0 L 0 / 64 = 2) (hlen : 4 ≤ L.length) :
    Calls Try.prog 55 #[.slice A L.length c] w fun e w' => e = .returned (.tuple #[.int .u64 (numW (L.take 4) % 1073741824), .int .i64 4]) ∧ Below w.heap.size w w' := by
  have HEQ := Lib.hid (vt_eq2 hok hlen)
  have HXO := Lib.hid (show Octets ([at0 L 0 % 64] ++ ((L.drop 1).take 3)) from (Octets.ofAll (by intro x hx; simp at hx; subst hx; have := hok 0; omega)).app ((hok.drop 1).take 3))
  have HXL := Lib.hid (show ([at0 L 0 % 64] ++ ((L.drop 1).take 3)).length = 4 from by rw [List.length_append, List.length_take, List.length_drop, List.length_singleton]; omega)
  obtain ⟨y0, y1⟩ := hok 0
  have hby : Bytes w w.heap.size A L := by obtain ⟨A', c', e, _, h, _⟩ := h; injection e with e; subst e; exact h
  obtain ⟨bl, ol, rfl, hbl, hcl⟩ := hby.cells (by omega)
  have dc : w.cell? ⟨bl, ol, none⟩ = some (.int .u8 (at0 L 0)) := hcl 0 (by omega)
  have HIL := hide h
  have l0 : ¬ (L.length : Int) = 0 := by omega
  have ls : ¬ (L.length : Int) < 4 := by omega
  have lz : 0 < L.length := by omega
  have lsz : 4 ≤ L.length := by omega
  have ls2 : (4 : Int) ≤ (L.length : Int) := by omega
  have l00 : (0 : Int) < (L.length : Int) := by omega
  clear h hby hcl hok
  generalize at0 L 0 = y at *
  generalize L.length = len at *
  have hq2 : y.tdiv 64 = 2 := by rw [Int.tdiv_eq_ediv_of_nonneg y0]; exact hq
  have tm : y.tmod 64 = y % 64 := Int.tmod_eq_emod_of_nonneg y0
  go_enter Try.func55, Try.ntmps55
  go_wp2_with fail
  refine (rpow 2 (by omega) 4 rfl _).mono ?_
  rintro e w1 ⟨rfl, rfl⟩
  go_wp2_with fail
  refine Lin.wp_region_lin Lin.keeps (n := 32)  (fun slotq => match slotq with | 20 => Lin.Spec.val (.slice (some ⟨bl, ol, none⟩) len c) | 21 => Lin.Spec.val (.pointer (some ⟨bl, ol, none⟩)) | 22 => Lin.Spec.val (.int .u8 y) | 23 => Lin.Spec.val (.int .u8 (y % 64)) | 24 => OneB (y % 64) | 25 => Lin.Spec.val (.slice (some ⟨bl, ol, none⟩) len c) | 26 => Lin.Spec.val (.int .i64 4) | 27 => Lin.Spec.sl ((L.drop 1).take 3) 3 | 28 => Lin.Spec.sl ([y % 64] ++ ((L.drop 1).take 3)) 4 | 5 => Lin.Spec.sl ([y % 64] ++ ((L.drop 1).take 3)) 4 | _ => Lin.Spec.any) (by kernel_rfl) rfl (by kernel_rfl) ⟨?_, ?_, ?_, ?_, ?_, ?_, ?_, ?_, ?_, ?_, trivial⟩ ?_
  · intro ρ wq hb ho hc hd
    have hC : ∀ v, ρ (.const v) = v := fun v => hc _ (by intro t e; cases e)
    have hF : ∀ f, ρ (.func f) = .func (.func f) #[] #[] := fun f => hc _ (by intro t e; cases e)
    have h0 : ρ (.tmp 0) = .slice (some ⟨bl, ol, none⟩) len c := ho 0 (by kernel_rfl)
    exact Lin.Runs.value Lin.keeps (Lin.exec_move rfl) h0
  · intro ρ wq hb ho hc hd
    have hC : ∀ v, ρ (.const v) = v := fun v => hc _ (by intro t e; cases e)
    have hF : ∀ f, ρ (.func f) = .func (.func f) #[] #[] := fun f => hc _ (by intro t e; cases e)
    have h20 : ρ (.tmp 20) = .slice (some ⟨bl, ol, none⟩) len c := hd 20 (by kernel_rfl)
    exact Lin.Runs.value Lin.keeps (v := .pointer (some ⟨bl, ol, none⟩)) (by simp [execOp, go_sem, hC, hF, h20, lz, l00]) rfl
  · intro ρ wq hb ho hc hd
    have hC : ∀ v, ρ (.const v) = v := fun v => hc _ (by intro t e; cases e)
    have hF : ∀ f, ρ (.func f) = .func (.func f) #[] #[] := fun f => hc _ (by intro t e; cases e)
    have h21 : ρ (.tmp 21) = .pointer (some ⟨bl, ol, none⟩) := hd 21 (by kernel_rfl)
    have dd := (hb.cell (p := ⟨bl, ol, none⟩) hbl).trans dc
    exact Lin.Runs.value Lin.keeps (v := .int .u8 y) (by simp [execOp, go_sem, hC, hF, h21, dd]) rfl
  · intro ρ wq hb ho hc hd
    have hC : ∀ v, ρ (.const v) = v := fun v => hc _ (by intro t e; cases e)
    have hF : ∀ f, ρ (.func f) = .func (.func f) #[] #[] := fun f => hc _ (by intro t e; cases e)
    have h22 : ρ (.tmp 22) = .int .u8 y := hd 22 (by kernel_rfl)
    exact Lin.Runs.value Lin.keeps (v := .int .u8 (y % 64)) (by simp [execOp, go_sem, hC, hF, h22, tm]) rfl
  · intro ρ wq hb ho hc hd
    have hC : ∀ v, ρ (.const v) = v := fun v => hc _ (by intro t e; cases e)
    have hF : ∀ f, ρ (.func f) = .func (.func f) #[] #[] := fun f => hc _ (by intro t e; cases e)
    have h23 : ρ (.tmp 23) = .int .u8 (y % 64) := hd 23 (by kernel_rfl)
    exact Lin.Runs.made (v := .slice (some ⟨wq.heap.size, 0, none⟩) 1 1) (w' := wq.alloc (.cells #[.int .u8 (y % 64)] 5)) (by simp [execOp, go_sem, hC, hF, h23]) ((Below.refl _ _).alloc (Nat.le_refl _) _) (oneb_new wq _)
  · intro ρ wq hb ho hc hd
    have hC : ∀ v, ρ (.const v) = v := fun v => hc _ (by intro t e; cases e)
    have hF : ∀ f, ρ (.func f) = .func (.func f) #[] #[] := fun f => hc _ (by intro t e; cases e)
    have h0 : ρ (.tmp 0) = .slice (some ⟨bl, ol, none⟩) len c := ho 0 (by kernel_rfl)
    exact Lin.Runs.value Lin.keeps (Lin.exec_move rfl) h0
  · intro ρ wq hb ho hc hd
    have hC : ∀ v, ρ (.const v) = v := fun v => hc _ (by intro t e; cases e)
    have hF : ∀ f, ρ (.func f) = .func (.func f) #[] #[] := fun f => hc _ (by intro t e; cases e)
    have h4 : ρ (.tmp 4) = .int .i64 4 := ho 4 (by kernel_rfl)
    exact Lin.Runs.value Lin.keeps (Lin.exec_move rfl) h4
  · intro ρ wq hb ho hc hd
    have hC : ∀ v, ρ (.const v) = v := fun v => hc _ (by intro t e; cases e)
    have hF : ∀ f, ρ (.func f) = .func (.func f) #[] #[] := fun f => hc _ (by intro t e; cases e)
    have h25 : ρ (.tmp 25) = .slice (some ⟨bl, ol, none⟩) len c := hd 25 (by kernel_rfl)
    have h26 : ρ (.tmp 26) = .int .i64 4 := hd 26 (by kernel_rfl)
    have hx := HIL.out.st hb
    obtain ⟨q1, q2⟩ := hx.caps
    exact Lin.Runs.value Lin.keeps (run_sl2 _ ρ wq (.tmp 25) (.const (.int .i64 1)) (.tmp 26) rfl (i := 1) (k := 3) h25 (hC _) h26 (by omega) q1 q2) (hx.part (by omega))
  · intro ρ wq hb ho hc hd
    have hC : ∀ v, ρ (.const v) = v := fun v => hc _ (by intro t e; cases e)
    have hF : ∀ f, ρ (.func f) = .func (.func f) #[] #[] := fun f => hc _ (by intro t e; cases e)
    have h24 := hd 24 (by kernel_rfl)
    have h27 := hd 27 (by kernel_rfl)
    obtain ⟨A27, c27, e27, l27, b27, _⟩ := h27
    obtain ⟨v9, w9, hr, hb2, his⟩ := grow1 (T := 22) Try.underlying22 info8 h24 b27 c27 l27 (by omega)
    exact Lin.Runs.made (by unfold execOp; simp only [resolve, invoke, builtin, Sem.run_bind, Sem.run_pure, Result.andThen_ok, List.map_toArray, List.map_cons, List.map_nil, e27, hr]) hb2 his
  · intro ρ wq hb ho hc hd
    have hC : ∀ v, ρ (.const v) = v := fun v => hc _ (by intro t e; cases e)
    have hF : ∀ f, ρ (.func f) = .func (.func f) #[] #[] := fun f => hc _ (by intro t e; cases e)
    have h28 := hd 28 (by kernel_rfl)
    exact Lin.Runs.value Lin.keeps (Lin.exec_assign rfl) h28
  · intro vals w5 hb2 hv
    have h5 := hv 5 (by kernel_rfl)
    have HB2 := Lib.hid hb2
    clear hv hb2
    obtain ⟨A5, c5, e5⟩ := IsB.shape h5
    rw [e5] at h5
    have H5 := hide h5
    clear h5
    simp only [Lin.putAll, Option.getD_some]
    rw [e5]
    go_simp
    generalize vals = vv
    go_wp2_with fail
    refine (rnum_p H5.out HXO.out (by rw [HXL.out]; omega)).mono ?_
    rintro e w6 ⟨rfl, rfl⟩
    rw [HEQ.out]
    go_wp2_with fail
    go_ret2
    exact ⟨rfl, HB2.out⟩
theorem vn_eq3 (y0 y1 y2 y3 y4 y5 y6 y7 : Int) (h0 : 0 ≤ y0 ∧ y0 ≤ 255) (h1 : 0 ≤ y1 ∧ y1 ≤ 255) (h2 : 0 ≤ y2 ∧ y2 ≤ 255) (h3 : 0 ≤ y3 ∧ y3 ≤ 255) (h4 : 0 ≤ y4 ∧ y4 ≤ 255) (h5 : 0 ≤ y5 ∧ y5 ≤ 255) (h6 : 0 ≤ y6 ∧ y6 ≤ 255) (h7 : 0 ≤ y7 ∧ y7 ≤ 255) : numW [y0, y1, y2, y3, y4, y5, y6, y7] % 4611686018427387904 = numW ([y0 % 64] ++ [y1, y2, y3, y4, y5, y6, y7]) := by
  simp only [numW, List.foldl, List.cons_append, List.nil_append]; omega
theorem vt_eq3 {l : List Int} (ho : Octets l) (h : 8 ≤ l.length) : numW ([at0 l 0 % 64] ++ (l.drop 1).take 7) = numW (l.take 8) % 4611686018427387904 := by
  match l, h with
  | y0 :: y1 :: y2 :: y3 :: y4 :: y5 :: y6 :: y7 :: t, _ =>
    have e := vn_eq3 y0 y1 y2 y3 y4 y5 y6 y7 (ho 0) (ho 1) (ho 2) (ho 3) (ho 4) (ho 5) (ho 6) (ho 7)
    rw [show List.take 8 (y0 :: y1 :: y2 :: y3 :: y4 :: y5 :: y6 :: y7 :: t) = [y0, y1, y2, y3, y4, y5, y6, y7] from rfl, e]
    rfl
set_option maxHeartbeats 2000000 in
theorem vfirst_s3 (L : List Int) (A : Option Addr) (c : Nat) (w : World) (h : IsB L L.length (.slice A L.length c) w) (hok : Octets L) (hm : L.length ≤ 1000) (hq : at0 L 0 / 64 = 3) (hne : 0 < L.length) (hlt : L.length < 8) :
    Calls Try.prog 113 #[.slice A L.length c] w fun e w' => e = .returned (.tuple #[.int .u64 0, .int .i64 0, .bool false]) ∧ w = w' := by
  have hy := hok 0
  have hby : Bytes w w.heap.size A L := by obtain ⟨A', c', e, _, h, _⟩ := h; injection e with e; subst e; exact h
  obtain ⟨bl, ol, rfl, hbl, hcl⟩ := hby.cells (by omega)
  have dc : w.cell? ⟨bl, ol, none⟩ = some (.int .u8 (at0 L 0)) := hcl 0 (by omega)
  have l0 : ¬ (L.length : Int) = 0 := by omega
  have ls : (L.length : Int) < 8 := by omega
  have lz : 0 < L.length := by omega
  obtain ⟨y0, y1⟩ := hy
  clear h hcl hby hok
  generalize at0 L 0 = y at *
  generalize L.length = len at *
  go_enter Try.func113, Try.ntmps113
  go_wp2_with fail
  go_ret3
  exact ⟨rfl, rfl⟩
set_option maxHeartbeats 2000000 in
theorem vfirst_g3 (L : List Int) (A : Option Addr) (c : Nat) (w : World) (h : IsB L L.length (.slice A L.length c) w) (hok : Octets L) (hm : L.length ≤ 1000) (hq : at0 L 0 / 64 = 3) (hlen : 8 ≤ L.length) :
    Calls Try.prog 113 #[.slice A L.length c] w fun e w' => e = .returned (.tuple #[.int .u64 (numW (L.take 8) % 4611686018427387904), .int .i64 8, .bool true]) ∧ Below w.heap.size w w' := by
  obtain ⟨y0, y1⟩ := hok 0
  have hby : Bytes w w.heap.size A L := by obtain ⟨A', c', e, _, h, _⟩ := h; injection e with e; subst e; exact h
  obtain ⟨bl, ol, rfl, hbl, hcl⟩ := hby.cells (by omega)
  have dc : w.cell? ⟨bl, ol, none⟩ = some (.int .u8 (at0 L 0)) := hcl 0 (by omega)
  have hT1 := h.take (k := 8) (by omega)
  obtain ⟨N, hN⟩ := Int.eq_ofNat_of_zero_le (numW_bd (L.take 8)).1
  have n1 := (numW_bd (L.take 8)).2
  have hTL : (L.take 8).length = 8 := by rw [List.length_take]; omega
  have HTO := hide (hok.take 8)
  rw [hN] at n1 ⊢
  obtain ⟨xr, r1⟩ : ∃ xr : Int, (N : Int) % 4611686018427387904 = xr := ⟨_, rfl⟩
  have r2 : (N : Int).tmod 4611686018427387904 = xr := by rw [Int.tmod_eq_emod_of_nonneg (by omega)]; exact r1
  have xr0 : 0 ≤ xr ∧ xr < 4611686018427387904 := by omega
  obtain ⟨xr0, xr1⟩ := xr0
  rw [r1]
  clear n1 xr1
  have HNW := Lib.hid (show nw (L.take 8) 0 8 = (N : Int) from by unfold nw; rw [List.drop_zero, List.take_of_length_le (by omega)]; exact hN)
  have HT1 := hide hT1
  have HTL := Lib.hid hTL
  have l0 : ¬ (L.length : Int) = 0 := by omega
  have ls : ¬ (L.length : Int) < 8 := by omega
  have lz : 0 < L.length := by omega
  have lsz : 8 ≤ L.length := by omega
  have ls2 : (8 : Int) ≤ (L.length : Int) := by omega
  obtain ⟨q1, q2⟩ := h.caps
  unfold maxLen at q2
  have hL90 : L.length ≤ 90000 := by omega
  generalize L.take 8 = T at *
  clear h hby hT1 hN hTL hcl hok
  generalize at0 L 0 = y at *
  generalize L.length = len at *
  clear hlen
  go_enter Try.func113, Try.ntmps113
  go_wp2_with fail
  refine (read_q HT1.out (by omega)).mono ?_
  rintro e w1 ⟨g, rfl, h1⟩
  have R1 := hide h1; clear h1
  go_wp2_with fail
  refine (num_q 8 8 N R1.out HTO.out rfl (by rw [HTL.out]; exact Nat.le_refl _) (by omega) HNW.out).mono ?_
  rintro e w2 ⟨rfl, h1, _⟩
  have R2 := hide h1; clear h1 R1
  go_wp2_with fail
  refine (vbound 3 (by omega) _).mono ?_
  rintro e w3 ⟨rfl, rfl⟩
  rw [show vbd 3 = 4611686018427387904 from rfl]
  go_wp2_with fail
  go_ret3
  exact ⟨by first | rfl | simp, R2.out.bel⟩
set_option maxHeartbeats 2000000 in
theorem rtake_s3 (L : List Int) (A : Option Addr) (c : Nat) (w : World) (h : IsB L L.length (.slice A L.length c) w) (hok : Octets L) (hm : L.length ≤ 1000) (hq : at0 L 0 / 64 = 3) (hne : 0 < L.length) (hlt : L.length < 8) :
    Calls Try.prog 55 #[.slice A L.length c] w fun e w' => e = .returned (.tuple #[.int .u64 0, .int .i64 0]) ∧ w = w' := by
  have hy := hok 0
  have hby : Bytes w w.heap.size A L := by obtain ⟨A', c', e, _, h, _⟩ := h; injection e with e; subst e; exact h
  obtain ⟨bl, ol, rfl, hbl, hcl⟩ := hby.cells (by omega)
  have dc : w.cell? ⟨bl, ol, none⟩ = some (.int .u8 (at0 L 0)) := hcl 0 (by omega)
  have l0 : ¬ (L.length : Int) = 0 := by omega
  have ls : (L.length : Int) < 8 := by omega
  have lz : 0 < L.length := by omega
  obtain ⟨y0, y1⟩ := hy
  clear h hcl hby hok
  generalize at0 L 0 = y at *
  generalize L.length = len at *
  have hq2 : y.tdiv 64 = 3 := by rw [Int.tdiv_eq_ediv_of_nonneg y0]; exact hq
  go_enter Try.func55, Try.ntmps55
  go_wp2_with fail
  refine (rpow 3 (by omega) 8 rfl _).mono ?_
  rintro e w1 ⟨rfl, rfl⟩
  go_wp2_with fail
  go_ret2
  exact ⟨rfl, rfl⟩
set_option maxHeartbeats 2000000 in
theorem rtake_g3 (L : List Int) (A : Option Addr) (c : Nat) (w : World) (h : IsB L L.length (.slice A L.length c) w) (hok : Octets L) (hm : L.length ≤ 1000) (hq : at0 L 0 / 64 = 3) (hlen : 8 ≤ L.length) :
    Calls Try.prog 55 #[.slice A L.length c] w fun e w' => e = .returned (.tuple #[.int .u64 (numW (L.take 8) % 4611686018427387904), .int .i64 8]) ∧ Below w.heap.size w w' := by
  have HEQ := Lib.hid (vt_eq3 hok hlen)
  have HXO := Lib.hid (show Octets ([at0 L 0 % 64] ++ ((L.drop 1).take 7)) from (Octets.ofAll (by intro x hx; simp at hx; subst hx; have := hok 0; omega)).app ((hok.drop 1).take 7))
  have HXL := Lib.hid (show ([at0 L 0 % 64] ++ ((L.drop 1).take 7)).length = 8 from by rw [List.length_append, List.length_take, List.length_drop, List.length_singleton]; omega)
  obtain ⟨y0, y1⟩ := hok 0
  have hby : Bytes w w.heap.size A L := by obtain ⟨A', c', e, _, h, _⟩ := h; injection e with e; subst e; exact h
  obtain ⟨bl, ol, rfl, hbl, hcl⟩ := hby.cells (by omega)
  have dc : w.cell? ⟨bl, ol, none⟩ = some (.int .u8 (at0 L 0)) := hcl 0 (by omega)
  have HIL := hide h
  have l0 : ¬ (L.length : Int) = 0 := by omega
  have ls : ¬ (L.length : Int) < 8 := by omega
  have lz : 0 < L.length := by omega
  have lsz : 8 ≤ L.length := by omega
  have ls2 : (8 : Int) ≤ (L.length : Int) := by omega
  have l00 : (0 : Int) < (L.length : Int) := by omega
  clear h hby hcl hok
  generalize at0 L 0 = y at *
  generalize L.length = len at *
  have hq2 : y.tdiv 64 = 3 := by rw [Int.tdiv_eq_ediv_of_nonneg y0]; exact hq
  have tm : y.tmod 64 = y % 64 := Int.tmod_eq_emod_of_nonneg y0
  go_enter Try.func55, Try.ntmps55
  go_wp2_with fail
  refine (rpow 3 (by omega) 8 rfl _).mono ?_
  rintro e w1 ⟨rfl, rfl⟩
  go_wp2_with fail
  refine Lin.wp_region_lin Lin.keeps (n := 32)  (fun slotq => match slotq with | 20 => Lin.Spec.val (.slice (some ⟨bl, ol, none⟩) len c) | 21 => Lin.Spec.val (.pointer (some ⟨bl, ol, none⟩)) | 22 => Lin.Spec.val (.int .u8 y) | 23 => Lin.Spec.val (.int .u8 (y % 64)) | 24 => OneB (y % 64) | 25 => Lin.Spec.val (.slice (some ⟨bl, ol, none⟩) len c) | 26 => Lin.Spec.val (.int .i64 8) | 27 => Lin.Spec.sl ((L.drop 1).take 7) 7 | 28 => Lin.Spec.sl ([y % 64] ++ ((L.drop 1).take 7)) 8 | 5 => Lin.Spec.sl ([y % 64] ++ ((L.drop 1).take 7)) 8 | _ => Lin.Spec.any) (by kernel_rfl) rfl (by kernel_rfl) ⟨?_, ?_, ?_, ?_, ?_, ?_, ?_, ?_, ?_, ?_, trivial⟩ ?_
  · intro ρ wq hb ho hc hd
    have hC : ∀ v, ρ (.const v) = v := fun v => hc _ (by intro t e; cases e)
    have hF : ∀ f, ρ (.func f) = .func (.func f) #[] #[] := fun f => hc _ (by intro t e; cases e)
    have h0 : ρ (.tmp 0) = .slice (some ⟨bl, ol, none⟩) len c := ho 0 (by kernel_rfl)
    exact Lin.Runs.value Lin.keeps (Lin.exec_move rfl) h0
  · intro ρ wq hb ho hc hd
    have hC : ∀ v, ρ (.const v) = v := fun v => hc _ (by intro t e; cases e)
    have hF : ∀ f, ρ (.func f) = .func (.func f) #[] #[] := fun f => hc _ (by intro t e; cases e)
    have h20 : ρ (.tmp 20) = .slice (some ⟨bl, ol, none⟩) len c := hd 20 (by kernel_rfl)
    exact Lin.Runs.value Lin.keeps (v := .pointer (some ⟨bl, ol, none⟩)) (by simp [execOp, go_sem, hC, hF, h20, lz, l00]) rfl
  · intro ρ wq hb ho hc hd
    have hC : ∀ v, ρ (.const v) = v := fun v => hc _ (by intro t e; cases e)
    have hF : ∀ f, ρ (.func f) = .func (.func f) #[] #[] := fun f => hc _ (by intro t e; cases e)
    have h21 : ρ (.tmp 21) = .pointer (some ⟨bl, ol, none⟩) := hd 21 (by kernel_rfl)
    have dd := (hb.cell (p := ⟨bl, ol, none⟩) hbl).trans dc
    exact Lin.Runs.value Lin.keeps (v := .int .u8 y) (by simp [execOp, go_sem, hC, hF, h21, dd]) rfl
  · intro ρ wq hb ho hc hd
    have hC : ∀ v, ρ (.const v) = v := fun v => hc _ (by intro t e; cases e)
    have hF : ∀ f, ρ (.func f) = .func (.func f) #[] #[] := fun f => hc _ (by intro t e; cases e)
    have h22 : ρ (.tmp 22) = .int .u8 y := hd 22 (by kernel_rfl)
    exact Lin.Runs.value Lin.keeps (v := .int .u8 (y % 64)) (by simp [execOp, go_sem, hC, hF, h22, tm]) rfl
  · intro ρ wq hb ho hc hd
    have hC : ∀ v, ρ (.const v) = v := fun v => hc _ (by intro t e; cases e)
    have hF : ∀ f, ρ (.func f) = .func (.func f) #[] #[] := fun f => hc _ (by intro t e; cases e)
    have h23 : ρ (.tmp 23) = .int .u8 (y % 64) := hd 23 (by kernel_rfl)
    exact Lin.Runs.made (v := .slice (some ⟨wq.heap.size, 0, none⟩) 1 1) (w' := wq.alloc (.cells #[.int .u8 (y % 64)] 5)) (by simp [execOp, go_sem, hC, hF, h23]) ((Below.refl _ _).alloc (Nat.le_refl _) _) (oneb_new wq _)
  · intro ρ wq hb ho hc hd
    have hC : ∀ v, ρ (.const v) = v := fun v => hc _ (by intro t e; cases e)
    have hF : ∀ f, ρ (.func f) = .func (.func f) #[] #[] := fun f => hc _ (by intro t e; cases e)
    have h0 : ρ (.tmp 0) = .slice (some ⟨bl, ol, none⟩) len c := ho 0 (by kernel_rfl)
    exact Lin.Runs.value Lin.keeps (Lin.exec_move rfl) h0
  · intro ρ wq hb ho hc hd
    have hC : ∀ v, ρ (.const v) = v := fun v => hc _ (by intro t e; cases e)
    have hF : ∀ f, ρ (.func f) = .func (.func f) #[] #[] := fun f => hc _ (by intro t e; cases e)
    have h4 : ρ (.tmp 4) = .int .i64 8 := ho 4 (by kernel_rfl)
    exact Lin.Runs.value Lin.keeps (Lin.exec_move rfl) h4
  · intro ρ wq hb ho hc hd
    have hC : ∀ v, ρ (.const v) = v := fun v => hc _ (by intro t e; cases e)
    have hF : ∀ f, ρ (.func f) = .func (.func f) #[] #[] := fun f => hc _ (by intro t e; cases e)
    have h25 : ρ (.tmp 25) = .slice (some ⟨bl, ol, none⟩) len c := hd 25 (by kernel_rfl)
    have h26 : ρ (.tmp 26) = .int .i64 8 := hd 26 (by kernel_rfl)
    have hx := HIL.out.st hb
    obtain ⟨q1, q2⟩ := hx.caps
    exact Lin.Runs.value Lin.keeps (run_sl2 _ ρ wq (.tmp 25) (.const (.int .i64 1)) (.tmp 26) rfl (i := 1) (k := 7) h25 (hC _) h26 (by omega) q1 q2) (hx.part (by omega))
  · intro ρ wq hb ho hc hd
    have hC : ∀ v, ρ (.const v) = v := fun v => hc _ (by intro t e; cases e)
    have hF : ∀ f, ρ (.func f) = .func (.func f) #[] #[] := fun f => hc _ (by intro t e; cases e)
    have h24 := hd 24 (by kernel_rfl)
    have h27 := hd 27 (by kernel_rfl)
    obtain ⟨A27, c27, e27, l27, b27, _⟩ := h27
    obtain ⟨v9, w9, hr, hb2, his⟩ := grow1 (T := 22) Try.underlying22 info8 h24 b27 c27 l27 (by omega)
    exact Lin.Runs.made (by unfold execOp; simp only [resolve, invoke, builtin, Sem.run_bind, Sem.run_pure, Result.andThen_ok, List.map_toArray, List.map_cons, List.map_nil, e27, hr]) hb2 his
  · intro ρ wq hb ho hc hd
    have hC : ∀ v, ρ (.const v) = v := fun v => hc _ (by intro t e; cases e)
    have hF : ∀ f, ρ (.func f) = .func (.func f) #[] #[] := fun f => hc _ (by intro t e; cases e)
    have h28 := hd 28 (by kernel_rfl)
    exact Lin.Runs.value Lin.keeps (Lin.exec_assign rfl) h28
  · intro vals w5 hb2 hv
    have h5 := hv 5 (by kernel_rfl)
    have HB2 := Lib.hid hb2
    clear hv hb2
    obtain ⟨A5, c5, e5⟩ := IsB.shape h5
    rw [e5] at h5
    have H5 := hide h5
    clear h5
    simp only [Lin.putAll, Option.getD_some]
    rw [e5]
    go_simp
    generalize vals = vv
    go_wp2_with fail
    refine (rnum_p H5.out HXO.out (by rw [HXL.out]; omega)).mono ?_
    rintro e w6 ⟨rfl, rfl⟩
    rw [HEQ.out]
    go_wp2_with fail
    go_ret2
    exact ⟨rfl, HB2.out⟩
theorem vfirst_e (A : Option Addr) (c : Nat) (w : World) : Calls Try.prog 113 #[.slice A 0 c] w fun e w' => e = .returned (.tuple #[.int .u64 0, .int .i64 0, .bool false]) ∧ w = w' := by
  go_enter Try.func113, Try.ntmps113
  go_wp2_with fail
  go_ret3
  exact ⟨rfl, rfl⟩
theorem rtake_e (A : Option Addr) (c : Nat) (w : World) : Calls Try.prog 55 #[.slice A 0 c] w fun e w' => e = .returned (.tuple #[.int .u64 0, .int .i64 0]) ∧ w = w' := by
  go_enter Try.func55, Try.ntmps55
  go_wp2_with fail
  go_ret2
  exact ⟨rfl, rfl⟩
theorem vfirst (L : List Int) (n : Nat) (v : Value) (w : World) (h : IsB L n v w) (hok : Octets L) (hm : n ≤ 1000) :
    Calls Try.prog 113 #[v] w fun e w' => e = .returned (.tuple #[.int .u64 (vnum L), .int .i64 (vsz L : Nat), .bool (decide (vsz L ≠ 0))]) ∧ Below w.heap.size w w' := by
  obtain ⟨A, c, rfl⟩ := h.shape
  obtain rfl : L.length = n := by obtain ⟨_, _, _, e, _⟩ := h; exact e
  by_cases hn : L.length = 0
  · obtain rfl : L = [] := List.eq_nil_of_length_eq_zero hn
    exact (vfirst_e A c w).mono fun e w' ⟨h1, h2⟩ => ⟨by rw [h1]; rfl, by rw [h2]; exact Below.refl _ _⟩
  have h0 : 0 < L.length := by omega
  have hy := hok 0
  rcases vpw_le hok with hp | hp | hp | hp
  · by_cases hl : L.length < 1
    · have hs : vsz L = 0 := by unfold vsz; rw [hp]; exact if_pos (.inr hl)
      rw [vnum_none hs, hs]
      exact (vfirst_s0 L A c w h hok hm (by unfold vpw at hp; omega) h0 hl).mono fun e w' ⟨h1, h2⟩ => ⟨by rw [h1]; rfl, by rw [h2]; exact Below.refl _ _⟩
    · have hs : vsz L = 1 := by unfold vsz; rw [hp]; exact if_neg (by rintro (h | h); exact hn h; exact hl h)
      have hv : vnum L = numW (L.take 1) % 64 := by unfold vnum; rw [hs]; rfl
      rw [hv, hs]
      exact (vfirst_g0 L A c w h hok hm (by unfold vpw at hp; omega) (by omega)).mono fun e w' ⟨h1, h2⟩ => ⟨by rw [h1]; rfl, h2⟩
  · by_cases hl : L.length < 2
    · have hs : vsz L = 0 := by unfold vsz; rw [hp]; exact if_pos (.inr hl)
      rw [vnum_none hs, hs]
      exact (vfirst_s1 L A c w h hok hm (by unfold vpw at hp; omega) h0 hl).mono fun e w' ⟨h1, h2⟩ => ⟨by rw [h1]; rfl, by rw [h2]; exact Below.refl _ _⟩
    · have hs : vsz L = 2 := by unfold vsz; rw [hp]; exact if_neg (by rintro (h | h); exact hn h; exact hl h)
      have hv : vnum L = numW (L.take 2) % 16384 := by unfold vnum; rw [hs]; rfl
      rw [hv, hs]
      exact (vfirst_g1 L A c w h hok hm (by unfold vpw at hp; omega) (by omega)).mono fun e w' ⟨h1, h2⟩ => ⟨by rw [h1]; rfl, h2⟩
  · by_cases hl : L.length < 4
    · have hs : vsz L = 0 := by unfold vsz; rw [hp]; exact if_pos (.inr hl)
      rw [vnum_none hs, hs]
      exact (vfirst_s2 L A c w h hok hm (by unfold vpw at hp; omega) h0 hl).mono fun e w' ⟨h1, h2⟩ => ⟨by rw [h1]; rfl, by rw [h2]; exact Below.refl _ _⟩
    · have hs : vsz L = 4 := by unfold vsz; rw [hp]; exact if_neg (by rintro (h | h); exact hn h; exact hl h)
      have hv : vnum L = numW (L.take 4) % 1073741824 := by unfold vnum; rw [hs]; rfl
      rw [hv, hs]
      exact (vfirst_g2 L A c w h hok hm (by unfold vpw at hp; omega) (by omega)).mono fun e w' ⟨h1, h2⟩ => ⟨by rw [h1]; rfl, h2⟩
  · by_cases hl : L.length < 8
    · have hs : vsz L = 0 := by unfold vsz; rw [hp]; exact if_pos (.inr hl)
      rw [vnum_none hs, hs]
      exact (vfirst_s3 L A c w h hok hm (by unfold vpw at hp; omega) h0 hl).mono fun e w' ⟨h1, h2⟩ => ⟨by rw [h1]; rfl, by rw [h2]; exact Below.refl _ _⟩
    · have hs : vsz L = 8 := by unfold vsz; rw [hp]; exact if_neg (by rintro (h | h); exact hn h; exact hl h)
      have hv : vnum L = numW (L.take 8) % 4611686018427387904 := by unfold vnum; rw [hs]; rfl
      rw [hv, hs]
      exact (vfirst_g3 L A c w h hok hm (by unfold vpw at hp; omega) (by omega)).mono fun e w' ⟨h1, h2⟩ => ⟨by rw [h1]; rfl, h2⟩
theorem rtake (L : List Int) (n : Nat) (v : Value) (w : World) (h : IsB L n v w) (hok : Octets L) (hm : n ≤ 1000) :
    Calls Try.prog 55 #[v] w fun e w' => e = .returned (.tuple #[.int .u64 (vnum L), .int .i64 (vsz L : Nat)]) ∧ Below w.heap.size w w' := by
  obtain ⟨A, c, rfl⟩ := h.shape
  obtain rfl : L.length = n := by obtain ⟨_, _, _, e, _⟩ := h; exact e
  by_cases hn : L.length = 0
  · obtain rfl : L = [] := List.eq_nil_of_length_eq_zero hn
    exact (rtake_e A c w).mono fun e w' ⟨h1, h2⟩ => ⟨by rw [h1]; rfl, by rw [h2]; exact Below.refl _ _⟩
  have h0 : 0 < L.length := by omega
  have hy := hok 0
  rcases vpw_le hok with hp | hp | hp | hp
  · by_cases hl : L.length < 1
    · have hs : vsz L = 0 := by unfold vsz; rw [hp]; exact if_pos (.inr hl)
      rw [vnum_none hs, hs]
      exact (rtake_s0 L A c w h hok hm (by unfold vpw at hp; omega) h0 hl).mono fun e w' ⟨h1, h2⟩ => ⟨by rw [h1]; rfl, by rw [h2]; exact Below.refl _ _⟩
    · have hs : vsz L = 1 := by unfold vsz; rw [hp]; exact if_neg (by rintro (h | h); exact hn h; exact hl h)
      have hv : vnum L = numW (L.take 1) % 64 := by unfold vnum; rw [hs]; rfl
      rw [hv, hs]
      exact (rtake_g0 L A c w h hok hm (by unfold vpw at hp; omega) (by omega)).mono fun e w' ⟨h1, h2⟩ => ⟨by rw [h1]; rfl, h2⟩
  · by_cases hl : L.length < 2
    · have hs : vsz L = 0 := by unfold vsz; rw [hp]; exact if_pos (.inr hl)
      rw [vnum_none hs, hs]
      exact (rtake_s1 L A c w h hok hm (by unfold vpw at hp; omega) h0 hl).mono fun e w' ⟨h1, h2⟩ => ⟨by rw [h1]; rfl, by rw [h2]; exact Below.refl _ _⟩
    · have hs : vsz L = 2 := by unfold vsz; rw [hp]; exact if_neg (by rintro (h | h); exact hn h; exact hl h)
      have hv : vnum L = numW (L.take 2) % 16384 := by unfold vnum; rw [hs]; rfl
      rw [hv, hs]
      exact (rtake_g1 L A c w h hok hm (by unfold vpw at hp; omega) (by omega)).mono fun e w' ⟨h1, h2⟩ => ⟨by rw [h1]; rfl, h2⟩
  · by_cases hl : L.length < 4
    · have hs : vsz L = 0 := by unfold vsz; rw [hp]; exact if_pos (.inr hl)
      rw [vnum_none hs, hs]
      exact (rtake_s2 L A c w h hok hm (by unfold vpw at hp; omega) h0 hl).mono fun e w' ⟨h1, h2⟩ => ⟨by rw [h1]; rfl, by rw [h2]; exact Below.refl _ _⟩
    · have hs : vsz L = 4 := by unfold vsz; rw [hp]; exact if_neg (by rintro (h | h); exact hn h; exact hl h)
      have hv : vnum L = numW (L.take 4) % 1073741824 := by unfold vnum; rw [hs]; rfl
      rw [hv, hs]
      exact (rtake_g2 L A c w h hok hm (by unfold vpw at hp; omega) (by omega)).mono fun e w' ⟨h1, h2⟩ => ⟨by rw [h1]; rfl, h2⟩
  · by_cases hl : L.length < 8
    · have hs : vsz L = 0 := by unfold vsz; rw [hp]; exact if_pos (.inr hl)
      rw [vnum_none hs, hs]
      exact (rtake_s3 L A c w h hok hm (by unfold vpw at hp; omega) h0 hl).mono fun e w' ⟨h1, h2⟩ => ⟨by rw [h1]; rfl, by rw [h2]; exact Below.refl _ _⟩
    · have hs : vsz L = 8 := by unfold vsz; rw [hp]; exact if_neg (by rintro (h | h); exact hn h; exact hl h)
      have hv : vnum L = numW (L.take 8) % 4611686018427387904 := by unfold vnum; rw [hs]; rfl
      rw [hv, hs]
      exact (rtake_g3 L A c w h hok hm (by unfold vpw at hp; omega) (by omega)).mono fun e w' ⟨h1, h2⟩ => ⟨by rw [h1]; rfl, h2⟩
end Go.Proofs.Ytkgmgmlicgjfdaa
