/-
  Older of package ip4 at the chapter's example, and awake of layer 4. Helper of the claims of layer 4.
-/
import Derived.Test.YtmgendgfdhhgfaaQd
import Derived.Test.YtmgendgfdhhgfaaQk
namespace Go.Proofs.Ytmgendgfdhhgfaa
open Go.ChangeShapes Go.WideShapes Go.ChangeAt Go.RowKit
set_option linter.unusedSimpArgs false
set_option linter.unusedVariables false
set_option maxRecDepth 100000
def L21 : List Int := [69, 0, 0, 21, 0, 0, 0, 0, 64, 6, 122, 228, 0, 0, 0, 0, 0, 0, 0, 0, 1]
theorem L21_ok : Octets L21 := Octets.ofAll (by decide)
theorem L21_eq : hl4 0 0 21 0 (pl4 false false 0) 64 6 (ckof (hl4 0 0 21 0 (pl4 false false 0) 64 6 0 0 0 ++ [])) 0 0 ++ [] ++ [1] = L21 := by decide +kernel
theorem L21_hdr (vo : Value) : hdr4 L21 vo = hv4 0 21 0 false false 0 64 6 31460 false 0 0 false 0 0 vo := by
  unfold hdr4
  rw [show nw L21 1 1 = 0 from by decide +kernel, show nw L21 2 2 = 21 from by decide +kernel, show nw L21 4 2 = 0 from by decide +kernel, show nw L21 6 2 = 0 from by decide +kernel, show nw L21 8 1 = 64 from by decide +kernel, show nw L21 9 1 = 6 from by decide +kernel, show nw L21 10 2 = 31460 from by decide +kernel, show nw L21 12 4 = 0 from by decide +kernel, show nw L21 16 4 = 0 from by decide +kernel]
  rfl
theorem upd21 : S2.upd 31460 16390 16134 = 31716 := by decide +kernel
theorem splice_at (cur cs : List Value) (off k : Nat) (h : k < off) (hl : k < cur.length) : (splice cur off cs)[k]? = cur[k]? := by
  unfold splice
  rw [List.getElem?_append_left (by simp; omega), List.getElem?_take, if_pos h]
theorem splice_new (cur : List Value) (v : Value) (off : Nat) (hl : off < cur.length) : (splice cur off [v])[off]? = some v := by
  unfold splice
  rw [List.getElem?_append_right (by simp; omega)]
  simp [Nat.min_eq_left (Nat.le_of_lt hl)]
theorem IsB.bytes1 {l : List Int} {n c : Nat} {A : Option Addr} {w : World} (h : IsB l n (.slice A n c) w) : Bytes w w.heap.size A l := by
  obtain ⟨A', c', e, _, h, _⟩ := h; injection e with e; subst e; exact h
set_option maxHeartbeats 8000000 in
theorem older4 (A : Option Addr) (c : Nat) (w : World) (hv : IsB L21 21 (.slice A 21 c) w) : Calls Try.prog 59 #[.slice A 21 c] w fun e w' => ∃ g c', e = .returned (.tuple #[.slice (some ⟨g, 0, none⟩) 21 c', .int .i64 0]) ∧ Below w.heap.size w w' ∧ w'.cell? ⟨g, 8, none⟩ = some (.int .u8 63) := by
  have HP := hide (parse4_ok A c 21 L21 w hv L21_ok (by omega) (by omega) (by decide +kernel) (by decide +kernel) (by decide +kernel) (by decide +kernel) (by decide +kernel) (by decide +kernel))
  have HV0 := hide hv
  have o1 : bits .or .u16 16384 6 = 16390 := by decide +kernel
  clear hv
  go_enter Try.func59, Try.ntmps59
  go_wp2_with fail
  refine (unhide HP).mono ?_
  rintro e w1 ⟨vo, vl, rfl, hb, h3, h4⟩
  rw [L21_hdr]
  obtain ⟨Ao, co, rfl⟩ := h3.shape
  obtain ⟨Al, cl, rfl⟩ := h4.shape
  rw [show sz4 L21 - 20 = 0 from by decide +kernel] at *
  have HB := Lib.hid (hb.alloc hb.size (.cells #[.int .u8 0, .int .i64 21, .int .u16 0, .bool false, .bool false, .int .i64 0, .int .u8 64, .int .u8 6, .int .u16 31460, .bool false, .int .u64 0, .int .u64 0, .bool false, .int .u64 0, .int .u64 0, .slice Ao 0 co] 28))
  have H4 := hide (Is.new w1 28 #[.int .u8 0, .int .i64 21, .int .u16 0, .bool false, .bool false, .int .i64 0, .int .u8 64, .int .u8 6, .int .u16 31460, .bool false, .int .u64 0, .int .u64 0, .bool false, .int .u64 0, .int .u64 0, .slice Ao 0 co])
  have G4W := Lib.hid (show w.heap.size ≤ w1.heap.size from hb.size)
  clear hb h3 h4 HP
  unfold hv4
  go_wp2_with fail
  generalize w1.alloc (.cells #[.int .u8 0, .int .i64 21, .int .u16 0, .bool false, .bool false, .int .i64 0, .int .u8 64, .int .u8 6, .int .u16 31460, .bool false, .int .u64 0, .int .u64 0, .bool false, .int .u64 0, .int .u64 0, .slice Ao 0 co] 28) = W at *
  generalize w1.heap.size = g4 at *
  have CLO := hide (clone_k (HV0.out.st HB.out) (by omega))
  refine (unhide CLO).mono ?_
  rintro e w2 ⟨A8, c8, rfl, ho, hb⟩
  obtain ⟨g8, cap8, cur8, he8, hg8, hh8, hnc, hmx, hsz, htk⟩ : ∃ g cap, ∃ cur : Array Value, Value.slice A8 21 c8 = .slice (some ⟨g, 0, none⟩) 21 cap ∧ W.heap.size ≤ g ∧ w2.heap[g]? = some (.cells cur 5 (0, 0)) ∧ 21 ≤ cap ∧ cap ≤ maxLen ∧ cur.size = cap * 1 ∧ True := by
    rcases ho.2 with ⟨h0, _⟩ | ⟨g, cap, cur, h1, h2, h3, h4, h5, h6, _⟩
    · cases h0
    · exact ⟨g, cap, cur, h1, h2, h3, by have : L21.length = 21 := rfl; omega, h5, h6, trivial⟩
  injection he8 with e1 e2 e3
  subst e1; subst e3
  obtain ⟨curL, hcur⟩ : ∃ L : List Value, cur8 = L.toArray := ⟨cur8.toList, by simp⟩
  subst hcur
  have CLN := Lib.hid (show 21 ≤ curL.length from by have := hsz; simp at this; omega)
  have RW := hide hh8; have C8 := Lib.hid (show 21 ≤ c8 ∧ c8 ≤ maxLen from ⟨hnc, hmx⟩)
  have HBq := Lib.hid (HB.out.trans (hb.mono HB.out.size)); have G48 := Lib.hid (Nat.lt_of_lt_of_le H4.out.lt hg8); have G8W := Lib.hid (Nat.le_trans HB.out.size hg8)
  have H49 := hide (H4.out.below hb H4.out.lt)
  have G8L := Lib.hid (show g8 < w2.heap.size from Is.lt (cs := curL.toArray) hh8)
  clear H4 HB CLO ho hb hg8 hh8 hnc hmx hsz htk
  have H4 := H49
  clear H49
  have LG4 := Lib.hid H4.out.lt
  have z6 := H4.out.cell 6; have z7 := H4.out.cell 7; have z8 := H4.out.cell 8
  simp at z6 z7 z8
  have Z6 := Lib.hid z6; have Z8 := Lib.hid z8
  go_wp2_with fail
  clear z6 z7 z8
  refine Lin.wp_region_lin_tail Lin.keeps (n := 51) 7 (fun slotq => match slotq with | 31 => Lin.Spec.val (.slice (some ⟨g8, 0, none⟩) 21 c8) | 32 => Lin.Spec.val (.slice (some ⟨g8, 8, none⟩) 13 (c8 - 8)) | 33 => Lin.Spec.val (.pointer (some ⟨g4, 6, none⟩)) | 34 => Lin.Spec.val (.int .u8 64) | 35 => Lin.Spec.val (.int .u8 63) | 36 => Lin.Spec.val (.int .u64 63) | 37 => (Lin.Spec.own w2.heap.size [63] 1) | _ => Lin.Spec.any) (by kernel_rfl) rfl (by kernel_rfl) ⟨?_, ?_, ?_, ?_, ?_, ?_, ?_, trivial⟩ ?_
  · intro ρ wq hb ho hc hd
    have hC : ∀ v, ρ (.const v) = v := fun v => hc _ (by intro t e; cases e)
    have hF : ∀ f, ρ (.func f) = .func (.func f) #[] #[] := fun f => hc _ (by intro t e; cases e)
    have h8 : ρ (.tmp 8) = .slice (some ⟨g8, 0, none⟩) 21 c8 := ho 8 (by kernel_rfl)
    exact Lin.Runs.value Lin.keeps (Lin.exec_move rfl) h8
  · intro ρ wq hb ho hc hd
    have hC : ∀ v, ρ (.const v) = v := fun v => hc _ (by intro t e; cases e)
    have hF : ∀ f, ρ (.func f) = .func (.func f) #[] #[] := fun f => hc _ (by intro t e; cases e)
    have h31 : ρ (.tmp 31) = .slice (some ⟨g8, 0, none⟩) 21 c8 := hd 31 (by kernel_rfl)
    have ee : (if c8 = 8 then (some (⟨g8, 0, none⟩ : Addr)) else (some (⟨g8, 0, none⟩ : Addr)).map (·.add 8)) = some ⟨g8, 8, none⟩ := by rw [if_neg (by have := C8.out.1; omega)]; rfl
    exact Lin.Runs.value Lin.keeps (v := .slice (some ⟨g8, 8, none⟩) 13 (c8 - 8)) (Eq.trans (run_sl1 _ ρ wq (.tmp 31) (.const (.int .i64 8)) (by rfl) (i := 8) (n := 21) (c := c8) h31 (show ρ (.const (.int .i64 8)) = .int .i64 ((8 : Nat) : Int) from hC _) (by omega) C8.out.1 C8.out.2) (by rw [ee])) rfl
  · intro ρ wq hb ho hc hd
    have hC : ∀ v, ρ (.const v) = v := fun v => hc _ (by intro t e; cases e)
    have hF : ∀ f, ρ (.func f) = .func (.func f) #[] #[] := fun f => hc _ (by intro t e; cases e)
    have h4 : ρ (.tmp 4) = .pointer (some ⟨g4, 0, none⟩) := ho 4 (by kernel_rfl)
    exact Lin.Runs.value Lin.keeps (v := .pointer (some ⟨g4, 6, none⟩)) (by simp [execOp, go_sem, h4]) rfl
  · intro ρ wq hb ho hc hd
    have hC : ∀ v, ρ (.const v) = v := fun v => hc _ (by intro t e; cases e)
    have hF : ∀ f, ρ (.func f) = .func (.func f) #[] #[] := fun f => hc _ (by intro t e; cases e)
    have h33 : ρ (.tmp 33) = .pointer (some ⟨g4, 6, none⟩) := hd 33 (by kernel_rfl)
    have dd := (hb.cell (p := ⟨g4, 6, none⟩) LG4.out).trans Z6.out
    exact Lin.Runs.value Lin.keeps (v := .int .u8 64) (by simp [execOp, go_sem, h33, dd]) rfl
  · intro ρ wq hb ho hc hd
    have hC : ∀ v, ρ (.const v) = v := fun v => hc _ (by intro t e; cases e)
    have hF : ∀ f, ρ (.func f) = .func (.func f) #[] #[] := fun f => hc _ (by intro t e; cases e)
    have h34 : ρ (.tmp 34) = .int .u8 64 := hd 34 (by kernel_rfl)
    exact Lin.Runs.value Lin.keeps (v := .int .u8 63) (by simp [execOp, go_sem, hC, h34]; first | done | decide) rfl
  · intro ρ wq hb ho hc hd
    have hC : ∀ v, ρ (.const v) = v := fun v => hc _ (by intro t e; cases e)
    have hF : ∀ f, ρ (.func f) = .func (.func f) #[] #[] := fun f => hc _ (by intro t e; cases e)
    have h35 : ρ (.tmp 35) = .int .u8 63 := hd 35 (by kernel_rfl)
    exact Lin.Runs.value Lin.keeps (v := .int .u64 63) (by simp [execOp, go_sem, h35]; first | done | decide) rfl
  · intro ρ wq hb ho hc hd
    have hC : ∀ v, ρ (.const v) = v := fun v => hc _ (by intro t e; cases e)
    have hF : ∀ f, ρ (.func f) = .func (.func f) #[] #[] := fun f => hc _ (by intro t e; cases e)
    have h36 : ρ (.tmp 36) = .int .u64 63 := hd 36 (by kernel_rfl)
    exact Lin.Runs.call Lin.keeps (f := 91) (args := #[.slice none 0 0, .int .u64 63, .int .i64 1]) (by simp [execOp, go_sem, hC, hF, h36]) ((put_nil 63 1 1 wq (by omega) (by omega) (by omega) rfl).mono fun e w9 h => by obtain ⟨v, h1, h2, h3⟩ := h.ownp; exact ⟨v, h1, h3, h2.lowk hb.size⟩)
  · intro vals w5 hb2 hv
    have h37 := hv 37 (by kernel_rfl)
    obtain ⟨A9, c9, e9, ho9⟩ := h37
    have HO9 := hide ho9
    have e0 : vals 32 = .slice (some ⟨g8, 8, none⟩) 13 (c8 - 8) := hv 32 (by kernel_rfl)
    have HB5 := Lib.hid (HBq.out.trans (hb2.mono HBq.out.size)); have H45 := hide (H4.out.below hb2 H4.out.lt)
    have R5 : Hid (w5.heap[g8]? = some (.cells curL.toArray 5 (0, 0))) := hide ((hb2.block g8 G8L.out).trans RW.out)
    have G8N := Lib.hid (Nat.lt_of_lt_of_le G8L.out hb2.size)
    clear hb2 ho9 HBq H4 RW G8L LG4
    change wpList _ _ _ [_] _ _
    simp only [Lin.putAll, Option.getD_some, List.take_succ_cons, List.take_zero, List.drop_succ_cons, List.drop_zero]
    rw [e9, e0]
    clear e9 e0 hv
    go_simp
    generalize vals = vv
    go_wp2_with (
      (with_reducible show wpList _ _ _ (⟨some 38, _, _, _, _, _⟩ :: _) _ _)
      go_loud (refine wpList_copy_splice rfl (.tmp 32) (.tmp 37) 22 22 rfl 5 Try.underlying22 (by kernel_rfl) (some ⟨g8, 8, none⟩) A9 13 (c8 - 8) 1 c9 rfl rfl g8 8 curL 5 R5.out (u8s [63]) rfl (fun h0 => ⟨rfl, Bytes.src (IsB.own HO9.out).bytes1 h0⟩) (by have := CLN.out; simp [u8s]; omega) (u8s_one _) g8 w5 (Below.refl _ _) (Nat.le_refl _) ?_)
      intro w6 hr6 hb6
      have RW := hr6; have HBq := Lib.hid (HB5.out.trans (hb6.mono G8W.out)); have H4 := hide (H45.out.below hb6 G48.out); have G8L := Lib.hid (Nat.lt_of_lt_of_le G8N.out hb6.size)
      clear hr6 hb6 R5 HO9 HB5 H45 G8N)
    clear Z6 Z8
    have LG4 := Lib.hid H4.out.lt
    have z6 := H4.out.cell 6; have z7 := H4.out.cell 7; have z8 := H4.out.cell 8
    simp at z6 z7 z8
    have Z6 := Lib.hid z6; have Z8 := Lib.hid z8
    clear z6 z7 z8
    refine Lin.wp_region_lin_tail Lin.keeps (n := 51) 10 (fun slotq => match slotq with | 39 => Lin.Spec.val (.slice (some ⟨g8, 0, none⟩) 21 c8) | 40 => Lin.Spec.val (.slice (some ⟨g8, 10, none⟩) 11 (c8 - 10)) | 41 => Lin.Spec.val (.pointer (some ⟨g4, 8, none⟩)) | 42 => Lin.Spec.val (.int .u16 31460) | 43 => Lin.Spec.val (.int .u16 16390) | 44 => Lin.Spec.val (.int .u16 16390) | 45 => Lin.Spec.val (.int .u16 16134) | 46 => Lin.Spec.val (.int .u16 31716) | 47 => Lin.Spec.val (.int .u64 31716) | 48 => (Lin.Spec.own w6.heap.size [123, 228] 2) | _ => Lin.Spec.any) (by kernel_rfl) rfl (by kernel_rfl) ⟨?_, ?_, ?_, ?_, ?_, ?_, ?_, ?_, ?_, ?_, trivial⟩ ?_
    · intro ρ wq hb ho hc hd
      have hC : ∀ v, ρ (.const v) = v := fun v => hc _ (by intro t e; cases e)
      have hF : ∀ f, ρ (.func f) = .func (.func f) #[] #[] := fun f => hc _ (by intro t e; cases e)
      have h8 : ρ (.tmp 8) = .slice (some ⟨g8, 0, none⟩) 21 c8 := ho 8 (by kernel_rfl)
      exact Lin.Runs.value Lin.keeps (Lin.exec_move rfl) h8
    · intro ρ wq hb ho hc hd
      have hC : ∀ v, ρ (.const v) = v := fun v => hc _ (by intro t e; cases e)
      have hF : ∀ f, ρ (.func f) = .func (.func f) #[] #[] := fun f => hc _ (by intro t e; cases e)
      have h39 : ρ (.tmp 39) = .slice (some ⟨g8, 0, none⟩) 21 c8 := hd 39 (by kernel_rfl)
      have ee : (if c8 = 10 then (some (⟨g8, 0, none⟩ : Addr)) else (some (⟨g8, 0, none⟩ : Addr)).map (·.add 10)) = some ⟨g8, 10, none⟩ := by rw [if_neg (by have := C8.out.1; omega)]; rfl
      exact Lin.Runs.value Lin.keeps (v := .slice (some ⟨g8, 10, none⟩) 11 (c8 - 10)) (Eq.trans (run_sl1 _ ρ wq (.tmp 39) (.const (.int .i64 10)) (by rfl) (i := 10) (n := 21) (c := c8) h39 (show ρ (.const (.int .i64 10)) = .int .i64 ((10 : Nat) : Int) from hC _) (by omega) C8.out.1 C8.out.2) (by rw [ee])) rfl
    · intro ρ wq hb ho hc hd
      have hC : ∀ v, ρ (.const v) = v := fun v => hc _ (by intro t e; cases e)
      have hF : ∀ f, ρ (.func f) = .func (.func f) #[] #[] := fun f => hc _ (by intro t e; cases e)
      have h4 : ρ (.tmp 4) = .pointer (some ⟨g4, 0, none⟩) := ho 4 (by kernel_rfl)
      exact Lin.Runs.value Lin.keeps (v := .pointer (some ⟨g4, 8, none⟩)) (by simp [execOp, go_sem, h4]) rfl
    · intro ρ wq hb ho hc hd
      have hC : ∀ v, ρ (.const v) = v := fun v => hc _ (by intro t e; cases e)
      have hF : ∀ f, ρ (.func f) = .func (.func f) #[] #[] := fun f => hc _ (by intro t e; cases e)
      have h41 : ρ (.tmp 41) = .pointer (some ⟨g4, 8, none⟩) := hd 41 (by kernel_rfl)
      have dd := (hb.cell (p := ⟨g4, 8, none⟩) LG4.out).trans Z8.out
      exact Lin.Runs.value Lin.keeps (v := .int .u16 31460) (by simp [execOp, go_sem, h41, dd]) rfl
    · intro ρ wq hb ho hc hd
      have hC : ∀ v, ρ (.const v) = v := fun v => hc _ (by intro t e; cases e)
      have hF : ∀ f, ρ (.func f) = .func (.func f) #[] #[] := fun f => hc _ (by intro t e; cases e)
      have h7 : ρ (.tmp 7) = .int .u16 16390 := ho 7 (by kernel_rfl)
      exact Lin.Runs.value Lin.keeps (Lin.exec_move rfl) h7
    · intro ρ wq hb ho hc hd
      have hC : ∀ v, ρ (.const v) = v := fun v => hc _ (by intro t e; cases e)
      have hF : ∀ f, ρ (.func f) = .func (.func f) #[] #[] := fun f => hc _ (by intro t e; cases e)
      have h7 : ρ (.tmp 7) = .int .u16 16390 := ho 7 (by kernel_rfl)
      exact Lin.Runs.value Lin.keeps (Lin.exec_move rfl) h7
    · intro ρ wq hb ho hc hd
      have hC : ∀ v, ρ (.const v) = v := fun v => hc _ (by intro t e; cases e)
      have hF : ∀ f, ρ (.func f) = .func (.func f) #[] #[] := fun f => hc _ (by intro t e; cases e)
      have h44 : ρ (.tmp 44) = .int .u16 16390 := hd 44 (by kernel_rfl)
      exact Lin.Runs.value Lin.keeps (v := .int .u16 16134) (by simp [execOp, go_sem, hC, h44]; first | done | decide) rfl
    · intro ρ wq hb ho hc hd
      have hC : ∀ v, ρ (.const v) = v := fun v => hc _ (by intro t e; cases e)
      have hF : ∀ f, ρ (.func f) = .func (.func f) #[] #[] := fun f => hc _ (by intro t e; cases e)
      have h42 : ρ (.tmp 42) = .int .u16 31460 := hd 42 (by kernel_rfl)
      have h43 : ρ (.tmp 43) = .int .u16 16390 := hd 43 (by kernel_rfl)
      have h45 : ρ (.tmp 45) = .int .u16 16134 := hd 45 (by kernel_rfl)
      exact Lin.Runs.call Lin.keeps (f := 98) (args := #[.int .u16 31460, .int .u16 16390, .int .u16 16134]) (by simp [execOp, go_sem, hF, h42, h43, h45]) ((S2.update_any 31460 16390 16134 wq (by omega) (by omega) (by omega) (by omega) (by omega) (by omega)).mono fun e w9 h => ⟨_, h.1, by rw [← h.2]; exact Below.refl _ _, by rw [upd21]; rfl⟩)
    · intro ρ wq hb ho hc hd
      have hC : ∀ v, ρ (.const v) = v := fun v => hc _ (by intro t e; cases e)
      have hF : ∀ f, ρ (.func f) = .func (.func f) #[] #[] := fun f => hc _ (by intro t e; cases e)
      have h46 : ρ (.tmp 46) = .int .u16 31716 := hd 46 (by kernel_rfl)
      exact Lin.Runs.value Lin.keeps (v := .int .u64 31716) (by simp [execOp, go_sem, h46]; first | done | decide) rfl
    · intro ρ wq hb ho hc hd
      have hC : ∀ v, ρ (.const v) = v := fun v => hc _ (by intro t e; cases e)
      have hF : ∀ f, ρ (.func f) = .func (.func f) #[] #[] := fun f => hc _ (by intro t e; cases e)
      have h47 : ρ (.tmp 47) = .int .u64 31716 := hd 47 (by kernel_rfl)
      exact Lin.Runs.call Lin.keeps (f := 91) (args := #[.slice none 0 0, .int .u64 31716, .int .i64 2]) (by simp [execOp, go_sem, hC, hF, h47]) ((put_nil 31716 2 2 wq (by omega) (by omega) (by omega) rfl).mono fun e w9 h => by obtain ⟨v, h1, h2, h3⟩ := h.ownp; exact ⟨v, h1, h3, h2.lowk hb.size⟩)
    · intro vals w5 hb2 hv
      have h48 := hv 48 (by kernel_rfl)
      obtain ⟨A9, c9, e9, ho9⟩ := h48
      have HO9 := hide ho9
      have e0 : vals 40 = .slice (some ⟨g8, 10, none⟩) 11 (c8 - 10) := hv 40 (by kernel_rfl)
      have HB5 := Lib.hid (HBq.out.trans (hb2.mono HBq.out.size)); have H45 := hide (H4.out.below hb2 H4.out.lt)
      have R5 : Hid (w5.heap[g8]? = some (.cells (splice curL 8 (u8s [63])).toArray 5 (0, 0))) := hide ((hb2.block g8 G8L.out).trans RW.out)
      have G8N := Lib.hid (Nat.lt_of_lt_of_le G8L.out hb2.size)
      clear hb2 ho9 HBq H4 RW G8L LG4
      change wpList _ _ _ [_] _ _
      simp only [Lin.putAll, Option.getD_some, List.take_succ_cons, List.take_zero, List.drop_succ_cons, List.drop_zero]
      rw [e9, e0]
      clear e9 e0 hv
      go_simp
      generalize vals = vv
      go_wp2_with (
        (with_reducible show wpList _ _ _ (⟨some 49, _, _, _, _, _⟩ :: _) _ _)
        go_loud (refine wpList_copy_splice rfl (.tmp 40) (.tmp 48) 22 22 rfl 5 Try.underlying22 (by kernel_rfl) (some ⟨g8, 10, none⟩) A9 11 (c8 - 10) 2 c9 rfl rfl g8 10 (splice curL 8 (u8s [63])) 5 R5.out (u8s [123, 228]) rfl (fun h0 => ⟨rfl, Bytes.src (IsB.own HO9.out).bytes1 h0⟩) (by have := CLN.out; rw [length_splice curL 8 (u8s [63]) (by simp [u8s]; omega)]; simp [u8s]; omega) (u8s_one _) g8 w5 (Below.refl _ _) (Nat.le_refl _) ?_)
        intro w6 hr6 hb6
        have RW := hr6; have HBq := Lib.hid (HB5.out.trans (hb6.mono G8W.out)); have H4 := hide (H45.out.below hb6 G48.out); have G8L := Lib.hid (Nat.lt_of_lt_of_le G8N.out hb6.size)
        clear hr6 hb6 R5 HO9 HB5 H45 G8N)
      refine bodyPost_ret (v := .tuple #[.slice (some ⟨g8, 0, none⟩) 21 c8, .int .i64 0]) (by simp [results, Try.results59, go_sem]) rfl ⟨g8, c8, rfl, HBq.out, ?_⟩
      rw [cell_of_row _ _ _ _ _ _ RW.out, List.getElem?_toArray, splice_at _ _ _ _ (by omega) (by rw [length_splice _ _ _ (by simp [u8s]; have := CLN.out; omega)]; have := CLN.out; omega)]
      exact splice_new _ _ _ (by have := CLN.out; omega)
end Go.Proofs.Ytmgendgfdhhgfaa
