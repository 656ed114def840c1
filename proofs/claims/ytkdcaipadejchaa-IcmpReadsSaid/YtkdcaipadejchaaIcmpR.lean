/-
  What Parse of package icmp and of the document's answer for layer 8 return. Helper of the claim IcmpReads. No condition.
-/
import Derived.Test.YtkdcaipadejchaaIcmp2
import Derived.Test.YtkdcaipadejchaaRq
import Derived.Test.YtkdcaipadejchaaUdp
import Derived.IntWalk
namespace Go.Proofs.Ytkdcaipadejchaa
open Go.ChangeShapes Go.WideShapes Go.ChangeAt Go.RowKit
set_option linter.unusedVariables false
set_option maxRecDepth 100000
def Parsed8 (w : World) (t c s x : Int) (l : List Int) (n : Nat) (r : Value) (e : Ending) (w' : World) : Prop := ∃ v, e = .returned (.tuple #[msg8 t c s x v, r]) ∧ Below w.heap.size w w' ∧ IsB l n v w'
set_option maxHeartbeats 1000000 in
theorem iparse_short (A : Option Addr) (c n : Nat) (w : World) (h8 : n < 8) :
    Calls Try.prog 37 #[.slice A n c] w (Parsed8 w 0 0 0 0 [] 0 (.int .i64 20)) := by
  go_enter Try.func37, Try.ntmps37
  go_wp2_with fail
  exact bodyPost_ret (v := .tuple #[msg8 0 0 0 0 (.slice none 0 0), .int .i64 20]) (by simp [results, Try.results37, go_sem, msg8]) rfl ⟨_, rfl, (Below.refl _ _).alloc (Nat.le_refl _) _, IsB.nil0 _⟩
set_option maxHeartbeats 1000000 in
theorem riparse_short (A : Option Addr) (c n : Nat) (w : World) (h8 : n < 8) :
    Calls Try.prog 38 #[.slice A n c] w (Parsed8 w 0 0 0 0 [] 0 (.bool false)) := by
  go_enter Try.func38, Try.ntmps38
  go_wp2_with fail
  exact bodyPost_ret (v := .tuple #[msg8 0 0 0 0 (.slice none 0 0), .bool false]) (by simp [results, Try.results38, go_sem, msg8]) rfl ⟨_, rfl, (Below.refl _ _).alloc (Nat.le_refl _) _, IsB.nil0 _⟩

set_option maxHeartbeats 2000000 in
theorem iparse_ok (A : Option Addr) (c : Nat) (l : List Int) (k : Nat) (w : World) (hi : IsB l l.length (.slice A l.length c) w) (ho : Octets l) (hm : l.length ≤ 3000) (hk : 8 + k = l.length) :
    Calls Try.prog 37 #[.slice A l.length c] w (Parsed8 w (nw l 0 1) (nw l 1 1) (nw l 2 2) (nw l 4 4) (l.drop 8) k (.int .i64 0)) := by
  have HI := hide hi; have HO := hide ho
  have b0 := nw1_bd (i := 0) (by omega) ho
  have b1 := nw1_bd (i := 1) (by omega) ho
  have b2 := nw2_bd (i := 2) (by omega) ho
  have b4 := nw4_bd (i := 4) (by omega) ho
  obtain ⟨t, ht⟩ : ∃ t, nw l 0 1 = t := ⟨_, rfl⟩
  obtain ⟨d, hd⟩ : ∃ d, nw l 1 1 = d := ⟨_, rfl⟩
  obtain ⟨s, hs⟩ : ∃ s, nw l 2 2 = s := ⟨_, rfl⟩
  obtain ⟨x, hx⟩ : ∃ x, nw l 4 4 = x := ⟨_, rfl⟩
  rw [ht] at b0; rw [hd] at b1; rw [hs] at b2; rw [hx] at b4
  rw [ht, hd, hs, hx]
  have HT := hide ht; have HD := hide hd; have HS := hide hs; have HX := hide hx
  have h8 : 8 ≤ l.length := by omega
  have HKL := Lib.hid hk
  clear hi ho ht hd hs hx hk
  go_enter Try.func37, Try.ntmps37
  go_wp2_with fail
  have hr0 := Is.new w 63 #[.int .u8 0, .int .u8 0, .int .u16 0, .int .u32 0, .slice none 0 0]
  have hw0 : Below w.heap.size w (w.alloc (.cells #[.int .u8 0, .int .u8 0, .int .u16 0, .int .u32 0, .slice none 0 0] 63)) := (Below.refl _ _).alloc (Nat.le_refl _) _
  have HI0 := hide (HI.out.st hw0)
  have hlt : w.heap.size < (w.alloc (.cells #[.int .u8 0, .int .u8 0, .int .u16 0, .int .u32 0, .slice none 0 0] 63)).heap.size := by simp
  generalize w.alloc (.cells #[.int .u8 0, .int .u8 0, .int .u16 0, .int .u32 0, .slice none 0 0] 63) = W at *
  have HR0 := hide hr0; have HW0 := Lib.hid hw0
  clear hr0 hw0
  refine (read_q HI0.out (by omega)).mono ?_
  rintro e w1 ⟨g, rfl, h1⟩
  have R1 := hide h1; clear h1
  go_wp2_with fail
  refine (byte_q 1 t R1.out HO.out rfl (by omega) HT.out).mono ?_
  rintro e w2 ⟨rfl, h1, _⟩
  have R2 := hide h1; clear h1 R1
  go_wp2_with fail
  refine (byte_q 2 d R2.out HO.out rfl (by omega) HD.out).mono ?_
  rintro e w3 ⟨rfl, h1, _⟩
  have R3 := hide h1; clear h1 R2
  go_wp2_with fail
  refine (word_q 4 s R3.out HO.out rfl (by omega) HS.out).mono ?_
  rintro e w4 ⟨rfl, h1, _⟩
  have R4 := hide h1; clear h1 R3
  go_wp2_with fail
  refine (long_q 8 x R4.out HO.out rfl (by omega) HX.out).mono ?_
  rintro e w5 ⟨rfl, h1, _⟩
  have R5 := hide h1; clear h1 R4
  go_wp2_with fail
  refine (rest_q k R5.out HKL.out (by omega)).mono ?_
  rintro e w6 ⟨A6, c6, rfl, ho6, h1, _⟩
  have hr4 := HR0.out.below h1.bel hlt
  have R6 := hide h1
  have hw5 : W.heap.size ≤ w5.heap.size := R5.out.bel.size
  have e6 : ((l.drop 8).take k) = l.drop 8 := List.take_of_length_le (by rw [List.length_drop]; have := HKL.out; omega)
  rw [e6] at ho6
  have HO6 := hide ho6
  have r0 := hr4.cell 0
  have r1 := hr4.cell 1
  have r2 := hr4.cell 2
  have r3 := hr4.cell 3
  have r4 := hr4.cell 4
  have fr := hr4.free
  have lr := hr4.lt
  simp at r0 r1 r2 r3 r4 fr
  clear ho6 h1 hr4 R5 e6
  go_wp2_with fail
  refine bodyPost_ret (v := .tuple #[msg8 t d s x (.slice A6 k c6), .int .i64 0]) (by simp [results, Try.results37, go_sem, msg8, r0, r1, r2, r3, r4]) rfl ⟨_, rfl, ?_, IsB.own (base := w5.heap.size) ?_⟩
  · have ob := HW0.out.trans (R6.out.bel.mono HW0.out.size)
    repeat' first | with_reducible exact ob | with_reducible apply Below.set1
    all_goals omega
  · have ob := HO6.out
    repeat' first | with_reducible exact ob | with_reducible apply OwnB.set1
    all_goals omega
/-- A message as an operation yields it. -/
def IsM (B : Nat) (t c s x : Int) (L : List Int) (n : Nat) (v : Value) (w : World) : Prop := ∃ u, v = msg8 t c s x u ∧ OwnP B L n u w
theorem IsM.st {B : Nat} {t c s x : Int} {L : List Int} {n : Nat} {v : Value} {w w' : World} (h : IsM B t c s x L n v w) (hb : Below w.heap.size w w') : IsM B t c s x L n v w' := by
  obtain ⟨u, e, hu⟩ := h; exact ⟨u, e, hu.st hb⟩
def specM (B : Nat) (t c s x : Int) (L : List Int) (n : Nat) : Lin.Spec Lin.Keeps := ⟨IsM B t c s x L n, IsM.st⟩

set_option maxHeartbeats 2000000 in
theorem riparse_ok (A : Option Addr) (c : Nat) (l : List Int) (k : Nat) (w : World) (hi : IsB l l.length (.slice A l.length c) w) (ho : Octets l) (hm : l.length ≤ 3000) (hk : 8 + k = l.length) :
    Calls Try.prog 38 #[.slice A l.length c] w (Parsed8 w (nw l 0 1) (nw l 1 1) (nw l 2 2) (nw l 4 4) (l.drop 8) k (.bool true)) := by
  have HI := hide hi; have HO := hide ho
  obtain ⟨q1, q2⟩ := hi.caps
  unfold maxLen at q2
  have hby : Bytes w w.heap.size A l := by obtain ⟨A', c', e, _, h, _⟩ := hi; injection e with e; subst e; exact h
  obtain ⟨bl, ol, rfl, hbl0, hcl⟩ := hby.cells (by omega)
  have d0 := hcl 0 (by omega)
  have d1 := hcl 1 (by omega)
  rw [← nw_one (by omega) ho] at d0 d1
  have b0 := nw1_bd (i := 0) (by omega) ho
  have b1 := nw1_bd (i := 1) (by omega) ho
  have b2 := nw2_bd (i := 2) (by omega) ho
  have b4 := nw4_bd (i := 4) (by omega) ho
  obtain ⟨t, ht⟩ : ∃ t, nw l 0 1 = t := ⟨_, rfl⟩
  obtain ⟨d, hd⟩ : ∃ d, nw l 1 1 = d := ⟨_, rfl⟩
  obtain ⟨s, hs⟩ : ∃ s, nw l 2 2 = s := ⟨_, rfl⟩
  obtain ⟨x, hx⟩ : ∃ x, nw l 4 4 = x := ⟨_, rfl⟩
  rw [ht] at b0; rw [hd] at b1; rw [hs] at b2; rw [hx] at b4
  rw [ht, hd, hs, hx]
  have HT := hide ht; have HD := hide hd; have HS := hide hs; have HX := hide hx
  rw [ht] at d0; rw [hd] at d1
  have hpart := hi.part (i := 8) (k := k) (by omega)
  obtain ⟨_, _, e9, hpl, hpb, _⟩ := hpart
  injection e9 with e91 e92 e93
  subst e91
  have e6 : ((l.drop 8).take k) = l.drop 8 := List.take_of_length_le (by rw [List.length_drop]; omega)
  rw [e6] at hpl hpb
  have HPL := Lib.hid hpl
  have HPB0 := Lib.hid hpb
  have h8 : 8 ≤ l.length := by omega
  have s1 : (8 : Int) ≤ (l.length : Int) := by omega
  have s2 : (l.length : Int) ≤ (c : Int) := by omega
  have s3 : l.length - 8 = k := by omega
  have s4 : 8 ≤ l.length := by omega
  have s5 : l.length ≤ c := by omega
  have hl0 : 0 < l.length := by omega
  have hl1 : 1 < l.length := by omega
  have hl1n : ¬ (l.length : Int) ≤ 1 := by omega
  have D00 := Lib.hid d0; have D10 := Lib.hid d1
  clear hi ho ht hd hs hx hk hpl hpb e92 e93 e6 d0 d1 hcl hby
  go_enter Try.func38, Try.ntmps38
  go_wp2_with fail
  have hr0 := Is.new w 66 #[.int .u8 0, .int .u8 0, .int .u16 0, .int .u32 0, .slice none 0 0]
  have hw0 : Below w.heap.size w (w.alloc (.cells #[.int .u8 0, .int .u8 0, .int .u16 0, .int .u32 0, .slice none 0 0] 66)) := (Below.refl _ _).alloc (Nat.le_refl _) _
  have HI0 := hide (HI.out.st hw0)
  have D0 := Lib.hid ((hw0.cell (p := ⟨bl, ol + 0, none⟩) hbl0).trans D00.out)
  have D1 := Lib.hid ((hw0.cell (p := ⟨bl, ol + 1, none⟩) hbl0).trans D10.out)
  have hbl : bl < (w.alloc (.cells #[.int .u8 0, .int .u8 0, .int .u16 0, .int .u32 0, .slice none 0 0] 66)).heap.size := Nat.lt_of_lt_of_le hbl0 hw0.size
  have HPB := Lib.hid (HPB0.out.below hw0)
  have hWW : w.heap.size ≤ (w.alloc (.cells #[.int .u8 0, .int .u8 0, .int .u16 0, .int .u32 0, .slice none 0 0] 66)).heap.size := hw0.size
  have hlt : w.heap.size < (w.alloc (.cells #[.int .u8 0, .int .u8 0, .int .u16 0, .int .u32 0, .slice none 0 0] 66)).heap.size := by simp
  generalize w.alloc (.cells #[.int .u8 0, .int .u8 0, .int .u16 0, .int .u32 0, .slice none 0 0] 66) = W at *
  have HR0 := hide hr0; have HW0 := Lib.hid hw0
  clear hr0 hw0 D00 D10 HPB0
  refine Lin.wp_region_lin_tail Lin.keeps (n := 25) 17 (fun slotq => match slotq with | 8 => Lin.Spec.val (.slice (some ⟨bl, ol, none⟩) l.length c) | 9 => Lin.Spec.val (.pointer (some ⟨bl, ol, none⟩)) | 10 => Lin.Spec.val (.int .u8 t) | 11 => Lin.Spec.val (.slice (some ⟨bl, ol, none⟩) l.length c) | 12 => Lin.Spec.val (.pointer (some ⟨bl, ol + 1, none⟩)) | 13 => Lin.Spec.val (.int .u8 d) | 14 => Lin.Spec.val (.slice (some ⟨bl, ol, none⟩) l.length c) | 15 => Lin.Spec.val (.int .u64 s) | 16 => Lin.Spec.val (.int .u16 s) | 17 => Lin.Spec.val (.slice (some ⟨bl, ol, none⟩) l.length c) | 18 => Lin.Spec.val (.int .u64 x) | 19 => Lin.Spec.val (.int .u32 x) | 20 => Lin.Spec.noneb W.heap.size | 21 => Lin.Spec.val (.slice (some ⟨bl, ol, none⟩) l.length c) | 22 => Lin.Spec.val (.slice (if c = 8 then (some ⟨bl, ol, none⟩) else (some ⟨bl, ol, none⟩ : Option Addr).map (·.add 8)) k (c - 8)) | 23 => Lin.Spec.own W.heap.size (l.drop 8) k | 24 => specM W.heap.size t d s x (l.drop 8) k | _ => Lin.Spec.any) (by kernel_rfl) rfl (by kernel_rfl) ⟨?_, ?_, ?_, ?_, ?_, ?_, ?_, ?_, ?_, ?_, ?_, ?_, ?_, ?_, ?_, ?_, ?_, trivial⟩ ?_
  · intro ρ wq hb ho hc hd
    have hC : ∀ v, ρ (.const v) = v := fun v => hc _ (by intro t e; cases e)
    have hF : ∀ f, ρ (.func f) = .func (.func f) #[] #[] := fun f => hc _ (by intro t e; cases e)
    have h0 : ρ (.tmp 0) = .slice (some ⟨bl, ol, none⟩) l.length c := ho 0 (by kernel_rfl)
    exact Lin.Runs.value Lin.keeps (Lin.exec_move rfl) h0
  · intro ρ wq hb ho hc hd
    have hC : ∀ v, ρ (.const v) = v := fun v => hc _ (by intro t e; cases e)
    have hF : ∀ f, ρ (.func f) = .func (.func f) #[] #[] := fun f => hc _ (by intro t e; cases e)
    have h8 : ρ (.tmp 8) = .slice (some ⟨bl, ol, none⟩) l.length c := hd 8 (by kernel_rfl)
    exact Lin.Runs.value Lin.keeps (v := .pointer (some ⟨bl, ol, none⟩)) (by simp [execOp, go_sem, hC, hF, h8, hl0]) rfl
  · intro ρ wq hb ho hc hd
    have hC : ∀ v, ρ (.const v) = v := fun v => hc _ (by intro t e; cases e)
    have hF : ∀ f, ρ (.func f) = .func (.func f) #[] #[] := fun f => hc _ (by intro t e; cases e)
    have h9 : ρ (.tmp 9) = .pointer (some ⟨bl, ol, none⟩) := hd 9 (by kernel_rfl)
    have dd := (hb.cell (p := ⟨bl, ol, none⟩) hbl).trans D0.out
    exact Lin.Runs.value Lin.keeps (v := .int .u8 t) (by simp [execOp, go_sem, hC, hF, h9, dd]) rfl
  · intro ρ wq hb ho hc hd
    have hC : ∀ v, ρ (.const v) = v := fun v => hc _ (by intro t e; cases e)
    have hF : ∀ f, ρ (.func f) = .func (.func f) #[] #[] := fun f => hc _ (by intro t e; cases e)
    have h0 : ρ (.tmp 0) = .slice (some ⟨bl, ol, none⟩) l.length c := ho 0 (by kernel_rfl)
    exact Lin.Runs.value Lin.keeps (Lin.exec_move rfl) h0
  · intro ρ wq hb ho hc hd
    have hC : ∀ v, ρ (.const v) = v := fun v => hc _ (by intro t e; cases e)
    have hF : ∀ f, ρ (.func f) = .func (.func f) #[] #[] := fun f => hc _ (by intro t e; cases e)
    have h11 : ρ (.tmp 11) = .slice (some ⟨bl, ol, none⟩) l.length c := hd 11 (by kernel_rfl)
    exact Lin.Runs.value Lin.keeps (v := .pointer (some ⟨bl, ol + 1, none⟩)) (by simp [execOp, go_sem, hC, hF, h11, hl1, hl1n]) rfl
  · intro ρ wq hb ho hc hd
    have hC : ∀ v, ρ (.const v) = v := fun v => hc _ (by intro t e; cases e)
    have hF : ∀ f, ρ (.func f) = .func (.func f) #[] #[] := fun f => hc _ (by intro t e; cases e)
    have h12 : ρ (.tmp 12) = .pointer (some ⟨bl, ol + 1, none⟩) := hd 12 (by kernel_rfl)
    have dd := (hb.cell (p := ⟨bl, ol + 1, none⟩) hbl).trans D1.out
    exact Lin.Runs.value Lin.keeps (v := .int .u8 d) (by simp [execOp, go_sem, hC, hF, h12, dd]) rfl
  · intro ρ wq hb ho hc hd
    have hC : ∀ v, ρ (.const v) = v := fun v => hc _ (by intro t e; cases e)
    have hF : ∀ f, ρ (.func f) = .func (.func f) #[] #[] := fun f => hc _ (by intro t e; cases e)
    have h0 : ρ (.tmp 0) = .slice (some ⟨bl, ol, none⟩) l.length c := ho 0 (by kernel_rfl)
    exact Lin.Runs.value Lin.keeps (Lin.exec_move rfl) h0
  · intro ρ wq hb ho hc hd
    have hC : ∀ v, ρ (.const v) = v := fun v => hc _ (by intro t e; cases e)
    have hF : ∀ f, ρ (.func f) = .func (.func f) #[] #[] := fun f => hc _ (by intro t e; cases e)
    have h14 : ρ (.tmp 14) = .slice (some ⟨bl, ol, none⟩) l.length c := hd 14 (by kernel_rfl)
    refine Lin.Runs.call Lin.keeps (f := 71) (args := #[.slice (some ⟨bl, ol, none⟩) l.length c, .int .i64 2, .int .i64 2]) (by simp [execOp, go_sem, hC, hF, h14]) ?_
    exact (get_q 2 2 s (HI0.out.st hb) HO.out (by omega) (by omega) HS.out).mono fun e w9 ⟨h1, h2⟩ => ⟨_, h1, by subst h2; exact Below.refl _ _, rfl⟩
  · intro ρ wq hb ho hc hd
    have hC : ∀ v, ρ (.const v) = v := fun v => hc _ (by intro t e; cases e)
    have hF : ∀ f, ρ (.func f) = .func (.func f) #[] #[] := fun f => hc _ (by intro t e; cases e)
    have h15 : ρ (.tmp 15) = .int .u64 s := hd 15 (by kernel_rfl)
    exact Lin.Runs.value Lin.keeps (v := .int .u16 s) (by simp [execOp, go_sem, hC, hF, h15]; first | done | exact IntWalk.u16_in _ (by omega)) rfl
  · intro ρ wq hb ho hc hd
    have hC : ∀ v, ρ (.const v) = v := fun v => hc _ (by intro t e; cases e)
    have hF : ∀ f, ρ (.func f) = .func (.func f) #[] #[] := fun f => hc _ (by intro t e; cases e)
    have h0 : ρ (.tmp 0) = .slice (some ⟨bl, ol, none⟩) l.length c := ho 0 (by kernel_rfl)
    exact Lin.Runs.value Lin.keeps (Lin.exec_move rfl) h0
  · intro ρ wq hb ho hc hd
    have hC : ∀ v, ρ (.const v) = v := fun v => hc _ (by intro t e; cases e)
    have hF : ∀ f, ρ (.func f) = .func (.func f) #[] #[] := fun f => hc _ (by intro t e; cases e)
    have h17 : ρ (.tmp 17) = .slice (some ⟨bl, ol, none⟩) l.length c := hd 17 (by kernel_rfl)
    refine Lin.Runs.call Lin.keeps (f := 71) (args := #[.slice (some ⟨bl, ol, none⟩) l.length c, .int .i64 4, .int .i64 4]) (by simp [execOp, go_sem, hC, hF, h17]) ?_
    exact (get_q 4 4 x (HI0.out.st hb) HO.out (by omega) (by omega) HX.out).mono fun e w9 ⟨h1, h2⟩ => ⟨_, h1, by subst h2; exact Below.refl _ _, rfl⟩
  · intro ρ wq hb ho hc hd
    have hC : ∀ v, ρ (.const v) = v := fun v => hc _ (by intro t e; cases e)
    have hF : ∀ f, ρ (.func f) = .func (.func f) #[] #[] := fun f => hc _ (by intro t e; cases e)
    have h18 : ρ (.tmp 18) = .int .u64 x := hd 18 (by kernel_rfl)
    exact Lin.Runs.value Lin.keeps (v := .int .u32 x) (by simp [execOp, go_sem, hC, hF, h18]; first | done | exact IntWalk.u32_in _ (by omega)) rfl
  · intro ρ wq hb ho hc hd
    have hC : ∀ v, ρ (.const v) = v := fun v => hc _ (by intro t e; cases e)
    have hF : ∀ f, ρ (.func f) = .func (.func f) #[] #[] := fun f => hc _ (by intro t e; cases e)
    exact Lin.Runs.made (v := .slice (some ⟨wq.heap.size, 0, none⟩) 0 0) (w' := wq.alloc (.cells #[] 5)) (by simp [execOp, go_sem, hC, hF]) ((Below.refl _ _).alloc (Nat.le_refl _) _) (NoneP.new hb.size)
  · intro ρ wq hb ho hc hd
    have hC : ∀ v, ρ (.const v) = v := fun v => hc _ (by intro t e; cases e)
    have hF : ∀ f, ρ (.func f) = .func (.func f) #[] #[] := fun f => hc _ (by intro t e; cases e)
    have h0 : ρ (.tmp 0) = .slice (some ⟨bl, ol, none⟩) l.length c := ho 0 (by kernel_rfl)
    exact Lin.Runs.value Lin.keeps (Lin.exec_move rfl) h0
  · intro ρ wq hb ho hc hd
    have hC : ∀ v, ρ (.const v) = v := fun v => hc _ (by intro t e; cases e)
    have hF : ∀ f, ρ (.func f) = .func (.func f) #[] #[] := fun f => hc _ (by intro t e; cases e)
    have h21 : ρ (.tmp 21) = .slice (some ⟨bl, ol, none⟩) l.length c := hd 21 (by kernel_rfl)
    exact Lin.Runs.value Lin.keeps (v := .slice (if c = 8 then (some ⟨bl, ol, none⟩) else (some ⟨bl, ol, none⟩ : Option Addr).map (·.add 8)) k (c - 8)) (by simp [execOp, go_sem, hC, hF, h21, s1, s2, s3, s4, s5]) rfl
  · intro ρ wq hb ho hc hd
    have hC : ∀ v, ρ (.const v) = v := fun v => hc _ (by intro t e; cases e)
    have hF : ∀ f, ρ (.func f) = .func (.func f) #[] #[] := fun f => hc _ (by intro t e; cases e)
    have h20 := hd 20 (by kernel_rfl)
    have h22 : ρ (.tmp 22) = .slice (if c = 8 then (some ⟨bl, ol, none⟩) else (some ⟨bl, ol, none⟩ : Option Addr).map (·.add 8)) k (c - 8) := hd 22 (by kernel_rfl)
    obtain ⟨v9, w9, hr, hb2, his⟩ := grow_nil (T := 22) h20 Try.underlying22 info8 (HPB.out.below (hb.mono hWW)) (c - 8) HPL.out (by omega)
    exact Lin.Runs.made (by unfold execOp; simp only [resolve, invoke, builtin, Sem.run_bind, Sem.run_pure, Result.andThen_ok, List.map_toArray, List.map_cons, List.map_nil, h22, hr]) hb2 his
  · intro ρ wq hb ho hc hd
    have hC : ∀ v, ρ (.const v) = v := fun v => hc _ (by intro t e; cases e)
    have hF : ∀ f, ρ (.func f) = .func (.func f) #[] #[] := fun f => hc _ (by intro t e; cases e)
    have h10 : ρ (.tmp 10) = .int .u8 t := hd 10 (by kernel_rfl)
    have h13 : ρ (.tmp 13) = .int .u8 d := hd 13 (by kernel_rfl)
    have h16 : ρ (.tmp 16) = .int .u16 s := hd 16 (by kernel_rfl)
    have h19 : ρ (.tmp 19) = .int .u32 x := hd 19 (by kernel_rfl)
    have h23 := hd 23 (by kernel_rfl)
    obtain ⟨A3, c3, e33⟩ := h23.shape
    exact Lin.Runs.value Lin.keeps (v := msg8 t d s x (.slice A3 k c3)) (by simp [execOp, go_sem, hC, hF, h10, h13, h16, h19, e33, msg8]) ⟨_, rfl, by rw [e33] at h23; exact h23⟩
  · intro vals w2 hb2 hv
    obtain ⟨v34, e34, h34⟩ := hv 24 (by kernel_rfl)
    obtain ⟨A3, c3, e33⟩ := h34.shape
    subst e33
    change wpList _ _ _ [_, _] _ _
    simp only [Lin.putAll, Option.getD_some, List.take_succ_cons, List.take_zero, List.drop_succ_cons, List.drop_zero]
    rw [e34]
    unfold msg8
    have hr4 := HR0.out.below hb2 HR0.out.lt
    have HB2 := Lib.hid (HW0.out.trans (hb2.mono HW0.out.size))
    have H34 := hide h34
    clear hv hb2 h34 e34
    have r0 := hr4.cell 0
    have r1 := hr4.cell 1
    have r2 := hr4.cell 2
    have r3 := hr4.cell 3
    have r4 := hr4.cell 4
    have fr := hr4.free
    have lr := hr4.lt
    simp at r0 r1 r2 r3 r4 fr
    clear hr4
    go_simp
    generalize vals = vv
    go_wp2_with fail
    refine bodyPost_ret (v := .tuple #[msg8 t d s x (.slice A3 k c3), .bool true]) (by simp [results, Try.results38, go_sem, msg8, r0, r1, r2, r3, r4]) rfl ⟨_, rfl, ?_, OwnP.isb (B := W.heap.size) ?_⟩
    · have ob := HB2.out
      repeat' first | with_reducible exact ob | with_reducible apply Below.set1
      all_goals omega
    · have ob := H34.out
      repeat' first | with_reducible exact ob | with_reducible apply OwnP.set1
      all_goals omega
end Go.Proofs.Ytkdcaipadejchaa
