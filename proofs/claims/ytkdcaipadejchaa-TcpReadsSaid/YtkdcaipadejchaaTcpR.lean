/-
  The document's answer Parse of layer 6 where all is well. Helper of the claim TcpReads. No condition.
-/
import Derived.Test.YtkdcaipadejchaaTcp
import Derived.Test.YtkdcaipadejchaaSl
import Derived.Deep.Cut
namespace Go.Proofs.Ytkdcaipadejchaa
open Go.ChangeShapes Go.WideShapes Go.ChangeAt Go.RowKit
set_option linter.unusedVariables false
set_option maxRecDepth 100000

/-- A new segment of zeros in a block of its own. -/
def IsF (B : Nat) (v : Value) (w : World) : Prop := ∃ p, v = .pointer (some ⟨p, 0, none⟩) ∧ Is w p 48 #[.int .u16 0, .int .u16 0, .int .u32 0, .int .u32 0, .int .u8 0, .int .u16 0, .int .u16 0, .int .u16 0, .slice none 0 0, .slice none 0 0] ∧ B ≤ p
theorem IsF.st {B : Nat} {v : Value} {w w' : World} (h : IsF B v w) (hb : Below w.heap.size w w') : IsF B v w' := by
  obtain ⟨p, e, hi, hB⟩ := h; exact ⟨p, e, hi.below hb hi.lt, hB⟩
def specF (B : Nat) : Lin.Spec Lin.Keeps := ⟨IsF B, IsF.st⟩
theorem set1B {B : Nat} {u w : World} {g i : Nat} (h : Below B u w) (hg : B ≤ g) (v : Value) : Below B u (w.setCell ⟨g, i, none⟩ v) := h.setCell hg v
set_option maxHeartbeats 4000000 in
theorem rparse_ok (A : Option Addr) (c : Nat) (l : List Int) (y : Int) (w : World) (hi : IsB l l.length (.slice A l.length c) w) (ho : Octets l) (hm : l.length ≤ 3000) (i j : Nat) (hy : at0 l 12 = y) (hsz : y / 16 * 4 = 20 + (i : Int)) (hq : y % 16 = 0) (hj : 20 + i + j = l.length) :
    Calls Try.prog 29 #[.slice A l.length c] w (Sg w (nw l 0 2) (nw l 2 2) (nw l 4 4) (nw l 8 4) (nw l 13 1) (nw l 14 2) (nw l 16 2) (nw l 18 2) ((l.drop 20).take i) i (l.drop (20 + i)) j 0) := by
  have hby : Bytes w w.heap.size A l := by obtain ⟨A', c', e, _, h, _⟩ := hi; injection e with e; subst e; exact h
  obtain ⟨bl, ol, rfl, hbl0, hcl⟩ := hby.cells (by omega)
  have dc := hcl 12 (by omega)
  have d13 := hcl 13 (by omega)
  rw [← nw_one (i := 13) (by omega) ho] at d13
  have yb := ho 12
  rw [hy] at dc yb
  obtain ⟨y0, y1⟩ := yb
  have hl12 : 12 < l.length := by omega
  have hl13 : 13 < l.length := by omega
  have hl13n : ¬ (l.length : Int) ≤ 13 := by omega
  have hij : 20 + (i : Int) ≤ (l.length : Int) := by omega
  have hij2 : 20 + i ≤ l.length := by omega
  have HJ := Lib.hid hj
  have hj2 : j ≤ 3000 := by omega
  obtain ⟨q1, q2⟩ := hi.caps
  unfold maxLen at q2
  have e6 : ((l.drop (20 + i)).take j) = l.drop (20 + i) := List.take_of_length_le (by rw [List.length_drop]; omega)
  have E6 := Lib.hid e6
  have b0 := nw2_bd (i := 0) (by omega) ho
  have b2 := nw2_bd (i := 2) (by omega) ho
  have b4 := nw4_bd (i := 4) (by omega) ho
  have b8 := nw4_bd (i := 8) (by omega) ho
  have b13 := nw1_bd (i := 13) (by omega) ho
  have b14 := nw2_bd (i := 14) (by omega) ho
  have b16 := nw2_bd (i := 16) (by omega) ho
  have b18 := nw2_bd (i := 18) (by omega) ho
  obtain ⟨xa, hxa⟩ : ∃ x, nw l 0 2 = x := ⟨_, rfl⟩
  rw [hxa] at b0
  obtain ⟨xb, hxb⟩ : ∃ x, nw l 2 2 = x := ⟨_, rfl⟩
  rw [hxb] at b2
  obtain ⟨xs, hxs⟩ : ∃ x, nw l 4 4 = x := ⟨_, rfl⟩
  rw [hxs] at b4
  obtain ⟨xk, hxk⟩ : ∃ x, nw l 8 4 = x := ⟨_, rfl⟩
  rw [hxk] at b8
  obtain ⟨xf, hxf⟩ : ∃ x, nw l 13 1 = x := ⟨_, rfl⟩
  rw [hxf] at b13
  obtain ⟨xn, hxn⟩ : ∃ x, nw l 14 2 = x := ⟨_, rfl⟩
  rw [hxn] at b14
  obtain ⟨xm, hxm⟩ : ∃ x, nw l 16 2 = x := ⟨_, rfl⟩
  rw [hxm] at b16
  obtain ⟨xg, hxg⟩ : ∃ x, nw l 18 2 = x := ⟨_, rfl⟩
  rw [hxg] at b18
  rw [hxa, hxb, hxs, hxk, hxf, hxn, hxm, hxg]
  rw [hxf] at d13
  have Hxa := hide hxa
  have Hxb := hide hxb
  have Hxs := hide hxs
  have Hxk := hide hxk
  have Hxf := hide hxf
  have Hxn := hide hxn
  have Hxm := hide hxm
  have Hxg := hide hxg
  clear hxa hxb hxs hxk hxf hxn hxm hxg
  have HI := hide hi; have HO := hide ho; have D130 := Lib.hid d13
  clear hi ho hcl hby hy hj d13 e6
  go_enter Try.func29, Try.ntmps29
  go_wp2_with fail
  have hr0 := Is.new w 48 #[.int .u16 0, .int .u16 0, .int .u32 0, .int .u32 0, .int .u8 0, .int .u16 0, .int .u16 0, .int .u16 0, .slice none 0 0, .slice none 0 0]
  have hw0 : Below w.heap.size w (w.alloc (.cells #[.int .u16 0, .int .u16 0, .int .u32 0, .int .u32 0, .int .u8 0, .int .u16 0, .int .u16 0, .int .u16 0, .slice none 0 0, .slice none 0 0] 48)) := (Below.refl _ _).alloc (Nat.le_refl _) _
  have HI0 := hide (HI.out.st hw0)
  have D13 := Lib.hid ((hw0.cell (p := ⟨bl, ol + 13, none⟩) hbl0).trans D130.out)
  have hbl : bl < (w.alloc (.cells #[.int .u16 0, .int .u16 0, .int .u32 0, .int .u32 0, .int .u8 0, .int .u16 0, .int .u16 0, .int .u16 0, .slice none 0 0, .slice none 0 0] 48)).heap.size := Nat.lt_of_lt_of_le hbl0 hw0.size
  have hlt : w.heap.size < (w.alloc (.cells #[.int .u16 0, .int .u16 0, .int .u32 0, .int .u32 0, .int .u8 0, .int .u16 0, .int .u16 0, .int .u16 0, .slice none 0 0, .slice none 0 0] 48)).heap.size := by simp
  generalize w.alloc (.cells #[.int .u16 0, .int .u16 0, .int .u32 0, .int .u32 0, .int .u8 0, .int .u16 0, .int .u16 0, .int .u16 0, .slice none 0 0, .slice none 0 0] 48) = W at *
  have HR0 := hide hr0; have HW0 := Lib.hid hw0
  have HIW := hide HI0.out
  clear hr0 hw0 dc D130 HI
  refine Lin.wp_region_lin_tail Lin.keeps (n := 69) 26 (fun slotq => match slotq with | 31 => Lin.Spec.val (.slice (some ⟨bl, ol, none⟩) l.length c) | 32 => Lin.Spec.val (.int .u64 xa) | 33 => Lin.Spec.val (.int .u16 xa) | 34 => Lin.Spec.val (.slice (some ⟨bl, ol, none⟩) l.length c) | 35 => Lin.Spec.val (.int .u64 xb) | 36 => Lin.Spec.val (.int .u16 xb) | 37 => Lin.Spec.val (.slice (some ⟨bl, ol, none⟩) l.length c) | 38 => Lin.Spec.val (.int .u64 xs) | 39 => Lin.Spec.val (.int .u32 xs) | 40 => Lin.Spec.val (.slice (some ⟨bl, ol, none⟩) l.length c) | 41 => Lin.Spec.val (.int .u64 xk) | 42 => Lin.Spec.val (.int .u32 xk) | 43 => Lin.Spec.val (.slice (some ⟨bl, ol, none⟩) l.length c) | 44 => Lin.Spec.val (.pointer (some ⟨bl, ol + 13, none⟩)) | 45 => Lin.Spec.val (.int .u8 xf) | 46 => Lin.Spec.val (.slice (some ⟨bl, ol, none⟩) l.length c) | 47 => Lin.Spec.val (.int .u64 xn) | 48 => Lin.Spec.val (.int .u16 xn) | 49 => Lin.Spec.val (.slice (some ⟨bl, ol, none⟩) l.length c) | 50 => Lin.Spec.val (.int .u64 xm) | 51 => Lin.Spec.val (.int .u16 xm) | 52 => Lin.Spec.val (.slice (some ⟨bl, ol, none⟩) l.length c) | 53 => Lin.Spec.val (.int .u64 xg) | 54 => Lin.Spec.val (.int .u16 xg) | 55 => Lin.Spec.val (.agg #[.int .u16 xa, .int .u16 xb, .int .u32 xs, .int .u32 xk, .int .u8 xf, .int .u16 xn, .int .u16 xm, .int .u16 xg, .slice none 0 0, .slice none 0 0]) | 5 => specF W.heap.size | _ => Lin.Spec.any) (by kernel_rfl) rfl (by kernel_rfl) ⟨?_, ?_, ?_, ?_, ?_, ?_, ?_, ?_, ?_, ?_, ?_, ?_, ?_, ?_, ?_, ?_, ?_, ?_, ?_, ?_, ?_, ?_, ?_, ?_, ?_, ?_, trivial⟩ ?_
  · intro ρ wq hb ho hc hd
    have hC : ∀ v, ρ (.const v) = v := fun v => hc _ (by intro t e; cases e)
    have hF : ∀ f, ρ (.func f) = .func (.func f) #[] #[] := fun f => hc _ (by intro t e; cases e)
    have h0 : ρ (.tmp 0) = .slice (some ⟨bl, ol, none⟩) l.length c := ho 0 (by kernel_rfl)
    exact Lin.Runs.value Lin.keeps (Lin.exec_move rfl) h0
  · intro ρ wq hb ho hc hd
    have hC : ∀ v, ρ (.const v) = v := fun v => hc _ (by intro t e; cases e)
    have hF : ∀ f, ρ (.func f) = .func (.func f) #[] #[] := fun f => hc _ (by intro t e; cases e)
    have h31 : ρ (.tmp 31) = .slice (some ⟨bl, ol, none⟩) l.length c := hd 31 (by kernel_rfl)
    refine Lin.Runs.call Lin.keeps (f := 71) (args := #[.slice (some ⟨bl, ol, none⟩) l.length c, .int .i64 0, .int .i64 2]) (by simp [execOp, go_sem, hC, hF, h31]) ?_
    exact (get_q 0 2 xa (HI0.out.st hb) HO.out (by omega) (by omega) Hxa.out).mono fun e w9 ⟨h1, h2⟩ => ⟨_, h1, by subst h2; exact Below.refl _ _, rfl⟩
  · intro ρ wq hb ho hc hd
    have hC : ∀ v, ρ (.const v) = v := fun v => hc _ (by intro t e; cases e)
    have hF : ∀ f, ρ (.func f) = .func (.func f) #[] #[] := fun f => hc _ (by intro t e; cases e)
    have h32 : ρ (.tmp 32) = .int .u64 xa := hd 32 (by kernel_rfl)
    exact Lin.Runs.value Lin.keeps (v := .int .u16 xa) (by simp [execOp, go_sem, hC, hF, h32]; first | done | exact IntWalk.u16_in _ (by omega)) rfl
  · intro ρ wq hb ho hc hd
    have hC : ∀ v, ρ (.const v) = v := fun v => hc _ (by intro t e; cases e)
    have hF : ∀ f, ρ (.func f) = .func (.func f) #[] #[] := fun f => hc _ (by intro t e; cases e)
    have h0 : ρ (.tmp 0) = .slice (some ⟨bl, ol, none⟩) l.length c := ho 0 (by kernel_rfl)
    exact Lin.Runs.value Lin.keeps (Lin.exec_move rfl) h0
  · intro ρ wq hb ho hc hd
    have hC : ∀ v, ρ (.const v) = v := fun v => hc _ (by intro t e; cases e)
    have hF : ∀ f, ρ (.func f) = .func (.func f) #[] #[] := fun f => hc _ (by intro t e; cases e)
    have h34 : ρ (.tmp 34) = .slice (some ⟨bl, ol, none⟩) l.length c := hd 34 (by kernel_rfl)
    refine Lin.Runs.call Lin.keeps (f := 71) (args := #[.slice (some ⟨bl, ol, none⟩) l.length c, .int .i64 2, .int .i64 2]) (by simp [execOp, go_sem, hC, hF, h34]) ?_
    exact (get_q 2 2 xb (HI0.out.st hb) HO.out (by omega) (by omega) Hxb.out).mono fun e w9 ⟨h1, h2⟩ => ⟨_, h1, by subst h2; exact Below.refl _ _, rfl⟩
  · intro ρ wq hb ho hc hd
    have hC : ∀ v, ρ (.const v) = v := fun v => hc _ (by intro t e; cases e)
    have hF : ∀ f, ρ (.func f) = .func (.func f) #[] #[] := fun f => hc _ (by intro t e; cases e)
    have h35 : ρ (.tmp 35) = .int .u64 xb := hd 35 (by kernel_rfl)
    exact Lin.Runs.value Lin.keeps (v := .int .u16 xb) (by simp [execOp, go_sem, hC, hF, h35]; first | done | exact IntWalk.u16_in _ (by omega)) rfl
  · intro ρ wq hb ho hc hd
    have hC : ∀ v, ρ (.const v) = v := fun v => hc _ (by intro t e; cases e)
    have hF : ∀ f, ρ (.func f) = .func (.func f) #[] #[] := fun f => hc _ (by intro t e; cases e)
    have h0 : ρ (.tmp 0) = .slice (some ⟨bl, ol, none⟩) l.length c := ho 0 (by kernel_rfl)
    exact Lin.Runs.value Lin.keeps (Lin.exec_move rfl) h0
  · intro ρ wq hb ho hc hd
    have hC : ∀ v, ρ (.const v) = v := fun v => hc _ (by intro t e; cases e)
    have hF : ∀ f, ρ (.func f) = .func (.func f) #[] #[] := fun f => hc _ (by intro t e; cases e)
    have h37 : ρ (.tmp 37) = .slice (some ⟨bl, ol, none⟩) l.length c := hd 37 (by kernel_rfl)
    refine Lin.Runs.call Lin.keeps (f := 71) (args := #[.slice (some ⟨bl, ol, none⟩) l.length c, .int .i64 4, .int .i64 4]) (by simp [execOp, go_sem, hC, hF, h37]) ?_
    exact (get_q 4 4 xs (HI0.out.st hb) HO.out (by omega) (by omega) Hxs.out).mono fun e w9 ⟨h1, h2⟩ => ⟨_, h1, by subst h2; exact Below.refl _ _, rfl⟩
  · intro ρ wq hb ho hc hd
    have hC : ∀ v, ρ (.const v) = v := fun v => hc _ (by intro t e; cases e)
    have hF : ∀ f, ρ (.func f) = .func (.func f) #[] #[] := fun f => hc _ (by intro t e; cases e)
    have h38 : ρ (.tmp 38) = .int .u64 xs := hd 38 (by kernel_rfl)
    exact Lin.Runs.value Lin.keeps (v := .int .u32 xs) (by simp [execOp, go_sem, hC, hF, h38]; first | done | exact IntWalk.u32_in _ (by omega)) rfl
  · intro ρ wq hb ho hc hd
    have hC : ∀ v, ρ (.const v) = v := fun v => hc _ (by intro t e; cases e)
    have hF : ∀ f, ρ (.func f) = .func (.func f) #[] #[] := fun f => hc _ (by intro t e; cases e)
    have h0 : ρ (.tmp 0) = .slice (some ⟨bl, ol, none⟩) l.length c := ho 0 (by kernel_rfl)
    exact Lin.Runs.value Lin.keeps (Lin.exec_move rfl) h0
  · intro ρ wq hb ho hc hd
    have hC : ∀ v, ρ (.const v) = v := fun v => hc _ (by intro t e; cases e)
    have hF : ∀ f, ρ (.func f) = .func (.func f) #[] #[] := fun f => hc _ (by intro t e; cases e)
    have h40 : ρ (.tmp 40) = .slice (some ⟨bl, ol, none⟩) l.length c := hd 40 (by kernel_rfl)
    refine Lin.Runs.call Lin.keeps (f := 71) (args := #[.slice (some ⟨bl, ol, none⟩) l.length c, .int .i64 8, .int .i64 4]) (by simp [execOp, go_sem, hC, hF, h40]) ?_
    exact (get_q 8 4 xk (HI0.out.st hb) HO.out (by omega) (by omega) Hxk.out).mono fun e w9 ⟨h1, h2⟩ => ⟨_, h1, by subst h2; exact Below.refl _ _, rfl⟩
  · intro ρ wq hb ho hc hd
    have hC : ∀ v, ρ (.const v) = v := fun v => hc _ (by intro t e; cases e)
    have hF : ∀ f, ρ (.func f) = .func (.func f) #[] #[] := fun f => hc _ (by intro t e; cases e)
    have h41 : ρ (.tmp 41) = .int .u64 xk := hd 41 (by kernel_rfl)
    exact Lin.Runs.value Lin.keeps (v := .int .u32 xk) (by simp [execOp, go_sem, hC, hF, h41]; first | done | exact IntWalk.u32_in _ (by omega)) rfl
  · intro ρ wq hb ho hc hd
    have hC : ∀ v, ρ (.const v) = v := fun v => hc _ (by intro t e; cases e)
    have hF : ∀ f, ρ (.func f) = .func (.func f) #[] #[] := fun f => hc _ (by intro t e; cases e)
    have h0 : ρ (.tmp 0) = .slice (some ⟨bl, ol, none⟩) l.length c := ho 0 (by kernel_rfl)
    exact Lin.Runs.value Lin.keeps (Lin.exec_move rfl) h0
  · intro ρ wq hb ho hc hd
    have hC : ∀ v, ρ (.const v) = v := fun v => hc _ (by intro t e; cases e)
    have hF : ∀ f, ρ (.func f) = .func (.func f) #[] #[] := fun f => hc _ (by intro t e; cases e)
    have h43 : ρ (.tmp 43) = .slice (some ⟨bl, ol, none⟩) l.length c := hd 43 (by kernel_rfl)
    exact Lin.Runs.value Lin.keeps (v := .pointer (some ⟨bl, ol + 13, none⟩)) (by simp [execOp, go_sem, hC, hF, h43, hl13, hl13n]) rfl
  · intro ρ wq hb ho hc hd
    have hC : ∀ v, ρ (.const v) = v := fun v => hc _ (by intro t e; cases e)
    have hF : ∀ f, ρ (.func f) = .func (.func f) #[] #[] := fun f => hc _ (by intro t e; cases e)
    have h44 : ρ (.tmp 44) = .pointer (some ⟨bl, ol + 13, none⟩) := hd 44 (by kernel_rfl)
    have dd := (hb.cell (p := ⟨bl, ol + 13, none⟩) hbl).trans D13.out
    exact Lin.Runs.value Lin.keeps (v := .int .u8 xf) (by simp [execOp, go_sem, hC, hF, h44, dd]) rfl
  · intro ρ wq hb ho hc hd
    have hC : ∀ v, ρ (.const v) = v := fun v => hc _ (by intro t e; cases e)
    have hF : ∀ f, ρ (.func f) = .func (.func f) #[] #[] := fun f => hc _ (by intro t e; cases e)
    have h0 : ρ (.tmp 0) = .slice (some ⟨bl, ol, none⟩) l.length c := ho 0 (by kernel_rfl)
    exact Lin.Runs.value Lin.keeps (Lin.exec_move rfl) h0
  · intro ρ wq hb ho hc hd
    have hC : ∀ v, ρ (.const v) = v := fun v => hc _ (by intro t e; cases e)
    have hF : ∀ f, ρ (.func f) = .func (.func f) #[] #[] := fun f => hc _ (by intro t e; cases e)
    have h46 : ρ (.tmp 46) = .slice (some ⟨bl, ol, none⟩) l.length c := hd 46 (by kernel_rfl)
    refine Lin.Runs.call Lin.keeps (f := 71) (args := #[.slice (some ⟨bl, ol, none⟩) l.length c, .int .i64 14, .int .i64 2]) (by simp [execOp, go_sem, hC, hF, h46]) ?_
    exact (get_q 14 2 xn (HI0.out.st hb) HO.out (by omega) (by omega) Hxn.out).mono fun e w9 ⟨h1, h2⟩ => ⟨_, h1, by subst h2; exact Below.refl _ _, rfl⟩
  · intro ρ wq hb ho hc hd
    have hC : ∀ v, ρ (.const v) = v := fun v => hc _ (by intro t e; cases e)
    have hF : ∀ f, ρ (.func f) = .func (.func f) #[] #[] := fun f => hc _ (by intro t e; cases e)
    have h47 : ρ (.tmp 47) = .int .u64 xn := hd 47 (by kernel_rfl)
    exact Lin.Runs.value Lin.keeps (v := .int .u16 xn) (by simp [execOp, go_sem, hC, hF, h47]; first | done | exact IntWalk.u16_in _ (by omega)) rfl
  · intro ρ wq hb ho hc hd
    have hC : ∀ v, ρ (.const v) = v := fun v => hc _ (by intro t e; cases e)
    have hF : ∀ f, ρ (.func f) = .func (.func f) #[] #[] := fun f => hc _ (by intro t e; cases e)
    have h0 : ρ (.tmp 0) = .slice (some ⟨bl, ol, none⟩) l.length c := ho 0 (by kernel_rfl)
    exact Lin.Runs.value Lin.keeps (Lin.exec_move rfl) h0
  · intro ρ wq hb ho hc hd
    have hC : ∀ v, ρ (.const v) = v := fun v => hc _ (by intro t e; cases e)
    have hF : ∀ f, ρ (.func f) = .func (.func f) #[] #[] := fun f => hc _ (by intro t e; cases e)
    have h49 : ρ (.tmp 49) = .slice (some ⟨bl, ol, none⟩) l.length c := hd 49 (by kernel_rfl)
    refine Lin.Runs.call Lin.keeps (f := 71) (args := #[.slice (some ⟨bl, ol, none⟩) l.length c, .int .i64 16, .int .i64 2]) (by simp [execOp, go_sem, hC, hF, h49]) ?_
    exact (get_q 16 2 xm (HI0.out.st hb) HO.out (by omega) (by omega) Hxm.out).mono fun e w9 ⟨h1, h2⟩ => ⟨_, h1, by subst h2; exact Below.refl _ _, rfl⟩
  · intro ρ wq hb ho hc hd
    have hC : ∀ v, ρ (.const v) = v := fun v => hc _ (by intro t e; cases e)
    have hF : ∀ f, ρ (.func f) = .func (.func f) #[] #[] := fun f => hc _ (by intro t e; cases e)
    have h50 : ρ (.tmp 50) = .int .u64 xm := hd 50 (by kernel_rfl)
    exact Lin.Runs.value Lin.keeps (v := .int .u16 xm) (by simp [execOp, go_sem, hC, hF, h50]; first | done | exact IntWalk.u16_in _ (by omega)) rfl
  · intro ρ wq hb ho hc hd
    have hC : ∀ v, ρ (.const v) = v := fun v => hc _ (by intro t e; cases e)
    have hF : ∀ f, ρ (.func f) = .func (.func f) #[] #[] := fun f => hc _ (by intro t e; cases e)
    have h0 : ρ (.tmp 0) = .slice (some ⟨bl, ol, none⟩) l.length c := ho 0 (by kernel_rfl)
    exact Lin.Runs.value Lin.keeps (Lin.exec_move rfl) h0
  · intro ρ wq hb ho hc hd
    have hC : ∀ v, ρ (.const v) = v := fun v => hc _ (by intro t e; cases e)
    have hF : ∀ f, ρ (.func f) = .func (.func f) #[] #[] := fun f => hc _ (by intro t e; cases e)
    have h52 : ρ (.tmp 52) = .slice (some ⟨bl, ol, none⟩) l.length c := hd 52 (by kernel_rfl)
    refine Lin.Runs.call Lin.keeps (f := 71) (args := #[.slice (some ⟨bl, ol, none⟩) l.length c, .int .i64 18, .int .i64 2]) (by simp [execOp, go_sem, hC, hF, h52]) ?_
    exact (get_q 18 2 xg (HI0.out.st hb) HO.out (by omega) (by omega) Hxg.out).mono fun e w9 ⟨h1, h2⟩ => ⟨_, h1, by subst h2; exact Below.refl _ _, rfl⟩
  · intro ρ wq hb ho hc hd
    have hC : ∀ v, ρ (.const v) = v := fun v => hc _ (by intro t e; cases e)
    have hF : ∀ f, ρ (.func f) = .func (.func f) #[] #[] := fun f => hc _ (by intro t e; cases e)
    have h53 : ρ (.tmp 53) = .int .u64 xg := hd 53 (by kernel_rfl)
    exact Lin.Runs.value Lin.keeps (v := .int .u16 xg) (by simp [execOp, go_sem, hC, hF, h53]; first | done | exact IntWalk.u16_in _ (by omega)) rfl
  · intro ρ wq hb ho hc hd
    have hC : ∀ v, ρ (.const v) = v := fun v => hc _ (by intro t e; cases e)
    have hF : ∀ f, ρ (.func f) = .func (.func f) #[] #[] := fun f => hc _ (by intro t e; cases e)
    have h33 : ρ (.tmp 33) = .int .u16 xa := hd 33 (by kernel_rfl)
    have h36 : ρ (.tmp 36) = .int .u16 xb := hd 36 (by kernel_rfl)
    have h39 : ρ (.tmp 39) = .int .u32 xs := hd 39 (by kernel_rfl)
    have h42 : ρ (.tmp 42) = .int .u32 xk := hd 42 (by kernel_rfl)
    have h45 : ρ (.tmp 45) = .int .u8 xf := hd 45 (by kernel_rfl)
    have h48 : ρ (.tmp 48) = .int .u16 xn := hd 48 (by kernel_rfl)
    have h51 : ρ (.tmp 51) = .int .u16 xm := hd 51 (by kernel_rfl)
    have h54 : ρ (.tmp 54) = .int .u16 xg := hd 54 (by kernel_rfl)
    exact Lin.Runs.value Lin.keeps (v := .agg #[.int .u16 xa, .int .u16 xb, .int .u32 xs, .int .u32 xk, .int .u8 xf, .int .u16 xn, .int .u16 xm, .int .u16 xg, .slice none 0 0, .slice none 0 0]) (by simp [execOp, go_sem, hC, hF, h33, h36, h39, h42, h45, h48, h51, h54]) rfl
  · intro ρ wq hb ho hc hd
    have hC : ∀ v, ρ (.const v) = v := fun v => hc _ (by intro t e; cases e)
    have hF : ∀ f, ρ (.func f) = .func (.func f) #[] #[] := fun f => hc _ (by intro t e; cases e)
    exact Lin.Runs.made (v := .pointer (some ⟨wq.heap.size, 0, none⟩)) (w' := wq.alloc (.cells #[.int .u16 0, .int .u16 0, .int .u32 0, .int .u32 0, .int .u8 0, .int .u16 0, .int .u16 0, .int .u16 0, .slice none 0 0, .slice none 0 0] 48)) (by simp [execOp, go_sem, hC, hF]) ((Below.refl _ _).alloc (Nat.le_refl _) _) ⟨_, rfl, Is.new _ _ _, hb.size⟩
  · intro vals w2 hb2 hv
    obtain ⟨p, e5, hp, hpW⟩ := hv 5 (by kernel_rfl)
    have e55 : vals 55 = .agg #[.int .u16 xa, .int .u16 xb, .int .u32 xs, .int .u32 xk, .int .u8 xf, .int .u16 xn, .int .u16 xm, .int .u16 xg, .slice none 0 0, .slice none 0 0] := hv 55 (by kernel_rfl)
    change wpList _ _ _ [_] _ _
    simp only [Lin.putAll, Option.getD_some, List.take_succ_cons, List.take_zero, List.drop_succ_cons, List.drop_zero]
    rw [e5, e55]
    have HR1 := hide (HR0.out.below hb2 hlt)
    have HB1 := Lib.hid (hb2)
    have p0 := hp.cell 0
    have p1 := hp.cell 1
    have p2 := hp.cell 2
    have p3 := hp.cell 3
    have p4 := hp.cell 4
    have p5 := hp.cell 5
    have p6 := hp.cell 6
    have p7 := hp.cell 7
    have p8 := hp.cell 8
    have p9 := hp.cell 9
    have fp := hp.free
    have lp := hp.lt
    simp at p0 p1 p2 p3 p4 p5 p6 p7 p8 p9 fp
    have HP1 := hide hp
    clear hv hb2 hp e5 e55
    go_simp
    generalize vals = vv
    go_upto_region 9 with (fail)
    have hp2 := ((((((((((HP1.out.put 0 (.int .u16 xa)).put 1 (.int .u16 xb)).put 2 (.int .u32 xs)).put 3 (.int .u32 xk)).put 4 (.int .u8 xf)).put 5 (.int .u16 xn)).put 6 (.int .u16 xm)).put 7 (.int .u16 xg)).put 8 (.slice none 0 0)).put 9 (.slice none 0 0))
    simp only [List.setIfInBounds_toArray, List.set_cons_zero, List.set_cons_succ] at hp2
    have hpr : w.heap.size ≠ p := by omega
    have HB2 := Lib.hid ((set1B (g := p) (i := 9) (set1B (g := p) (i := 8) (set1B (g := p) (i := 7) (set1B (g := p) (i := 6) (set1B (g := p) (i := 5) (set1B (g := p) (i := 4) (set1B (g := p) (i := 3) (set1B (g := p) (i := 2) (set1B (g := p) (i := 1) (set1B (g := p) (i := 0) HB1.out (by omega) (.int .u16 xa)) (by omega) (.int .u16 xb)) (by omega) (.int .u32 xs)) (by omega) (.int .u32 xk)) (by omega) (.int .u8 xf)) (by omega) (.int .u16 xn)) (by omega) (.int .u16 xm)) (by omega) (.int .u16 xg)) (by omega) (.slice none 0 0)) (by omega) (.slice none 0 0)))
    have HR2 := hide (((((((((((HR1.out.other (p := ⟨p, 0, none⟩) (by show w.heap.size ≠ p; omega) (.int .u16 xa)).other (p := ⟨p, 1, none⟩) (by show w.heap.size ≠ p; omega) (.int .u16 xb)).other (p := ⟨p, 2, none⟩) (by show w.heap.size ≠ p; omega) (.int .u32 xs)).other (p := ⟨p, 3, none⟩) (by show w.heap.size ≠ p; omega) (.int .u32 xk)).other (p := ⟨p, 4, none⟩) (by show w.heap.size ≠ p; omega) (.int .u8 xf)).other (p := ⟨p, 5, none⟩) (by show w.heap.size ≠ p; omega) (.int .u16 xn)).other (p := ⟨p, 6, none⟩) (by show w.heap.size ≠ p; omega) (.int .u16 xm)).other (p := ⟨p, 7, none⟩) (by show w.heap.size ≠ p; omega) (.int .u16 xg)).other (p := ⟨p, 8, none⟩) (by show w.heap.size ≠ p; omega) (.slice none 0 0)).other (p := ⟨p, 9, none⟩) (by show w.heap.size ≠ p; omega) (.slice none 0 0)))
    clear HR1 HP1
    have HI3 := hide (HI0.out.st HB2.out)
    generalize (World.setCell (World.setCell (World.setCell (World.setCell (World.setCell (World.setCell (World.setCell (World.setCell (World.setCell (World.setCell w2 ⟨p, 0, none⟩ (.int .u16 xa)) ⟨p, 1, none⟩ (.int .u16 xb)) ⟨p, 2, none⟩ (.int .u32 xs)) ⟨p, 3, none⟩ (.int .u32 xk)) ⟨p, 4, none⟩ (.int .u8 xf)) ⟨p, 5, none⟩ (.int .u16 xn)) ⟨p, 6, none⟩ (.int .u16 xm)) ⟨p, 7, none⟩ (.int .u16 xg)) ⟨p, 8, none⟩ (.slice none 0 0)) ⟨p, 9, none⟩ (.slice none 0 0)) = w3 at *
    clear p0 p1 p2 p3 p4 p5 p6 p7 p8 p9 fp lp HB1 HI0
    have HP3 := hide hp2
    clear hp2
    go_upto_region 10 with (first
      | ((with_reducible show wpList _ _ _ (⟨some 59, _, _, _, _, _⟩ :: _) _ _)
         refine sl_q2 _ _ _ rfl rfl (i := 20) (k := i) rfl rfl rfl (HI3.out.alloc _) hij2 ?_
         intro X9 d9 hX9
         have HX9 := hide hX9
         clear hX9)
      | ((with_reducible show wpList _ _ _ (⟨some 60, _, _, _, _, _⟩ :: _) _ _)
         refine app_k _ _ _ rfl rfl Try.underlying22 info8 (v := .slice (some ⟨w3.heap.size, 0, none⟩) 0 0) (base := w3.heap.size) (xs := []) (k := 0) (k' := i) rfl (own_empty_at rfl) rfl rfl HX9.out (by omega) (by omega) (by simp) ?_
         intro A9 c9 w9 ho hg
         have hp9 := (HP3.out.alloc (.cells #[] 5)).only hg (by have := HP3.out.lt; simp [Value.ownBlock]; omega)
         have hr9 := (HR2.out.alloc (.cells #[] 5)).only hg (by have := HR2.out.lt; simp [Value.ownBlock]; omega)
         have HO9 := hide ho
         have hb9 : Below w3.heap.size w3 w9 := ((Below.refl _ _).alloc (Nat.le_refl _) _).grown hg (by simp) (fun k hk => by simp [Value.ownBlock] at hk; omega)
         have HP9 := hide hp9; have HR9 := hide hr9; have HB9 := Lib.hid hb9
         have p0 := hp9.cell 0
         have p1 := hp9.cell 1
         have p2 := hp9.cell 2
         have p3 := hp9.cell 3
         have p4 := hp9.cell 4
         have p5 := hp9.cell 5
         have p6 := hp9.cell 6
         have p7 := hp9.cell 7
         have p8 := hp9.cell 8
         have p9 := hp9.cell 9
         have fp := hp9.free
         have lp := hp9.lt
         simp at p0 p1 p2 p3 p4 p5 p6 p7 p8 p9 fp
         clear ho hg hp9 hr9 hb9 HX9))
    have hp10 := HP9.out.put 8 (.slice A9 i c9)
    simp only [List.setIfInBounds_toArray, List.set_cons_zero, List.set_cons_succ] at hp10
    have HR10 := hide (HR9.out.other (p := ⟨p, 8, none⟩) (by show w.heap.size ≠ p; omega) (.slice A9 i c9))
    have HB10 := Lib.hid (set1B (g := p) (i := 8) (HB2.out.trans (HB9.out.mono HB2.out.size)) (by omega) (.slice A9 i c9))
    have HI10 := hide (HIW.out.st HB10.out)
    have HO10 := hide (HO9.out.set1 (g := p) (i := 8) HP3.out.lt (.slice A9 i c9))
    have hp3l := HP3.out.lt
    have hz9 := HB9.out.size
    generalize World.setCell w9 ⟨p, 8, none⟩ (.slice A9 i c9) = w10 at *
    clear p0 p1 p2 p3 p4 p5 p6 p7 p8 p9 fp lp HP9 HR9 HB9 HO9 HI3 HB2 HR2
    have HP10 := hide hp10
    clear hp10
    go_wp2_with (first
      | ((with_reducible show wpList _ _ _ (⟨some 65, _, _, _, _, _⟩ :: _) _ _)
         refine sl_q1 _ _ rfl rfl (i := 20 + i) (k := j) rfl rfl (HI10.out.alloc _) HJ.out ?_
         intro X9 d9 hX9
         have HX9 := hide hX9
         clear hX9)
      | ((with_reducible show wpList _ _ _ (⟨some 66, _, _, _, _, _⟩ :: _) _ _)
         refine app_k _ _ _ rfl rfl Try.underlying22 info8 (v := .slice (some ⟨w10.heap.size, 0, none⟩) 0 0) (base := w10.heap.size) (xs := []) (k := 0) (k' := j) rfl (own_empty_at rfl) rfl rfl HX9.out (by omega) (by omega) (by simp) ?_
         intro A12 c12 w12 ho hg
         have hp9 := (HP10.out.alloc (.cells #[] 5)).only hg (by have := HP10.out.lt; simp [Value.ownBlock]; omega)
         have hr9 := (HR10.out.alloc (.cells #[] 5)).only hg (by have := HR10.out.lt; simp [Value.ownBlock]; omega)
         have HO12 := hide ho
         have hb9 : Below w10.heap.size w10 w12 := ((Below.refl _ _).alloc (Nat.le_refl _) _).grown hg (by simp) (fun k hk => by simp [Value.ownBlock] at hk; omega)
         have HP12 := hide hp9; have HR12 := hide hr9; have HB12 := Lib.hid hb9
         have p0 := hp9.cell 0
         have p1 := hp9.cell 1
         have p2 := hp9.cell 2
         have p3 := hp9.cell 3
         have p4 := hp9.cell 4
         have p5 := hp9.cell 5
         have p6 := hp9.cell 6
         have p7 := hp9.cell 7
         have p8 := hp9.cell 8
         have p9 := hp9.cell 9
         have fp := hp9.free
         have lp := hp9.lt
         simp at p0 p1 p2 p3 p4 p5 p6 p7 p8 p9 fp
         have r0 := hr9.cell 0
         have r1 := hr9.cell 1
         have r2 := hr9.cell 2
         have r3 := hr9.cell 3
         have r4 := hr9.cell 4
         have r5 := hr9.cell 5
         have r6 := hr9.cell 6
         have r7 := hr9.cell 7
         have r8 := hr9.cell 8
         have r9 := hr9.cell 9
         have fr := hr9.free
         have lr := hr9.lt
         simp at r0 r1 r2 r3 r4 r5 r6 r7 r8 r9 fr
         clear ho hg hp9 hr9 hb9 HX9))
    refine bodyPost_ret (v := .tuple #[sg6 xa xb xs xk xf xn xm xg (.slice A9 i c9) (.slice A12 j c12), .int .i64 0]) (by simp [results, Try.results29, go_sem, sg6, r0, r1, r2, r3, r4, r5, r6, r7, r8, r9]) rfl ⟨_, _, rfl, ?_, IsB.own (base := p + 1) ?_, IsB.own (base := p + 1) ?_⟩
    · have ob := HW0.out.trans ((HB10.out.trans (HB12.out.mono HB10.out.size)).mono HW0.out.size)
      repeat' first | with_reducible exact ob | with_reducible apply Below.set1
      all_goals omega
    · have ob : OwnB w12 (p + 1) (.slice A9 i c9) ((l.drop 20).take i) := by have h := (HO10.out.below HB12.out).lower (base' := p + 1) (by omega); rw [List.nil_append] at h; exact h
      repeat' first | with_reducible exact ob | with_reducible apply OwnB.set1
      all_goals omega
    · have ob : OwnB w12 (p + 1) (.slice A12 j c12) (l.drop (20 + i)) := by have h := HO12.out.lower (base' := p + 1) (by have := HP10.out.lt; omega); rw [List.nil_append] at h; exact h
      repeat' first | with_reducible exact ob | with_reducible apply OwnB.set1
      all_goals omega
end Go.Proofs.Ytkdcaipadejchaa
