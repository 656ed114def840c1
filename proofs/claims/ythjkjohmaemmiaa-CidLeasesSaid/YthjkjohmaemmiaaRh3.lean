/-
  Next of package ring; words for a key that is stored in a drawn region. Helper of the claims of layer 11. No condition.
-/
import Derived.Test.YthjkjohmaemmiaaRh2
import Derived.Test.YthjkjohmaemmiaaLin2
namespace Go.Proofs.Ythjkjohmaemmiaa
open Go.ChangeShapes Go.WideShapes Go.ChangeAt Go.RowKit
set_option linter.unusedSimpArgs false
set_option linter.unusedVariables false
set_option maxRecDepth 100000
set_option maxHeartbeats 400000 in
theorem hnext (key : List Int) (hk : key.length = 16) (n m : Nat) (hw : IntKind.u64.wrap ((n : Int) + 1) = (m : Int)) (w : World) : Calls Try.prog 25 #[.agg (rcs key n)] w fun e w' => e = .returned (.agg (rcs key m)) ∧ Below w.heap.size w w' := by
  have hb0 : Below w.heap.size w ((w.alloc (.cells (rcs key n) 45)).alloc (.cells #[.int .u8 0, .int .u8 0, .int .u8 0, .int .u8 0, .int .u8 0, .int .u8 0, .int .u8 0, .int .u8 0, .int .u8 0, .int .u8 0, .int .u8 0, .int .u8 0, .int .u8 0, .int .u8 0, .int .u8 0, .int .u8 0, .int .u64 0] 45)) := ((Below.refl _ _).alloc (Nat.le_refl _) _).alloc (by simp) _
  have hr0 := (Is.new w 45 (rcs key n)).alloc (.cells #[.int .u8 0, .int .u8 0, .int .u8 0, .int .u8 0, .int .u8 0, .int .u8 0, .int .u8 0, .int .u8 0, .int .u8 0, .int .u8 0, .int .u8 0, .int .u8 0, .int .u8 0, .int .u8 0, .int .u8 0, .int .u8 0, .int .u64 0] 45)
  have hg0 := Is.new (w.alloc (.cells (rcs key n) 45)) 45 #[.int .u8 0, .int .u8 0, .int .u8 0, .int .u8 0, .int .u8 0, .int .u8 0, .int .u8 0, .int .u8 0, .int .u8 0, .int .u8 0, .int .u8 0, .int .u8 0, .int .u8 0, .int .u8 0, .int .u8 0, .int .u8 0, .int .u64 0]
  rw [show (w.alloc (.cells (rcs key n) 45)).heap.size = w.heap.size + 1 from by simp] at hg0
  have R0 := Lib.hid hr0; have J0 := Lib.hid hg0; have HB0 := Lib.hid hb0; have HK := Lib.hid hk; have HSZ := Lib.hid (rcs_size hk m); have HONE := Lib.hid (rcs_one key m)
  have H16 := rcs_now hk n
  clear hr0 hg0 hb0 hk
  go_enter Try.func25, Try.ntmps25
  go_wp2_with (with_reducible show wpList _ _ _ (⟨some 4, _, _, _, _, _⟩ :: _) _ _; go_loud (refine wpList_load_mid rfl 43 (.tmp 3) rfl w.heap.size 0 rfl (u8s key) _ (ring_range HK.out R0.out) Try.underlying43 rfl (by rw [show (u8s key).length = 16 from by simp [u8s, HK.out]]; kernel_rfl) ?_))
  refine (hnew key HK.out m _).mono ?_
  rintro e w1 ⟨rfl, hb⟩
  have J1 := Lib.hid (J0.out.below hb J0.out.lt); have HB1 := Lib.hid (HB0.out.trans (hb.mono HB0.out.size))
  clear hb J0 HB0 R0 H16
  go_wp2_with (with_reducible show wpList _ _ _ (⟨none, _, _, _, _, _⟩ :: _) _ _; go_loud (refine Go.wpList_store_row rfl 45 (.tmp 2) (.tmp 8) rfl (w.heap.size + 1) (rcs key m) rfl rfl 45 #[.int .u8 0, .int .u8 0, .int .u8 0, .int .u8 0, .int .u8 0, .int .u8 0, .int .u8 0, .int .u8 0, .int .u8 0, .int .u8 0, .int .u8 0, .int .u8 0, .int .u8 0, .int .u8 0, .int .u8 0, .int .u8 0, .int .u64 0] (is_raw J1.out) (by rw [HSZ.out]; kernel_rfl) (by rw [HSZ.out]; simp) HONE.out ?_))
  refine bodyPost_ret (v := .agg (rcs key m)) ?_ rfl ⟨rfl, below_setRow HB1.out (Nat.le_succ _) _⟩
  exact (results_cell_row Try.results25 _ _ (w.heap.size + 1) 45 (rcs key m) (0, 0) _ rfl (is_raw (is_row J1.out)) Try.underlying45 rfl (by rw [HSZ.out]; kernel_rfl))
abbrev TRk (t : TypeId) (B : Nat) (Z N : Array Value) : World → World → Prop := Lin.Turns B (fun a b => a = some (.cells Z t (0, 0)) ∧ b = some (.cells N t (0, 0)))
theorem turnsK (B : Nat) (t : TypeId) (Z N : Array Value) : Lin.Rel (TRk t B Z N) := Lin.turns fun h k => ⟨h.1, k.2⟩
theorem turnK_is {t : TypeId} {B p : Nat} {Z N : Array Value} {w w' : World} (h : TRk t B Z N w w') (hp : Is w p t Z ∨ Is w p t N) : Is w' p t Z ∨ Is w' p t N := by
  have hl : p < w.heap.size := by rcases hp with hp | hp <;> exact hp.lt
  rcases h.2.2.2.2 p hl with e | ⟨_, e⟩
  · rcases hp with hp | hp
    · exact .inl (e.trans hp)
    · exact .inr (e.trans hp)
  · exact .inr e.2
theorem turnK_new {t : TypeId} {B p : Nat} {Z N : Array Value} {w w' : World} (h : TRk t B Z N w w') (hp : Is w p t N) : Is w' p t N := by
  rcases h.2.2.2.2 p hp.lt with e | ⟨_, e⟩
  · exact e.trans hp
  · exact e.2
theorem turnsK_store {t : TypeId} {B p : Nat} {Z N : Array Value} {w : World} (hB : B ≤ p) (hp : Is w p t Z ∨ Is w p t N) : TRk t B Z N w (w.setRow p N) :=
  ⟨rfl, rfl, rfl, by simp [World.setRow], fun i _ => by
    by_cases e : i = p
    · subst e
      rcases hp with hp | hp
      · exact .inr ⟨hB, hp, is_row hp⟩
      · exact .inl (Eq.trans (is_row hp) hp.symm)
    · exact .inl (setRow_other w p i N e)⟩
def specZk (t : TypeId) (B : Nat) (Z N : Array Value) : Lin.Spec (TRk t B Z N) := ⟨fun v w => ∃ p, v = .pointer (some ⟨p, 0, none⟩) ∧ B ≤ p ∧ (Is w p t Z ∨ Is w p t N), fun ⟨p, e, hB, hp⟩ h => ⟨p, e, hB, turnK_is h hp⟩⟩
def specNk (t : TypeId) (B : Nat) (Z N : Array Value) : Lin.Spec (TRk t B Z N) := ⟨fun v w => ∃ p, v = .pointer (some ⟨p, 0, none⟩) ∧ B ≤ p ∧ Is w p t N, fun ⟨p, e, hB, hp⟩ h => ⟨p, e, hB, turnK_new h hp⟩⟩
theorem exec_store_rowk {P : Program} {o : Oper} {ρ : Operand → Value} {w : World} (ty : TypeId) (x y : Operand) (ho : o.op = .store ty x y) (g : Nat) (cells : Array Value) (hx : ρ x = .pointer (some ⟨g, 0, none⟩)) (hy : ρ y = .agg cells)
    (t : TypeId) (old : Array Value) (hg : Is w g t old) (hi : (P.info? ty).map (·.size) = some cells.size) (hold : old.size = cells.size) (h1 : cells.all (·.oneCell') = true) :
    (execOp ρ o).run P w = .ok .skip (w.setRow g cells) := by
  unfold execOp
  simp only [ho, hx, hy, Instr.storeAt, Instr.sureAddr, Sem.run_bind, Sem.run_pure, Result.andThen_ok, run_storeVar_row w g t ty old cells hg hi hold h1]
def K1 : List Int := [1, 0, 0, 0, 0, 0, 0, 0, 0, 0, 0, 0, 0, 0, 0, 0]
theorem k1_new (n : Nat) (w : World) : Calls Try.prog 22 #[.agg #[.int .u8 1, .int .u8 0, .int .u8 0, .int .u8 0, .int .u8 0, .int .u8 0, .int .u8 0, .int .u8 0, .int .u8 0, .int .u8 0, .int .u8 0, .int .u8 0, .int .u8 0, .int .u8 0, .int .u8 0, .int .u8 0], .int .u64 (n : Int)] w fun e w' => e = .returned (.agg (rcs K1 n)) ∧ Below w.heap.size w w' := hnew K1 rfl n w
theorem k1_ok : Octets K1 := Octets.ofAll (by decide)
end Go.Proofs.Ythjkjohmaemmiaa
