/-
  The law VarintPuts for numbers that fit: one walk for each of the four sizes. Helper of the claim VarintPuts. No condition.
-/
import Derived.Test.YtkgmgmlicgjfdaaVw
import Derived.Test.YtkgmgmlicgjfdaaGrow3
namespace Go.Proofs.Ytkgmgmlicgjfdaa
open Go.ChangeShapes Go.WideShapes Go.ChangeAt Go.RowKit
set_option linter.unusedVariables false
set_option maxRecDepth 100000
set_option maxHeartbeats 4000000 in
theorem walk_0 (A : Option Addr) (c : Nat) (b : List Int) (n : Nat) (w : World) (hv : IsB b b.length (.slice A b.length c) w) (ho : Octets b) (hn : n < 18446744073709551616) (h5 : ¬ 500 < b.length) (hlo : 0 ≤ n) (hhi : n < 64) : Calls Try.prog 7 #[.slice A b.length c, .int .u64 (n : Int)] w fun e w' => e = .returned (.bool true) ∧ Below w.heap.size w w' := by
  have h : ¬ (500 : Int) < (b.length : Int) := by omega
  have HV := hide hv; have HO := hide ho
  clear hv ho
  go_enter Try.func7, Try.ntmps7
  go_wp2_with fail
  refine (vput_0 A c b n _ HV.out (by omega) hlo hhi).mono ?_
  rintro e w1 ⟨v5, rfl, hb, hv5⟩
  obtain ⟨LP5, hLP5⟩ : ∃ x, (b ++ be (0 + n) 1).length = x := ⟨_, rfl⟩
  rw [hLP5] at hv5
  obtain ⟨A5, c5, rfl⟩ := hv5.shape
  have HV1 := hide (HV.out.st hb); have HP1 := hide hv5; have HB1 := Lib.hid hb
  have HL5 := Lib.hid hLP5
  clear hb hv5 HV hLP5
  go_wp2_with fail
  refine (vsize n hn _).mono ?_
  rintro e w9 ⟨rfl, h9⟩
  have h9' : e = .returned (.int .i64 1) := by
    rcases h9 with ⟨k, hk, rfl, h1, h2⟩ | ⟨rfl, h1⟩
    · obtain rfl : k = 0 := by
        have h : k = 0 ∨ k = 1 ∨ k = 2 ∨ k = 3 := by omega
        have g0 := h2 0; have g1 := h2 1; have g2 := h2 2
        rcases h with rfl | rfl | rfl | rfl <;> simp [vbd] at h1 g0 g1 g2 <;> omega
      rfl
    · omega
  subst h9'
  clear h9
  go_wp2_with fail
  refine (rsize n hn _).mono ?_
  rintro e w9 ⟨rfl, h9⟩
  have h9' : e = .returned (.int .i64 1) := by
    rcases h9 with ⟨k, hk, rfl, h1, h2⟩ | ⟨rfl, h1⟩
    · obtain rfl : k = 0 := by
        have h : k = 0 ∨ k = 1 ∨ k = 2 ∨ k = 3 := by omega
        have g0 := h2 0; have g1 := h2 1; have g2 := h2 2
        rcases h with rfl | rfl | rfl | rfl <;> simp [vbd] at h1 g0 g1 g2 <;> omega
      rfl
    · omega
  subst h9'
  clear h9
  go_wp2_with fail
  refine (rsize n hn _).mono ?_
  rintro e w9 ⟨rfl, h9⟩
  have h9' : e = .returned (.int .i64 1) := by
    rcases h9 with ⟨k, hk, rfl, h1, h2⟩ | ⟨rfl, h1⟩
    · obtain rfl : k = 0 := by
        have h : k = 0 ∨ k = 1 ∨ k = 2 ∨ k = 3 := by omega
        have g0 := h2 0; have g1 := h2 1; have g2 := h2 2
        rcases h with rfl | rfl | rfl | rfl <;> simp [vbd] at h1 g0 g1 g2 <;> omega
      rfl
    · omega
  subst h9'
  clear h9
  go_wp2_with fail
  refine (rvb_0 n _ hlo hhi).mono ?_
  rintro e w2 ⟨A2, c2, rfl, ho2, hb⟩
  have HO2 := hide ho2; have HV2 := hide (HV1.out.st hb); have HP2 := hide (HP1.out.st hb); have HB2 := Lib.hid (HB1.out.trans (hb.mono HB1.out.size)); have HB12 := Lib.hid hb
  clear ho2 hb
  have hz12 := HB2.out.size
  have hz2 : w1.heap.size ≤ w2.heap.size := by have h := HB12.out.size; exact h
  go_wp2_with (first
    | ((with_reducible show wpList _ _ _ (⟨some 42, _, _, _, _, _⟩ :: _) _ _)
       refine app_k _ _ _ rfl rfl Try.underlying22 info8 (v := .slice A2 1 c2) (base := w1.heap.size) (xs := be (0 + n) 1) (k := 1) (k' := 1 + b.length) (l := b) rfl HO2.out (by rw [be_len]) rfl HV2.out rfl (by omega) hz2 ?_
       intro A3 c3 w3 ho3 hg3
       have hb3 : Below w1.heap.size w1 w3 := grown_own HB12.out hg3 HO2.out
       have HV3 := hide (HV1.out.st hb3); have HP3 := hide (HP1.out.st hb3); have HB3 := Lib.hid (HB1.out.trans (hb3.mono HB1.out.size))
       have HI3 := hide (IsB.own ho3)
       clear ho3 hg3 hb3 HV2 HP2 HB2 HB12 HO2 HV1 HP1 HB1))
  refine (vtake_0 n b _ _ rfl _ _ HI3.out HO.out (by omega) hhi).mono ?_
  rintro e w4 ⟨v8, rfl, hb, hv8⟩
  obtain ⟨A8, c8, rfl⟩ := hv8.shape
  have HV4 := hide (HV3.out.st hb); have HP4 := hide (HP3.out.st hb); have HB4 := Lib.hid (HB3.out.trans (hb.mono HB3.out.size)); have HI8 := hide hv8
  clear hb hv8 HV3 HP3 HB3 HI3
  go_wp2_with fail
  refine Lin.wp_region_lin3 (n := 80) (fun slotq => match slotq with | 47 => Lin.Spec.val (.slice A5 LP5 c5) | 48 => Lin.Spec.val (.string (strOfNums (b ++ be (0 + n) 1))) | 49 => Lin.Spec.noneb w4.heap.size | 50 => Lin.Spec.val (.slice A b.length c) | 51 => Lin.Spec.own w4.heap.size b b.length | 52 => Lin.Spec.val (.int .u64 (n : Int)) | 53 => Lin.Spec.sl (be (0 + n) 1) 1 | 54 => Lin.Spec.own w4.heap.size (b ++ be (0 + n) 1) (b.length + 1) | 55 => Lin.Spec.val (.string (strOfNums (b ++ be (0 + n) 1))) | 56 => Lin.Spec.val (.bool true) | 57 => Lin.Spec.val (.bool true) | 58 => Lin.Spec.val (.int .i64 0) | 59 => Lin.Spec.val (.bool true) | 60 => Lin.Spec.val (.bool true) | 61 => Lin.Spec.val (.bool true) | 62 => Lin.Spec.val (.int .u64 (n : Int)) | 63 => Lin.Spec.val (.int .u64 (n : Int)) | 64 => Lin.Spec.val (.bool true) | 65 => Lin.Spec.val (.bool true) | 66 => Lin.Spec.val (.bool true) | 67 => Lin.Spec.val (.slice A8 b.length c8) | 68 => Lin.Spec.val (.string (strOfNums b)) | 69 => Lin.Spec.val (.slice A b.length c) | 70 => Lin.Spec.val (.string (strOfNums b)) | 71 => Lin.Spec.val (.bool true) | 72 => Lin.Spec.val (.bool true) | 73 => Lin.Spec.val (.bool true) | 74 => Lin.Spec.val (.int .i64 0) | 75 => Lin.Spec.val (.bool true) | 76 => Lin.Spec.val (.bool true) | 77 => Lin.Spec.val (.bool true) | 78 => Lin.Spec.val (.bool true) | 79 => Lin.Spec.val (.bool true) | 4 => Lin.Spec.val (.bool true) | _ => Lin.Spec.any) 7 (fun dd => dd == 49 || dd == 51 || dd == 53) [2, 3, 4, 5, 6] (by kernel_rfl) rfl (by kernel_rfl) (by kernel_rfl) rfl rfl rfl ⟨fun d hd => by cases (show some 47 = some d from hd); first | exact .inl rfl | exact .inr (.inl rfl) | exact .inr (.inr ⟨_, rfl⟩), fun d hd => by cases (show some 48 = some d from hd); first | exact .inl rfl | exact .inr (.inl rfl) | exact .inr (.inr ⟨_, rfl⟩), fun d hd => by cases (show some 49 = some d from hd); first | exact .inl rfl | exact .inr (.inl rfl) | exact .inr (.inr ⟨_, rfl⟩), fun d hd => by cases (show some 50 = some d from hd); first | exact .inl rfl | exact .inr (.inl rfl) | exact .inr (.inr ⟨_, rfl⟩), fun d hd => by cases (show some 51 = some d from hd); first | exact .inl rfl | exact .inr (.inl rfl) | exact .inr (.inr ⟨_, rfl⟩), fun d hd => by cases (show some 52 = some d from hd); first | exact .inl rfl | exact .inr (.inl rfl) | exact .inr (.inr ⟨_, rfl⟩), fun d hd => by cases (show some 53 = some d from hd); first | exact .inl rfl | exact .inr (.inl rfl) | exact .inr (.inr ⟨_, rfl⟩), fun d hd => by cases (show some 54 = some d from hd); first | exact .inl rfl | exact .inr (.inl rfl) | exact .inr (.inr ⟨_, rfl⟩), fun d hd => by cases (show some 55 = some d from hd); first | exact .inl rfl | exact .inr (.inl rfl) | exact .inr (.inr ⟨_, rfl⟩), fun d hd => by cases (show some 56 = some d from hd); first | exact .inl rfl | exact .inr (.inl rfl) | exact .inr (.inr ⟨_, rfl⟩), fun d hd => by cases (show some 57 = some d from hd); first | exact .inl rfl | exact .inr (.inl rfl) | exact .inr (.inr ⟨_, rfl⟩), fun d hd => by cases (show some 58 = some d from hd); first | exact .inl rfl | exact .inr (.inl rfl) | exact .inr (.inr ⟨_, rfl⟩), fun d hd => by cases (show some 59 = some d from hd); first | exact .inl rfl | exact .inr (.inl rfl) | exact .inr (.inr ⟨_, rfl⟩), fun d hd => by cases (show some 60 = some d from hd); first | exact .inl rfl | exact .inr (.inl rfl) | exact .inr (.inr ⟨_, rfl⟩), fun d hd => by cases (show some 61 = some d from hd); first | exact .inl rfl | exact .inr (.inl rfl) | exact .inr (.inr ⟨_, rfl⟩), fun d hd => by cases (show some 62 = some d from hd); first | exact .inl rfl | exact .inr (.inl rfl) | exact .inr (.inr ⟨_, rfl⟩), fun d hd => by cases (show some 63 = some d from hd); first | exact .inl rfl | exact .inr (.inl rfl) | exact .inr (.inr ⟨_, rfl⟩), fun d hd => by cases (show some 64 = some d from hd); first | exact .inl rfl | exact .inr (.inl rfl) | exact .inr (.inr ⟨_, rfl⟩), fun d hd => by cases (show some 65 = some d from hd); first | exact .inl rfl | exact .inr (.inl rfl) | exact .inr (.inr ⟨_, rfl⟩), fun d hd => by cases (show some 66 = some d from hd); first | exact .inl rfl | exact .inr (.inl rfl) | exact .inr (.inr ⟨_, rfl⟩), fun d hd => by cases (show some 67 = some d from hd); first | exact .inl rfl | exact .inr (.inl rfl) | exact .inr (.inr ⟨_, rfl⟩), fun d hd => by cases (show some 68 = some d from hd); first | exact .inl rfl | exact .inr (.inl rfl) | exact .inr (.inr ⟨_, rfl⟩), fun d hd => by cases (show some 69 = some d from hd); first | exact .inl rfl | exact .inr (.inl rfl) | exact .inr (.inr ⟨_, rfl⟩), fun d hd => by cases (show some 70 = some d from hd); first | exact .inl rfl | exact .inr (.inl rfl) | exact .inr (.inr ⟨_, rfl⟩), fun d hd => by cases (show some 71 = some d from hd); first | exact .inl rfl | exact .inr (.inl rfl) | exact .inr (.inr ⟨_, rfl⟩), fun d hd => by cases (show some 72 = some d from hd); first | exact .inl rfl | exact .inr (.inl rfl) | exact .inr (.inr ⟨_, rfl⟩), fun d hd => by cases (show some 73 = some d from hd); first | exact .inl rfl | exact .inr (.inl rfl) | exact .inr (.inr ⟨_, rfl⟩), fun d hd => by cases (show some 74 = some d from hd); first | exact .inl rfl | exact .inr (.inl rfl) | exact .inr (.inr ⟨_, rfl⟩), fun d hd => by cases (show some 75 = some d from hd); first | exact .inl rfl | exact .inr (.inl rfl) | exact .inr (.inr ⟨_, rfl⟩), fun d hd => by cases (show some 76 = some d from hd); first | exact .inl rfl | exact .inr (.inl rfl) | exact .inr (.inr ⟨_, rfl⟩), fun d hd => by cases (show some 77 = some d from hd); first | exact .inl rfl | exact .inr (.inl rfl) | exact .inr (.inr ⟨_, rfl⟩), fun d hd => by cases (show some 78 = some d from hd); first | exact .inl rfl | exact .inr (.inl rfl) | exact .inr (.inr ⟨_, rfl⟩), fun d hd => by cases (show some 79 = some d from hd); first | exact .inl rfl | exact .inr (.inl rfl) | exact .inr (.inr ⟨_, rfl⟩), fun d hd => by cases (show some 4 = some d from hd); first | exact .inl rfl | exact .inr (.inl rfl) | exact .inr (.inr ⟨_, rfl⟩), trivial⟩ ?_ ⟨?_, ?_, ?_, ?_, ?_, ?_, ?_, ?_, ?_, ?_, ?_, ?_, ?_, ?_, ?_, ?_, ?_, ?_, ?_, ?_, ?_, ?_, ?_, ?_, ?_, ?_, ?_, ?_, ?_, ?_, ?_, ?_, ?_, ?_, trivial⟩ ?_
  · intro ρ wq hb ho hc hd
    have hC : ∀ v, ρ (.const v) = v := fun v => hc _ (by intro t e; cases e)
    have hF : ∀ f, ρ (.func f) = .func (.func f) #[] #[] := fun f => hc _ (by intro t e; cases e)
    have h51 := hd 51 (by kernel_rfl)
    have h53 := hd 53 (by kernel_rfl)
    exact exec_grow rfl Try.underlying22 info8 h51 h53 rfl (by omega) hb.size
  · intro _
    intro ρ wq hb ho hc hd
    have hC : ∀ v, ρ (.const v) = v := fun v => hc _ (by intro t e; cases e)
    have hF : ∀ f, ρ (.func f) = .func (.func f) #[] #[] := fun f => hc _ (by intro t e; cases e)
    have h5 : ρ (.tmp 5) = .slice A5 LP5 c5 := ho 5 (by kernel_rfl)
    exact Lin.Runs.value Lin.keeps (Lin.exec_move rfl) h5
  · intro _
    intro ρ wq hb ho hc hd
    have hC : ∀ v, ρ (.const v) = v := fun v => hc _ (by intro t e; cases e)
    have hF : ∀ f, ρ (.func f) = .func (.func f) #[] #[] := fun f => hc _ (by intro t e; cases e)
    have h47 : ρ (.tmp 47) = .slice A5 LP5 c5 := hd 47 (by kernel_rfl)
    exact Lin.Runs.value Lin.keeps (Lin.exec_convert rfl (by rw [h47]; exact (HP4.out.st hb).conv)) rfl
  · intro _
    intro ρ wq hb ho hc hd
    have hC : ∀ v, ρ (.const v) = v := fun v => hc _ (by intro t e; cases e)
    have hF : ∀ f, ρ (.func f) = .func (.func f) #[] #[] := fun f => hc _ (by intro t e; cases e)
    exact Lin.Runs.made (v := .slice (some ⟨wq.heap.size, 0, none⟩) 0 0) (w' := wq.alloc (.cells #[] 5)) (by simp [execOp, go_sem, hC, hF]) ((Below.refl _ _).alloc (Nat.le_refl _) _) (NoneP.new hb.size)
  · intro _
    intro ρ wq hb ho hc hd
    have hC : ∀ v, ρ (.const v) = v := fun v => hc _ (by intro t e; cases e)
    have hF : ∀ f, ρ (.func f) = .func (.func f) #[] #[] := fun f => hc _ (by intro t e; cases e)
    have h0 : ρ (.tmp 0) = .slice A b.length c := ho 0 (by kernel_rfl)
    exact Lin.Runs.value Lin.keeps (Lin.exec_move rfl) h0
  · intro _
    intro ρ wq hb ho hc hd
    have hC : ∀ v, ρ (.const v) = v := fun v => hc _ (by intro t e; cases e)
    have hF : ∀ f, ρ (.func f) = .func (.func f) #[] #[] := fun f => hc _ (by intro t e; cases e)
    have h49 := hd 49 (by kernel_rfl)
    have h50 : ρ (.tmp 50) = .slice A b.length c := hd 50 (by kernel_rfl)
    obtain ⟨A7, c7, e7, h71, h72, h73⟩ := HV4.out.st hb
    injection e7 with e7 e8 e9
    subst e7
    obtain ⟨v9, w9, hr, hb2, his⟩ := grow_nil (T := 22) h49 Try.underlying22 info8 h72 c rfl (by omega)
    exact Lin.Runs.made (by unfold execOp; simp only [resolve, invoke, builtin, Sem.run_bind, Sem.run_pure, Result.andThen_ok, List.map_toArray, List.map_cons, List.map_nil, h50, hr]) hb2 his
  · intro _
    intro ρ wq hb ho hc hd
    have hC : ∀ v, ρ (.const v) = v := fun v => hc _ (by intro t e; cases e)
    have hF : ∀ f, ρ (.func f) = .func (.func f) #[] #[] := fun f => hc _ (by intro t e; cases e)
    have h1 : ρ (.tmp 1) = .int .u64 (n : Int) := ho 1 (by kernel_rfl)
    exact Lin.Runs.value Lin.keeps (Lin.exec_move rfl) h1
  · intro _
    intro ρ wq hb ho hc hd
    have hC : ∀ v, ρ (.const v) = v := fun v => hc _ (by intro t e; cases e)
    have hF : ∀ f, ρ (.func f) = .func (.func f) #[] #[] := fun f => hc _ (by intro t e; cases e)
    have h52 : ρ (.tmp 52) = .int .u64 (n : Int) := hd 52 (by kernel_rfl)
    refine Lin.Runs.call Lin.keeps (f := 54) (args := #[.int .u64 (n : Int)]) (by simp [execOp, go_sem, hC, hF, h52]) ?_
    exact (rvb_0 n wq hlo hhi).mono fun e w9 ⟨A9, c9, he, ho9, hb9⟩ => ⟨_, he, hb9, IsB.own ho9⟩
  · exact fun h => absurd rfl h
  · intro _
    intro ρ wq hb ho hc hd
    have hC : ∀ v, ρ (.const v) = v := fun v => hc _ (by intro t e; cases e)
    have hF : ∀ f, ρ (.func f) = .func (.func f) #[] #[] := fun f => hc _ (by intro t e; cases e)
    have h54 := hd 54 (by kernel_rfl)
    exact Lin.Runs.value Lin.keeps (Lin.exec_convert rfl h54.isb.conv) rfl
  · intro _
    intro ρ wq hb ho hc hd
    have hC : ∀ v, ρ (.const v) = v := fun v => hc _ (by intro t e; cases e)
    have hF : ∀ f, ρ (.func f) = .func (.func f) #[] #[] := fun f => hc _ (by intro t e; cases e)
    have h48 : ρ (.tmp 48) = .string (strOfNums (b ++ be (0 + n) 1)) := hd 48 (by kernel_rfl)
    have h55 : ρ (.tmp 55) = .string (strOfNums (b ++ be (0 + n) 1)) := hd 55 (by kernel_rfl)
    exact Lin.Runs.value Lin.keeps (v := .bool true) (by simp [execOp, go_sem, hC, hF, h48, h55]) rfl
  · intro _
    intro ρ wq hb ho hc hd
    have hC : ∀ v, ρ (.const v) = v := fun v => hc _ (by intro t e; cases e)
    have hF : ∀ f, ρ (.func f) = .func (.func f) #[] #[] := fun f => hc _ (by intro t e; cases e)
    have h56 : ρ (.tmp 56) = .bool true := hd 56 (by kernel_rfl)
    exact Lin.Runs.value Lin.keeps (Lin.exec_move rfl) h56
  · intro _
    intro ρ wq hb ho hc hd
    have hC : ∀ v, ρ (.const v) = v := fun v => hc _ (by intro t e; cases e)
    have hF : ∀ f, ρ (.func f) = .func (.func f) #[] #[] := fun f => hc _ (by intro t e; cases e)
    intro t ht; cases (show some 57 = some t from ht)
    refine ⟨fun _ => ?_, fun hn => absurd (hd 57 (by kernel_rfl)) hn⟩
    have h6 : ρ (.tmp 6) = .int .i64 0 := ho 6 (by kernel_rfl)
    exact Lin.Runs.value Lin.keeps (Lin.exec_move rfl) h6
  · intro _
    intro ρ wq hb ho hc hd
    have hC : ∀ v, ρ (.const v) = v := fun v => hc _ (by intro t e; cases e)
    have hF : ∀ f, ρ (.func f) = .func (.func f) #[] #[] := fun f => hc _ (by intro t e; cases e)
    intro t ht; cases (show some 57 = some t from ht)
    refine ⟨fun _ => ?_, fun hn => absurd (hd 57 (by kernel_rfl)) hn⟩
    have h58 : ρ (.tmp 58) = .int .i64 0 := hd 58 (by kernel_rfl)
    exact Lin.Runs.value Lin.keeps (v := .bool true) (by simp [execOp, go_sem, hC, hF, h58]) rfl
  · intro _
    intro ρ wq hb ho hc hd
    have hC : ∀ v, ρ (.const v) = v := fun v => hc _ (by intro t e; cases e)
    have hF : ∀ f, ρ (.func f) = .func (.func f) #[] #[] := fun f => hc _ (by intro t e; cases e)
    have h57 : ρ (.tmp 57) = .bool true := hd 57 (by kernel_rfl)
    have h59 : ρ (.tmp 59) = .bool true := hd 59 (by kernel_rfl)
    exact Lin.Runs.value Lin.keeps (v := .bool true) (by simp [execOp, go_sem, hC, hF, h57, h59]) rfl
  · intro _
    intro ρ wq hb ho hc hd
    have hC : ∀ v, ρ (.const v) = v := fun v => hc _ (by intro t e; cases e)
    have hF : ∀ f, ρ (.func f) = .func (.func f) #[] #[] := fun f => hc _ (by intro t e; cases e)
    have h60 : ρ (.tmp 60) = .bool true := hd 60 (by kernel_rfl)
    exact Lin.Runs.value Lin.keeps (Lin.exec_move rfl) h60
  · intro _
    intro ρ wq hb ho hc hd
    have hC : ∀ v, ρ (.const v) = v := fun v => hc _ (by intro t e; cases e)
    have hF : ∀ f, ρ (.func f) = .func (.func f) #[] #[] := fun f => hc _ (by intro t e; cases e)
    intro t ht; cases (show some 61 = some t from ht)
    refine ⟨fun _ => ?_, fun hn => absurd (hd 61 (by kernel_rfl)) hn⟩
    have h7 : ρ (.tmp 7) = .int .u64 (n : Int) := ho 7 (by kernel_rfl)
    exact Lin.Runs.value Lin.keeps (Lin.exec_move rfl) h7
  · intro _
    intro ρ wq hb ho hc hd
    have hC : ∀ v, ρ (.const v) = v := fun v => hc _ (by intro t e; cases e)
    have hF : ∀ f, ρ (.func f) = .func (.func f) #[] #[] := fun f => hc _ (by intro t e; cases e)
    intro t ht; cases (show some 61 = some t from ht)
    refine ⟨fun _ => ?_, fun hn => absurd (hd 61 (by kernel_rfl)) hn⟩
    have h1 : ρ (.tmp 1) = .int .u64 (n : Int) := ho 1 (by kernel_rfl)
    exact Lin.Runs.value Lin.keeps (Lin.exec_move rfl) h1
  · intro _
    intro ρ wq hb ho hc hd
    have hC : ∀ v, ρ (.const v) = v := fun v => hc _ (by intro t e; cases e)
    have hF : ∀ f, ρ (.func f) = .func (.func f) #[] #[] := fun f => hc _ (by intro t e; cases e)
    intro t ht; cases (show some 61 = some t from ht)
    refine ⟨fun _ => ?_, fun hn => absurd (hd 61 (by kernel_rfl)) hn⟩
    have h62 : ρ (.tmp 62) = .int .u64 (n : Int) := hd 62 (by kernel_rfl)
    have h63 : ρ (.tmp 63) = .int .u64 (n : Int) := hd 63 (by kernel_rfl)
    exact Lin.Runs.value Lin.keeps (v := .bool true) (by simp [execOp, go_sem, hC, hF, h62, h63]) rfl
  · intro _
    intro ρ wq hb ho hc hd
    have hC : ∀ v, ρ (.const v) = v := fun v => hc _ (by intro t e; cases e)
    have hF : ∀ f, ρ (.func f) = .func (.func f) #[] #[] := fun f => hc _ (by intro t e; cases e)
    have h61 : ρ (.tmp 61) = .bool true := hd 61 (by kernel_rfl)
    have h64 : ρ (.tmp 64) = .bool true := hd 64 (by kernel_rfl)
    exact Lin.Runs.value Lin.keeps (v := .bool true) (by simp [execOp, go_sem, hC, hF, h61, h64]) rfl
  · intro _
    intro ρ wq hb ho hc hd
    have hC : ∀ v, ρ (.const v) = v := fun v => hc _ (by intro t e; cases e)
    have hF : ∀ f, ρ (.func f) = .func (.func f) #[] #[] := fun f => hc _ (by intro t e; cases e)
    have h65 : ρ (.tmp 65) = .bool true := hd 65 (by kernel_rfl)
    exact Lin.Runs.value Lin.keeps (Lin.exec_move rfl) h65
  · intro _
    intro ρ wq hb ho hc hd
    have hC : ∀ v, ρ (.const v) = v := fun v => hc _ (by intro t e; cases e)
    have hF : ∀ f, ρ (.func f) = .func (.func f) #[] #[] := fun f => hc _ (by intro t e; cases e)
    intro t ht; cases (show some 66 = some t from ht)
    refine ⟨fun _ => ?_, fun hn => absurd (hd 66 (by kernel_rfl)) hn⟩
    have h8 : ρ (.tmp 8) = .slice A8 b.length c8 := ho 8 (by kernel_rfl)
    exact Lin.Runs.value Lin.keeps (Lin.exec_move rfl) h8
  · intro _
    intro ρ wq hb ho hc hd
    have hC : ∀ v, ρ (.const v) = v := fun v => hc _ (by intro t e; cases e)
    have hF : ∀ f, ρ (.func f) = .func (.func f) #[] #[] := fun f => hc _ (by intro t e; cases e)
    intro t ht; cases (show some 66 = some t from ht)
    refine ⟨fun _ => ?_, fun hn => absurd (hd 66 (by kernel_rfl)) hn⟩
    have h67 : ρ (.tmp 67) = .slice A8 b.length c8 := hd 67 (by kernel_rfl)
    exact Lin.Runs.value Lin.keeps (Lin.exec_convert rfl (by rw [h67]; exact (HI8.out.st hb).conv)) rfl
  · intro _
    intro ρ wq hb ho hc hd
    have hC : ∀ v, ρ (.const v) = v := fun v => hc _ (by intro t e; cases e)
    have hF : ∀ f, ρ (.func f) = .func (.func f) #[] #[] := fun f => hc _ (by intro t e; cases e)
    intro t ht; cases (show some 66 = some t from ht)
    refine ⟨fun _ => ?_, fun hn => absurd (hd 66 (by kernel_rfl)) hn⟩
    have h0 : ρ (.tmp 0) = .slice A b.length c := ho 0 (by kernel_rfl)
    exact Lin.Runs.value Lin.keeps (Lin.exec_move rfl) h0
  · intro _
    intro ρ wq hb ho hc hd
    have hC : ∀ v, ρ (.const v) = v := fun v => hc _ (by intro t e; cases e)
    have hF : ∀ f, ρ (.func f) = .func (.func f) #[] #[] := fun f => hc _ (by intro t e; cases e)
    intro t ht; cases (show some 66 = some t from ht)
    refine ⟨fun _ => ?_, fun hn => absurd (hd 66 (by kernel_rfl)) hn⟩
    have h69 : ρ (.tmp 69) = .slice A b.length c := hd 69 (by kernel_rfl)
    exact Lin.Runs.value Lin.keeps (Lin.exec_convert rfl (by rw [h69]; exact (HV4.out.st hb).conv)) rfl
  · intro _
    intro ρ wq hb ho hc hd
    have hC : ∀ v, ρ (.const v) = v := fun v => hc _ (by intro t e; cases e)
    have hF : ∀ f, ρ (.func f) = .func (.func f) #[] #[] := fun f => hc _ (by intro t e; cases e)
    intro t ht; cases (show some 66 = some t from ht)
    refine ⟨fun _ => ?_, fun hn => absurd (hd 66 (by kernel_rfl)) hn⟩
    have h68 : ρ (.tmp 68) = .string (strOfNums b) := hd 68 (by kernel_rfl)
    have h70 : ρ (.tmp 70) = .string (strOfNums b) := hd 70 (by kernel_rfl)
    exact Lin.Runs.value Lin.keeps (v := .bool true) (by simp [execOp, go_sem, hC, hF, h68, h70]) rfl
  · intro _
    intro ρ wq hb ho hc hd
    have hC : ∀ v, ρ (.const v) = v := fun v => hc _ (by intro t e; cases e)
    have hF : ∀ f, ρ (.func f) = .func (.func f) #[] #[] := fun f => hc _ (by intro t e; cases e)
    have h66 : ρ (.tmp 66) = .bool true := hd 66 (by kernel_rfl)
    have h71 : ρ (.tmp 71) = .bool true := hd 71 (by kernel_rfl)
    exact Lin.Runs.value Lin.keeps (v := .bool true) (by simp [execOp, go_sem, hC, hF, h66, h71]) rfl
  · intro _
    intro ρ wq hb ho hc hd
    have hC : ∀ v, ρ (.const v) = v := fun v => hc _ (by intro t e; cases e)
    have hF : ∀ f, ρ (.func f) = .func (.func f) #[] #[] := fun f => hc _ (by intro t e; cases e)
    have h72 : ρ (.tmp 72) = .bool true := hd 72 (by kernel_rfl)
    exact Lin.Runs.value Lin.keeps (Lin.exec_move rfl) h72
  · intro _
    intro ρ wq hb ho hc hd
    have hC : ∀ v, ρ (.const v) = v := fun v => hc _ (by intro t e; cases e)
    have hF : ∀ f, ρ (.func f) = .func (.func f) #[] #[] := fun f => hc _ (by intro t e; cases e)
    intro t ht; cases (show some 73 = some t from ht)
    refine ⟨fun _ => ?_, fun hn => absurd (hd 73 (by kernel_rfl)) hn⟩
    have h9 : ρ (.tmp 9) = .int .i64 0 := ho 9 (by kernel_rfl)
    exact Lin.Runs.value Lin.keeps (Lin.exec_move rfl) h9
  · intro _
    intro ρ wq hb ho hc hd
    have hC : ∀ v, ρ (.const v) = v := fun v => hc _ (by intro t e; cases e)
    have hF : ∀ f, ρ (.func f) = .func (.func f) #[] #[] := fun f => hc _ (by intro t e; cases e)
    intro t ht; cases (show some 73 = some t from ht)
    refine ⟨fun _ => ?_, fun hn => absurd (hd 73 (by kernel_rfl)) hn⟩
    have h74 : ρ (.tmp 74) = .int .i64 0 := hd 74 (by kernel_rfl)
    exact Lin.Runs.value Lin.keeps (v := .bool true) (by simp [execOp, go_sem, hC, hF, h74]) rfl
  · intro _
    intro ρ wq hb ho hc hd
    have hC : ∀ v, ρ (.const v) = v := fun v => hc _ (by intro t e; cases e)
    have hF : ∀ f, ρ (.func f) = .func (.func f) #[] #[] := fun f => hc _ (by intro t e; cases e)
    have h73 : ρ (.tmp 73) = .bool true := hd 73 (by kernel_rfl)
    have h75 : ρ (.tmp 75) = .bool true := hd 75 (by kernel_rfl)
    exact Lin.Runs.value Lin.keeps (v := .bool true) (by simp [execOp, go_sem, hC, hF, h73, h75]) rfl
  · intro _
    intro ρ wq hb ho hc hd
    have hC : ∀ v, ρ (.const v) = v := fun v => hc _ (by intro t e; cases e)
    have hF : ∀ f, ρ (.func f) = .func (.func f) #[] #[] := fun f => hc _ (by intro t e; cases e)
    have h76 : ρ (.tmp 76) = .bool true := hd 76 (by kernel_rfl)
    exact Lin.Runs.value Lin.keeps (Lin.exec_move rfl) h76
  · intro _
    intro ρ wq hb ho hc hd
    have hC : ∀ v, ρ (.const v) = v := fun v => hc _ (by intro t e; cases e)
    have hF : ∀ f, ρ (.func f) = .func (.func f) #[] #[] := fun f => hc _ (by intro t e; cases e)
    intro t ht; cases (show some 77 = some t from ht)
    refine ⟨fun _ => ?_, fun hn => absurd (hd 77 (by kernel_rfl)) hn⟩
    refine Lin.Runs.call Lin.keeps (f := 49) (args := #[]) (by simp [execOp, go_sem, hC, hF]) ?_
    exact (awake39 wq).mono fun e w9 h => by obtain ⟨rfl, rfl⟩ := h; exact ⟨_, rfl, Below.refl _ _, rfl⟩
  · intro _
    intro ρ wq hb ho hc hd
    have hC : ∀ v, ρ (.const v) = v := fun v => hc _ (by intro t e; cases e)
    have hF : ∀ f, ρ (.func f) = .func (.func f) #[] #[] := fun f => hc _ (by intro t e; cases e)
    have h77 : ρ (.tmp 77) = .bool true := hd 77 (by kernel_rfl)
    have h78 : ρ (.tmp 78) = .bool true := hd 78 (by kernel_rfl)
    exact Lin.Runs.value Lin.keeps (v := .bool true) (by simp [execOp, go_sem, hC, hF, h77, h78]) rfl
  · intro _
    intro ρ wq hb ho hc hd
    have hC : ∀ v, ρ (.const v) = v := fun v => hc _ (by intro t e; cases e)
    have hF : ∀ f, ρ (.func f) = .func (.func f) #[] #[] := fun f => hc _ (by intro t e; cases e)
    have h79 : ρ (.tmp 79) = .bool true := hd 79 (by kernel_rfl)
    exact Lin.Runs.value Lin.keeps (Lin.exec_assign rfl) h79
  · intro vals w5 hb2 hv
    have e4 := hv 4 (by kernel_rfl) (by kernel_rfl)
    clear hv
    simp only [Lin.putAll, Option.getD_some]
    rw [show vals 4 = .bool true from e4]
    go_simp
    generalize vals = vv
    go_wp2_with fail
    go_ret
    exact ⟨rfl, HB4.out.trans (hb2.mono HB4.out.size)⟩
set_option maxHeartbeats 4000000 in
theorem walk_1 (A : Option Addr) (c : Nat) (b : List Int) (n : Nat) (w : World) (hv : IsB b b.length (.slice A b.length c) w) (ho : Octets b) (hn : n < 18446744073709551616) (h5 : ¬ 500 < b.length) (hlo : 64 ≤ n) (hhi : n < 16384) : Calls Try.prog 7 #[.slice A b.length c, .int .u64 (n : Int)] w fun e w' => e = .returned (.bool true) ∧ Below w.heap.size w w' := by
  have h : ¬ (500 : Int) < (b.length : Int) := by omega
  have HV := hide hv; have HO := hide ho
  clear hv ho
  go_enter Try.func7, Try.ntmps7
  go_wp2_with fail
  refine (vput_1 A c b n _ HV.out (by omega) hlo hhi).mono ?_
  rintro e w1 ⟨v5, rfl, hb, hv5⟩
  obtain ⟨LP5, hLP5⟩ : ∃ x, (b ++ be (16384 + n) 2).length = x := ⟨_, rfl⟩
  rw [hLP5] at hv5
  obtain ⟨A5, c5, rfl⟩ := hv5.shape
  have HV1 := hide (HV.out.st hb); have HP1 := hide hv5; have HB1 := Lib.hid hb
  have HL5 := Lib.hid hLP5
  clear hb hv5 HV hLP5
  go_wp2_with fail
  refine (vsize n hn _).mono ?_
  rintro e w9 ⟨rfl, h9⟩
  have h9' : e = .returned (.int .i64 2) := by
    rcases h9 with ⟨k, hk, rfl, h1, h2⟩ | ⟨rfl, h1⟩
    · obtain rfl : k = 1 := by
        have h : k = 0 ∨ k = 1 ∨ k = 2 ∨ k = 3 := by omega
        have g0 := h2 0; have g1 := h2 1; have g2 := h2 2
        rcases h with rfl | rfl | rfl | rfl <;> simp [vbd] at h1 g0 g1 g2 <;> omega
      rfl
    · omega
  subst h9'
  clear h9
  go_wp2_with fail
  refine (rsize n hn _).mono ?_
  rintro e w9 ⟨rfl, h9⟩
  have h9' : e = .returned (.int .i64 2) := by
    rcases h9 with ⟨k, hk, rfl, h1, h2⟩ | ⟨rfl, h1⟩
    · obtain rfl : k = 1 := by
        have h : k = 0 ∨ k = 1 ∨ k = 2 ∨ k = 3 := by omega
        have g0 := h2 0; have g1 := h2 1; have g2 := h2 2
        rcases h with rfl | rfl | rfl | rfl <;> simp [vbd] at h1 g0 g1 g2 <;> omega
      rfl
    · omega
  subst h9'
  clear h9
  go_wp2_with fail
  refine (rsize n hn _).mono ?_
  rintro e w9 ⟨rfl, h9⟩
  have h9' : e = .returned (.int .i64 2) := by
    rcases h9 with ⟨k, hk, rfl, h1, h2⟩ | ⟨rfl, h1⟩
    · obtain rfl : k = 1 := by
        have h : k = 0 ∨ k = 1 ∨ k = 2 ∨ k = 3 := by omega
        have g0 := h2 0; have g1 := h2 1; have g2 := h2 2
        rcases h with rfl | rfl | rfl | rfl <;> simp [vbd] at h1 g0 g1 g2 <;> omega
      rfl
    · omega
  subst h9'
  clear h9
  go_wp2_with fail
  refine (rvb_1 n _ hlo hhi).mono ?_
  rintro e w2 ⟨A2, c2, rfl, ho2, hb⟩
  have HO2 := hide ho2; have HV2 := hide (HV1.out.st hb); have HP2 := hide (HP1.out.st hb); have HB2 := Lib.hid (HB1.out.trans (hb.mono HB1.out.size)); have HB12 := Lib.hid hb
  clear ho2 hb
  have hz12 := HB2.out.size
  have hz2 : w1.heap.size ≤ w2.heap.size := by have h := HB12.out.size; exact h
  go_wp2_with (first
    | ((with_reducible show wpList _ _ _ (⟨some 42, _, _, _, _, _⟩ :: _) _ _)
       refine app_k _ _ _ rfl rfl Try.underlying22 info8 (v := .slice A2 2 c2) (base := w1.heap.size) (xs := be (16384 + n) 2) (k := 2) (k' := 2 + b.length) (l := b) rfl HO2.out (by rw [be_len]) rfl HV2.out rfl (by omega) hz2 ?_
       intro A3 c3 w3 ho3 hg3
       have hb3 : Below w1.heap.size w1 w3 := grown_own HB12.out hg3 HO2.out
       have HV3 := hide (HV1.out.st hb3); have HP3 := hide (HP1.out.st hb3); have HB3 := Lib.hid (HB1.out.trans (hb3.mono HB1.out.size))
       have HI3 := hide (IsB.own ho3)
       clear ho3 hg3 hb3 HV2 HP2 HB2 HB12 HO2 HV1 HP1 HB1))
  refine (vtake_1 n b _ _ rfl _ _ HI3.out HO.out (by omega) hhi).mono ?_
  rintro e w4 ⟨v8, rfl, hb, hv8⟩
  obtain ⟨A8, c8, rfl⟩ := hv8.shape
  have HV4 := hide (HV3.out.st hb); have HP4 := hide (HP3.out.st hb); have HB4 := Lib.hid (HB3.out.trans (hb.mono HB3.out.size)); have HI8 := hide hv8
  clear hb hv8 HV3 HP3 HB3 HI3
  go_wp2_with fail
  refine Lin.wp_region_lin3 (n := 80) (fun slotq => match slotq with | 47 => Lin.Spec.val (.slice A5 LP5 c5) | 48 => Lin.Spec.val (.string (strOfNums (b ++ be (16384 + n) 2))) | 49 => Lin.Spec.noneb w4.heap.size | 50 => Lin.Spec.val (.slice A b.length c) | 51 => Lin.Spec.own w4.heap.size b b.length | 52 => Lin.Spec.val (.int .u64 (n : Int)) | 53 => Lin.Spec.sl (be (16384 + n) 2) 2 | 54 => Lin.Spec.own w4.heap.size (b ++ be (16384 + n) 2) (b.length + 2) | 55 => Lin.Spec.val (.string (strOfNums (b ++ be (16384 + n) 2))) | 56 => Lin.Spec.val (.bool true) | 57 => Lin.Spec.val (.bool true) | 58 => Lin.Spec.val (.int .i64 0) | 59 => Lin.Spec.val (.bool true) | 60 => Lin.Spec.val (.bool true) | 61 => Lin.Spec.val (.bool true) | 62 => Lin.Spec.val (.int .u64 (n : Int)) | 63 => Lin.Spec.val (.int .u64 (n : Int)) | 64 => Lin.Spec.val (.bool true) | 65 => Lin.Spec.val (.bool true) | 66 => Lin.Spec.val (.bool true) | 67 => Lin.Spec.val (.slice A8 b.length c8) | 68 => Lin.Spec.val (.string (strOfNums b)) | 69 => Lin.Spec.val (.slice A b.length c) | 70 => Lin.Spec.val (.string (strOfNums b)) | 71 => Lin.Spec.val (.bool true) | 72 => Lin.Spec.val (.bool true) | 73 => Lin.Spec.val (.bool true) | 74 => Lin.Spec.val (.int .i64 0) | 75 => Lin.Spec.val (.bool true) | 76 => Lin.Spec.val (.bool true) | 77 => Lin.Spec.val (.bool true) | 78 => Lin.Spec.val (.bool true) | 79 => Lin.Spec.val (.bool true) | 4 => Lin.Spec.val (.bool true) | _ => Lin.Spec.any) 7 (fun dd => dd == 49 || dd == 51 || dd == 53) [2, 3, 4, 5, 6] (by kernel_rfl) rfl (by kernel_rfl) (by kernel_rfl) rfl rfl rfl ⟨fun d hd => by cases (show some 47 = some d from hd); first | exact .inl rfl | exact .inr (.inl rfl) | exact .inr (.inr ⟨_, rfl⟩), fun d hd => by cases (show some 48 = some d from hd); first | exact .inl rfl | exact .inr (.inl rfl) | exact .inr (.inr ⟨_, rfl⟩), fun d hd => by cases (show some 49 = some d from hd); first | exact .inl rfl | exact .inr (.inl rfl) | exact .inr (.inr ⟨_, rfl⟩), fun d hd => by cases (show some 50 = some d from hd); first | exact .inl rfl | exact .inr (.inl rfl) | exact .inr (.inr ⟨_, rfl⟩), fun d hd => by cases (show some 51 = some d from hd); first | exact .inl rfl | exact .inr (.inl rfl) | exact .inr (.inr ⟨_, rfl⟩), fun d hd => by cases (show some 52 = some d from hd); first | exact .inl rfl | exact .inr (.inl rfl) | exact .inr (.inr ⟨_, rfl⟩), fun d hd => by cases (show some 53 = some d from hd); first | exact .inl rfl | exact .inr (.inl rfl) | exact .inr (.inr ⟨_, rfl⟩), fun d hd => by cases (show some 54 = some d from hd); first | exact .inl rfl | exact .inr (.inl rfl) | exact .inr (.inr ⟨_, rfl⟩), fun d hd => by cases (show some 55 = some d from hd); first | exact .inl rfl | exact .inr (.inl rfl) | exact .inr (.inr ⟨_, rfl⟩), fun d hd => by cases (show some 56 = some d from hd); first | exact .inl rfl | exact .inr (.inl rfl) | exact .inr (.inr ⟨_, rfl⟩), fun d hd => by cases (show some 57 = some d from hd); first | exact .inl rfl | exact .inr (.inl rfl) | exact .inr (.inr ⟨_, rfl⟩), fun d hd => by cases (show some 58 = some d from hd); first | exact .inl rfl | exact .inr (.inl rfl) | exact .inr (.inr ⟨_, rfl⟩), fun d hd => by cases (show some 59 = some d from hd); first | exact .inl rfl | exact .inr (.inl rfl) | exact .inr (.inr ⟨_, rfl⟩), fun d hd => by cases (show some 60 = some d from hd); first | exact .inl rfl | exact .inr (.inl rfl) | exact .inr (.inr ⟨_, rfl⟩), fun d hd => by cases (show some 61 = some d from hd); first | exact .inl rfl | exact .inr (.inl rfl) | exact .inr (.inr ⟨_, rfl⟩), fun d hd => by cases (show some 62 = some d from hd); first | exact .inl rfl | exact .inr (.inl rfl) | exact .inr (.inr ⟨_, rfl⟩), fun d hd => by cases (show some 63 = some d from hd); first | exact .inl rfl | exact .inr (.inl rfl) | exact .inr (.inr ⟨_, rfl⟩), fun d hd => by cases (show some 64 = some d from hd); first | exact .inl rfl | exact .inr (.inl rfl) | exact .inr (.inr ⟨_, rfl⟩), fun d hd => by cases (show some 65 = some d from hd); first | exact .inl rfl | exact .inr (.inl rfl) | exact .inr (.inr ⟨_, rfl⟩), fun d hd => by cases (show some 66 = some d from hd); first | exact .inl rfl | exact .inr (.inl rfl) | exact .inr (.inr ⟨_, rfl⟩), fun d hd => by cases (show some 67 = some d from hd); first | exact .inl rfl | exact .inr (.inl rfl) | exact .inr (.inr ⟨_, rfl⟩), fun d hd => by cases (show some 68 = some d from hd); first | exact .inl rfl | exact .inr (.inl rfl) | exact .inr (.inr ⟨_, rfl⟩), fun d hd => by cases (show some 69 = some d from hd); first | exact .inl rfl | exact .inr (.inl rfl) | exact .inr (.inr ⟨_, rfl⟩), fun d hd => by cases (show some 70 = some d from hd); first | exact .inl rfl | exact .inr (.inl rfl) | exact .inr (.inr ⟨_, rfl⟩), fun d hd => by cases (show some 71 = some d from hd); first | exact .inl rfl | exact .inr (.inl rfl) | exact .inr (.inr ⟨_, rfl⟩), fun d hd => by cases (show some 72 = some d from hd); first | exact .inl rfl | exact .inr (.inl rfl) | exact .inr (.inr ⟨_, rfl⟩), fun d hd => by cases (show some 73 = some d from hd); first | exact .inl rfl | exact .inr (.inl rfl) | exact .inr (.inr ⟨_, rfl⟩), fun d hd => by cases (show some 74 = some d from hd); first | exact .inl rfl | exact .inr (.inl rfl) | exact .inr (.inr ⟨_, rfl⟩), fun d hd => by cases (show some 75 = some d from hd); first | exact .inl rfl | exact .inr (.inl rfl) | exact .inr (.inr ⟨_, rfl⟩), fun d hd => by cases (show some 76 = some d from hd); first | exact .inl rfl | exact .inr (.inl rfl) | exact .inr (.inr ⟨_, rfl⟩), fun d hd => by cases (show some 77 = some d from hd); first | exact .inl rfl | exact .inr (.inl rfl) | exact .inr (.inr ⟨_, rfl⟩), fun d hd => by cases (show some 78 = some d from hd); first | exact .inl rfl | exact .inr (.inl rfl) | exact .inr (.inr ⟨_, rfl⟩), fun d hd => by cases (show some 79 = some d from hd); first | exact .inl rfl | exact .inr (.inl rfl) | exact .inr (.inr ⟨_, rfl⟩), fun d hd => by cases (show some 4 = some d from hd); first | exact .inl rfl | exact .inr (.inl rfl) | exact .inr (.inr ⟨_, rfl⟩), trivial⟩ ?_ ⟨?_, ?_, ?_, ?_, ?_, ?_, ?_, ?_, ?_, ?_, ?_, ?_, ?_, ?_, ?_, ?_, ?_, ?_, ?_, ?_, ?_, ?_, ?_, ?_, ?_, ?_, ?_, ?_, ?_, ?_, ?_, ?_, ?_, ?_, trivial⟩ ?_
  · intro ρ wq hb ho hc hd
    have hC : ∀ v, ρ (.const v) = v := fun v => hc _ (by intro t e; cases e)
    have hF : ∀ f, ρ (.func f) = .func (.func f) #[] #[] := fun f => hc _ (by intro t e; cases e)
    have h51 := hd 51 (by kernel_rfl)
    have h53 := hd 53 (by kernel_rfl)
    exact exec_grow rfl Try.underlying22 info8 h51 h53 rfl (by omega) hb.size
  · intro _
    intro ρ wq hb ho hc hd
    have hC : ∀ v, ρ (.const v) = v := fun v => hc _ (by intro t e; cases e)
    have hF : ∀ f, ρ (.func f) = .func (.func f) #[] #[] := fun f => hc _ (by intro t e; cases e)
    have h5 : ρ (.tmp 5) = .slice A5 LP5 c5 := ho 5 (by kernel_rfl)
    exact Lin.Runs.value Lin.keeps (Lin.exec_move rfl) h5
  · intro _
    intro ρ wq hb ho hc hd
    have hC : ∀ v, ρ (.const v) = v := fun v => hc _ (by intro t e; cases e)
    have hF : ∀ f, ρ (.func f) = .func (.func f) #[] #[] := fun f => hc _ (by intro t e; cases e)
    have h47 : ρ (.tmp 47) = .slice A5 LP5 c5 := hd 47 (by kernel_rfl)
    exact Lin.Runs.value Lin.keeps (Lin.exec_convert rfl (by rw [h47]; exact (HP4.out.st hb).conv)) rfl
  · intro _
    intro ρ wq hb ho hc hd
    have hC : ∀ v, ρ (.const v) = v := fun v => hc _ (by intro t e; cases e)
    have hF : ∀ f, ρ (.func f) = .func (.func f) #[] #[] := fun f => hc _ (by intro t e; cases e)
    exact Lin.Runs.made (v := .slice (some ⟨wq.heap.size, 0, none⟩) 0 0) (w' := wq.alloc (.cells #[] 5)) (by simp [execOp, go_sem, hC, hF]) ((Below.refl _ _).alloc (Nat.le_refl _) _) (NoneP.new hb.size)
  · intro _
    intro ρ wq hb ho hc hd
    have hC : ∀ v, ρ (.const v) = v := fun v => hc _ (by intro t e; cases e)
    have hF : ∀ f, ρ (.func f) = .func (.func f) #[] #[] := fun f => hc _ (by intro t e; cases e)
    have h0 : ρ (.tmp 0) = .slice A b.length c := ho 0 (by kernel_rfl)
    exact Lin.Runs.value Lin.keeps (Lin.exec_move rfl) h0
  · intro _
    intro ρ wq hb ho hc hd
    have hC : ∀ v, ρ (.const v) = v := fun v => hc _ (by intro t e; cases e)
    have hF : ∀ f, ρ (.func f) = .func (.func f) #[] #[] := fun f => hc _ (by intro t e; cases e)
    have h49 := hd 49 (by kernel_rfl)
    have h50 : ρ (.tmp 50) = .slice A b.length c := hd 50 (by kernel_rfl)
    obtain ⟨A7, c7, e7, h71, h72, h73⟩ := HV4.out.st hb
    injection e7 with e7 e8 e9
    subst e7
    obtain ⟨v9, w9, hr, hb2, his⟩ := grow_nil (T := 22) h49 Try.underlying22 info8 h72 c rfl (by omega)
    exact Lin.Runs.made (by unfold execOp; simp only [resolve, invoke, builtin, Sem.run_bind, Sem.run_pure, Result.andThen_ok, List.map_toArray, List.map_cons, List.map_nil, h50, hr]) hb2 his
  · intro _
    intro ρ wq hb ho hc hd
    have hC : ∀ v, ρ (.const v) = v := fun v => hc _ (by intro t e; cases e)
    have hF : ∀ f, ρ (.func f) = .func (.func f) #[] #[] := fun f => hc _ (by intro t e; cases e)
    have h1 : ρ (.tmp 1) = .int .u64 (n : Int) := ho 1 (by kernel_rfl)
    exact Lin.Runs.value Lin.keeps (Lin.exec_move rfl) h1
  · intro _
    intro ρ wq hb ho hc hd
    have hC : ∀ v, ρ (.const v) = v := fun v => hc _ (by intro t e; cases e)
    have hF : ∀ f, ρ (.func f) = .func (.func f) #[] #[] := fun f => hc _ (by intro t e; cases e)
    have h52 : ρ (.tmp 52) = .int .u64 (n : Int) := hd 52 (by kernel_rfl)
    refine Lin.Runs.call Lin.keeps (f := 54) (args := #[.int .u64 (n : Int)]) (by simp [execOp, go_sem, hC, hF, h52]) ?_
    exact (rvb_1 n wq hlo hhi).mono fun e w9 ⟨A9, c9, he, ho9, hb9⟩ => ⟨_, he, hb9, IsB.own ho9⟩
  · exact fun h => absurd rfl h
  · intro _
    intro ρ wq hb ho hc hd
    have hC : ∀ v, ρ (.const v) = v := fun v => hc _ (by intro t e; cases e)
    have hF : ∀ f, ρ (.func f) = .func (.func f) #[] #[] := fun f => hc _ (by intro t e; cases e)
    have h54 := hd 54 (by kernel_rfl)
    exact Lin.Runs.value Lin.keeps (Lin.exec_convert rfl h54.isb.conv) rfl
  · intro _
    intro ρ wq hb ho hc hd
    have hC : ∀ v, ρ (.const v) = v := fun v => hc _ (by intro t e; cases e)
    have hF : ∀ f, ρ (.func f) = .func (.func f) #[] #[] := fun f => hc _ (by intro t e; cases e)
    have h48 : ρ (.tmp 48) = .string (strOfNums (b ++ be (16384 + n) 2)) := hd 48 (by kernel_rfl)
    have h55 : ρ (.tmp 55) = .string (strOfNums (b ++ be (16384 + n) 2)) := hd 55 (by kernel_rfl)
    exact Lin.Runs.value Lin.keeps (v := .bool true) (by simp [execOp, go_sem, hC, hF, h48, h55]) rfl
  · intro _
    intro ρ wq hb ho hc hd
    have hC : ∀ v, ρ (.const v) = v := fun v => hc _ (by intro t e; cases e)
    have hF : ∀ f, ρ (.func f) = .func (.func f) #[] #[] := fun f => hc _ (by intro t e; cases e)
    have h56 : ρ (.tmp 56) = .bool true := hd 56 (by kernel_rfl)
    exact Lin.Runs.value Lin.keeps (Lin.exec_move rfl) h56
  · intro _
    intro ρ wq hb ho hc hd
    have hC : ∀ v, ρ (.const v) = v := fun v => hc _ (by intro t e; cases e)
    have hF : ∀ f, ρ (.func f) = .func (.func f) #[] #[] := fun f => hc _ (by intro t e; cases e)
    intro t ht; cases (show some 57 = some t from ht)
    refine ⟨fun _ => ?_, fun hn => absurd (hd 57 (by kernel_rfl)) hn⟩
    have h6 : ρ (.tmp 6) = .int .i64 0 := ho 6 (by kernel_rfl)
    exact Lin.Runs.value Lin.keeps (Lin.exec_move rfl) h6
  · intro _
    intro ρ wq hb ho hc hd
    have hC : ∀ v, ρ (.const v) = v := fun v => hc _ (by intro t e; cases e)
    have hF : ∀ f, ρ (.func f) = .func (.func f) #[] #[] := fun f => hc _ (by intro t e; cases e)
    intro t ht; cases (show some 57 = some t from ht)
    refine ⟨fun _ => ?_, fun hn => absurd (hd 57 (by kernel_rfl)) hn⟩
    have h58 : ρ (.tmp 58) = .int .i64 0 := hd 58 (by kernel_rfl)
    exact Lin.Runs.value Lin.keeps (v := .bool true) (by simp [execOp, go_sem, hC, hF, h58]) rfl
  · intro _
    intro ρ wq hb ho hc hd
    have hC : ∀ v, ρ (.const v) = v := fun v => hc _ (by intro t e; cases e)
    have hF : ∀ f, ρ (.func f) = .func (.func f) #[] #[] := fun f => hc _ (by intro t e; cases e)
    have h57 : ρ (.tmp 57) = .bool true := hd 57 (by kernel_rfl)
    have h59 : ρ (.tmp 59) = .bool true := hd 59 (by kernel_rfl)
    exact Lin.Runs.value Lin.keeps (v := .bool true) (by simp [execOp, go_sem, hC, hF, h57, h59]) rfl
  · intro _
    intro ρ wq hb ho hc hd
    have hC : ∀ v, ρ (.const v) = v := fun v => hc _ (by intro t e; cases e)
    have hF : ∀ f, ρ (.func f) = .func (.func f) #[] #[] := fun f => hc _ (by intro t e; cases e)
    have h60 : ρ (.tmp 60) = .bool true := hd 60 (by kernel_rfl)
    exact Lin.Runs.value Lin.keeps (Lin.exec_move rfl) h60
  · intro _
    intro ρ wq hb ho hc hd
    have hC : ∀ v, ρ (.const v) = v := fun v => hc _ (by intro t e; cases e)
    have hF : ∀ f, ρ (.func f) = .func (.func f) #[] #[] := fun f => hc _ (by intro t e; cases e)
    intro t ht; cases (show some 61 = some t from ht)
    refine ⟨fun _ => ?_, fun hn => absurd (hd 61 (by kernel_rfl)) hn⟩
    have h7 : ρ (.tmp 7) = .int .u64 (n : Int) := ho 7 (by kernel_rfl)
    exact Lin.Runs.value Lin.keeps (Lin.exec_move rfl) h7
  · intro _
    intro ρ wq hb ho hc hd
    have hC : ∀ v, ρ (.const v) = v := fun v => hc _ (by intro t e; cases e)
    have hF : ∀ f, ρ (.func f) = .func (.func f) #[] #[] := fun f => hc _ (by intro t e; cases e)
    intro t ht; cases (show some 61 = some t from ht)
    refine ⟨fun _ => ?_, fun hn => absurd (hd 61 (by kernel_rfl)) hn⟩
    have h1 : ρ (.tmp 1) = .int .u64 (n : Int) := ho 1 (by kernel_rfl)
    exact Lin.Runs.value Lin.keeps (Lin.exec_move rfl) h1
  · intro _
    intro ρ wq hb ho hc hd
    have hC : ∀ v, ρ (.const v) = v := fun v => hc _ (by intro t e; cases e)
    have hF : ∀ f, ρ (.func f) = .func (.func f) #[] #[] := fun f => hc _ (by intro t e; cases e)
    intro t ht; cases (show some 61 = some t from ht)
    refine ⟨fun _ => ?_, fun hn => absurd (hd 61 (by kernel_rfl)) hn⟩
    have h62 : ρ (.tmp 62) = .int .u64 (n : Int) := hd 62 (by kernel_rfl)
    have h63 : ρ (.tmp 63) = .int .u64 (n : Int) := hd 63 (by kernel_rfl)
    exact Lin.Runs.value Lin.keeps (v := .bool true) (by simp [execOp, go_sem, hC, hF, h62, h63]) rfl
  · intro _
    intro ρ wq hb ho hc hd
    have hC : ∀ v, ρ (.const v) = v := fun v => hc _ (by intro t e; cases e)
    have hF : ∀ f, ρ (.func f) = .func (.func f) #[] #[] := fun f => hc _ (by intro t e; cases e)
    have h61 : ρ (.tmp 61) = .bool true := hd 61 (by kernel_rfl)
    have h64 : ρ (.tmp 64) = .bool true := hd 64 (by kernel_rfl)
    exact Lin.Runs.value Lin.keeps (v := .bool true) (by simp [execOp, go_sem, hC, hF, h61, h64]) rfl
  · intro _
    intro ρ wq hb ho hc hd
    have hC : ∀ v, ρ (.const v) = v := fun v => hc _ (by intro t e; cases e)
    have hF : ∀ f, ρ (.func f) = .func (.func f) #[] #[] := fun f => hc _ (by intro t e; cases e)
    have h65 : ρ (.tmp 65) = .bool true := hd 65 (by kernel_rfl)
    exact Lin.Runs.value Lin.keeps (Lin.exec_move rfl) h65
  · intro _
    intro ρ wq hb ho hc hd
    have hC : ∀ v, ρ (.const v) = v := fun v => hc _ (by intro t e; cases e)
    have hF : ∀ f, ρ (.func f) = .func (.func f) #[] #[] := fun f => hc _ (by intro t e; cases e)
    intro t ht; cases (show some 66 = some t from ht)
    refine ⟨fun _ => ?_, fun hn => absurd (hd 66 (by kernel_rfl)) hn⟩
    have h8 : ρ (.tmp 8) = .slice A8 b.length c8 := ho 8 (by kernel_rfl)
    exact Lin.Runs.value Lin.keeps (Lin.exec_move rfl) h8
  · intro _
    intro ρ wq hb ho hc hd
    have hC : ∀ v, ρ (.const v) = v := fun v => hc _ (by intro t e; cases e)
    have hF : ∀ f, ρ (.func f) = .func (.func f) #[] #[] := fun f => hc _ (by intro t e; cases e)
    intro t ht; cases (show some 66 = some t from ht)
    refine ⟨fun _ => ?_, fun hn => absurd (hd 66 (by kernel_rfl)) hn⟩
    have h67 : ρ (.tmp 67) = .slice A8 b.length c8 := hd 67 (by kernel_rfl)
    exact Lin.Runs.value Lin.keeps (Lin.exec_convert rfl (by rw [h67]; exact (HI8.out.st hb).conv)) rfl
  · intro _
    intro ρ wq hb ho hc hd
    have hC : ∀ v, ρ (.const v) = v := fun v => hc _ (by intro t e; cases e)
    have hF : ∀ f, ρ (.func f) = .func (.func f) #[] #[] := fun f => hc _ (by intro t e; cases e)
    intro t ht; cases (show some 66 = some t from ht)
    refine ⟨fun _ => ?_, fun hn => absurd (hd 66 (by kernel_rfl)) hn⟩
    have h0 : ρ (.tmp 0) = .slice A b.length c := ho 0 (by kernel_rfl)
    exact Lin.Runs.value Lin.keeps (Lin.exec_move rfl) h0
  · intro _
    intro ρ wq hb ho hc hd
    have hC : ∀ v, ρ (.const v) = v := fun v => hc _ (by intro t e; cases e)
    have hF : ∀ f, ρ (.func f) = .func (.func f) #[] #[] := fun f => hc _ (by intro t e; cases e)
    intro t ht; cases (show some 66 = some t from ht)
    refine ⟨fun _ => ?_, fun hn => absurd (hd 66 (by kernel_rfl)) hn⟩
    have h69 : ρ (.tmp 69) = .slice A b.length c := hd 69 (by kernel_rfl)
    exact Lin.Runs.value Lin.keeps (Lin.exec_convert rfl (by rw [h69]; exact (HV4.out.st hb).conv)) rfl
  · intro _
    intro ρ wq hb ho hc hd
    have hC : ∀ v, ρ (.const v) = v := fun v => hc _ (by intro t e; cases e)
    have hF : ∀ f, ρ (.func f) = .func (.func f) #[] #[] := fun f => hc _ (by intro t e; cases e)
    intro t ht; cases (show some 66 = some t from ht)
    refine ⟨fun _ => ?_, fun hn => absurd (hd 66 (by kernel_rfl)) hn⟩
    have h68 : ρ (.tmp 68) = .string (strOfNums b) := hd 68 (by kernel_rfl)
    have h70 : ρ (.tmp 70) = .string (strOfNums b) := hd 70 (by kernel_rfl)
    exact Lin.Runs.value Lin.keeps (v := .bool true) (by simp [execOp, go_sem, hC, hF, h68, h70]) rfl
  · intro _
    intro ρ wq hb ho hc hd
    have hC : ∀ v, ρ (.const v) = v := fun v => hc _ (by intro t e; cases e)
    have hF : ∀ f, ρ (.func f) = .func (.func f) #[] #[] := fun f => hc _ (by intro t e; cases e)
    have h66 : ρ (.tmp 66) = .bool true := hd 66 (by kernel_rfl)
    have h71 : ρ (.tmp 71) = .bool true := hd 71 (by kernel_rfl)
    exact Lin.Runs.value Lin.keeps (v := .bool true) (by simp [execOp, go_sem, hC, hF, h66, h71]) rfl
  · intro _
    intro ρ wq hb ho hc hd
    have hC : ∀ v, ρ (.const v) = v := fun v => hc _ (by intro t e; cases e)
    have hF : ∀ f, ρ (.func f) = .func (.func f) #[] #[] := fun f => hc _ (by intro t e; cases e)
    have h72 : ρ (.tmp 72) = .bool true := hd 72 (by kernel_rfl)
    exact Lin.Runs.value Lin.keeps (Lin.exec_move rfl) h72
  · intro _
    intro ρ wq hb ho hc hd
    have hC : ∀ v, ρ (.const v) = v := fun v => hc _ (by intro t e; cases e)
    have hF : ∀ f, ρ (.func f) = .func (.func f) #[] #[] := fun f => hc _ (by intro t e; cases e)
    intro t ht; cases (show some 73 = some t from ht)
    refine ⟨fun _ => ?_, fun hn => absurd (hd 73 (by kernel_rfl)) hn⟩
    have h9 : ρ (.tmp 9) = .int .i64 0 := ho 9 (by kernel_rfl)
    exact Lin.Runs.value Lin.keeps (Lin.exec_move rfl) h9
  · intro _
    intro ρ wq hb ho hc hd
    have hC : ∀ v, ρ (.const v) = v := fun v => hc _ (by intro t e; cases e)
    have hF : ∀ f, ρ (.func f) = .func (.func f) #[] #[] := fun f => hc _ (by intro t e; cases e)
    intro t ht; cases (show some 73 = some t from ht)
    refine ⟨fun _ => ?_, fun hn => absurd (hd 73 (by kernel_rfl)) hn⟩
    have h74 : ρ (.tmp 74) = .int .i64 0 := hd 74 (by kernel_rfl)
    exact Lin.Runs.value Lin.keeps (v := .bool true) (by simp [execOp, go_sem, hC, hF, h74]) rfl
  · intro _
    intro ρ wq hb ho hc hd
    have hC : ∀ v, ρ (.const v) = v := fun v => hc _ (by intro t e; cases e)
    have hF : ∀ f, ρ (.func f) = .func (.func f) #[] #[] := fun f => hc _ (by intro t e; cases e)
    have h73 : ρ (.tmp 73) = .bool true := hd 73 (by kernel_rfl)
    have h75 : ρ (.tmp 75) = .bool true := hd 75 (by kernel_rfl)
    exact Lin.Runs.value Lin.keeps (v := .bool true) (by simp [execOp, go_sem, hC, hF, h73, h75]) rfl
  · intro _
    intro ρ wq hb ho hc hd
    have hC : ∀ v, ρ (.const v) = v := fun v => hc _ (by intro t e; cases e)
    have hF : ∀ f, ρ (.func f) = .func (.func f) #[] #[] := fun f => hc _ (by intro t e; cases e)
    have h76 : ρ (.tmp 76) = .bool true := hd 76 (by kernel_rfl)
    exact Lin.Runs.value Lin.keeps (Lin.exec_move rfl) h76
  · intro _
    intro ρ wq hb ho hc hd
    have hC : ∀ v, ρ (.const v) = v := fun v => hc _ (by intro t e; cases e)
    have hF : ∀ f, ρ (.func f) = .func (.func f) #[] #[] := fun f => hc _ (by intro t e; cases e)
    intro t ht; cases (show some 77 = some t from ht)
    refine ⟨fun _ => ?_, fun hn => absurd (hd 77 (by kernel_rfl)) hn⟩
    refine Lin.Runs.call Lin.keeps (f := 49) (args := #[]) (by simp [execOp, go_sem, hC, hF]) ?_
    exact (awake39 wq).mono fun e w9 h => by obtain ⟨rfl, rfl⟩ := h; exact ⟨_, rfl, Below.refl _ _, rfl⟩
  · intro _
    intro ρ wq hb ho hc hd
    have hC : ∀ v, ρ (.const v) = v := fun v => hc _ (by intro t e; cases e)
    have hF : ∀ f, ρ (.func f) = .func (.func f) #[] #[] := fun f => hc _ (by intro t e; cases e)
    have h77 : ρ (.tmp 77) = .bool true := hd 77 (by kernel_rfl)
    have h78 : ρ (.tmp 78) = .bool true := hd 78 (by kernel_rfl)
    exact Lin.Runs.value Lin.keeps (v := .bool true) (by simp [execOp, go_sem, hC, hF, h77, h78]) rfl
  · intro _
    intro ρ wq hb ho hc hd
    have hC : ∀ v, ρ (.const v) = v := fun v => hc _ (by intro t e; cases e)
    have hF : ∀ f, ρ (.func f) = .func (.func f) #[] #[] := fun f => hc _ (by intro t e; cases e)
    have h79 : ρ (.tmp 79) = .bool true := hd 79 (by kernel_rfl)
    exact Lin.Runs.value Lin.keeps (Lin.exec_assign rfl) h79
  · intro vals w5 hb2 hv
    have e4 := hv 4 (by kernel_rfl) (by kernel_rfl)
    clear hv
    simp only [Lin.putAll, Option.getD_some]
    rw [show vals 4 = .bool true from e4]
    go_simp
    generalize vals = vv
    go_wp2_with fail
    go_ret
    exact ⟨rfl, HB4.out.trans (hb2.mono HB4.out.size)⟩
set_option maxHeartbeats 4000000 in
theorem walk_2 (A : Option Addr) (c : Nat) (b : List Int) (n : Nat) (w : World) (hv : IsB b b.length (.slice A b.length c) w) (ho : Octets b) (hn : n < 18446744073709551616) (h5 : ¬ 500 < b.length) (hlo : 16384 ≤ n) (hhi : n < 1073741824) : Calls Try.prog 7 #[.slice A b.length c, .int .u64 (n : Int)] w fun e w' => e = .returned (.bool true) ∧ Below w.heap.size w w' := by
  have h : ¬ (500 : Int) < (b.length : Int) := by omega
  have HV := hide hv; have HO := hide ho
  clear hv ho
  go_enter Try.func7, Try.ntmps7
  go_wp2_with fail
  refine (vput_2 A c b n _ HV.out (by omega) hlo hhi).mono ?_
  rintro e w1 ⟨v5, rfl, hb, hv5⟩
  obtain ⟨LP5, hLP5⟩ : ∃ x, (b ++ be (2147483648 + n) 4).length = x := ⟨_, rfl⟩
  rw [hLP5] at hv5
  obtain ⟨A5, c5, rfl⟩ := hv5.shape
  have HV1 := hide (HV.out.st hb); have HP1 := hide hv5; have HB1 := Lib.hid hb
  have HL5 := Lib.hid hLP5
  clear hb hv5 HV hLP5
  go_wp2_with fail
  refine (vsize n hn _).mono ?_
  rintro e w9 ⟨rfl, h9⟩
  have h9' : e = .returned (.int .i64 4) := by
    rcases h9 with ⟨k, hk, rfl, h1, h2⟩ | ⟨rfl, h1⟩
    · obtain rfl : k = 2 := by
        have h : k = 0 ∨ k = 1 ∨ k = 2 ∨ k = 3 := by omega
        have g0 := h2 0; have g1 := h2 1; have g2 := h2 2
        rcases h with rfl | rfl | rfl | rfl <;> simp [vbd] at h1 g0 g1 g2 <;> omega
      rfl
    · omega
  subst h9'
  clear h9
  go_wp2_with fail
  refine (rsize n hn _).mono ?_
  rintro e w9 ⟨rfl, h9⟩
  have h9' : e = .returned (.int .i64 4) := by
    rcases h9 with ⟨k, hk, rfl, h1, h2⟩ | ⟨rfl, h1⟩
    · obtain rfl : k = 2 := by
        have h : k = 0 ∨ k = 1 ∨ k = 2 ∨ k = 3 := by omega
        have g0 := h2 0; have g1 := h2 1; have g2 := h2 2
        rcases h with rfl | rfl | rfl | rfl <;> simp [vbd] at h1 g0 g1 g2 <;> omega
      rfl
    · omega
  subst h9'
  clear h9
  go_wp2_with fail
  refine (rsize n hn _).mono ?_
  rintro e w9 ⟨rfl, h9⟩
  have h9' : e = .returned (.int .i64 4) := by
    rcases h9 with ⟨k, hk, rfl, h1, h2⟩ | ⟨rfl, h1⟩
    · obtain rfl : k = 2 := by
        have h : k = 0 ∨ k = 1 ∨ k = 2 ∨ k = 3 := by omega
        have g0 := h2 0; have g1 := h2 1; have g2 := h2 2
        rcases h with rfl | rfl | rfl | rfl <;> simp [vbd] at h1 g0 g1 g2 <;> omega
      rfl
    · omega
  subst h9'
  clear h9
  go_wp2_with fail
  refine (rvb_2 n _ hlo hhi).mono ?_
  rintro e w2 ⟨A2, c2, rfl, ho2, hb⟩
  have HO2 := hide ho2; have HV2 := hide (HV1.out.st hb); have HP2 := hide (HP1.out.st hb); have HB2 := Lib.hid (HB1.out.trans (hb.mono HB1.out.size)); have HB12 := Lib.hid hb
  clear ho2 hb
  have hz12 := HB2.out.size
  have hz2 : w1.heap.size ≤ w2.heap.size := by have h := HB12.out.size; exact h
  go_wp2_with (first
    | ((with_reducible show wpList _ _ _ (⟨some 42, _, _, _, _, _⟩ :: _) _ _)
       refine app_k _ _ _ rfl rfl Try.underlying22 info8 (v := .slice A2 4 c2) (base := w1.heap.size) (xs := be (2147483648 + n) 4) (k := 4) (k' := 4 + b.length) (l := b) rfl HO2.out (by rw [be_len]) rfl HV2.out rfl (by omega) hz2 ?_
       intro A3 c3 w3 ho3 hg3
       have hb3 : Below w1.heap.size w1 w3 := grown_own HB12.out hg3 HO2.out
       have HV3 := hide (HV1.out.st hb3); have HP3 := hide (HP1.out.st hb3); have HB3 := Lib.hid (HB1.out.trans (hb3.mono HB1.out.size))
       have HI3 := hide (IsB.own ho3)
       clear ho3 hg3 hb3 HV2 HP2 HB2 HB12 HO2 HV1 HP1 HB1))
  refine (vtake_2 n b _ _ rfl _ _ HI3.out HO.out (by omega) hhi).mono ?_
  rintro e w4 ⟨v8, rfl, hb, hv8⟩
  obtain ⟨A8, c8, rfl⟩ := hv8.shape
  have HV4 := hide (HV3.out.st hb); have HP4 := hide (HP3.out.st hb); have HB4 := Lib.hid (HB3.out.trans (hb.mono HB3.out.size)); have HI8 := hide hv8
  clear hb hv8 HV3 HP3 HB3 HI3
  go_wp2_with fail
  refine Lin.wp_region_lin3 (n := 80) (fun slotq => match slotq with | 47 => Lin.Spec.val (.slice A5 LP5 c5) | 48 => Lin.Spec.val (.string (strOfNums (b ++ be (2147483648 + n) 4))) | 49 => Lin.Spec.noneb w4.heap.size | 50 => Lin.Spec.val (.slice A b.length c) | 51 => Lin.Spec.own w4.heap.size b b.length | 52 => Lin.Spec.val (.int .u64 (n : Int)) | 53 => Lin.Spec.sl (be (2147483648 + n) 4) 4 | 54 => Lin.Spec.own w4.heap.size (b ++ be (2147483648 + n) 4) (b.length + 4) | 55 => Lin.Spec.val (.string (strOfNums (b ++ be (2147483648 + n) 4))) | 56 => Lin.Spec.val (.bool true) | 57 => Lin.Spec.val (.bool true) | 58 => Lin.Spec.val (.int .i64 0) | 59 => Lin.Spec.val (.bool true) | 60 => Lin.Spec.val (.bool true) | 61 => Lin.Spec.val (.bool true) | 62 => Lin.Spec.val (.int .u64 (n : Int)) | 63 => Lin.Spec.val (.int .u64 (n : Int)) | 64 => Lin.Spec.val (.bool true) | 65 => Lin.Spec.val (.bool true) | 66 => Lin.Spec.val (.bool true) | 67 => Lin.Spec.val (.slice A8 b.length c8) | 68 => Lin.Spec.val (.string (strOfNums b)) | 69 => Lin.Spec.val (.slice A b.length c) | 70 => Lin.Spec.val (.string (strOfNums b)) | 71 => Lin.Spec.val (.bool true) | 72 => Lin.Spec.val (.bool true) | 73 => Lin.Spec.val (.bool true) | 74 => Lin.Spec.val (.int .i64 0) | 75 => Lin.Spec.val (.bool true) | 76 => Lin.Spec.val (.bool true) | 77 => Lin.Spec.val (.bool true) | 78 => Lin.Spec.val (.bool true) | 79 => Lin.Spec.val (.bool true) | 4 => Lin.Spec.val (.bool true) | _ => Lin.Spec.any) 7 (fun dd => dd == 49 || dd == 51 || dd == 53) [2, 3, 4, 5, 6] (by kernel_rfl) rfl (by kernel_rfl) (by kernel_rfl) rfl rfl rfl ⟨fun d hd => by cases (show some 47 = some d from hd); first | exact .inl rfl | exact .inr (.inl rfl) | exact .inr (.inr ⟨_, rfl⟩), fun d hd => by cases (show some 48 = some d from hd); first | exact .inl rfl | exact .inr (.inl rfl) | exact .inr (.inr ⟨_, rfl⟩), fun d hd => by cases (show some 49 = some d from hd); first | exact .inl rfl | exact .inr (.inl rfl) | exact .inr (.inr ⟨_, rfl⟩), fun d hd => by cases (show some 50 = some d from hd); first | exact .inl rfl | exact .inr (.inl rfl) | exact .inr (.inr ⟨_, rfl⟩), fun d hd => by cases (show some 51 = some d from hd); first | exact .inl rfl | exact .inr (.inl rfl) | exact .inr (.inr ⟨_, rfl⟩), fun d hd => by cases (show some 52 = some d from hd); first | exact .inl rfl | exact .inr (.inl rfl) | exact .inr (.inr ⟨_, rfl⟩), fun d hd => by cases (show some 53 = some d from hd); first | exact .inl rfl | exact .inr (.inl rfl) | exact .inr (.inr ⟨_, rfl⟩), fun d hd => by cases (show some 54 = some d from hd); first | exact .inl rfl | exact .inr (.inl rfl) | exact .inr (.inr ⟨_, rfl⟩), fun d hd => by cases (show some 55 = some d from hd); first | exact .inl rfl | exact .inr (.inl rfl) | exact .inr (.inr ⟨_, rfl⟩), fun d hd => by cases (show some 56 = some d from hd); first | exact .inl rfl | exact .inr (.inl rfl) | exact .inr (.inr ⟨_, rfl⟩), fun d hd => by cases (show some 57 = some d from hd); first | exact .inl rfl | exact .inr (.inl rfl) | exact .inr (.inr ⟨_, rfl⟩), fun d hd => by cases (show some 58 = some d from hd); first | exact .inl rfl | exact .inr (.inl rfl) | exact .inr (.inr ⟨_, rfl⟩), fun d hd => by cases (show some 59 = some d from hd); first | exact .inl rfl | exact .inr (.inl rfl) | exact .inr (.inr ⟨_, rfl⟩), fun d hd => by cases (show some 60 = some d from hd); first | exact .inl rfl | exact .inr (.inl rfl) | exact .inr (.inr ⟨_, rfl⟩), fun d hd => by cases (show some 61 = some d from hd); first | exact .inl rfl | exact .inr (.inl rfl) | exact .inr (.inr ⟨_, rfl⟩), fun d hd => by cases (show some 62 = some d from hd); first | exact .inl rfl | exact .inr (.inl rfl) | exact .inr (.inr ⟨_, rfl⟩), fun d hd => by cases (show some 63 = some d from hd); first | exact .inl rfl | exact .inr (.inl rfl) | exact .inr (.inr ⟨_, rfl⟩), fun d hd => by cases (show some 64 = some d from hd); first | exact .inl rfl | exact .inr (.inl rfl) | exact .inr (.inr ⟨_, rfl⟩), fun d hd => by cases (show some 65 = some d from hd); first | exact .inl rfl | exact .inr (.inl rfl) | exact .inr (.inr ⟨_, rfl⟩), fun d hd => by cases (show some 66 = some d from hd); first | exact .inl rfl | exact .inr (.inl rfl) | exact .inr (.inr ⟨_, rfl⟩), fun d hd => by cases (show some 67 = some d from hd); first | exact .inl rfl | exact .inr (.inl rfl) | exact .inr (.inr ⟨_, rfl⟩), fun d hd => by cases (show some 68 = some d from hd); first | exact .inl rfl | exact .inr (.inl rfl) | exact .inr (.inr ⟨_, rfl⟩), fun d hd => by cases (show some 69 = some d from hd); first | exact .inl rfl | exact .inr (.inl rfl) | exact .inr (.inr ⟨_, rfl⟩), fun d hd => by cases (show some 70 = some d from hd); first | exact .inl rfl | exact .inr (.inl rfl) | exact .inr (.inr ⟨_, rfl⟩), fun d hd => by cases (show some 71 = some d from hd); first | exact .inl rfl | exact .inr (.inl rfl) | exact .inr (.inr ⟨_, rfl⟩), fun d hd => by cases (show some 72 = some d from hd); first | exact .inl rfl | exact .inr (.inl rfl) | exact .inr (.inr ⟨_, rfl⟩), fun d hd => by cases (show some 73 = some d from hd); first | exact .inl rfl | exact .inr (.inl rfl) | exact .inr (.inr ⟨_, rfl⟩), fun d hd => by cases (show some 74 = some d from hd); first | exact .inl rfl | exact .inr (.inl rfl) | exact .inr (.inr ⟨_, rfl⟩), fun d hd => by cases (show some 75 = some d from hd); first | exact .inl rfl | exact .inr (.inl rfl) | exact .inr (.inr ⟨_, rfl⟩), fun d hd => by cases (show some 76 = some d from hd); first | exact .inl rfl | exact .inr (.inl rfl) | exact .inr (.inr ⟨_, rfl⟩), fun d hd => by cases (show some 77 = some d from hd); first | exact .inl rfl | exact .inr (.inl rfl) | exact .inr (.inr ⟨_, rfl⟩), fun d hd => by cases (show some 78 = some d from hd); first | exact .inl rfl | exact .inr (.inl rfl) | exact .inr (.inr ⟨_, rfl⟩), fun d hd => by cases (show some 79 = some d from hd); first | exact .inl rfl | exact .inr (.inl rfl) | exact .inr (.inr ⟨_, rfl⟩), fun d hd => by cases (show some 4 = some d from hd); first | exact .inl rfl | exact .inr (.inl rfl) | exact .inr (.inr ⟨_, rfl⟩), trivial⟩ ?_ ⟨?_, ?_, ?_, ?_, ?_, ?_, ?_, ?_, ?_, ?_, ?_, ?_, ?_, ?_, ?_, ?_, ?_, ?_, ?_, ?_, ?_, ?_, ?_, ?_, ?_, ?_, ?_, ?_, ?_, ?_, ?_, ?_, ?_, ?_, trivial⟩ ?_
  · intro ρ wq hb ho hc hd
    have hC : ∀ v, ρ (.const v) = v := fun v => hc _ (by intro t e; cases e)
    have hF : ∀ f, ρ (.func f) = .func (.func f) #[] #[] := fun f => hc _ (by intro t e; cases e)
    have h51 := hd 51 (by kernel_rfl)
    have h53 := hd 53 (by kernel_rfl)
    exact exec_grow rfl Try.underlying22 info8 h51 h53 rfl (by omega) hb.size
  · intro _
    intro ρ wq hb ho hc hd
    have hC : ∀ v, ρ (.const v) = v := fun v => hc _ (by intro t e; cases e)
    have hF : ∀ f, ρ (.func f) = .func (.func f) #[] #[] := fun f => hc _ (by intro t e; cases e)
    have h5 : ρ (.tmp 5) = .slice A5 LP5 c5 := ho 5 (by kernel_rfl)
    exact Lin.Runs.value Lin.keeps (Lin.exec_move rfl) h5
  · intro _
    intro ρ wq hb ho hc hd
    have hC : ∀ v, ρ (.const v) = v := fun v => hc _ (by intro t e; cases e)
    have hF : ∀ f, ρ (.func f) = .func (.func f) #[] #[] := fun f => hc _ (by intro t e; cases e)
    have h47 : ρ (.tmp 47) = .slice A5 LP5 c5 := hd 47 (by kernel_rfl)
    exact Lin.Runs.value Lin.keeps (Lin.exec_convert rfl (by rw [h47]; exact (HP4.out.st hb).conv)) rfl
  · intro _
    intro ρ wq hb ho hc hd
    have hC : ∀ v, ρ (.const v) = v := fun v => hc _ (by intro t e; cases e)
    have hF : ∀ f, ρ (.func f) = .func (.func f) #[] #[] := fun f => hc _ (by intro t e; cases e)
    exact Lin.Runs.made (v := .slice (some ⟨wq.heap.size, 0, none⟩) 0 0) (w' := wq.alloc (.cells #[] 5)) (by simp [execOp, go_sem, hC, hF]) ((Below.refl _ _).alloc (Nat.le_refl _) _) (NoneP.new hb.size)
  · intro _
    intro ρ wq hb ho hc hd
    have hC : ∀ v, ρ (.const v) = v := fun v => hc _ (by intro t e; cases e)
    have hF : ∀ f, ρ (.func f) = .func (.func f) #[] #[] := fun f => hc _ (by intro t e; cases e)
    have h0 : ρ (.tmp 0) = .slice A b.length c := ho 0 (by kernel_rfl)
    exact Lin.Runs.value Lin.keeps (Lin.exec_move rfl) h0
  · intro _
    intro ρ wq hb ho hc hd
    have hC : ∀ v, ρ (.const v) = v := fun v => hc _ (by intro t e; cases e)
    have hF : ∀ f, ρ (.func f) = .func (.func f) #[] #[] := fun f => hc _ (by intro t e; cases e)
    have h49 := hd 49 (by kernel_rfl)
    have h50 : ρ (.tmp 50) = .slice A b.length c := hd 50 (by kernel_rfl)
    obtain ⟨A7, c7, e7, h71, h72, h73⟩ := HV4.out.st hb
    injection e7 with e7 e8 e9
    subst e7
    obtain ⟨v9, w9, hr, hb2, his⟩ := grow_nil (T := 22) h49 Try.underlying22 info8 h72 c rfl (by omega)
    exact Lin.Runs.made (by unfold execOp; simp only [resolve, invoke, builtin, Sem.run_bind, Sem.run_pure, Result.andThen_ok, List.map_toArray, List.map_cons, List.map_nil, h50, hr]) hb2 his
  · intro _
    intro ρ wq hb ho hc hd
    have hC : ∀ v, ρ (.const v) = v := fun v => hc _ (by intro t e; cases e)
    have hF : ∀ f, ρ (.func f) = .func (.func f) #[] #[] := fun f => hc _ (by intro t e; cases e)
    have h1 : ρ (.tmp 1) = .int .u64 (n : Int) := ho 1 (by kernel_rfl)
    exact Lin.Runs.value Lin.keeps (Lin.exec_move rfl) h1
  · intro _
    intro ρ wq hb ho hc hd
    have hC : ∀ v, ρ (.const v) = v := fun v => hc _ (by intro t e; cases e)
    have hF : ∀ f, ρ (.func f) = .func (.func f) #[] #[] := fun f => hc _ (by intro t e; cases e)
    have h52 : ρ (.tmp 52) = .int .u64 (n : Int) := hd 52 (by kernel_rfl)
    refine Lin.Runs.call Lin.keeps (f := 54) (args := #[.int .u64 (n : Int)]) (by simp [execOp, go_sem, hC, hF, h52]) ?_
    exact (rvb_2 n wq hlo hhi).mono fun e w9 ⟨A9, c9, he, ho9, hb9⟩ => ⟨_, he, hb9, IsB.own ho9⟩
  · exact fun h => absurd rfl h
  · intro _
    intro ρ wq hb ho hc hd
    have hC : ∀ v, ρ (.const v) = v := fun v => hc _ (by intro t e; cases e)
    have hF : ∀ f, ρ (.func f) = .func (.func f) #[] #[] := fun f => hc _ (by intro t e; cases e)
    have h54 := hd 54 (by kernel_rfl)
    exact Lin.Runs.value Lin.keeps (Lin.exec_convert rfl h54.isb.conv) rfl
  · intro _
    intro ρ wq hb ho hc hd
    have hC : ∀ v, ρ (.const v) = v := fun v => hc _ (by intro t e; cases e)
    have hF : ∀ f, ρ (.func f) = .func (.func f) #[] #[] := fun f => hc _ (by intro t e; cases e)
    have h48 : ρ (.tmp 48) = .string (strOfNums (b ++ be (2147483648 + n) 4)) := hd 48 (by kernel_rfl)
    have h55 : ρ (.tmp 55) = .string (strOfNums (b ++ be (2147483648 + n) 4)) := hd 55 (by kernel_rfl)
    exact Lin.Runs.value Lin.keeps (v := .bool true) (by simp [execOp, go_sem, hC, hF, h48, h55]) rfl
  · intro _
    intro ρ wq hb ho hc hd
    have hC : ∀ v, ρ (.const v) = v := fun v => hc _ (by intro t e; cases e)
    have hF : ∀ f, ρ (.func f) = .func (.func f) #[] #[] := fun f => hc _ (by intro t e; cases e)
    have h56 : ρ (.tmp 56) = .bool true := hd 56 (by kernel_rfl)
    exact Lin.Runs.value Lin.keeps (Lin.exec_move rfl) h56
  · intro _
    intro ρ wq hb ho hc hd
    have hC : ∀ v, ρ (.const v) = v := fun v => hc _ (by intro t e; cases e)
    have hF : ∀ f, ρ (.func f) = .func (.func f) #[] #[] := fun f => hc _ (by intro t e; cases e)
    intro t ht; cases (show some 57 = some t from ht)
    refine ⟨fun _ => ?_, fun hn => absurd (hd 57 (by kernel_rfl)) hn⟩
    have h6 : ρ (.tmp 6) = .int .i64 0 := ho 6 (by kernel_rfl)
    exact Lin.Runs.value Lin.keeps (Lin.exec_move rfl) h6
  · intro _
    intro ρ wq hb ho hc hd
    have hC : ∀ v, ρ (.const v) = v := fun v => hc _ (by intro t e; cases e)
    have hF : ∀ f, ρ (.func f) = .func (.func f) #[] #[] := fun f => hc _ (by intro t e; cases e)
    intro t ht; cases (show some 57 = some t from ht)
    refine ⟨fun _ => ?_, fun hn => absurd (hd 57 (by kernel_rfl)) hn⟩
    have h58 : ρ (.tmp 58) = .int .i64 0 := hd 58 (by kernel_rfl)
    exact Lin.Runs.value Lin.keeps (v := .bool true) (by simp [execOp, go_sem, hC, hF, h58]) rfl
  · intro _
    intro ρ wq hb ho hc hd
    have hC : ∀ v, ρ (.const v) = v := fun v => hc _ (by intro t e; cases e)
    have hF : ∀ f, ρ (.func f) = .func (.func f) #[] #[] := fun f => hc _ (by intro t e; cases e)
    have h57 : ρ (.tmp 57) = .bool true := hd 57 (by kernel_rfl)
    have h59 : ρ (.tmp 59) = .bool true := hd 59 (by kernel_rfl)
    exact Lin.Runs.value Lin.keeps (v := .bool true) (by simp [execOp, go_sem, hC, hF, h57, h59]) rfl
  · intro _
    intro ρ wq hb ho hc hd
    have hC : ∀ v, ρ (.const v) = v := fun v => hc _ (by intro t e; cases e)
    have hF : ∀ f, ρ (.func f) = .func (.func f) #[] #[] := fun f => hc _ (by intro t e; cases e)
    have h60 : ρ (.tmp 60) = .bool true := hd 60 (by kernel_rfl)
    exact Lin.Runs.value Lin.keeps (Lin.exec_move rfl) h60
  · intro _
    intro ρ wq hb ho hc hd
    have hC : ∀ v, ρ (.const v) = v := fun v => hc _ (by intro t e; cases e)
    have hF : ∀ f, ρ (.func f) = .func (.func f) #[] #[] := fun f => hc _ (by intro t e; cases e)
    intro t ht; cases (show some 61 = some t from ht)
    refine ⟨fun _ => ?_, fun hn => absurd (hd 61 (by kernel_rfl)) hn⟩
    have h7 : ρ (.tmp 7) = .int .u64 (n : Int) := ho 7 (by kernel_rfl)
    exact Lin.Runs.value Lin.keeps (Lin.exec_move rfl) h7
  · intro _
    intro ρ wq hb ho hc hd
    have hC : ∀ v, ρ (.const v) = v := fun v => hc _ (by intro t e; cases e)
    have hF : ∀ f, ρ (.func f) = .func (.func f) #[] #[] := fun f => hc _ (by intro t e; cases e)
    intro t ht; cases (show some 61 = some t from ht)
    refine ⟨fun _ => ?_, fun hn => absurd (hd 61 (by kernel_rfl)) hn⟩
    have h1 : ρ (.tmp 1) = .int .u64 (n : Int) := ho 1 (by kernel_rfl)
    exact Lin.Runs.value Lin.keeps (Lin.exec_move rfl) h1
  · intro _
    intro ρ wq hb ho hc hd
    have hC : ∀ v, ρ (.const v) = v := fun v => hc _ (by intro t e; cases e)
    have hF : ∀ f, ρ (.func f) = .func (.func f) #[] #[] := fun f => hc _ (by intro t e; cases e)
    intro t ht; cases (show some 61 = some t from ht)
    refine ⟨fun _ => ?_, fun hn => absurd (hd 61 (by kernel_rfl)) hn⟩
    have h62 : ρ (.tmp 62) = .int .u64 (n : Int) := hd 62 (by kernel_rfl)
    have h63 : ρ (.tmp 63) = .int .u64 (n : Int) := hd 63 (by kernel_rfl)
    exact Lin.Runs.value Lin.keeps (v := .bool true) (by simp [execOp, go_sem, hC, hF, h62, h63]) rfl
  · intro _
    intro ρ wq hb ho hc hd
    have hC : ∀ v, ρ (.const v) = v := fun v => hc _ (by intro t e; cases e)
    have hF : ∀ f, ρ (.func f) = .func (.func f) #[] #[] := fun f => hc _ (by intro t e; cases e)
    have h61 : ρ (.tmp 61) = .bool true := hd 61 (by kernel_rfl)
    have h64 : ρ (.tmp 64) = .bool true := hd 64 (by kernel_rfl)
    exact Lin.Runs.value Lin.keeps (v := .bool true) (by simp [execOp, go_sem, hC, hF, h61, h64]) rfl
  · intro _
    intro ρ wq hb ho hc hd
    have hC : ∀ v, ρ (.const v) = v := fun v => hc _ (by intro t e; cases e)
    have hF : ∀ f, ρ (.func f) = .func (.func f) #[] #[] := fun f => hc _ (by intro t e; cases e)
    have h65 : ρ (.tmp 65) = .bool true := hd 65 (by kernel_rfl)
    exact Lin.Runs.value Lin.keeps (Lin.exec_move rfl) h65
  · intro _
    intro ρ wq hb ho hc hd
    have hC : ∀ v, ρ (.const v) = v := fun v => hc _ (by intro t e; cases e)
    have hF : ∀ f, ρ (.func f) = .func (.func f) #[] #[] := fun f => hc _ (by intro t e; cases e)
    intro t ht; cases (show some 66 = some t from ht)
    refine ⟨fun _ => ?_, fun hn => absurd (hd 66 (by kernel_rfl)) hn⟩
    have h8 : ρ (.tmp 8) = .slice A8 b.length c8 := ho 8 (by kernel_rfl)
    exact Lin.Runs.value Lin.keeps (Lin.exec_move rfl) h8
  · intro _
    intro ρ wq hb ho hc hd
    have hC : ∀ v, ρ (.const v) = v := fun v => hc _ (by intro t e; cases e)
    have hF : ∀ f, ρ (.func f) = .func (.func f) #[] #[] := fun f => hc _ (by intro t e; cases e)
    intro t ht; cases (show some 66 = some t from ht)
    refine ⟨fun _ => ?_, fun hn => absurd (hd 66 (by kernel_rfl)) hn⟩
    have h67 : ρ (.tmp 67) = .slice A8 b.length c8 := hd 67 (by kernel_rfl)
    exact Lin.Runs.value Lin.keeps (Lin.exec_convert rfl (by rw [h67]; exact (HI8.out.st hb).conv)) rfl
  · intro _
    intro ρ wq hb ho hc hd
    have hC : ∀ v, ρ (.const v) = v := fun v => hc _ (by intro t e; cases e)
    have hF : ∀ f, ρ (.func f) = .func (.func f) #[] #[] := fun f => hc _ (by intro t e; cases e)
    intro t ht; cases (show some 66 = some t from ht)
    refine ⟨fun _ => ?_, fun hn => absurd (hd 66 (by kernel_rfl)) hn⟩
    have h0 : ρ (.tmp 0) = .slice A b.length c := ho 0 (by kernel_rfl)
    exact Lin.Runs.value Lin.keeps (Lin.exec_move rfl) h0
  · intro _
    intro ρ wq hb ho hc hd
    have hC : ∀ v, ρ (.const v) = v := fun v => hc _ (by intro t e; cases e)
    have hF : ∀ f, ρ (.func f) = .func (.func f) #[] #[] := fun f => hc _ (by intro t e; cases e)
    intro t ht; cases (show some 66 = some t from ht)
    refine ⟨fun _ => ?_, fun hn => absurd (hd 66 (by kernel_rfl)) hn⟩
    have h69 : ρ (.tmp 69) = .slice A b.length c := hd 69 (by kernel_rfl)
    exact Lin.Runs.value Lin.keeps (Lin.exec_convert rfl (by rw [h69]; exact (HV4.out.st hb).conv)) rfl
  · intro _
    intro ρ wq hb ho hc hd
    have hC : ∀ v, ρ (.const v) = v := fun v => hc _ (by intro t e; cases e)
    have hF : ∀ f, ρ (.func f) = .func (.func f) #[] #[] := fun f => hc _ (by intro t e; cases e)
    intro t ht; cases (show some 66 = some t from ht)
    refine ⟨fun _ => ?_, fun hn => absurd (hd 66 (by kernel_rfl)) hn⟩
    have h68 : ρ (.tmp 68) = .string (strOfNums b) := hd 68 (by kernel_rfl)
    have h70 : ρ (.tmp 70) = .string (strOfNums b) := hd 70 (by kernel_rfl)
    exact Lin.Runs.value Lin.keeps (v := .bool true) (by simp [execOp, go_sem, hC, hF, h68, h70]) rfl
  · intro _
    intro ρ wq hb ho hc hd
    have hC : ∀ v, ρ (.const v) = v := fun v => hc _ (by intro t e; cases e)
    have hF : ∀ f, ρ (.func f) = .func (.func f) #[] #[] := fun f => hc _ (by intro t e; cases e)
    have h66 : ρ (.tmp 66) = .bool true := hd 66 (by kernel_rfl)
    have h71 : ρ (.tmp 71) = .bool true := hd 71 (by kernel_rfl)
    exact Lin.Runs.value Lin.keeps (v := .bool true) (by simp [execOp, go_sem, hC, hF, h66, h71]) rfl
  · intro _
    intro ρ wq hb ho hc hd
    have hC : ∀ v, ρ (.const v) = v := fun v => hc _ (by intro t e; cases e)
    have hF : ∀ f, ρ (.func f) = .func (.func f) #[] #[] := fun f => hc _ (by intro t e; cases e)
    have h72 : ρ (.tmp 72) = .bool true := hd 72 (by kernel_rfl)
    exact Lin.Runs.value Lin.keeps (Lin.exec_move rfl) h72
  · intro _
    intro ρ wq hb ho hc hd
    have hC : ∀ v, ρ (.const v) = v := fun v => hc _ (by intro t e; cases e)
    have hF : ∀ f, ρ (.func f) = .func (.func f) #[] #[] := fun f => hc _ (by intro t e; cases e)
    intro t ht; cases (show some 73 = some t from ht)
    refine ⟨fun _ => ?_, fun hn => absurd (hd 73 (by kernel_rfl)) hn⟩
    have h9 : ρ (.tmp 9) = .int .i64 0 := ho 9 (by kernel_rfl)
    exact Lin.Runs.value Lin.keeps (Lin.exec_move rfl) h9
  · intro _
    intro ρ wq hb ho hc hd
    have hC : ∀ v, ρ (.const v) = v := fun v => hc _ (by intro t e; cases e)
    have hF : ∀ f, ρ (.func f) = .func (.func f) #[] #[] := fun f => hc _ (by intro t e; cases e)
    intro t ht; cases (show some 73 = some t from ht)
    refine ⟨fun _ => ?_, fun hn => absurd (hd 73 (by kernel_rfl)) hn⟩
    have h74 : ρ (.tmp 74) = .int .i64 0 := hd 74 (by kernel_rfl)
    exact Lin.Runs.value Lin.keeps (v := .bool true) (by simp [execOp, go_sem, hC, hF, h74]) rfl
  · intro _
    intro ρ wq hb ho hc hd
    have hC : ∀ v, ρ (.const v) = v := fun v => hc _ (by intro t e; cases e)
    have hF : ∀ f, ρ (.func f) = .func (.func f) #[] #[] := fun f => hc _ (by intro t e; cases e)
    have h73 : ρ (.tmp 73) = .bool true := hd 73 (by kernel_rfl)
    have h75 : ρ (.tmp 75) = .bool true := hd 75 (by kernel_rfl)
    exact Lin.Runs.value Lin.keeps (v := .bool true) (by simp [execOp, go_sem, hC, hF, h73, h75]) rfl
  · intro _
    intro ρ wq hb ho hc hd
    have hC : ∀ v, ρ (.const v) = v := fun v => hc _ (by intro t e; cases e)
    have hF : ∀ f, ρ (.func f) = .func (.func f) #[] #[] := fun f => hc _ (by intro t e; cases e)
    have h76 : ρ (.tmp 76) = .bool true := hd 76 (by kernel_rfl)
    exact Lin.Runs.value Lin.keeps (Lin.exec_move rfl) h76
  · intro _
    intro ρ wq hb ho hc hd
    have hC : ∀ v, ρ (.const v) = v := fun v => hc _ (by intro t e; cases e)
    have hF : ∀ f, ρ (.func f) = .func (.func f) #[] #[] := fun f => hc _ (by intro t e; cases e)
    intro t ht; cases (show some 77 = some t from ht)
    refine ⟨fun _ => ?_, fun hn => absurd (hd 77 (by kernel_rfl)) hn⟩
    refine Lin.Runs.call Lin.keeps (f := 49) (args := #[]) (by simp [execOp, go_sem, hC, hF]) ?_
    exact (awake39 wq).mono fun e w9 h => by obtain ⟨rfl, rfl⟩ := h; exact ⟨_, rfl, Below.refl _ _, rfl⟩
  · intro _
    intro ρ wq hb ho hc hd
    have hC : ∀ v, ρ (.const v) = v := fun v => hc _ (by intro t e; cases e)
    have hF : ∀ f, ρ (.func f) = .func (.func f) #[] #[] := fun f => hc _ (by intro t e; cases e)
    have h77 : ρ (.tmp 77) = .bool true := hd 77 (by kernel_rfl)
    have h78 : ρ (.tmp 78) = .bool true := hd 78 (by kernel_rfl)
    exact Lin.Runs.value Lin.keeps (v := .bool true) (by simp [execOp, go_sem, hC, hF, h77, h78]) rfl
  · intro _
    intro ρ wq hb ho hc hd
    have hC : ∀ v, ρ (.const v) = v := fun v => hc _ (by intro t e; cases e)
    have hF : ∀ f, ρ (.func f) = .func (.func f) #[] #[] := fun f => hc _ (by intro t e; cases e)
    have h79 : ρ (.tmp 79) = .bool true := hd 79 (by kernel_rfl)
    exact Lin.Runs.value Lin.keeps (Lin.exec_assign rfl) h79
  · intro vals w5 hb2 hv
    have e4 := hv 4 (by kernel_rfl) (by kernel_rfl)
    clear hv
    simp only [Lin.putAll, Option.getD_some]
    rw [show vals 4 = .bool true from e4]
    go_simp
    generalize vals = vv
    go_wp2_with fail
    go_ret
    exact ⟨rfl, HB4.out.trans (hb2.mono HB4.out.size)⟩
set_option maxHeartbeats 4000000 in
theorem walk_3 (A : Option Addr) (c : Nat) (b : List Int) (n : Nat) (w : World) (hv : IsB b b.length (.slice A b.length c) w) (ho : Octets b) (hn : n < 18446744073709551616) (h5 : ¬ 500 < b.length) (hlo : 1073741824 ≤ n) (hhi : n < 4611686018427387904) : Calls Try.prog 7 #[.slice A b.length c, .int .u64 (n : Int)] w fun e w' => e = .returned (.bool true) ∧ Below w.heap.size w w' := by
  have h : ¬ (500 : Int) < (b.length : Int) := by omega
  have HV := hide hv; have HO := hide ho
  clear hv ho
  go_enter Try.func7, Try.ntmps7
  go_wp2_with fail
  refine (vput_3 A c b n _ HV.out (by omega) hlo hhi).mono ?_
  rintro e w1 ⟨v5, rfl, hb, hv5⟩
  obtain ⟨LP5, hLP5⟩ : ∃ x, (b ++ be (13835058055282163712 + n) 8).length = x := ⟨_, rfl⟩
  rw [hLP5] at hv5
  obtain ⟨A5, c5, rfl⟩ := hv5.shape
  have HV1 := hide (HV.out.st hb); have HP1 := hide hv5; have HB1 := Lib.hid hb
  have HL5 := Lib.hid hLP5
  clear hb hv5 HV hLP5
  go_wp2_with fail
  refine (vsize n hn _).mono ?_
  rintro e w9 ⟨rfl, h9⟩
  have h9' : e = .returned (.int .i64 8) := by
    rcases h9 with ⟨k, hk, rfl, h1, h2⟩ | ⟨rfl, h1⟩
    · obtain rfl : k = 3 := by
        have h : k = 0 ∨ k = 1 ∨ k = 2 ∨ k = 3 := by omega
        have g0 := h2 0; have g1 := h2 1; have g2 := h2 2
        rcases h with rfl | rfl | rfl | rfl <;> simp [vbd] at h1 g0 g1 g2 <;> omega
      rfl
    · omega
  subst h9'
  clear h9
  go_wp2_with fail
  refine (rsize n hn _).mono ?_
  rintro e w9 ⟨rfl, h9⟩
  have h9' : e = .returned (.int .i64 8) := by
    rcases h9 with ⟨k, hk, rfl, h1, h2⟩ | ⟨rfl, h1⟩
    · obtain rfl : k = 3 := by
        have h : k = 0 ∨ k = 1 ∨ k = 2 ∨ k = 3 := by omega
        have g0 := h2 0; have g1 := h2 1; have g2 := h2 2
        rcases h with rfl | rfl | rfl | rfl <;> simp [vbd] at h1 g0 g1 g2 <;> omega
      rfl
    · omega
  subst h9'
  clear h9
  go_wp2_with fail
  refine (rsize n hn _).mono ?_
  rintro e w9 ⟨rfl, h9⟩
  have h9' : e = .returned (.int .i64 8) := by
    rcases h9 with ⟨k, hk, rfl, h1, h2⟩ | ⟨rfl, h1⟩
    · obtain rfl : k = 3 := by
        have h : k = 0 ∨ k = 1 ∨ k = 2 ∨ k = 3 := by omega
        have g0 := h2 0; have g1 := h2 1; have g2 := h2 2
        rcases h with rfl | rfl | rfl | rfl <;> simp [vbd] at h1 g0 g1 g2 <;> omega
      rfl
    · omega
  subst h9'
  clear h9
  go_wp2_with fail
  refine (rvb_3 n _ hlo hhi).mono ?_
  rintro e w2 ⟨A2, c2, rfl, ho2, hb⟩
  have HO2 := hide ho2; have HV2 := hide (HV1.out.st hb); have HP2 := hide (HP1.out.st hb); have HB2 := Lib.hid (HB1.out.trans (hb.mono HB1.out.size)); have HB12 := Lib.hid hb
  clear ho2 hb
  have hz12 := HB2.out.size
  have hz2 : w1.heap.size ≤ w2.heap.size := by have h := HB12.out.size; exact h
  go_wp2_with (first
    | ((with_reducible show wpList _ _ _ (⟨some 42, _, _, _, _, _⟩ :: _) _ _)
       refine app_k _ _ _ rfl rfl Try.underlying22 info8 (v := .slice A2 8 c2) (base := w1.heap.size) (xs := be (13835058055282163712 + n) 8) (k := 8) (k' := 8 + b.length) (l := b) rfl HO2.out (by rw [be_len]) rfl HV2.out rfl (by omega) hz2 ?_
       intro A3 c3 w3 ho3 hg3
       have hb3 : Below w1.heap.size w1 w3 := grown_own HB12.out hg3 HO2.out
       have HV3 := hide (HV1.out.st hb3); have HP3 := hide (HP1.out.st hb3); have HB3 := Lib.hid (HB1.out.trans (hb3.mono HB1.out.size))
       have HI3 := hide (IsB.own ho3)
       clear ho3 hg3 hb3 HV2 HP2 HB2 HB12 HO2 HV1 HP1 HB1))
  refine (vtake_3 n b _ _ rfl _ _ HI3.out HO.out (by omega) hhi).mono ?_
  rintro e w4 ⟨v8, rfl, hb, hv8⟩
  obtain ⟨A8, c8, rfl⟩ := hv8.shape
  have HV4 := hide (HV3.out.st hb); have HP4 := hide (HP3.out.st hb); have HB4 := Lib.hid (HB3.out.trans (hb.mono HB3.out.size)); have HI8 := hide hv8
  clear hb hv8 HV3 HP3 HB3 HI3
  go_wp2_with fail
  refine Lin.wp_region_lin3 (n := 80) (fun slotq => match slotq with | 47 => Lin.Spec.val (.slice A5 LP5 c5) | 48 => Lin.Spec.val (.string (strOfNums (b ++ be (13835058055282163712 + n) 8))) | 49 => Lin.Spec.noneb w4.heap.size | 50 => Lin.Spec.val (.slice A b.length c) | 51 => Lin.Spec.own w4.heap.size b b.length | 52 => Lin.Spec.val (.int .u64 (n : Int)) | 53 => Lin.Spec.sl (be (13835058055282163712 + n) 8) 8 | 54 => Lin.Spec.own w4.heap.size (b ++ be (13835058055282163712 + n) 8) (b.length + 8) | 55 => Lin.Spec.val (.string (strOfNums (b ++ be (13835058055282163712 + n) 8))) | 56 => Lin.Spec.val (.bool true) | 57 => Lin.Spec.val (.bool true) | 58 => Lin.Spec.val (.int .i64 0) | 59 => Lin.Spec.val (.bool true) | 60 => Lin.Spec.val (.bool true) | 61 => Lin.Spec.val (.bool true) | 62 => Lin.Spec.val (.int .u64 (n : Int)) | 63 => Lin.Spec.val (.int .u64 (n : Int)) | 64 => Lin.Spec.val (.bool true) | 65 => Lin.Spec.val (.bool true) | 66 => Lin.Spec.val (.bool true) | 67 => Lin.Spec.val (.slice A8 b.length c8) | 68 => Lin.Spec.val (.string (strOfNums b)) | 69 => Lin.Spec.val (.slice A b.length c) | 70 => Lin.Spec.val (.string (strOfNums b)) | 71 => Lin.Spec.val (.bool true) | 72 => Lin.Spec.val (.bool true) | 73 => Lin.Spec.val (.bool true) | 74 => Lin.Spec.val (.int .i64 0) | 75 => Lin.Spec.val (.bool true) | 76 => Lin.Spec.val (.bool true) | 77 => Lin.Spec.val (.bool true) | 78 => Lin.Spec.val (.bool true) | 79 => Lin.Spec.val (.bool true) | 4 => Lin.Spec.val (.bool true) | _ => Lin.Spec.any) 7 (fun dd => dd == 49 || dd == 51 || dd == 53) [2, 3, 4, 5, 6] (by kernel_rfl) rfl (by kernel_rfl) (by kernel_rfl) rfl rfl rfl ⟨fun d hd => by cases (show some 47 = some d from hd); first | exact .inl rfl | exact .inr (.inl rfl) | exact .inr (.inr ⟨_, rfl⟩), fun d hd => by cases (show some 48 = some d from hd); first | exact .inl rfl | exact .inr (.inl rfl) | exact .inr (.inr ⟨_, rfl⟩), fun d hd => by cases (show some 49 = some d from hd); first | exact .inl rfl | exact .inr (.inl rfl) | exact .inr (.inr ⟨_, rfl⟩), fun d hd => by cases (show some 50 = some d from hd); first | exact .inl rfl | exact .inr (.inl rfl) | exact .inr (.inr ⟨_, rfl⟩), fun d hd => by cases (show some 51 = some d from hd); first | exact .inl rfl | exact .inr (.inl rfl) | exact .inr (.inr ⟨_, rfl⟩), fun d hd => by cases (show some 52 = some d from hd); first | exact .inl rfl | exact .inr (.inl rfl) | exact .inr (.inr ⟨_, rfl⟩), fun d hd => by cases (show some 53 = some d from hd); first | exact .inl rfl | exact .inr (.inl rfl) | exact .inr (.inr ⟨_, rfl⟩), fun d hd => by cases (show some 54 = some d from hd); first | exact .inl rfl | exact .inr (.inl rfl) | exact .inr (.inr ⟨_, rfl⟩), fun d hd => by cases (show some 55 = some d from hd); first | exact .inl rfl | exact .inr (.inl rfl) | exact .inr (.inr ⟨_, rfl⟩), fun d hd => by cases (show some 56 = some d from hd); first | exact .inl rfl | exact .inr (.inl rfl) | exact .inr (.inr ⟨_, rfl⟩), fun d hd => by cases (show some 57 = some d from hd); first | exact .inl rfl | exact .inr (.inl rfl) | exact .inr (.inr ⟨_, rfl⟩), fun d hd => by cases (show some 58 = some d from hd); first | exact .inl rfl | exact .inr (.inl rfl) | exact .inr (.inr ⟨_, rfl⟩), fun d hd => by cases (show some 59 = some d from hd); first | exact .inl rfl | exact .inr (.inl rfl) | exact .inr (.inr ⟨_, rfl⟩), fun d hd => by cases (show some 60 = some d from hd); first | exact .inl rfl | exact .inr (.inl rfl) | exact .inr (.inr ⟨_, rfl⟩), fun d hd => by cases (show some 61 = some d from hd); first | exact .inl rfl | exact .inr (.inl rfl) | exact .inr (.inr ⟨_, rfl⟩), fun d hd => by cases (show some 62 = some d from hd); first | exact .inl rfl | exact .inr (.inl rfl) | exact .inr (.inr ⟨_, rfl⟩), fun d hd => by cases (show some 63 = some d from hd); first | exact .inl rfl | exact .inr (.inl rfl) | exact .inr (.inr ⟨_, rfl⟩), fun d hd => by cases (show some 64 = some d from hd); first | exact .inl rfl | exact .inr (.inl rfl) | exact .inr (.inr ⟨_, rfl⟩), fun d hd => by cases (show some 65 = some d from hd); first | exact .inl rfl | exact .inr (.inl rfl) | exact .inr (.inr ⟨_, rfl⟩), fun d hd => by cases (show some 66 = some d from hd); first | exact .inl rfl | exact .inr (.inl rfl) | exact .inr (.inr ⟨_, rfl⟩), fun d hd => by cases (show some 67 = some d from hd); first | exact .inl rfl | exact .inr (.inl rfl) | exact .inr (.inr ⟨_, rfl⟩), fun d hd => by cases (show some 68 = some d from hd); first | exact .inl rfl | exact .inr (.inl rfl) | exact .inr (.inr ⟨_, rfl⟩), fun d hd => by cases (show some 69 = some d from hd); first | exact .inl rfl | exact .inr (.inl rfl) | exact .inr (.inr ⟨_, rfl⟩), fun d hd => by cases (show some 70 = some d from hd); first | exact .inl rfl | exact .inr (.inl rfl) | exact .inr (.inr ⟨_, rfl⟩), fun d hd => by cases (show some 71 = some d from hd); first | exact .inl rfl | exact .inr (.inl rfl) | exact .inr (.inr ⟨_, rfl⟩), fun d hd => by cases (show some 72 = some d from hd); first | exact .inl rfl | exact .inr (.inl rfl) | exact .inr (.inr ⟨_, rfl⟩), fun d hd => by cases (show some 73 = some d from hd); first | exact .inl rfl | exact .inr (.inl rfl) | exact .inr (.inr ⟨_, rfl⟩), fun d hd => by cases (show some 74 = some d from hd); first | exact .inl rfl | exact .inr (.inl rfl) | exact .inr (.inr ⟨_, rfl⟩), fun d hd => by cases (show some 75 = some d from hd); first | exact .inl rfl | exact .inr (.inl rfl) | exact .inr (.inr ⟨_, rfl⟩), fun d hd => by cases (show some 76 = some d from hd); first | exact .inl rfl | exact .inr (.inl rfl) | exact .inr (.inr ⟨_, rfl⟩), fun d hd => by cases (show some 77 = some d from hd); first | exact .inl rfl | exact .inr (.inl rfl) | exact .inr (.inr ⟨_, rfl⟩), fun d hd => by cases (show some 78 = some d from hd); first | exact .inl rfl | exact .inr (.inl rfl) | exact .inr (.inr ⟨_, rfl⟩), fun d hd => by cases (show some 79 = some d from hd); first | exact .inl rfl | exact .inr (.inl rfl) | exact .inr (.inr ⟨_, rfl⟩), fun d hd => by cases (show some 4 = some d from hd); first | exact .inl rfl | exact .inr (.inl rfl) | exact .inr (.inr ⟨_, rfl⟩), trivial⟩ ?_ ⟨?_, ?_, ?_, ?_, ?_, ?_, ?_, ?_, ?_, ?_, ?_, ?_, ?_, ?_, ?_, ?_, ?_, ?_, ?_, ?_, ?_, ?_, ?_, ?_, ?_, ?_, ?_, ?_, ?_, ?_, ?_, ?_, ?_, ?_, trivial⟩ ?_
  · intro ρ wq hb ho hc hd
    have hC : ∀ v, ρ (.const v) = v := fun v => hc _ (by intro t e; cases e)
    have hF : ∀ f, ρ (.func f) = .func (.func f) #[] #[] := fun f => hc _ (by intro t e; cases e)
    have h51 := hd 51 (by kernel_rfl)
    have h53 := hd 53 (by kernel_rfl)
    exact exec_grow rfl Try.underlying22 info8 h51 h53 rfl (by omega) hb.size
  · intro _
    intro ρ wq hb ho hc hd
    have hC : ∀ v, ρ (.const v) = v := fun v => hc _ (by intro t e; cases e)
    have hF : ∀ f, ρ (.func f) = .func (.func f) #[] #[] := fun f => hc _ (by intro t e; cases e)
    have h5 : ρ (.tmp 5) = .slice A5 LP5 c5 := ho 5 (by kernel_rfl)
    exact Lin.Runs.value Lin.keeps (Lin.exec_move rfl) h5
  · intro _
    intro ρ wq hb ho hc hd
    have hC : ∀ v, ρ (.const v) = v := fun v => hc _ (by intro t e; cases e)
    have hF : ∀ f, ρ (.func f) = .func (.func f) #[] #[] := fun f => hc _ (by intro t e; cases e)
    have h47 : ρ (.tmp 47) = .slice A5 LP5 c5 := hd 47 (by kernel_rfl)
    exact Lin.Runs.value Lin.keeps (Lin.exec_convert rfl (by rw [h47]; exact (HP4.out.st hb).conv)) rfl
  · intro _
    intro ρ wq hb ho hc hd
    have hC : ∀ v, ρ (.const v) = v := fun v => hc _ (by intro t e; cases e)
    have hF : ∀ f, ρ (.func f) = .func (.func f) #[] #[] := fun f => hc _ (by intro t e; cases e)
    exact Lin.Runs.made (v := .slice (some ⟨wq.heap.size, 0, none⟩) 0 0) (w' := wq.alloc (.cells #[] 5)) (by simp [execOp, go_sem, hC, hF]) ((Below.refl _ _).alloc (Nat.le_refl _) _) (NoneP.new hb.size)
  · intro _
    intro ρ wq hb ho hc hd
    have hC : ∀ v, ρ (.const v) = v := fun v => hc _ (by intro t e; cases e)
    have hF : ∀ f, ρ (.func f) = .func (.func f) #[] #[] := fun f => hc _ (by intro t e; cases e)
    have h0 : ρ (.tmp 0) = .slice A b.length c := ho 0 (by kernel_rfl)
    exact Lin.Runs.value Lin.keeps (Lin.exec_move rfl) h0
  · intro _
    intro ρ wq hb ho hc hd
    have hC : ∀ v, ρ (.const v) = v := fun v => hc _ (by intro t e; cases e)
    have hF : ∀ f, ρ (.func f) = .func (.func f) #[] #[] := fun f => hc _ (by intro t e; cases e)
    have h49 := hd 49 (by kernel_rfl)
    have h50 : ρ (.tmp 50) = .slice A b.length c := hd 50 (by kernel_rfl)
    obtain ⟨A7, c7, e7, h71, h72, h73⟩ := HV4.out.st hb
    injection e7 with e7 e8 e9
    subst e7
    obtain ⟨v9, w9, hr, hb2, his⟩ := grow_nil (T := 22) h49 Try.underlying22 info8 h72 c rfl (by omega)
    exact Lin.Runs.made (by unfold execOp; simp only [resolve, invoke, builtin, Sem.run_bind, Sem.run_pure, Result.andThen_ok, List.map_toArray, List.map_cons, List.map_nil, h50, hr]) hb2 his
  · intro _
    intro ρ wq hb ho hc hd
    have hC : ∀ v, ρ (.const v) = v := fun v => hc _ (by intro t e; cases e)
    have hF : ∀ f, ρ (.func f) = .func (.func f) #[] #[] := fun f => hc _ (by intro t e; cases e)
    have h1 : ρ (.tmp 1) = .int .u64 (n : Int) := ho 1 (by kernel_rfl)
    exact Lin.Runs.value Lin.keeps (Lin.exec_move rfl) h1
  · intro _
    intro ρ wq hb ho hc hd
    have hC : ∀ v, ρ (.const v) = v := fun v => hc _ (by intro t e; cases e)
    have hF : ∀ f, ρ (.func f) = .func (.func f) #[] #[] := fun f => hc _ (by intro t e; cases e)
    have h52 : ρ (.tmp 52) = .int .u64 (n : Int) := hd 52 (by kernel_rfl)
    refine Lin.Runs.call Lin.keeps (f := 54) (args := #[.int .u64 (n : Int)]) (by simp [execOp, go_sem, hC, hF, h52]) ?_
    exact (rvb_3 n wq hlo hhi).mono fun e w9 ⟨A9, c9, he, ho9, hb9⟩ => ⟨_, he, hb9, IsB.own ho9⟩
  · exact fun h => absurd rfl h
  · intro _
    intro ρ wq hb ho hc hd
    have hC : ∀ v, ρ (.const v) = v := fun v => hc _ (by intro t e; cases e)
    have hF : ∀ f, ρ (.func f) = .func (.func f) #[] #[] := fun f => hc _ (by intro t e; cases e)
    have h54 := hd 54 (by kernel_rfl)
    exact Lin.Runs.value Lin.keeps (Lin.exec_convert rfl h54.isb.conv) rfl
  · intro _
    intro ρ wq hb ho hc hd
    have hC : ∀ v, ρ (.const v) = v := fun v => hc _ (by intro t e; cases e)
    have hF : ∀ f, ρ (.func f) = .func (.func f) #[] #[] := fun f => hc _ (by intro t e; cases e)
    have h48 : ρ (.tmp 48) = .string (strOfNums (b ++ be (13835058055282163712 + n) 8)) := hd 48 (by kernel_rfl)
    have h55 : ρ (.tmp 55) = .string (strOfNums (b ++ be (13835058055282163712 + n) 8)) := hd 55 (by kernel_rfl)
    exact Lin.Runs.value Lin.keeps (v := .bool true) (by simp [execOp, go_sem, hC, hF, h48, h55]) rfl
  · intro _
    intro ρ wq hb ho hc hd
    have hC : ∀ v, ρ (.const v) = v := fun v => hc _ (by intro t e; cases e)
    have hF : ∀ f, ρ (.func f) = .func (.func f) #[] #[] := fun f => hc _ (by intro t e; cases e)
    have h56 : ρ (.tmp 56) = .bool true := hd 56 (by kernel_rfl)
    exact Lin.Runs.value Lin.keeps (Lin.exec_move rfl) h56
  · intro _
    intro ρ wq hb ho hc hd
    have hC : ∀ v, ρ (.const v) = v := fun v => hc _ (by intro t e; cases e)
    have hF : ∀ f, ρ (.func f) = .func (.func f) #[] #[] := fun f => hc _ (by intro t e; cases e)
    intro t ht; cases (show some 57 = some t from ht)
    refine ⟨fun _ => ?_, fun hn => absurd (hd 57 (by kernel_rfl)) hn⟩
    have h6 : ρ (.tmp 6) = .int .i64 0 := ho 6 (by kernel_rfl)
    exact Lin.Runs.value Lin.keeps (Lin.exec_move rfl) h6
  · intro _
    intro ρ wq hb ho hc hd
    have hC : ∀ v, ρ (.const v) = v := fun v => hc _ (by intro t e; cases e)
    have hF : ∀ f, ρ (.func f) = .func (.func f) #[] #[] := fun f => hc _ (by intro t e; cases e)
    intro t ht; cases (show some 57 = some t from ht)
    refine ⟨fun _ => ?_, fun hn => absurd (hd 57 (by kernel_rfl)) hn⟩
    have h58 : ρ (.tmp 58) = .int .i64 0 := hd 58 (by kernel_rfl)
    exact Lin.Runs.value Lin.keeps (v := .bool true) (by simp [execOp, go_sem, hC, hF, h58]) rfl
  · intro _
    intro ρ wq hb ho hc hd
    have hC : ∀ v, ρ (.const v) = v := fun v => hc _ (by intro t e; cases e)
    have hF : ∀ f, ρ (.func f) = .func (.func f) #[] #[] := fun f => hc _ (by intro t e; cases e)
    have h57 : ρ (.tmp 57) = .bool true := hd 57 (by kernel_rfl)
    have h59 : ρ (.tmp 59) = .bool true := hd 59 (by kernel_rfl)
    exact Lin.Runs.value Lin.keeps (v := .bool true) (by simp [execOp, go_sem, hC, hF, h57, h59]) rfl
  · intro _
    intro ρ wq hb ho hc hd
    have hC : ∀ v, ρ (.const v) = v := fun v => hc _ (by intro t e; cases e)
    have hF : ∀ f, ρ (.func f) = .func (.func f) #[] #[] := fun f => hc _ (by intro t e; cases e)
    have h60 : ρ (.tmp 60) = .bool true := hd 60 (by kernel_rfl)
    exact Lin.Runs.value Lin.keeps (Lin.exec_move rfl) h60
  · intro _
    intro ρ wq hb ho hc hd
    have hC : ∀ v, ρ (.const v) = v := fun v => hc _ (by intro t e; cases e)
    have hF : ∀ f, ρ (.func f) = .func (.func f) #[] #[] := fun f => hc _ (by intro t e; cases e)
    intro t ht; cases (show some 61 = some t from ht)
    refine ⟨fun _ => ?_, fun hn => absurd (hd 61 (by kernel_rfl)) hn⟩
    have h7 : ρ (.tmp 7) = .int .u64 (n : Int) := ho 7 (by kernel_rfl)
    exact Lin.Runs.value Lin.keeps (Lin.exec_move rfl) h7
  · intro _
    intro ρ wq hb ho hc hd
    have hC : ∀ v, ρ (.const v) = v := fun v => hc _ (by intro t e; cases e)
    have hF : ∀ f, ρ (.func f) = .func (.func f) #[] #[] := fun f => hc _ (by intro t e; cases e)
    intro t ht; cases (show some 61 = some t from ht)
    refine ⟨fun _ => ?_, fun hn => absurd (hd 61 (by kernel_rfl)) hn⟩
    have h1 : ρ (.tmp 1) = .int .u64 (n : Int) := ho 1 (by kernel_rfl)
    exact Lin.Runs.value Lin.keeps (Lin.exec_move rfl) h1
  · intro _
    intro ρ wq hb ho hc hd
    have hC : ∀ v, ρ (.const v) = v := fun v => hc _ (by intro t e; cases e)
    have hF : ∀ f, ρ (.func f) = .func (.func f) #[] #[] := fun f => hc _ (by intro t e; cases e)
    intro t ht; cases (show some 61 = some t from ht)
    refine ⟨fun _ => ?_, fun hn => absurd (hd 61 (by kernel_rfl)) hn⟩
    have h62 : ρ (.tmp 62) = .int .u64 (n : Int) := hd 62 (by kernel_rfl)
    have h63 : ρ (.tmp 63) = .int .u64 (n : Int) := hd 63 (by kernel_rfl)
    exact Lin.Runs.value Lin.keeps (v := .bool true) (by simp [execOp, go_sem, hC, hF, h62, h63]) rfl
  · intro _
    intro ρ wq hb ho hc hd
    have hC : ∀ v, ρ (.const v) = v := fun v => hc _ (by intro t e; cases e)
    have hF : ∀ f, ρ (.func f) = .func (.func f) #[] #[] := fun f => hc _ (by intro t e; cases e)
    have h61 : ρ (.tmp 61) = .bool true := hd 61 (by kernel_rfl)
    have h64 : ρ (.tmp 64) = .bool true := hd 64 (by kernel_rfl)
    exact Lin.Runs.value Lin.keeps (v := .bool true) (by simp [execOp, go_sem, hC, hF, h61, h64]) rfl
  · intro _
    intro ρ wq hb ho hc hd
    have hC : ∀ v, ρ (.const v) = v := fun v => hc _ (by intro t e; cases e)
    have hF : ∀ f, ρ (.func f) = .func (.func f) #[] #[] := fun f => hc _ (by intro t e; cases e)
    have h65 : ρ (.tmp 65) = .bool true := hd 65 (by kernel_rfl)
    exact Lin.Runs.value Lin.keeps (Lin.exec_move rfl) h65
  · intro _
    intro ρ wq hb ho hc hd
    have hC : ∀ v, ρ (.const v) = v := fun v => hc _ (by intro t e; cases e)
    have hF : ∀ f, ρ (.func f) = .func (.func f) #[] #[] := fun f => hc _ (by intro t e; cases e)
    intro t ht; cases (show some 66 = some t from ht)
    refine ⟨fun _ => ?_, fun hn => absurd (hd 66 (by kernel_rfl)) hn⟩
    have h8 : ρ (.tmp 8) = .slice A8 b.length c8 := ho 8 (by kernel_rfl)
    exact Lin.Runs.value Lin.keeps (Lin.exec_move rfl) h8
  · intro _
    intro ρ wq hb ho hc hd
    have hC : ∀ v, ρ (.const v) = v := fun v => hc _ (by intro t e; cases e)
    have hF : ∀ f, ρ (.func f) = .func (.func f) #[] #[] := fun f => hc _ (by intro t e; cases e)
    intro t ht; cases (show some 66 = some t from ht)
    refine ⟨fun _ => ?_, fun hn => absurd (hd 66 (by kernel_rfl)) hn⟩
    have h67 : ρ (.tmp 67) = .slice A8 b.length c8 := hd 67 (by kernel_rfl)
    exact Lin.Runs.value Lin.keeps (Lin.exec_convert rfl (by rw [h67]; exact (HI8.out.st hb).conv)) rfl
  · intro _
    intro ρ wq hb ho hc hd
    have hC : ∀ v, ρ (.const v) = v := fun v => hc _ (by intro t e; cases e)
    have hF : ∀ f, ρ (.func f) = .func (.func f) #[] #[] := fun f => hc _ (by intro t e; cases e)
    intro t ht; cases (show some 66 = some t from ht)
    refine ⟨fun _ => ?_, fun hn => absurd (hd 66 (by kernel_rfl)) hn⟩
    have h0 : ρ (.tmp 0) = .slice A b.length c := ho 0 (by kernel_rfl)
    exact Lin.Runs.value Lin.keeps (Lin.exec_move rfl) h0
  · intro _
    intro ρ wq hb ho hc hd
    have hC : ∀ v, ρ (.const v) = v := fun v => hc _ (by intro t e; cases e)
    have hF : ∀ f, ρ (.func f) = .func (.func f) #[] #[] := fun f => hc _ (by intro t e; cases e)
    intro t ht; cases (show some 66 = some t from ht)
    refine ⟨fun _ => ?_, fun hn => absurd (hd 66 (by kernel_rfl)) hn⟩
    have h69 : ρ (.tmp 69) = .slice A b.length c := hd 69 (by kernel_rfl)
    exact Lin.Runs.value Lin.keeps (Lin.exec_convert rfl (by rw [h69]; exact (HV4.out.st hb).conv)) rfl
  · intro _
    intro ρ wq hb ho hc hd
    have hC : ∀ v, ρ (.const v) = v := fun v => hc _ (by intro t e; cases e)
    have hF : ∀ f, ρ (.func f) = .func (.func f) #[] #[] := fun f => hc _ (by intro t e; cases e)
    intro t ht; cases (show some 66 = some t from ht)
    refine ⟨fun _ => ?_, fun hn => absurd (hd 66 (by kernel_rfl)) hn⟩
    have h68 : ρ (.tmp 68) = .string (strOfNums b) := hd 68 (by kernel_rfl)
    have h70 : ρ (.tmp 70) = .string (strOfNums b) := hd 70 (by kernel_rfl)
    exact Lin.Runs.value Lin.keeps (v := .bool true) (by simp [execOp, go_sem, hC, hF, h68, h70]) rfl
  · intro _
    intro ρ wq hb ho hc hd
    have hC : ∀ v, ρ (.const v) = v := fun v => hc _ (by intro t e; cases e)
    have hF : ∀ f, ρ (.func f) = .func (.func f) #[] #[] := fun f => hc _ (by intro t e; cases e)
    have h66 : ρ (.tmp 66) = .bool true := hd 66 (by kernel_rfl)
    have h71 : ρ (.tmp 71) = .bool true := hd 71 (by kernel_rfl)
    exact Lin.Runs.value Lin.keeps (v := .bool true) (by simp [execOp, go_sem, hC, hF, h66, h71]) rfl
  · intro _
    intro ρ wq hb ho hc hd
    have hC : ∀ v, ρ (.const v) = v := fun v => hc _ (by intro t e; cases e)
    have hF : ∀ f, ρ (.func f) = .func (.func f) #[] #[] := fun f => hc _ (by intro t e; cases e)
    have h72 : ρ (.tmp 72) = .bool true := hd 72 (by kernel_rfl)
    exact Lin.Runs.value Lin.keeps (Lin.exec_move rfl) h72
  · intro _
    intro ρ wq hb ho hc hd
    have hC : ∀ v, ρ (.const v) = v := fun v => hc _ (by intro t e; cases e)
    have hF : ∀ f, ρ (.func f) = .func (.func f) #[] #[] := fun f => hc _ (by intro t e; cases e)
    intro t ht; cases (show some 73 = some t from ht)
    refine ⟨fun _ => ?_, fun hn => absurd (hd 73 (by kernel_rfl)) hn⟩
    have h9 : ρ (.tmp 9) = .int .i64 0 := ho 9 (by kernel_rfl)
    exact Lin.Runs.value Lin.keeps (Lin.exec_move rfl) h9
  · intro _
    intro ρ wq hb ho hc hd
    have hC : ∀ v, ρ (.const v) = v := fun v => hc _ (by intro t e; cases e)
    have hF : ∀ f, ρ (.func f) = .func (.func f) #[] #[] := fun f => hc _ (by intro t e; cases e)
    intro t ht; cases (show some 73 = some t from ht)
    refine ⟨fun _ => ?_, fun hn => absurd (hd 73 (by kernel_rfl)) hn⟩
    have h74 : ρ (.tmp 74) = .int .i64 0 := hd 74 (by kernel_rfl)
    exact Lin.Runs.value Lin.keeps (v := .bool true) (by simp [execOp, go_sem, hC, hF, h74]) rfl
  · intro _
    intro ρ wq hb ho hc hd
    have hC : ∀ v, ρ (.const v) = v := fun v => hc _ (by intro t e; cases e)
    have hF : ∀ f, ρ (.func f) = .func (.func f) #[] #[] := fun f => hc _ (by intro t e; cases e)
    have h73 : ρ (.tmp 73) = .bool true := hd 73 (by kernel_rfl)
    have h75 : ρ (.tmp 75) = .bool true := hd 75 (by kernel_rfl)
    exact Lin.Runs.value Lin.keeps (v := .bool true) (by simp [execOp, go_sem, hC, hF, h73, h75]) rfl
  · intro _
    intro ρ wq hb ho hc hd
    have hC : ∀ v, ρ (.const v) = v := fun v => hc _ (by intro t e; cases e)
    have hF : ∀ f, ρ (.func f) = .func (.func f) #[] #[] := fun f => hc _ (by intro t e; cases e)
    have h76 : ρ (.tmp 76) = .bool true := hd 76 (by kernel_rfl)
    exact Lin.Runs.value Lin.keeps (Lin.exec_move rfl) h76
  · intro _
    intro ρ wq hb ho hc hd
    have hC : ∀ v, ρ (.const v) = v := fun v => hc _ (by intro t e; cases e)
    have hF : ∀ f, ρ (.func f) = .func (.func f) #[] #[] := fun f => hc _ (by intro t e; cases e)
    intro t ht; cases (show some 77 = some t from ht)
    refine ⟨fun _ => ?_, fun hn => absurd (hd 77 (by kernel_rfl)) hn⟩
    refine Lin.Runs.call Lin.keeps (f := 49) (args := #[]) (by simp [execOp, go_sem, hC, hF]) ?_
    exact (awake39 wq).mono fun e w9 h => by obtain ⟨rfl, rfl⟩ := h; exact ⟨_, rfl, Below.refl _ _, rfl⟩
  · intro _
    intro ρ wq hb ho hc hd
    have hC : ∀ v, ρ (.const v) = v := fun v => hc _ (by intro t e; cases e)
    have hF : ∀ f, ρ (.func f) = .func (.func f) #[] #[] := fun f => hc _ (by intro t e; cases e)
    have h77 : ρ (.tmp 77) = .bool true := hd 77 (by kernel_rfl)
    have h78 : ρ (.tmp 78) = .bool true := hd 78 (by kernel_rfl)
    exact Lin.Runs.value Lin.keeps (v := .bool true) (by simp [execOp, go_sem, hC, hF, h77, h78]) rfl
  · intro _
    intro ρ wq hb ho hc hd
    have hC : ∀ v, ρ (.const v) = v := fun v => hc _ (by intro t e; cases e)
    have hF : ∀ f, ρ (.func f) = .func (.func f) #[] #[] := fun f => hc _ (by intro t e; cases e)
    have h79 : ρ (.tmp 79) = .bool true := hd 79 (by kernel_rfl)
    exact Lin.Runs.value Lin.keeps (Lin.exec_assign rfl) h79
  · intro vals w5 hb2 hv
    have e4 := hv 4 (by kernel_rfl) (by kernel_rfl)
    clear hv
    simp only [Lin.putAll, Option.getD_some]
    rw [show vals 4 = .bool true from e4]
    go_simp
    generalize vals = vv
    go_wp2_with fail
    go_ret
    exact ⟨rfl, HB4.out.trans (hb2.mono HB4.out.size)⟩

theorem walk (A : Option Addr) (c : Nat) (b : List Int) (n : Nat) (w : World) (hv : IsB b b.length (.slice A b.length c) w) (ho : Octets b) (hn : n < 18446744073709551616) : Calls Try.prog 7 #[.slice A b.length c, .int .u64 (n : Int)] w fun e w' => e = .returned (.bool true) ∧ Below w.heap.size w w' := by
  by_cases h5 : 500 < b.length
  · exact walk_long A c b n w hv ho hn h5
  by_cases h0 : n < 64
  · exact walk_0 A c b n w hv ho hn h5 (by omega) h0
  by_cases h1 : n < 16384
  · exact walk_1 A c b n w hv ho hn h5 (by omega) h1
  by_cases h2 : n < 1073741824
  · exact walk_2 A c b n w hv ho hn h5 (by omega) h2
  by_cases h3 : n < 4611686018427387904
  · exact walk_3 A c b n w hv ho hn h5 (by omega) h3
  exact walk_no A c b n w hv ho hn h5 (by omega)
end Go.Proofs.Ytkgmgmlicgjfdaa
