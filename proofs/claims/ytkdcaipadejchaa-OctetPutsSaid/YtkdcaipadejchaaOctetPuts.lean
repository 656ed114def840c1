/-
  OctetPuts (P1.1) answers true and leaves its arguments as they were, for all integers, sizes and byte slices: Put, Set and Equal agree with the reference. No condition.
-/
import Derived.Test.YtkdcaipadejchaaRows
import Derived.WalkKit
import Derived.ProofKit
import Derived.OpenShut
import Derived.ShutString
import Derived.ChangeOld
import Derived.Below
import Derived.Test.YtkdcaipadejchaaOctS
import Derived.Test.YtkdcaipadejchaaLinB
namespace Go.Proofs.Ytkdcaipadejchaa.octetPuts
open Go.ChangeShapes Go.WideShapes Go.ChangeAt Go.RowKit
open Go.ChangeMaps (open_string shut_string)
open Go.Proofs.Ytkdcaipadejchaa
set_option linter.unusedVariables false

theorem own : ownKnob Try.prog.godebug = none := by kernel_rfl
theorem laidOut : laidOutB Try.prog = true := by kernel_rfl

/-! ### The walk -/
set_option maxRecDepth 100000 in
set_option maxHeartbeats 4000000 in
theorem walk_ok (A X : Option Addr) (c d : Nat) (b x : List Int) (i n k : Nat) (w : World) (ha : IsB b b.length (.slice A b.length c) w) (hx : IsB x x.length (.slice X x.length d) w) (h : Bytes w w.heap.size A b) (hm : b.length ≤ 1000) (hxm : x.length ≤ 1000) (hn : n < 18446744073709551616) (k0 : 1 ≤ k) (k8 : k ≤ 8) (hi : i + k ≤ b.length) :
    Calls Try.prog 3 #[.slice A b.length c, .int .i64 (i : Int), .int .u64 (n : Int), .int .i64 (k : Int), .slice X x.length d] w fun e w' => e = .returned (.bool true) ∧ Below w.heap.size w w' := by
  have HA := Lib.hid h; have IA := hide ha; have IX0 := hide hx
  have p1 : ¬ (1000 < b.length) := by omega
  have p2 : ¬ (1000 < x.length) := by omega
  have a1 : (1 : Int) ≤ (k : Int) := by omega
  have a2 : (k : Int) ≤ 8 := by omega
  have a3 : (0 : Int) ≤ (i : Int) := by omega
  have a4 : (i : Int) ≤ (b.length : Int) - (k : Int) := by omega
  clear h ha hx
  go_enter Try.func3, Try.ntmps3
  go_wp2_with fail
  refine (set_ok A c b i n k w HA.out (by omega) hn k0 k8 hi).mono ?_
  rintro e w1 ⟨A1, c1, rfl, ho1, hb1⟩
  have e1 : (setB b i (be n k)).length = b.length := setB_len b i (be n k) (by rw [be_len]; exact hi)
  have HO1 := Lib.hid ho1; have HB1 := Lib.hid hb1; have E1 := Lib.hid e1
  clear ho1 hb1 e1
  go_wp2_with fail
  have IX : Hid (IsB (setB b i (be n k)) b.length (.slice A1 b.length c1) w1) := hide (IsB.own HO1.out)
  refine Lin.wp_region_lin Lin.keeps (n := 111)  (fun slotq => match slotq with | 66 => Lin.Spec.val (.bool true) | 67 => Lin.Spec.val (.bool true) | 68 => Lin.Spec.val (.slice A1 b.length c1) | 69 => Lin.Spec.val (.string (strOfNums (setB b i (be n k)))) | 70 => Lin.Spec.val (.slice A b.length c) | 71 => Lin.Spec.val (.int .i64 (i : Int)) | 72 => Lin.Spec.val (.int .u64 (n : Int)) | 73 => Lin.Spec.val (.int .i64 (k : Int)) | 74 => Lin.Spec.sl (be n k) k | 75 => Lin.Spec.sl (setB b i (be n k)) b.length | 76 => Lin.Spec.val (.string (strOfNums (setB b i (be n k)))) | 77 => Lin.Spec.val (.bool false) | 78 => Lin.Spec.val (.bool false) | _ => Lin.Spec.any) (by kernel_rfl) rfl (by kernel_rfl) ⟨?_, ?_, ?_, ?_, ?_, ?_, ?_, ?_, ?_, ?_, ?_, ?_, ?_, trivial⟩ ?_
  · intro ρ wq hb ho hc hd
    have h13 : ρ (.tmp 13) = .bool true := ho 13 (by kernel_rfl)
    exact Lin.Runs.value Lin.keeps (Lin.exec_move rfl) h13
  · intro ρ wq hb ho hc hd
    have h66 : ρ (.tmp 66) = .bool true := hd 66 (by kernel_rfl)
    exact Lin.Runs.value Lin.keeps (Lin.exec_move rfl) h66
  · intro ρ wq hb ho hc hd
    intro t ht; cases (show some 67 = some t from ht)
    refine ⟨fun _ => ?_, fun hn => absurd (hd 67 (by kernel_rfl)) hn⟩
    have h11 : ρ (.tmp 11) = .slice A1 b.length c1 := ho 11 (by kernel_rfl)
    exact Lin.Runs.value Lin.keeps (Lin.exec_move rfl) h11
  · intro ρ wq hb ho hc hd
    intro t ht; cases (show some 67 = some t from ht)
    refine ⟨fun _ => ?_, fun hn => absurd (hd 67 (by kernel_rfl)) hn⟩
    have h68 : ρ (.tmp 68) = .slice A1 b.length c1 := hd 68 (by kernel_rfl)
    exact Lin.Runs.value Lin.keeps (Lin.exec_convert rfl (by rw [h68]; exact (IX.out.st hb).conv)) rfl
  · intro ρ wq hb ho hc hd
    intro t ht; cases (show some 67 = some t from ht)
    refine ⟨fun _ => ?_, fun hn => absurd (hd 67 (by kernel_rfl)) hn⟩
    have h0 : ρ (.tmp 0) = .slice A b.length c := ho 0 (by kernel_rfl)
    exact Lin.Runs.value Lin.keeps (Lin.exec_move rfl) h0
  · intro ρ wq hb ho hc hd
    intro t ht; cases (show some 67 = some t from ht)
    refine ⟨fun _ => ?_, fun hn => absurd (hd 67 (by kernel_rfl)) hn⟩
    have h1 : ρ (.tmp 1) = .int .i64 (i : Int) := ho 1 (by kernel_rfl)
    exact Lin.Runs.value Lin.keeps (Lin.exec_move rfl) h1
  · intro ρ wq hb ho hc hd
    intro t ht; cases (show some 67 = some t from ht)
    refine ⟨fun _ => ?_, fun hn => absurd (hd 67 (by kernel_rfl)) hn⟩
    have h2 : ρ (.tmp 2) = .int .u64 (n : Int) := ho 2 (by kernel_rfl)
    exact Lin.Runs.value Lin.keeps (Lin.exec_move rfl) h2
  · intro ρ wq hb ho hc hd
    intro t ht; cases (show some 67 = some t from ht)
    refine ⟨fun _ => ?_, fun hn => absurd (hd 67 (by kernel_rfl)) hn⟩
    have h3 : ρ (.tmp 3) = .int .i64 (k : Int) := ho 3 (by kernel_rfl)
    exact Lin.Runs.value Lin.keeps (Lin.exec_move rfl) h3
  · intro ρ wq hb ho hc hd
    intro t ht; cases (show some 67 = some t from ht)
    refine ⟨fun _ => ?_, fun hn => absurd (hd 67 (by kernel_rfl)) hn⟩
    have h72 : ρ (.tmp 72) = .int .u64 (n : Int) := hd 72 (by kernel_rfl)
    have h73 : ρ (.tmp 73) = .int .i64 (k : Int) := hd 73 (by kernel_rfl)
    refine Lin.Runs.call Lin.keeps (f := 18) (args := #[.int .u64 (n : Int), .int .i64 (k : Int)]) (by simp [execOp, go_sem, hc, h72, h73]) ((rbytes_any n (k : Int) wq hn).mono ?_)
    rintro e w2 ⟨A2, c2, rfl, ho2, hb2⟩
    rw [sz8_mid k8] at ho2 ⊢
    rw [be_len] at ho2 ⊢
    exact ⟨_, rfl, hb2, IsB.own ho2⟩
  · intro ρ wq hb ho hc hd
    intro t ht; cases (show some 67 = some t from ht)
    refine ⟨fun _ => ?_, fun hn => absurd (hd 67 (by kernel_rfl)) hn⟩
    have h70 : ρ (.tmp 70) = .slice A b.length c := hd 70 (by kernel_rfl)
    have h71 : ρ (.tmp 71) = .int .i64 (i : Int) := hd 71 (by kernel_rfl)
    have h74 := hd 74 (by kernel_rfl)
    obtain ⟨A2, c2, e2, l2, b2, _⟩ := h74
    refine Lin.Runs.call Lin.keeps (f := 17) (args := #[.slice A b.length c, .int .i64 (i : Int), .slice A2 k c2]) (by simp [execOp, go_sem, hc, h70, h71, e2]) ?_
    have h := rset_any A A2 c c2 b (be n k) i wq ((HA.out.below (HB1.out.trans (hb.mono HB1.out.size))).more (HB1.out.trans (hb.mono HB1.out.size)).size) b2 (by omega) (by rw [be_len]; exact hi)
    rw [be_len] at h
    refine h.mono ?_
    rintro e w2 ⟨A3, c3, rfl, ho3, hb3⟩
    rw [E1.out] at ho3 ⊢
    exact ⟨_, rfl, hb3, IsB.own ho3⟩
  · intro ρ wq hb ho hc hd
    intro t ht; cases (show some 67 = some t from ht)
    refine ⟨fun _ => ?_, fun hn => absurd (hd 67 (by kernel_rfl)) hn⟩
    have h75 := hd 75 (by kernel_rfl)
    exact Lin.Runs.value Lin.keeps (Lin.exec_convert rfl h75.conv) rfl
  · intro ρ wq hb ho hc hd
    intro t ht; cases (show some 67 = some t from ht)
    refine ⟨fun _ => ?_, fun hn => absurd (hd 67 (by kernel_rfl)) hn⟩
    have h69 : ρ (.tmp 69) = .string (strOfNums (setB b i (be n k))) := hd 69 (by kernel_rfl)
    have h76 : ρ (.tmp 76) = .string (strOfNums (setB b i (be n k))) := hd 76 (by kernel_rfl)
    exact Lin.Runs.value Lin.keeps (v := .bool false) (by simp [execOp, go_sem, hc, h69, h76]) rfl
  · intro ρ wq hb ho hc hd
    have h67 : ρ (.tmp 67) = .bool true := hd 67 (by kernel_rfl)
    have h77 : ρ (.tmp 77) = .bool false := hd 77 (by kernel_rfl)
    exact Lin.Runs.value Lin.keeps (v := .bool false) (by simp [execOp, go_sem, hc, h67, h77]) rfl
  · intro vals w2 hb2 hv
    have e78 : vals 78 = .bool false := hv 78 (by kernel_rfl)
    simp only [Lin.putAll, Option.getD_some]
    rw [e78]
    have HB2 := Lib.hid (HB1.out.trans (hb2.mono HB1.out.size))
    clear hv hb2
    go_simp
    generalize vals = vv
    go_wp2_with fail
    clear IX
    have IX := IX0
    refine Lin.wp_region_lin Lin.keeps (n := 111)  (fun slotq => match slotq with | 79 => Lin.Spec.val (.slice A b.length c) | 80 => Lin.Spec.val (.int .u64 (n : Int)) | 81 => Lin.Spec.val (.int .i64 (k : Int)) | 82 => Lin.Spec.sl (b ++ be n (sz8 (k : Int))) (b ++ be n (sz8 (k : Int))).length | 83 => Lin.Spec.val (.string (strOfNums (b ++ be n (sz8 (k : Int))))) | 84 => Lin.Spec.val (.slice A b.length c) | 85 => Lin.Spec.val (.int .u64 (n : Int)) | 86 => Lin.Spec.val (.int .i64 (k : Int)) | 87 => Lin.Spec.sl (be n (sz8 (k : Int))) (be n (sz8 (k : Int))).length | 88 => Lin.Spec.parts [b, (be n (sz8 (k : Int)))] | 89 => Lin.Spec.sl (b ++ be n (sz8 (k : Int))) (b ++ be n (sz8 (k : Int))).length | 90 => Lin.Spec.val (.string (strOfNums (b ++ be n (sz8 (k : Int))))) | 91 => Lin.Spec.val (.bool true) | 92 => Lin.Spec.val (.bool true) | 93 => Lin.Spec.val (.slice A b.length c) | 94 => Lin.Spec.val (.slice X x.length d) | 95 => Lin.Spec.val (.bool ((strOfNums b).toList == (strOfNums x).toList)) | 96 => Lin.Spec.val (.slice A b.length c) | 97 => Lin.Spec.val (.string (strOfNums b)) | 98 => Lin.Spec.val (.slice X x.length d) | 99 => Lin.Spec.val (.string (strOfNums x)) | 100 => Lin.Spec.val (.bool ((strOfNums b).toList == (strOfNums x).toList)) | 101 => Lin.Spec.val (.bool true) | 102 => Lin.Spec.val (.bool true) | 103 => Lin.Spec.val (.bool true) | 104 => Lin.Spec.val (.slice A b.length c) | 105 => Lin.Spec.val (.slice A b.length c) | 106 => Lin.Spec.val (.bool true) | 107 => Lin.Spec.val (.bool true) | 108 => Lin.Spec.val (.bool true) | 109 => Lin.Spec.val (.bool true) | 110 => Lin.Spec.val (.bool true) | 10 => Lin.Spec.val (.bool true) | _ => Lin.Spec.any) (by kernel_rfl) rfl (by kernel_rfl) ⟨?_, ?_, ?_, ?_, ?_, ?_, ?_, ?_, ?_, ?_, ?_, ?_, ?_, ?_, ?_, ?_, ?_, ?_, ?_, ?_, ?_, ?_, ?_, ?_, ?_, ?_, ?_, ?_, ?_, ?_, ?_, ?_, ?_, trivial⟩ ?_
    · intro ρ wq hb ho hc hd
      have h0 : ρ (.tmp 0) = .slice A b.length c := ho 0 (by kernel_rfl)
      exact Lin.Runs.value Lin.keeps (Lin.exec_move rfl) h0
    · intro ρ wq hb ho hc hd
      have h2 : ρ (.tmp 2) = .int .u64 (n : Int) := ho 2 (by kernel_rfl)
      exact Lin.Runs.value Lin.keeps (Lin.exec_move rfl) h2
    · intro ρ wq hb ho hc hd
      have h3 : ρ (.tmp 3) = .int .i64 (k : Int) := ho 3 (by kernel_rfl)
      exact Lin.Runs.value Lin.keeps (Lin.exec_move rfl) h3
    · intro ρ wq hb ho hc hd
      have h79 : ρ (.tmp 79) = .slice A b.length c := hd 79 (by kernel_rfl)
      have h80 : ρ (.tmp 80) = .int .u64 (n : Int) := hd 80 (by kernel_rfl)
      have h81 : ρ (.tmp 81) = .int .i64 (k : Int) := hd 81 (by kernel_rfl)
      refine Lin.Runs.call Lin.keeps (f := 19) (args := #[.slice A b.length c, .int .u64 (n : Int), .int .i64 (k : Int)]) (by simp [execOp, go_sem, hc, h79, h80, h81]) (put_p n (k : Int) (IA.out.st (HB2.out.trans (hb.mono HB2.out.size))) (by omega) hn (by omega) (by omega))
    · intro ρ wq hb ho hc hd
      have h82 := hd 82 (by kernel_rfl)
      exact Lin.Runs.value Lin.keeps (Lin.exec_convert rfl h82.conv) rfl
    · intro ρ wq hb ho hc hd
      have h0 : ρ (.tmp 0) = .slice A b.length c := ho 0 (by kernel_rfl)
      exact Lin.Runs.value Lin.keeps (Lin.exec_move rfl) h0
    · intro ρ wq hb ho hc hd
      have h2 : ρ (.tmp 2) = .int .u64 (n : Int) := ho 2 (by kernel_rfl)
      exact Lin.Runs.value Lin.keeps (Lin.exec_move rfl) h2
    · intro ρ wq hb ho hc hd
      have h3 : ρ (.tmp 3) = .int .i64 (k : Int) := ho 3 (by kernel_rfl)
      exact Lin.Runs.value Lin.keeps (Lin.exec_move rfl) h3
    · intro ρ wq hb ho hc hd
      have h85 : ρ (.tmp 85) = .int .u64 (n : Int) := hd 85 (by kernel_rfl)
      have h86 : ρ (.tmp 86) = .int .i64 (k : Int) := hd 86 (by kernel_rfl)
      refine Lin.Runs.call Lin.keeps (f := 18) (args := #[.int .u64 (n : Int), .int .i64 (k : Int)]) (by simp [execOp, go_sem, hc, h85, h86]) (rbytes_p n (k : Int) wq hn)
    · intro ρ wq hb ho hc hd
      have h84 : ρ (.tmp 84) = .slice A b.length c := hd 84 (by kernel_rfl)
      have h87 := hd 87 (by kernel_rfl)
      generalize hv87 : ρ (.tmp 87) = v87 at *
      obtain ⟨A2, c2, e2, l2, b2, r2⟩ := h87
      subst e2
      refine Lin.Runs.made (v := .slice (some ⟨wq.heap.size, 0, none⟩) 2 2) (w' := wq.alloc (.cells #[.slice A b.length c, .slice A2 (be n (sz8 (k : Int))).length c2] 22)) (by simp [execOp, go_sem, hc, h84, hv87]) ((Below.refl _ _).alloc (Nat.le_refl _) _) ?_
      exact IsP.lit wq [(.slice A b.length c, b), (.slice A2 (be n (sz8 (k : Int))).length c2, (be n (sz8 (k : Int))))] 22 (by
        intro p hp
        rcases List.mem_cons.1 hp with rfl | hp
        · exact ⟨_, IA.out.st (HB2.out.trans (hb.mono HB2.out.size))⟩
        · rcases List.mem_cons.1 hp with rfl | hp
          · exact ⟨_, A2, c2, rfl, l2, b2, r2⟩
          · cases hp)
    · intro ρ wq hb ho hc hd
      have h88 := hd 88 (by kernel_rfl)
      refine Lin.Runs.call Lin.keeps (f := 20) (args := #[ρ (.tmp 88)]) (by simp [execOp, go_sem, hc, List.map]) (join_p h88 (by simp) (by rw [List.length_append, be_len]; have := sz8_le (k : Int); omega) (by simp))
    · intro ρ wq hb ho hc hd
      have h89 := hd 89 (by kernel_rfl)
      exact Lin.Runs.value Lin.keeps (Lin.exec_convert rfl h89.conv) rfl
    · intro ρ wq hb ho hc hd
      have h83 : ρ (.tmp 83) = .string (strOfNums (b ++ be n (sz8 (k : Int)))) := hd 83 (by kernel_rfl)
      have h90 : ρ (.tmp 90) = .string (strOfNums (b ++ be n (sz8 (k : Int)))) := hd 90 (by kernel_rfl)
      exact Lin.Runs.value Lin.keeps (v := .bool true) (by simp [execOp, go_sem, hc, h83, h90]) rfl
    · intro ρ wq hb ho hc hd
      have h91 : ρ (.tmp 91) = .bool true := hd 91 (by kernel_rfl)
      exact Lin.Runs.value Lin.keeps (Lin.exec_move rfl) h91
    · intro ρ wq hb ho hc hd
      intro t ht; cases (show some 92 = some t from ht)
      refine ⟨fun _ => ?_, fun hn => absurd (hd 92 (by kernel_rfl)) hn⟩
      have h0 : ρ (.tmp 0) = .slice A b.length c := ho 0 (by kernel_rfl)
      exact Lin.Runs.value Lin.keeps (Lin.exec_move rfl) h0
    · intro ρ wq hb ho hc hd
      intro t ht; cases (show some 92 = some t from ht)
      refine ⟨fun _ => ?_, fun hn => absurd (hd 92 (by kernel_rfl)) hn⟩
      have h4 : ρ (.tmp 4) = .slice X x.length d := ho 4 (by kernel_rfl)
      exact Lin.Runs.value Lin.keeps (Lin.exec_move rfl) h4
    · intro ρ wq hb ho hc hd
      intro t ht; cases (show some 92 = some t from ht)
      refine ⟨fun _ => ?_, fun hn => absurd (hd 92 (by kernel_rfl)) hn⟩
      have h93 : ρ (.tmp 93) = .slice A b.length c := hd 93 (by kernel_rfl)
      have h94 : ρ (.tmp 94) = .slice X x.length d := hd 94 (by kernel_rfl)
      refine Lin.Runs.call Lin.keeps (f := 21) (args := #[.slice A b.length c, .slice X x.length d]) (by simp [execOp, go_sem, hc, h93, h94]) (equal_p (IA.out.st (HB2.out.trans (hb.mono HB2.out.size))) (IX.out.st (HB2.out.trans (hb.mono HB2.out.size))))
    · intro ρ wq hb ho hc hd
      intro t ht; cases (show some 92 = some t from ht)
      refine ⟨fun _ => ?_, fun hn => absurd (hd 92 (by kernel_rfl)) hn⟩
      have h0 : ρ (.tmp 0) = .slice A b.length c := ho 0 (by kernel_rfl)
      exact Lin.Runs.value Lin.keeps (Lin.exec_move rfl) h0
    · intro ρ wq hb ho hc hd
      intro t ht; cases (show some 92 = some t from ht)
      refine ⟨fun _ => ?_, fun hn => absurd (hd 92 (by kernel_rfl)) hn⟩
      have h96 : ρ (.tmp 96) = .slice A b.length c := hd 96 (by kernel_rfl)
      exact Lin.Runs.value Lin.keeps (Lin.exec_convert rfl (by rw [h96]; exact (IA.out.st (HB2.out.trans (hb.mono HB2.out.size))).conv)) rfl
    · intro ρ wq hb ho hc hd
      intro t ht; cases (show some 92 = some t from ht)
      refine ⟨fun _ => ?_, fun hn => absurd (hd 92 (by kernel_rfl)) hn⟩
      have h4 : ρ (.tmp 4) = .slice X x.length d := ho 4 (by kernel_rfl)
      exact Lin.Runs.value Lin.keeps (Lin.exec_move rfl) h4
    · intro ρ wq hb ho hc hd
      intro t ht; cases (show some 92 = some t from ht)
      refine ⟨fun _ => ?_, fun hn => absurd (hd 92 (by kernel_rfl)) hn⟩
      have h98 : ρ (.tmp 98) = .slice X x.length d := hd 98 (by kernel_rfl)
      exact Lin.Runs.value Lin.keeps (Lin.exec_convert rfl (by rw [h98]; exact (IX.out.st (HB2.out.trans (hb.mono HB2.out.size))).conv)) rfl
    · intro ρ wq hb ho hc hd
      intro t ht; cases (show some 92 = some t from ht)
      refine ⟨fun _ => ?_, fun hn => absurd (hd 92 (by kernel_rfl)) hn⟩
      have h97 : ρ (.tmp 97) = .string (strOfNums b) := hd 97 (by kernel_rfl)
      have h99 : ρ (.tmp 99) = .string (strOfNums x) := hd 99 (by kernel_rfl)
      exact Lin.Runs.value Lin.keeps (v := .bool ((strOfNums b).toList == (strOfNums x).toList)) (by simp [execOp, go_sem, hc, h97, h99]) rfl
    · intro ρ wq hb ho hc hd
      intro t ht; cases (show some 92 = some t from ht)
      refine ⟨fun _ => ?_, fun hn => absurd (hd 92 (by kernel_rfl)) hn⟩
      have h95 : ρ (.tmp 95) = .bool ((strOfNums b).toList == (strOfNums x).toList) := hd 95 (by kernel_rfl)
      have h100 : ρ (.tmp 100) = .bool ((strOfNums b).toList == (strOfNums x).toList) := hd 100 (by kernel_rfl)
      exact Lin.Runs.value Lin.keeps (v := .bool true) (by simp [execOp, go_sem, hc, h95, h100]) rfl
    · intro ρ wq hb ho hc hd
      have h92 : ρ (.tmp 92) = .bool true := hd 92 (by kernel_rfl)
      have h101 : ρ (.tmp 101) = .bool true := hd 101 (by kernel_rfl)
      exact Lin.Runs.value Lin.keeps (v := .bool true) (by simp [execOp, go_sem, hc, h92, h101]) rfl
    · intro ρ wq hb ho hc hd
      have h102 : ρ (.tmp 102) = .bool true := hd 102 (by kernel_rfl)
      exact Lin.Runs.value Lin.keeps (Lin.exec_move rfl) h102
    · intro ρ wq hb ho hc hd
      intro t ht; cases (show some 103 = some t from ht)
      refine ⟨fun _ => ?_, fun hn => absurd (hd 103 (by kernel_rfl)) hn⟩
      have h0 : ρ (.tmp 0) = .slice A b.length c := ho 0 (by kernel_rfl)
      exact Lin.Runs.value Lin.keeps (Lin.exec_move rfl) h0
    · intro ρ wq hb ho hc hd
      intro t ht; cases (show some 103 = some t from ht)
      refine ⟨fun _ => ?_, fun hn => absurd (hd 103 (by kernel_rfl)) hn⟩
      have h0 : ρ (.tmp 0) = .slice A b.length c := ho 0 (by kernel_rfl)
      exact Lin.Runs.value Lin.keeps (Lin.exec_move rfl) h0
    · intro ρ wq hb ho hc hd
      intro t ht; cases (show some 103 = some t from ht)
      refine ⟨fun _ => ?_, fun hn => absurd (hd 103 (by kernel_rfl)) hn⟩
      have h104 : ρ (.tmp 104) = .slice A b.length c := hd 104 (by kernel_rfl)
      have h105 : ρ (.tmp 105) = .slice A b.length c := hd 105 (by kernel_rfl)
      refine Lin.Runs.call Lin.keeps (f := 21) (args := #[.slice A b.length c, .slice A b.length c]) (by simp [execOp, go_sem, hc, h104, h105]) ((equal_p (IA.out.st (HB2.out.trans (hb.mono HB2.out.size))) (IA.out.st (HB2.out.trans (hb.mono HB2.out.size)))).mono ?_)
      rintro e w3 ⟨r, rfl, h1, rfl⟩
      exact ⟨_, rfl, h1, by rw [str_self]; rfl⟩
    · intro ρ wq hb ho hc hd
      have h103 : ρ (.tmp 103) = .bool true := hd 103 (by kernel_rfl)
      have h106 : ρ (.tmp 106) = .bool true := hd 106 (by kernel_rfl)
      exact Lin.Runs.value Lin.keeps (v := .bool true) (by simp [execOp, go_sem, hc, h103, h106]) rfl
    · intro ρ wq hb ho hc hd
      have h107 : ρ (.tmp 107) = .bool true := hd 107 (by kernel_rfl)
      exact Lin.Runs.value Lin.keeps (Lin.exec_move rfl) h107
    · intro ρ wq hb ho hc hd
      intro t ht; cases (show some 108 = some t from ht)
      refine ⟨fun _ => ?_, fun hn => absurd (hd 108 (by kernel_rfl)) hn⟩
      refine Lin.Runs.call Lin.keeps (f := 15) (args := #[]) (by simp [execOp, go_sem, hc, List.map]) (awake01_p wq)
    · intro ρ wq hb ho hc hd
      have h108 : ρ (.tmp 108) = .bool true := hd 108 (by kernel_rfl)
      have h109 : ρ (.tmp 109) = .bool true := hd 109 (by kernel_rfl)
      exact Lin.Runs.value Lin.keeps (v := .bool true) (by simp [execOp, go_sem, hc, h108, h109]) rfl
    · intro ρ wq hb ho hc hd
      have h110 : ρ (.tmp 110) = .bool true := hd 110 (by kernel_rfl)
      exact Lin.Runs.value Lin.keeps (Lin.exec_assign rfl) h110
    · intro vals w3 hb3 hv
      have e10 : vals 10 = .bool true := hv 10 (by kernel_rfl)
      simp only [Lin.putAll, Option.getD_some]
      rw [e10]
      have HB3 := Lib.hid (HB2.out.trans (hb3.mono HB2.out.size))
      clear hv hb3
      go_simp
      generalize vals = vv
      go_wp2_with fail
      go_ret
      exact ⟨rfl, HB3.out⟩
set_option maxRecDepth 100000 in
set_option maxHeartbeats 4000000 in
theorem walk_a (A X : Option Addr) (c d : Nat) (b x : List Int) (i : Int) (n : Nat) (s : Int) (w : World) (ha : IsB b b.length (.slice A b.length c) w) (hx : IsB x x.length (.slice X x.length d) w) (hm : b.length ≤ 1000) (hxm : x.length ≤ 1000) (hn : n < 18446744073709551616) (s0 : -9223372036854775808 ≤ s) (s1 : s ≤ 9223372036854775807) (i0 : -9223372036854775808 ≤ i) (i1 : i ≤ 9223372036854775807) (q1 : s < 1) :
    Calls Try.prog 3 #[.slice A b.length c, .int .i64 i, .int .u64 (n : Int), .int .i64 s, .slice X x.length d] w fun e w' => e = .returned (.bool true) ∧ Below w.heap.size w w' := by
  have IA := hide ha; have IX := hide hx
  have p1 : ¬ (1000 < b.length) := by omega
  have p2 : ¬ (1000 < x.length) := by omega
  clear ha hx
  go_enter Try.func3, Try.ntmps3
  go_wp2_with fail
  refine (set_bad A c b i n s w (by omega) (by omega)).mono ?_
  rintro e w1 ⟨rfl, rfl⟩
  go_wp2_with fail
  refine Lin.wp_region_lin Lin.keeps (n := 111)  (fun slotq => match slotq with | 66 => Lin.Spec.val (.bool false) | 67 => Lin.Spec.val (.bool false) | 68 => Lin.Spec.val (undef) | 69 => Lin.Spec.val (undef) | 70 => Lin.Spec.val (undef) | 71 => Lin.Spec.val (undef) | 72 => Lin.Spec.val (undef) | 73 => Lin.Spec.val (undef) | 74 => Lin.Spec.val (undef) | 75 => Lin.Spec.val (undef) | 76 => Lin.Spec.val (undef) | 77 => Lin.Spec.val (undef) | 78 => Lin.Spec.val (.bool false) | _ => Lin.Spec.any) (by kernel_rfl) rfl (by kernel_rfl) ⟨?_, ?_, ?_, ?_, ?_, ?_, ?_, ?_, ?_, ?_, ?_, ?_, ?_, trivial⟩ ?_
  · intro ρ wq hb ho hc hd
    have h13 : ρ (.tmp 13) = .bool false := ho 13 (by kernel_rfl)
    exact Lin.Runs.value Lin.keeps (Lin.exec_move rfl) h13
  · intro ρ wq hb ho hc hd
    have h66 : ρ (.tmp 66) = .bool false := hd 66 (by kernel_rfl)
    exact Lin.Runs.value Lin.keeps (Lin.exec_move rfl) h66
  · intro ρ wq hb ho hc hd
    intro t ht; cases (show some 67 = some t from ht)
    exact ⟨fun he => absurd (he.symm.trans (hd 67 (by kernel_rfl))) (by simp), fun _ => rfl⟩
  · intro ρ wq hb ho hc hd
    intro t ht; cases (show some 67 = some t from ht)
    exact ⟨fun he => absurd (he.symm.trans (hd 67 (by kernel_rfl))) (by simp), fun _ => rfl⟩
  · intro ρ wq hb ho hc hd
    intro t ht; cases (show some 67 = some t from ht)
    exact ⟨fun he => absurd (he.symm.trans (hd 67 (by kernel_rfl))) (by simp), fun _ => rfl⟩
  · intro ρ wq hb ho hc hd
    intro t ht; cases (show some 67 = some t from ht)
    exact ⟨fun he => absurd (he.symm.trans (hd 67 (by kernel_rfl))) (by simp), fun _ => rfl⟩
  · intro ρ wq hb ho hc hd
    intro t ht; cases (show some 67 = some t from ht)
    exact ⟨fun he => absurd (he.symm.trans (hd 67 (by kernel_rfl))) (by simp), fun _ => rfl⟩
  · intro ρ wq hb ho hc hd
    intro t ht; cases (show some 67 = some t from ht)
    exact ⟨fun he => absurd (he.symm.trans (hd 67 (by kernel_rfl))) (by simp), fun _ => rfl⟩
  · intro ρ wq hb ho hc hd
    intro t ht; cases (show some 67 = some t from ht)
    exact ⟨fun he => absurd (he.symm.trans (hd 67 (by kernel_rfl))) (by simp), fun _ => rfl⟩
  · intro ρ wq hb ho hc hd
    intro t ht; cases (show some 67 = some t from ht)
    exact ⟨fun he => absurd (he.symm.trans (hd 67 (by kernel_rfl))) (by simp), fun _ => rfl⟩
  · intro ρ wq hb ho hc hd
    intro t ht; cases (show some 67 = some t from ht)
    exact ⟨fun he => absurd (he.symm.trans (hd 67 (by kernel_rfl))) (by simp), fun _ => rfl⟩
  · intro ρ wq hb ho hc hd
    intro t ht; cases (show some 67 = some t from ht)
    exact ⟨fun he => absurd (he.symm.trans (hd 67 (by kernel_rfl))) (by simp), fun _ => rfl⟩
  · intro ρ wq hb ho hc hd
    have h67 : ρ (.tmp 67) = .bool false := hd 67 (by kernel_rfl)
    have h77 : ρ (.tmp 77) = undef := hd 77 (by kernel_rfl)
    exact Lin.Runs.value Lin.keeps (v := .bool false) (by simp [execOp, go_sem, hc, h67, h77]) rfl
  · intro vals w2 hb2 hv
    have e78 : vals 78 = .bool false := hv 78 (by kernel_rfl)
    simp only [Lin.putAll, Option.getD_some]
    rw [e78]
    have HB2 := Lib.hid hb2
    clear hv hb2
    go_simp
    generalize vals = vv
    go_wp2_with fail
    refine Lin.wp_region_lin Lin.keeps (n := 111)  (fun slotq => match slotq with | 79 => Lin.Spec.val (.slice A b.length c) | 80 => Lin.Spec.val (.int .u64 (n : Int)) | 81 => Lin.Spec.val (.int .i64 s) | 82 => Lin.Spec.sl (b ++ be n (sz8 s)) (b ++ be n (sz8 s)).length | 83 => Lin.Spec.val (.string (strOfNums (b ++ be n (sz8 s)))) | 84 => Lin.Spec.val (.slice A b.length c) | 85 => Lin.Spec.val (.int .u64 (n : Int)) | 86 => Lin.Spec.val (.int .i64 s) | 87 => Lin.Spec.sl (be n (sz8 s)) (be n (sz8 s)).length | 88 => Lin.Spec.parts [b, (be n (sz8 s))] | 89 => Lin.Spec.sl (b ++ be n (sz8 s)) (b ++ be n (sz8 s)).length | 90 => Lin.Spec.val (.string (strOfNums (b ++ be n (sz8 s)))) | 91 => Lin.Spec.val (.bool true) | 92 => Lin.Spec.val (.bool true) | 93 => Lin.Spec.val (.slice A b.length c) | 94 => Lin.Spec.val (.slice X x.length d) | 95 => Lin.Spec.val (.bool ((strOfNums b).toList == (strOfNums x).toList)) | 96 => Lin.Spec.val (.slice A b.length c) | 97 => Lin.Spec.val (.string (strOfNums b)) | 98 => Lin.Spec.val (.slice X x.length d) | 99 => Lin.Spec.val (.string (strOfNums x)) | 100 => Lin.Spec.val (.bool ((strOfNums b).toList == (strOfNums x).toList)) | 101 => Lin.Spec.val (.bool true) | 102 => Lin.Spec.val (.bool true) | 103 => Lin.Spec.val (.bool true) | 104 => Lin.Spec.val (.slice A b.length c) | 105 => Lin.Spec.val (.slice A b.length c) | 106 => Lin.Spec.val (.bool true) | 107 => Lin.Spec.val (.bool true) | 108 => Lin.Spec.val (.bool true) | 109 => Lin.Spec.val (.bool true) | 110 => Lin.Spec.val (.bool true) | 10 => Lin.Spec.val (.bool true) | _ => Lin.Spec.any) (by kernel_rfl) rfl (by kernel_rfl) ⟨?_, ?_, ?_, ?_, ?_, ?_, ?_, ?_, ?_, ?_, ?_, ?_, ?_, ?_, ?_, ?_, ?_, ?_, ?_, ?_, ?_, ?_, ?_, ?_, ?_, ?_, ?_, ?_, ?_, ?_, ?_, ?_, ?_, trivial⟩ ?_
    · intro ρ wq hb ho hc hd
      have h0 : ρ (.tmp 0) = .slice A b.length c := ho 0 (by kernel_rfl)
      exact Lin.Runs.value Lin.keeps (Lin.exec_move rfl) h0
    · intro ρ wq hb ho hc hd
      have h2 : ρ (.tmp 2) = .int .u64 (n : Int) := ho 2 (by kernel_rfl)
      exact Lin.Runs.value Lin.keeps (Lin.exec_move rfl) h2
    · intro ρ wq hb ho hc hd
      have h3 : ρ (.tmp 3) = .int .i64 s := ho 3 (by kernel_rfl)
      exact Lin.Runs.value Lin.keeps (Lin.exec_move rfl) h3
    · intro ρ wq hb ho hc hd
      have h79 : ρ (.tmp 79) = .slice A b.length c := hd 79 (by kernel_rfl)
      have h80 : ρ (.tmp 80) = .int .u64 (n : Int) := hd 80 (by kernel_rfl)
      have h81 : ρ (.tmp 81) = .int .i64 s := hd 81 (by kernel_rfl)
      refine Lin.Runs.call Lin.keeps (f := 19) (args := #[.slice A b.length c, .int .u64 (n : Int), .int .i64 s]) (by simp [execOp, go_sem, hc, h79, h80, h81]) (put_p n s (IA.out.st (HB2.out.trans (hb.mono HB2.out.size))) (by omega) hn (by omega) (by omega))
    · intro ρ wq hb ho hc hd
      have h82 := hd 82 (by kernel_rfl)
      exact Lin.Runs.value Lin.keeps (Lin.exec_convert rfl h82.conv) rfl
    · intro ρ wq hb ho hc hd
      have h0 : ρ (.tmp 0) = .slice A b.length c := ho 0 (by kernel_rfl)
      exact Lin.Runs.value Lin.keeps (Lin.exec_move rfl) h0
    · intro ρ wq hb ho hc hd
      have h2 : ρ (.tmp 2) = .int .u64 (n : Int) := ho 2 (by kernel_rfl)
      exact Lin.Runs.value Lin.keeps (Lin.exec_move rfl) h2
    · intro ρ wq hb ho hc hd
      have h3 : ρ (.tmp 3) = .int .i64 s := ho 3 (by kernel_rfl)
      exact Lin.Runs.value Lin.keeps (Lin.exec_move rfl) h3
    · intro ρ wq hb ho hc hd
      have h85 : ρ (.tmp 85) = .int .u64 (n : Int) := hd 85 (by kernel_rfl)
      have h86 : ρ (.tmp 86) = .int .i64 s := hd 86 (by kernel_rfl)
      refine Lin.Runs.call Lin.keeps (f := 18) (args := #[.int .u64 (n : Int), .int .i64 s]) (by simp [execOp, go_sem, hc, h85, h86]) (rbytes_p n s wq hn)
    · intro ρ wq hb ho hc hd
      have h84 : ρ (.tmp 84) = .slice A b.length c := hd 84 (by kernel_rfl)
      have h87 := hd 87 (by kernel_rfl)
      generalize hv87 : ρ (.tmp 87) = v87 at *
      obtain ⟨A2, c2, e2, l2, b2, r2⟩ := h87
      subst e2
      refine Lin.Runs.made (v := .slice (some ⟨wq.heap.size, 0, none⟩) 2 2) (w' := wq.alloc (.cells #[.slice A b.length c, .slice A2 (be n (sz8 s)).length c2] 22)) (by simp [execOp, go_sem, hc, h84, hv87]) ((Below.refl _ _).alloc (Nat.le_refl _) _) ?_
      exact IsP.lit wq [(.slice A b.length c, b), (.slice A2 (be n (sz8 s)).length c2, (be n (sz8 s)))] 22 (by
        intro p hp
        rcases List.mem_cons.1 hp with rfl | hp
        · exact ⟨_, IA.out.st (HB2.out.trans (hb.mono HB2.out.size))⟩
        · rcases List.mem_cons.1 hp with rfl | hp
          · exact ⟨_, A2, c2, rfl, l2, b2, r2⟩
          · cases hp)
    · intro ρ wq hb ho hc hd
      have h88 := hd 88 (by kernel_rfl)
      refine Lin.Runs.call Lin.keeps (f := 20) (args := #[ρ (.tmp 88)]) (by simp [execOp, go_sem, hc, List.map]) (join_p h88 (by simp) (by rw [List.length_append, be_len]; have := sz8_le s; omega) (by simp))
    · intro ρ wq hb ho hc hd
      have h89 := hd 89 (by kernel_rfl)
      exact Lin.Runs.value Lin.keeps (Lin.exec_convert rfl h89.conv) rfl
    · intro ρ wq hb ho hc hd
      have h83 : ρ (.tmp 83) = .string (strOfNums (b ++ be n (sz8 s))) := hd 83 (by kernel_rfl)
      have h90 : ρ (.tmp 90) = .string (strOfNums (b ++ be n (sz8 s))) := hd 90 (by kernel_rfl)
      exact Lin.Runs.value Lin.keeps (v := .bool true) (by simp [execOp, go_sem, hc, h83, h90]) rfl
    · intro ρ wq hb ho hc hd
      have h91 : ρ (.tmp 91) = .bool true := hd 91 (by kernel_rfl)
      exact Lin.Runs.value Lin.keeps (Lin.exec_move rfl) h91
    · intro ρ wq hb ho hc hd
      intro t ht; cases (show some 92 = some t from ht)
      refine ⟨fun _ => ?_, fun hn => absurd (hd 92 (by kernel_rfl)) hn⟩
      have h0 : ρ (.tmp 0) = .slice A b.length c := ho 0 (by kernel_rfl)
      exact Lin.Runs.value Lin.keeps (Lin.exec_move rfl) h0
    · intro ρ wq hb ho hc hd
      intro t ht; cases (show some 92 = some t from ht)
      refine ⟨fun _ => ?_, fun hn => absurd (hd 92 (by kernel_rfl)) hn⟩
      have h4 : ρ (.tmp 4) = .slice X x.length d := ho 4 (by kernel_rfl)
      exact Lin.Runs.value Lin.keeps (Lin.exec_move rfl) h4
    · intro ρ wq hb ho hc hd
      intro t ht; cases (show some 92 = some t from ht)
      refine ⟨fun _ => ?_, fun hn => absurd (hd 92 (by kernel_rfl)) hn⟩
      have h93 : ρ (.tmp 93) = .slice A b.length c := hd 93 (by kernel_rfl)
      have h94 : ρ (.tmp 94) = .slice X x.length d := hd 94 (by kernel_rfl)
      refine Lin.Runs.call Lin.keeps (f := 21) (args := #[.slice A b.length c, .slice X x.length d]) (by simp [execOp, go_sem, hc, h93, h94]) (equal_p (IA.out.st (HB2.out.trans (hb.mono HB2.out.size))) (IX.out.st (HB2.out.trans (hb.mono HB2.out.size))))
    · intro ρ wq hb ho hc hd
      intro t ht; cases (show some 92 = some t from ht)
      refine ⟨fun _ => ?_, fun hn => absurd (hd 92 (by kernel_rfl)) hn⟩
      have h0 : ρ (.tmp 0) = .slice A b.length c := ho 0 (by kernel_rfl)
      exact Lin.Runs.value Lin.keeps (Lin.exec_move rfl) h0
    · intro ρ wq hb ho hc hd
      intro t ht; cases (show some 92 = some t from ht)
      refine ⟨fun _ => ?_, fun hn => absurd (hd 92 (by kernel_rfl)) hn⟩
      have h96 : ρ (.tmp 96) = .slice A b.length c := hd 96 (by kernel_rfl)
      exact Lin.Runs.value Lin.keeps (Lin.exec_convert rfl (by rw [h96]; exact (IA.out.st (HB2.out.trans (hb.mono HB2.out.size))).conv)) rfl
    · intro ρ wq hb ho hc hd
      intro t ht; cases (show some 92 = some t from ht)
      refine ⟨fun _ => ?_, fun hn => absurd (hd 92 (by kernel_rfl)) hn⟩
      have h4 : ρ (.tmp 4) = .slice X x.length d := ho 4 (by kernel_rfl)
      exact Lin.Runs.value Lin.keeps (Lin.exec_move rfl) h4
    · intro ρ wq hb ho hc hd
      intro t ht; cases (show some 92 = some t from ht)
      refine ⟨fun _ => ?_, fun hn => absurd (hd 92 (by kernel_rfl)) hn⟩
      have h98 : ρ (.tmp 98) = .slice X x.length d := hd 98 (by kernel_rfl)
      exact Lin.Runs.value Lin.keeps (Lin.exec_convert rfl (by rw [h98]; exact (IX.out.st (HB2.out.trans (hb.mono HB2.out.size))).conv)) rfl
    · intro ρ wq hb ho hc hd
      intro t ht; cases (show some 92 = some t from ht)
      refine ⟨fun _ => ?_, fun hn => absurd (hd 92 (by kernel_rfl)) hn⟩
      have h97 : ρ (.tmp 97) = .string (strOfNums b) := hd 97 (by kernel_rfl)
      have h99 : ρ (.tmp 99) = .string (strOfNums x) := hd 99 (by kernel_rfl)
      exact Lin.Runs.value Lin.keeps (v := .bool ((strOfNums b).toList == (strOfNums x).toList)) (by simp [execOp, go_sem, hc, h97, h99]) rfl
    · intro ρ wq hb ho hc hd
      intro t ht; cases (show some 92 = some t from ht)
      refine ⟨fun _ => ?_, fun hn => absurd (hd 92 (by kernel_rfl)) hn⟩
      have h95 : ρ (.tmp 95) = .bool ((strOfNums b).toList == (strOfNums x).toList) := hd 95 (by kernel_rfl)
      have h100 : ρ (.tmp 100) = .bool ((strOfNums b).toList == (strOfNums x).toList) := hd 100 (by kernel_rfl)
      exact Lin.Runs.value Lin.keeps (v := .bool true) (by simp [execOp, go_sem, hc, h95, h100]) rfl
    · intro ρ wq hb ho hc hd
      have h92 : ρ (.tmp 92) = .bool true := hd 92 (by kernel_rfl)
      have h101 : ρ (.tmp 101) = .bool true := hd 101 (by kernel_rfl)
      exact Lin.Runs.value Lin.keeps (v := .bool true) (by simp [execOp, go_sem, hc, h92, h101]) rfl
    · intro ρ wq hb ho hc hd
      have h102 : ρ (.tmp 102) = .bool true := hd 102 (by kernel_rfl)
      exact Lin.Runs.value Lin.keeps (Lin.exec_move rfl) h102
    · intro ρ wq hb ho hc hd
      intro t ht; cases (show some 103 = some t from ht)
      refine ⟨fun _ => ?_, fun hn => absurd (hd 103 (by kernel_rfl)) hn⟩
      have h0 : ρ (.tmp 0) = .slice A b.length c := ho 0 (by kernel_rfl)
      exact Lin.Runs.value Lin.keeps (Lin.exec_move rfl) h0
    · intro ρ wq hb ho hc hd
      intro t ht; cases (show some 103 = some t from ht)
      refine ⟨fun _ => ?_, fun hn => absurd (hd 103 (by kernel_rfl)) hn⟩
      have h0 : ρ (.tmp 0) = .slice A b.length c := ho 0 (by kernel_rfl)
      exact Lin.Runs.value Lin.keeps (Lin.exec_move rfl) h0
    · intro ρ wq hb ho hc hd
      intro t ht; cases (show some 103 = some t from ht)
      refine ⟨fun _ => ?_, fun hn => absurd (hd 103 (by kernel_rfl)) hn⟩
      have h104 : ρ (.tmp 104) = .slice A b.length c := hd 104 (by kernel_rfl)
      have h105 : ρ (.tmp 105) = .slice A b.length c := hd 105 (by kernel_rfl)
      refine Lin.Runs.call Lin.keeps (f := 21) (args := #[.slice A b.length c, .slice A b.length c]) (by simp [execOp, go_sem, hc, h104, h105]) ((equal_p (IA.out.st (HB2.out.trans (hb.mono HB2.out.size))) (IA.out.st (HB2.out.trans (hb.mono HB2.out.size)))).mono ?_)
      rintro e w3 ⟨r, rfl, h1, rfl⟩
      exact ⟨_, rfl, h1, by rw [str_self]; rfl⟩
    · intro ρ wq hb ho hc hd
      have h103 : ρ (.tmp 103) = .bool true := hd 103 (by kernel_rfl)
      have h106 : ρ (.tmp 106) = .bool true := hd 106 (by kernel_rfl)
      exact Lin.Runs.value Lin.keeps (v := .bool true) (by simp [execOp, go_sem, hc, h103, h106]) rfl
    · intro ρ wq hb ho hc hd
      have h107 : ρ (.tmp 107) = .bool true := hd 107 (by kernel_rfl)
      exact Lin.Runs.value Lin.keeps (Lin.exec_move rfl) h107
    · intro ρ wq hb ho hc hd
      intro t ht; cases (show some 108 = some t from ht)
      refine ⟨fun _ => ?_, fun hn => absurd (hd 108 (by kernel_rfl)) hn⟩
      refine Lin.Runs.call Lin.keeps (f := 15) (args := #[]) (by simp [execOp, go_sem, hc, List.map]) (awake01_p wq)
    · intro ρ wq hb ho hc hd
      have h108 : ρ (.tmp 108) = .bool true := hd 108 (by kernel_rfl)
      have h109 : ρ (.tmp 109) = .bool true := hd 109 (by kernel_rfl)
      exact Lin.Runs.value Lin.keeps (v := .bool true) (by simp [execOp, go_sem, hc, h108, h109]) rfl
    · intro ρ wq hb ho hc hd
      have h110 : ρ (.tmp 110) = .bool true := hd 110 (by kernel_rfl)
      exact Lin.Runs.value Lin.keeps (Lin.exec_assign rfl) h110
    · intro vals w3 hb3 hv
      have e10 : vals 10 = .bool true := hv 10 (by kernel_rfl)
      simp only [Lin.putAll, Option.getD_some]
      rw [e10]
      have HB3 := Lib.hid (HB2.out.trans (hb3.mono HB2.out.size))
      clear hv hb3
      go_simp
      generalize vals = vv
      go_wp2_with fail
      go_ret
      exact ⟨rfl, HB3.out⟩
set_option maxRecDepth 100000 in
set_option maxHeartbeats 4000000 in
theorem walk_b (A X : Option Addr) (c d : Nat) (b x : List Int) (i : Int) (n : Nat) (s : Int) (w : World) (ha : IsB b b.length (.slice A b.length c) w) (hx : IsB x x.length (.slice X x.length d) w) (hm : b.length ≤ 1000) (hxm : x.length ≤ 1000) (hn : n < 18446744073709551616) (s0 : -9223372036854775808 ≤ s) (s1 : s ≤ 9223372036854775807) (i0 : -9223372036854775808 ≤ i) (i1 : i ≤ 9223372036854775807) (q1 : 1 ≤ s) (q2 : 8 < s) :
    Calls Try.prog 3 #[.slice A b.length c, .int .i64 i, .int .u64 (n : Int), .int .i64 s, .slice X x.length d] w fun e w' => e = .returned (.bool true) ∧ Below w.heap.size w w' := by
  have IA := hide ha; have IX := hide hx
  have p1 : ¬ (1000 < b.length) := by omega
  have p2 : ¬ (1000 < x.length) := by omega
  clear ha hx
  go_enter Try.func3, Try.ntmps3
  go_wp2_with fail
  refine (set_bad A c b i n s w (by omega) (by omega)).mono ?_
  rintro e w1 ⟨rfl, rfl⟩
  go_wp2_with fail
  refine Lin.wp_region_lin Lin.keeps (n := 111)  (fun slotq => match slotq with | 66 => Lin.Spec.val (.bool false) | 67 => Lin.Spec.val (.bool false) | 68 => Lin.Spec.val (undef) | 69 => Lin.Spec.val (undef) | 70 => Lin.Spec.val (undef) | 71 => Lin.Spec.val (undef) | 72 => Lin.Spec.val (undef) | 73 => Lin.Spec.val (undef) | 74 => Lin.Spec.val (undef) | 75 => Lin.Spec.val (undef) | 76 => Lin.Spec.val (undef) | 77 => Lin.Spec.val (undef) | 78 => Lin.Spec.val (.bool false) | _ => Lin.Spec.any) (by kernel_rfl) rfl (by kernel_rfl) ⟨?_, ?_, ?_, ?_, ?_, ?_, ?_, ?_, ?_, ?_, ?_, ?_, ?_, trivial⟩ ?_
  · intro ρ wq hb ho hc hd
    have h13 : ρ (.tmp 13) = .bool false := ho 13 (by kernel_rfl)
    exact Lin.Runs.value Lin.keeps (Lin.exec_move rfl) h13
  · intro ρ wq hb ho hc hd
    have h66 : ρ (.tmp 66) = .bool false := hd 66 (by kernel_rfl)
    exact Lin.Runs.value Lin.keeps (Lin.exec_move rfl) h66
  · intro ρ wq hb ho hc hd
    intro t ht; cases (show some 67 = some t from ht)
    exact ⟨fun he => absurd (he.symm.trans (hd 67 (by kernel_rfl))) (by simp), fun _ => rfl⟩
  · intro ρ wq hb ho hc hd
    intro t ht; cases (show some 67 = some t from ht)
    exact ⟨fun he => absurd (he.symm.trans (hd 67 (by kernel_rfl))) (by simp), fun _ => rfl⟩
  · intro ρ wq hb ho hc hd
    intro t ht; cases (show some 67 = some t from ht)
    exact ⟨fun he => absurd (he.symm.trans (hd 67 (by kernel_rfl))) (by simp), fun _ => rfl⟩
  · intro ρ wq hb ho hc hd
    intro t ht; cases (show some 67 = some t from ht)
    exact ⟨fun he => absurd (he.symm.trans (hd 67 (by kernel_rfl))) (by simp), fun _ => rfl⟩
  · intro ρ wq hb ho hc hd
    intro t ht; cases (show some 67 = some t from ht)
    exact ⟨fun he => absurd (he.symm.trans (hd 67 (by kernel_rfl))) (by simp), fun _ => rfl⟩
  · intro ρ wq hb ho hc hd
    intro t ht; cases (show some 67 = some t from ht)
    exact ⟨fun he => absurd (he.symm.trans (hd 67 (by kernel_rfl))) (by simp), fun _ => rfl⟩
  · intro ρ wq hb ho hc hd
    intro t ht; cases (show some 67 = some t from ht)
    exact ⟨fun he => absurd (he.symm.trans (hd 67 (by kernel_rfl))) (by simp), fun _ => rfl⟩
  · intro ρ wq hb ho hc hd
    intro t ht; cases (show some 67 = some t from ht)
    exact ⟨fun he => absurd (he.symm.trans (hd 67 (by kernel_rfl))) (by simp), fun _ => rfl⟩
  · intro ρ wq hb ho hc hd
    intro t ht; cases (show some 67 = some t from ht)
    exact ⟨fun he => absurd (he.symm.trans (hd 67 (by kernel_rfl))) (by simp), fun _ => rfl⟩
  · intro ρ wq hb ho hc hd
    intro t ht; cases (show some 67 = some t from ht)
    exact ⟨fun he => absurd (he.symm.trans (hd 67 (by kernel_rfl))) (by simp), fun _ => rfl⟩
  · intro ρ wq hb ho hc hd
    have h67 : ρ (.tmp 67) = .bool false := hd 67 (by kernel_rfl)
    have h77 : ρ (.tmp 77) = undef := hd 77 (by kernel_rfl)
    exact Lin.Runs.value Lin.keeps (v := .bool false) (by simp [execOp, go_sem, hc, h67, h77]) rfl
  · intro vals w2 hb2 hv
    have e78 : vals 78 = .bool false := hv 78 (by kernel_rfl)
    simp only [Lin.putAll, Option.getD_some]
    rw [e78]
    have HB2 := Lib.hid hb2
    clear hv hb2
    go_simp
    generalize vals = vv
    go_wp2_with fail
    refine Lin.wp_region_lin Lin.keeps (n := 111)  (fun slotq => match slotq with | 79 => Lin.Spec.val (.slice A b.length c) | 80 => Lin.Spec.val (.int .u64 (n : Int)) | 81 => Lin.Spec.val (.int .i64 s) | 82 => Lin.Spec.sl (b ++ be n (sz8 s)) (b ++ be n (sz8 s)).length | 83 => Lin.Spec.val (.string (strOfNums (b ++ be n (sz8 s)))) | 84 => Lin.Spec.val (.slice A b.length c) | 85 => Lin.Spec.val (.int .u64 (n : Int)) | 86 => Lin.Spec.val (.int .i64 s) | 87 => Lin.Spec.sl (be n (sz8 s)) (be n (sz8 s)).length | 88 => Lin.Spec.parts [b, (be n (sz8 s))] | 89 => Lin.Spec.sl (b ++ be n (sz8 s)) (b ++ be n (sz8 s)).length | 90 => Lin.Spec.val (.string (strOfNums (b ++ be n (sz8 s)))) | 91 => Lin.Spec.val (.bool true) | 92 => Lin.Spec.val (.bool true) | 93 => Lin.Spec.val (.slice A b.length c) | 94 => Lin.Spec.val (.slice X x.length d) | 95 => Lin.Spec.val (.bool ((strOfNums b).toList == (strOfNums x).toList)) | 96 => Lin.Spec.val (.slice A b.length c) | 97 => Lin.Spec.val (.string (strOfNums b)) | 98 => Lin.Spec.val (.slice X x.length d) | 99 => Lin.Spec.val (.string (strOfNums x)) | 100 => Lin.Spec.val (.bool ((strOfNums b).toList == (strOfNums x).toList)) | 101 => Lin.Spec.val (.bool true) | 102 => Lin.Spec.val (.bool true) | 103 => Lin.Spec.val (.bool true) | 104 => Lin.Spec.val (.slice A b.length c) | 105 => Lin.Spec.val (.slice A b.length c) | 106 => Lin.Spec.val (.bool true) | 107 => Lin.Spec.val (.bool true) | 108 => Lin.Spec.val (.bool true) | 109 => Lin.Spec.val (.bool true) | 110 => Lin.Spec.val (.bool true) | 10 => Lin.Spec.val (.bool true) | _ => Lin.Spec.any) (by kernel_rfl) rfl (by kernel_rfl) ⟨?_, ?_, ?_, ?_, ?_, ?_, ?_, ?_, ?_, ?_, ?_, ?_, ?_, ?_, ?_, ?_, ?_, ?_, ?_, ?_, ?_, ?_, ?_, ?_, ?_, ?_, ?_, ?_, ?_, ?_, ?_, ?_, ?_, trivial⟩ ?_
    · intro ρ wq hb ho hc hd
      have h0 : ρ (.tmp 0) = .slice A b.length c := ho 0 (by kernel_rfl)
      exact Lin.Runs.value Lin.keeps (Lin.exec_move rfl) h0
    · intro ρ wq hb ho hc hd
      have h2 : ρ (.tmp 2) = .int .u64 (n : Int) := ho 2 (by kernel_rfl)
      exact Lin.Runs.value Lin.keeps (Lin.exec_move rfl) h2
    · intro ρ wq hb ho hc hd
      have h3 : ρ (.tmp 3) = .int .i64 s := ho 3 (by kernel_rfl)
      exact Lin.Runs.value Lin.keeps (Lin.exec_move rfl) h3
    · intro ρ wq hb ho hc hd
      have h79 : ρ (.tmp 79) = .slice A b.length c := hd 79 (by kernel_rfl)
      have h80 : ρ (.tmp 80) = .int .u64 (n : Int) := hd 80 (by kernel_rfl)
      have h81 : ρ (.tmp 81) = .int .i64 s := hd 81 (by kernel_rfl)
      refine Lin.Runs.call Lin.keeps (f := 19) (args := #[.slice A b.length c, .int .u64 (n : Int), .int .i64 s]) (by simp [execOp, go_sem, hc, h79, h80, h81]) (put_p n s (IA.out.st (HB2.out.trans (hb.mono HB2.out.size))) (by omega) hn (by omega) (by omega))
    · intro ρ wq hb ho hc hd
      have h82 := hd 82 (by kernel_rfl)
      exact Lin.Runs.value Lin.keeps (Lin.exec_convert rfl h82.conv) rfl
    · intro ρ wq hb ho hc hd
      have h0 : ρ (.tmp 0) = .slice A b.length c := ho 0 (by kernel_rfl)
      exact Lin.Runs.value Lin.keeps (Lin.exec_move rfl) h0
    · intro ρ wq hb ho hc hd
      have h2 : ρ (.tmp 2) = .int .u64 (n : Int) := ho 2 (by kernel_rfl)
      exact Lin.Runs.value Lin.keeps (Lin.exec_move rfl) h2
    · intro ρ wq hb ho hc hd
      have h3 : ρ (.tmp 3) = .int .i64 s := ho 3 (by kernel_rfl)
      exact Lin.Runs.value Lin.keeps (Lin.exec_move rfl) h3
    · intro ρ wq hb ho hc hd
      have h85 : ρ (.tmp 85) = .int .u64 (n : Int) := hd 85 (by kernel_rfl)
      have h86 : ρ (.tmp 86) = .int .i64 s := hd 86 (by kernel_rfl)
      refine Lin.Runs.call Lin.keeps (f := 18) (args := #[.int .u64 (n : Int), .int .i64 s]) (by simp [execOp, go_sem, hc, h85, h86]) (rbytes_p n s wq hn)
    · intro ρ wq hb ho hc hd
      have h84 : ρ (.tmp 84) = .slice A b.length c := hd 84 (by kernel_rfl)
      have h87 := hd 87 (by kernel_rfl)
      generalize hv87 : ρ (.tmp 87) = v87 at *
      obtain ⟨A2, c2, e2, l2, b2, r2⟩ := h87
      subst e2
      refine Lin.Runs.made (v := .slice (some ⟨wq.heap.size, 0, none⟩) 2 2) (w' := wq.alloc (.cells #[.slice A b.length c, .slice A2 (be n (sz8 s)).length c2] 22)) (by simp [execOp, go_sem, hc, h84, hv87]) ((Below.refl _ _).alloc (Nat.le_refl _) _) ?_
      exact IsP.lit wq [(.slice A b.length c, b), (.slice A2 (be n (sz8 s)).length c2, (be n (sz8 s)))] 22 (by
        intro p hp
        rcases List.mem_cons.1 hp with rfl | hp
        · exact ⟨_, IA.out.st (HB2.out.trans (hb.mono HB2.out.size))⟩
        · rcases List.mem_cons.1 hp with rfl | hp
          · exact ⟨_, A2, c2, rfl, l2, b2, r2⟩
          · cases hp)
    · intro ρ wq hb ho hc hd
      have h88 := hd 88 (by kernel_rfl)
      refine Lin.Runs.call Lin.keeps (f := 20) (args := #[ρ (.tmp 88)]) (by simp [execOp, go_sem, hc, List.map]) (join_p h88 (by simp) (by rw [List.length_append, be_len]; have := sz8_le s; omega) (by simp))
    · intro ρ wq hb ho hc hd
      have h89 := hd 89 (by kernel_rfl)
      exact Lin.Runs.value Lin.keeps (Lin.exec_convert rfl h89.conv) rfl
    · intro ρ wq hb ho hc hd
      have h83 : ρ (.tmp 83) = .string (strOfNums (b ++ be n (sz8 s))) := hd 83 (by kernel_rfl)
      have h90 : ρ (.tmp 90) = .string (strOfNums (b ++ be n (sz8 s))) := hd 90 (by kernel_rfl)
      exact Lin.Runs.value Lin.keeps (v := .bool true) (by simp [execOp, go_sem, hc, h83, h90]) rfl
    · intro ρ wq hb ho hc hd
      have h91 : ρ (.tmp 91) = .bool true := hd 91 (by kernel_rfl)
      exact Lin.Runs.value Lin.keeps (Lin.exec_move rfl) h91
    · intro ρ wq hb ho hc hd
      intro t ht; cases (show some 92 = some t from ht)
      refine ⟨fun _ => ?_, fun hn => absurd (hd 92 (by kernel_rfl)) hn⟩
      have h0 : ρ (.tmp 0) = .slice A b.length c := ho 0 (by kernel_rfl)
      exact Lin.Runs.value Lin.keeps (Lin.exec_move rfl) h0
    · intro ρ wq hb ho hc hd
      intro t ht; cases (show some 92 = some t from ht)
      refine ⟨fun _ => ?_, fun hn => absurd (hd 92 (by kernel_rfl)) hn⟩
      have h4 : ρ (.tmp 4) = .slice X x.length d := ho 4 (by kernel_rfl)
      exact Lin.Runs.value Lin.keeps (Lin.exec_move rfl) h4
    · intro ρ wq hb ho hc hd
      intro t ht; cases (show some 92 = some t from ht)
      refine ⟨fun _ => ?_, fun hn => absurd (hd 92 (by kernel_rfl)) hn⟩
      have h93 : ρ (.tmp 93) = .slice A b.length c := hd 93 (by kernel_rfl)
      have h94 : ρ (.tmp 94) = .slice X x.length d := hd 94 (by kernel_rfl)
      refine Lin.Runs.call Lin.keeps (f := 21) (args := #[.slice A b.length c, .slice X x.length d]) (by simp [execOp, go_sem, hc, h93, h94]) (equal_p (IA.out.st (HB2.out.trans (hb.mono HB2.out.size))) (IX.out.st (HB2.out.trans (hb.mono HB2.out.size))))
    · intro ρ wq hb ho hc hd
      intro t ht; cases (show some 92 = some t from ht)
      refine ⟨fun _ => ?_, fun hn => absurd (hd 92 (by kernel_rfl)) hn⟩
      have h0 : ρ (.tmp 0) = .slice A b.length c := ho 0 (by kernel_rfl)
      exact Lin.Runs.value Lin.keeps (Lin.exec_move rfl) h0
    · intro ρ wq hb ho hc hd
      intro t ht; cases (show some 92 = some t from ht)
      refine ⟨fun _ => ?_, fun hn => absurd (hd 92 (by kernel_rfl)) hn⟩
      have h96 : ρ (.tmp 96) = .slice A b.length c := hd 96 (by kernel_rfl)
      exact Lin.Runs.value Lin.keeps (Lin.exec_convert rfl (by rw [h96]; exact (IA.out.st (HB2.out.trans (hb.mono HB2.out.size))).conv)) rfl
    · intro ρ wq hb ho hc hd
      intro t ht; cases (show some 92 = some t from ht)
      refine ⟨fun _ => ?_, fun hn => absurd (hd 92 (by kernel_rfl)) hn⟩
      have h4 : ρ (.tmp 4) = .slice X x.length d := ho 4 (by kernel_rfl)
      exact Lin.Runs.value Lin.keeps (Lin.exec_move rfl) h4
    · intro ρ wq hb ho hc hd
      intro t ht; cases (show some 92 = some t from ht)
      refine ⟨fun _ => ?_, fun hn => absurd (hd 92 (by kernel_rfl)) hn⟩
      have h98 : ρ (.tmp 98) = .slice X x.length d := hd 98 (by kernel_rfl)
      exact Lin.Runs.value Lin.keeps (Lin.exec_convert rfl (by rw [h98]; exact (IX.out.st (HB2.out.trans (hb.mono HB2.out.size))).conv)) rfl
    · intro ρ wq hb ho hc hd
      intro t ht; cases (show some 92 = some t from ht)
      refine ⟨fun _ => ?_, fun hn => absurd (hd 92 (by kernel_rfl)) hn⟩
      have h97 : ρ (.tmp 97) = .string (strOfNums b) := hd 97 (by kernel_rfl)
      have h99 : ρ (.tmp 99) = .string (strOfNums x) := hd 99 (by kernel_rfl)
      exact Lin.Runs.value Lin.keeps (v := .bool ((strOfNums b).toList == (strOfNums x).toList)) (by simp [execOp, go_sem, hc, h97, h99]) rfl
    · intro ρ wq hb ho hc hd
      intro t ht; cases (show some 92 = some t from ht)
      refine ⟨fun _ => ?_, fun hn => absurd (hd 92 (by kernel_rfl)) hn⟩
      have h95 : ρ (.tmp 95) = .bool ((strOfNums b).toList == (strOfNums x).toList) := hd 95 (by kernel_rfl)
      have h100 : ρ (.tmp 100) = .bool ((strOfNums b).toList == (strOfNums x).toList) := hd 100 (by kernel_rfl)
      exact Lin.Runs.value Lin.keeps (v := .bool true) (by simp [execOp, go_sem, hc, h95, h100]) rfl
    · intro ρ wq hb ho hc hd
      have h92 : ρ (.tmp 92) = .bool true := hd 92 (by kernel_rfl)
      have h101 : ρ (.tmp 101) = .bool true := hd 101 (by kernel_rfl)
      exact Lin.Runs.value Lin.keeps (v := .bool true) (by simp [execOp, go_sem, hc, h92, h101]) rfl
    · intro ρ wq hb ho hc hd
      have h102 : ρ (.tmp 102) = .bool true := hd 102 (by kernel_rfl)
      exact Lin.Runs.value Lin.keeps (Lin.exec_move rfl) h102
    · intro ρ wq hb ho hc hd
      intro t ht; cases (show some 103 = some t from ht)
      refine ⟨fun _ => ?_, fun hn => absurd (hd 103 (by kernel_rfl)) hn⟩
      have h0 : ρ (.tmp 0) = .slice A b.length c := ho 0 (by kernel_rfl)
      exact Lin.Runs.value Lin.keeps (Lin.exec_move rfl) h0
    · intro ρ wq hb ho hc hd
      intro t ht; cases (show some 103 = some t from ht)
      refine ⟨fun _ => ?_, fun hn => absurd (hd 103 (by kernel_rfl)) hn⟩
      have h0 : ρ (.tmp 0) = .slice A b.length c := ho 0 (by kernel_rfl)
      exact Lin.Runs.value Lin.keeps (Lin.exec_move rfl) h0
    · intro ρ wq hb ho hc hd
      intro t ht; cases (show some 103 = some t from ht)
      refine ⟨fun _ => ?_, fun hn => absurd (hd 103 (by kernel_rfl)) hn⟩
      have h104 : ρ (.tmp 104) = .slice A b.length c := hd 104 (by kernel_rfl)
      have h105 : ρ (.tmp 105) = .slice A b.length c := hd 105 (by kernel_rfl)
      refine Lin.Runs.call Lin.keeps (f := 21) (args := #[.slice A b.length c, .slice A b.length c]) (by simp [execOp, go_sem, hc, h104, h105]) ((equal_p (IA.out.st (HB2.out.trans (hb.mono HB2.out.size))) (IA.out.st (HB2.out.trans (hb.mono HB2.out.size)))).mono ?_)
      rintro e w3 ⟨r, rfl, h1, rfl⟩
      exact ⟨_, rfl, h1, by rw [str_self]; rfl⟩
    · intro ρ wq hb ho hc hd
      have h103 : ρ (.tmp 103) = .bool true := hd 103 (by kernel_rfl)
      have h106 : ρ (.tmp 106) = .bool true := hd 106 (by kernel_rfl)
      exact Lin.Runs.value Lin.keeps (v := .bool true) (by simp [execOp, go_sem, hc, h103, h106]) rfl
    · intro ρ wq hb ho hc hd
      have h107 : ρ (.tmp 107) = .bool true := hd 107 (by kernel_rfl)
      exact Lin.Runs.value Lin.keeps (Lin.exec_move rfl) h107
    · intro ρ wq hb ho hc hd
      intro t ht; cases (show some 108 = some t from ht)
      refine ⟨fun _ => ?_, fun hn => absurd (hd 108 (by kernel_rfl)) hn⟩
      refine Lin.Runs.call Lin.keeps (f := 15) (args := #[]) (by simp [execOp, go_sem, hc, List.map]) (awake01_p wq)
    · intro ρ wq hb ho hc hd
      have h108 : ρ (.tmp 108) = .bool true := hd 108 (by kernel_rfl)
      have h109 : ρ (.tmp 109) = .bool true := hd 109 (by kernel_rfl)
      exact Lin.Runs.value Lin.keeps (v := .bool true) (by simp [execOp, go_sem, hc, h108, h109]) rfl
    · intro ρ wq hb ho hc hd
      have h110 : ρ (.tmp 110) = .bool true := hd 110 (by kernel_rfl)
      exact Lin.Runs.value Lin.keeps (Lin.exec_assign rfl) h110
    · intro vals w3 hb3 hv
      have e10 : vals 10 = .bool true := hv 10 (by kernel_rfl)
      simp only [Lin.putAll, Option.getD_some]
      rw [e10]
      have HB3 := Lib.hid (HB2.out.trans (hb3.mono HB2.out.size))
      clear hv hb3
      go_simp
      generalize vals = vv
      go_wp2_with fail
      go_ret
      exact ⟨rfl, HB3.out⟩
set_option maxRecDepth 100000 in
set_option maxHeartbeats 4000000 in
theorem walk_c (A X : Option Addr) (c d : Nat) (b x : List Int) (i : Int) (n : Nat) (s : Int) (w : World) (ha : IsB b b.length (.slice A b.length c) w) (hx : IsB x x.length (.slice X x.length d) w) (hm : b.length ≤ 1000) (hxm : x.length ≤ 1000) (hn : n < 18446744073709551616) (s0 : -9223372036854775808 ≤ s) (s1 : s ≤ 9223372036854775807) (i0 : -9223372036854775808 ≤ i) (i1 : i ≤ 9223372036854775807) (q1 : 1 ≤ s) (q2 : s ≤ 8) (q3 : i < 0) :
    Calls Try.prog 3 #[.slice A b.length c, .int .i64 i, .int .u64 (n : Int), .int .i64 s, .slice X x.length d] w fun e w' => e = .returned (.bool true) ∧ Below w.heap.size w w' := by
  have IA := hide ha; have IX := hide hx
  have p1 : ¬ (1000 < b.length) := by omega
  have p2 : ¬ (1000 < x.length) := by omega
  clear ha hx
  go_enter Try.func3, Try.ntmps3
  go_wp2_with fail
  refine (set_bad A c b i n s w (by omega) (by omega)).mono ?_
  rintro e w1 ⟨rfl, rfl⟩
  go_wp2_with fail
  refine Lin.wp_region_lin Lin.keeps (n := 111)  (fun slotq => match slotq with | 66 => Lin.Spec.val (.bool false) | 67 => Lin.Spec.val (.bool false) | 68 => Lin.Spec.val (undef) | 69 => Lin.Spec.val (undef) | 70 => Lin.Spec.val (undef) | 71 => Lin.Spec.val (undef) | 72 => Lin.Spec.val (undef) | 73 => Lin.Spec.val (undef) | 74 => Lin.Spec.val (undef) | 75 => Lin.Spec.val (undef) | 76 => Lin.Spec.val (undef) | 77 => Lin.Spec.val (undef) | 78 => Lin.Spec.val (.bool false) | _ => Lin.Spec.any) (by kernel_rfl) rfl (by kernel_rfl) ⟨?_, ?_, ?_, ?_, ?_, ?_, ?_, ?_, ?_, ?_, ?_, ?_, ?_, trivial⟩ ?_
  · intro ρ wq hb ho hc hd
    have h13 : ρ (.tmp 13) = .bool false := ho 13 (by kernel_rfl)
    exact Lin.Runs.value Lin.keeps (Lin.exec_move rfl) h13
  · intro ρ wq hb ho hc hd
    have h66 : ρ (.tmp 66) = .bool false := hd 66 (by kernel_rfl)
    exact Lin.Runs.value Lin.keeps (Lin.exec_move rfl) h66
  · intro ρ wq hb ho hc hd
    intro t ht; cases (show some 67 = some t from ht)
    exact ⟨fun he => absurd (he.symm.trans (hd 67 (by kernel_rfl))) (by simp), fun _ => rfl⟩
  · intro ρ wq hb ho hc hd
    intro t ht; cases (show some 67 = some t from ht)
    exact ⟨fun he => absurd (he.symm.trans (hd 67 (by kernel_rfl))) (by simp), fun _ => rfl⟩
  · intro ρ wq hb ho hc hd
    intro t ht; cases (show some 67 = some t from ht)
    exact ⟨fun he => absurd (he.symm.trans (hd 67 (by kernel_rfl))) (by simp), fun _ => rfl⟩
  · intro ρ wq hb ho hc hd
    intro t ht; cases (show some 67 = some t from ht)
    exact ⟨fun he => absurd (he.symm.trans (hd 67 (by kernel_rfl))) (by simp), fun _ => rfl⟩
  · intro ρ wq hb ho hc hd
    intro t ht; cases (show some 67 = some t from ht)
    exact ⟨fun he => absurd (he.symm.trans (hd 67 (by kernel_rfl))) (by simp), fun _ => rfl⟩
  · intro ρ wq hb ho hc hd
    intro t ht; cases (show some 67 = some t from ht)
    exact ⟨fun he => absurd (he.symm.trans (hd 67 (by kernel_rfl))) (by simp), fun _ => rfl⟩
  · intro ρ wq hb ho hc hd
    intro t ht; cases (show some 67 = some t from ht)
    exact ⟨fun he => absurd (he.symm.trans (hd 67 (by kernel_rfl))) (by simp), fun _ => rfl⟩
  · intro ρ wq hb ho hc hd
    intro t ht; cases (show some 67 = some t from ht)
    exact ⟨fun he => absurd (he.symm.trans (hd 67 (by kernel_rfl))) (by simp), fun _ => rfl⟩
  · intro ρ wq hb ho hc hd
    intro t ht; cases (show some 67 = some t from ht)
    exact ⟨fun he => absurd (he.symm.trans (hd 67 (by kernel_rfl))) (by simp), fun _ => rfl⟩
  · intro ρ wq hb ho hc hd
    intro t ht; cases (show some 67 = some t from ht)
    exact ⟨fun he => absurd (he.symm.trans (hd 67 (by kernel_rfl))) (by simp), fun _ => rfl⟩
  · intro ρ wq hb ho hc hd
    have h67 : ρ (.tmp 67) = .bool false := hd 67 (by kernel_rfl)
    have h77 : ρ (.tmp 77) = undef := hd 77 (by kernel_rfl)
    exact Lin.Runs.value Lin.keeps (v := .bool false) (by simp [execOp, go_sem, hc, h67, h77]) rfl
  · intro vals w2 hb2 hv
    have e78 : vals 78 = .bool false := hv 78 (by kernel_rfl)
    simp only [Lin.putAll, Option.getD_some]
    rw [e78]
    have HB2 := Lib.hid hb2
    clear hv hb2
    go_simp
    generalize vals = vv
    go_wp2_with fail
    refine Lin.wp_region_lin Lin.keeps (n := 111)  (fun slotq => match slotq with | 79 => Lin.Spec.val (.slice A b.length c) | 80 => Lin.Spec.val (.int .u64 (n : Int)) | 81 => Lin.Spec.val (.int .i64 s) | 82 => Lin.Spec.sl (b ++ be n (sz8 s)) (b ++ be n (sz8 s)).length | 83 => Lin.Spec.val (.string (strOfNums (b ++ be n (sz8 s)))) | 84 => Lin.Spec.val (.slice A b.length c) | 85 => Lin.Spec.val (.int .u64 (n : Int)) | 86 => Lin.Spec.val (.int .i64 s) | 87 => Lin.Spec.sl (be n (sz8 s)) (be n (sz8 s)).length | 88 => Lin.Spec.parts [b, (be n (sz8 s))] | 89 => Lin.Spec.sl (b ++ be n (sz8 s)) (b ++ be n (sz8 s)).length | 90 => Lin.Spec.val (.string (strOfNums (b ++ be n (sz8 s)))) | 91 => Lin.Spec.val (.bool true) | 92 => Lin.Spec.val (.bool true) | 93 => Lin.Spec.val (.slice A b.length c) | 94 => Lin.Spec.val (.slice X x.length d) | 95 => Lin.Spec.val (.bool ((strOfNums b).toList == (strOfNums x).toList)) | 96 => Lin.Spec.val (.slice A b.length c) | 97 => Lin.Spec.val (.string (strOfNums b)) | 98 => Lin.Spec.val (.slice X x.length d) | 99 => Lin.Spec.val (.string (strOfNums x)) | 100 => Lin.Spec.val (.bool ((strOfNums b).toList == (strOfNums x).toList)) | 101 => Lin.Spec.val (.bool true) | 102 => Lin.Spec.val (.bool true) | 103 => Lin.Spec.val (.bool true) | 104 => Lin.Spec.val (.slice A b.length c) | 105 => Lin.Spec.val (.slice A b.length c) | 106 => Lin.Spec.val (.bool true) | 107 => Lin.Spec.val (.bool true) | 108 => Lin.Spec.val (.bool true) | 109 => Lin.Spec.val (.bool true) | 110 => Lin.Spec.val (.bool true) | 10 => Lin.Spec.val (.bool true) | _ => Lin.Spec.any) (by kernel_rfl) rfl (by kernel_rfl) ⟨?_, ?_, ?_, ?_, ?_, ?_, ?_, ?_, ?_, ?_, ?_, ?_, ?_, ?_, ?_, ?_, ?_, ?_, ?_, ?_, ?_, ?_, ?_, ?_, ?_, ?_, ?_, ?_, ?_, ?_, ?_, ?_, ?_, trivial⟩ ?_
    · intro ρ wq hb ho hc hd
      have h0 : ρ (.tmp 0) = .slice A b.length c := ho 0 (by kernel_rfl)
      exact Lin.Runs.value Lin.keeps (Lin.exec_move rfl) h0
    · intro ρ wq hb ho hc hd
      have h2 : ρ (.tmp 2) = .int .u64 (n : Int) := ho 2 (by kernel_rfl)
      exact Lin.Runs.value Lin.keeps (Lin.exec_move rfl) h2
    · intro ρ wq hb ho hc hd
      have h3 : ρ (.tmp 3) = .int .i64 s := ho 3 (by kernel_rfl)
      exact Lin.Runs.value Lin.keeps (Lin.exec_move rfl) h3
    · intro ρ wq hb ho hc hd
      have h79 : ρ (.tmp 79) = .slice A b.length c := hd 79 (by kernel_rfl)
      have h80 : ρ (.tmp 80) = .int .u64 (n : Int) := hd 80 (by kernel_rfl)
      have h81 : ρ (.tmp 81) = .int .i64 s := hd 81 (by kernel_rfl)
      refine Lin.Runs.call Lin.keeps (f := 19) (args := #[.slice A b.length c, .int .u64 (n : Int), .int .i64 s]) (by simp [execOp, go_sem, hc, h79, h80, h81]) (put_p n s (IA.out.st (HB2.out.trans (hb.mono HB2.out.size))) (by omega) hn (by omega) (by omega))
    · intro ρ wq hb ho hc hd
      have h82 := hd 82 (by kernel_rfl)
      exact Lin.Runs.value Lin.keeps (Lin.exec_convert rfl h82.conv) rfl
    · intro ρ wq hb ho hc hd
      have h0 : ρ (.tmp 0) = .slice A b.length c := ho 0 (by kernel_rfl)
      exact Lin.Runs.value Lin.keeps (Lin.exec_move rfl) h0
    · intro ρ wq hb ho hc hd
      have h2 : ρ (.tmp 2) = .int .u64 (n : Int) := ho 2 (by kernel_rfl)
      exact Lin.Runs.value Lin.keeps (Lin.exec_move rfl) h2
    · intro ρ wq hb ho hc hd
      have h3 : ρ (.tmp 3) = .int .i64 s := ho 3 (by kernel_rfl)
      exact Lin.Runs.value Lin.keeps (Lin.exec_move rfl) h3
    · intro ρ wq hb ho hc hd
      have h85 : ρ (.tmp 85) = .int .u64 (n : Int) := hd 85 (by kernel_rfl)
      have h86 : ρ (.tmp 86) = .int .i64 s := hd 86 (by kernel_rfl)
      refine Lin.Runs.call Lin.keeps (f := 18) (args := #[.int .u64 (n : Int), .int .i64 s]) (by simp [execOp, go_sem, hc, h85, h86]) (rbytes_p n s wq hn)
    · intro ρ wq hb ho hc hd
      have h84 : ρ (.tmp 84) = .slice A b.length c := hd 84 (by kernel_rfl)
      have h87 := hd 87 (by kernel_rfl)
      generalize hv87 : ρ (.tmp 87) = v87 at *
      obtain ⟨A2, c2, e2, l2, b2, r2⟩ := h87
      subst e2
      refine Lin.Runs.made (v := .slice (some ⟨wq.heap.size, 0, none⟩) 2 2) (w' := wq.alloc (.cells #[.slice A b.length c, .slice A2 (be n (sz8 s)).length c2] 22)) (by simp [execOp, go_sem, hc, h84, hv87]) ((Below.refl _ _).alloc (Nat.le_refl _) _) ?_
      exact IsP.lit wq [(.slice A b.length c, b), (.slice A2 (be n (sz8 s)).length c2, (be n (sz8 s)))] 22 (by
        intro p hp
        rcases List.mem_cons.1 hp with rfl | hp
        · exact ⟨_, IA.out.st (HB2.out.trans (hb.mono HB2.out.size))⟩
        · rcases List.mem_cons.1 hp with rfl | hp
          · exact ⟨_, A2, c2, rfl, l2, b2, r2⟩
          · cases hp)
    · intro ρ wq hb ho hc hd
      have h88 := hd 88 (by kernel_rfl)
      refine Lin.Runs.call Lin.keeps (f := 20) (args := #[ρ (.tmp 88)]) (by simp [execOp, go_sem, hc, List.map]) (join_p h88 (by simp) (by rw [List.length_append, be_len]; have := sz8_le s; omega) (by simp))
    · intro ρ wq hb ho hc hd
      have h89 := hd 89 (by kernel_rfl)
      exact Lin.Runs.value Lin.keeps (Lin.exec_convert rfl h89.conv) rfl
    · intro ρ wq hb ho hc hd
      have h83 : ρ (.tmp 83) = .string (strOfNums (b ++ be n (sz8 s))) := hd 83 (by kernel_rfl)
      have h90 : ρ (.tmp 90) = .string (strOfNums (b ++ be n (sz8 s))) := hd 90 (by kernel_rfl)
      exact Lin.Runs.value Lin.keeps (v := .bool true) (by simp [execOp, go_sem, hc, h83, h90]) rfl
    · intro ρ wq hb ho hc hd
      have h91 : ρ (.tmp 91) = .bool true := hd 91 (by kernel_rfl)
      exact Lin.Runs.value Lin.keeps (Lin.exec_move rfl) h91
    · intro ρ wq hb ho hc hd
      intro t ht; cases (show some 92 = some t from ht)
      refine ⟨fun _ => ?_, fun hn => absurd (hd 92 (by kernel_rfl)) hn⟩
      have h0 : ρ (.tmp 0) = .slice A b.length c := ho 0 (by kernel_rfl)
      exact Lin.Runs.value Lin.keeps (Lin.exec_move rfl) h0
    · intro ρ wq hb ho hc hd
      intro t ht; cases (show some 92 = some t from ht)
      refine ⟨fun _ => ?_, fun hn => absurd (hd 92 (by kernel_rfl)) hn⟩
      have h4 : ρ (.tmp 4) = .slice X x.length d := ho 4 (by kernel_rfl)
      exact Lin.Runs.value Lin.keeps (Lin.exec_move rfl) h4
    · intro ρ wq hb ho hc hd
      intro t ht; cases (show some 92 = some t from ht)
      refine ⟨fun _ => ?_, fun hn => absurd (hd 92 (by kernel_rfl)) hn⟩
      have h93 : ρ (.tmp 93) = .slice A b.length c := hd 93 (by kernel_rfl)
      have h94 : ρ (.tmp 94) = .slice X x.length d := hd 94 (by kernel_rfl)
      refine Lin.Runs.call Lin.keeps (f := 21) (args := #[.slice A b.length c, .slice X x.length d]) (by simp [execOp, go_sem, hc, h93, h94]) (equal_p (IA.out.st (HB2.out.trans (hb.mono HB2.out.size))) (IX.out.st (HB2.out.trans (hb.mono HB2.out.size))))
    · intro ρ wq hb ho hc hd
      intro t ht; cases (show some 92 = some t from ht)
      refine ⟨fun _ => ?_, fun hn => absurd (hd 92 (by kernel_rfl)) hn⟩
      have h0 : ρ (.tmp 0) = .slice A b.length c := ho 0 (by kernel_rfl)
      exact Lin.Runs.value Lin.keeps (Lin.exec_move rfl) h0
    · intro ρ wq hb ho hc hd
      intro t ht; cases (show some 92 = some t from ht)
      refine ⟨fun _ => ?_, fun hn => absurd (hd 92 (by kernel_rfl)) hn⟩
      have h96 : ρ (.tmp 96) = .slice A b.length c := hd 96 (by kernel_rfl)
      exact Lin.Runs.value Lin.keeps (Lin.exec_convert rfl (by rw [h96]; exact (IA.out.st (HB2.out.trans (hb.mono HB2.out.size))).conv)) rfl
    · intro ρ wq hb ho hc hd
      intro t ht; cases (show some 92 = some t from ht)
      refine ⟨fun _ => ?_, fun hn => absurd (hd 92 (by kernel_rfl)) hn⟩
      have h4 : ρ (.tmp 4) = .slice X x.length d := ho 4 (by kernel_rfl)
      exact Lin.Runs.value Lin.keeps (Lin.exec_move rfl) h4
    · intro ρ wq hb ho hc hd
      intro t ht; cases (show some 92 = some t from ht)
      refine ⟨fun _ => ?_, fun hn => absurd (hd 92 (by kernel_rfl)) hn⟩
      have h98 : ρ (.tmp 98) = .slice X x.length d := hd 98 (by kernel_rfl)
      exact Lin.Runs.value Lin.keeps (Lin.exec_convert rfl (by rw [h98]; exact (IX.out.st (HB2.out.trans (hb.mono HB2.out.size))).conv)) rfl
    · intro ρ wq hb ho hc hd
      intro t ht; cases (show some 92 = some t from ht)
      refine ⟨fun _ => ?_, fun hn => absurd (hd 92 (by kernel_rfl)) hn⟩
      have h97 : ρ (.tmp 97) = .string (strOfNums b) := hd 97 (by kernel_rfl)
      have h99 : ρ (.tmp 99) = .string (strOfNums x) := hd 99 (by kernel_rfl)
      exact Lin.Runs.value Lin.keeps (v := .bool ((strOfNums b).toList == (strOfNums x).toList)) (by simp [execOp, go_sem, hc, h97, h99]) rfl
    · intro ρ wq hb ho hc hd
      intro t ht; cases (show some 92 = some t from ht)
      refine ⟨fun _ => ?_, fun hn => absurd (hd 92 (by kernel_rfl)) hn⟩
      have h95 : ρ (.tmp 95) = .bool ((strOfNums b).toList == (strOfNums x).toList) := hd 95 (by kernel_rfl)
      have h100 : ρ (.tmp 100) = .bool ((strOfNums b).toList == (strOfNums x).toList) := hd 100 (by kernel_rfl)
      exact Lin.Runs.value Lin.keeps (v := .bool true) (by simp [execOp, go_sem, hc, h95, h100]) rfl
    · intro ρ wq hb ho hc hd
      have h92 : ρ (.tmp 92) = .bool true := hd 92 (by kernel_rfl)
      have h101 : ρ (.tmp 101) = .bool true := hd 101 (by kernel_rfl)
      exact Lin.Runs.value Lin.keeps (v := .bool true) (by simp [execOp, go_sem, hc, h92, h101]) rfl
    · intro ρ wq hb ho hc hd
      have h102 : ρ (.tmp 102) = .bool true := hd 102 (by kernel_rfl)
      exact Lin.Runs.value Lin.keeps (Lin.exec_move rfl) h102
    · intro ρ wq hb ho hc hd
      intro t ht; cases (show some 103 = some t from ht)
      refine ⟨fun _ => ?_, fun hn => absurd (hd 103 (by kernel_rfl)) hn⟩
      have h0 : ρ (.tmp 0) = .slice A b.length c := ho 0 (by kernel_rfl)
      exact Lin.Runs.value Lin.keeps (Lin.exec_move rfl) h0
    · intro ρ wq hb ho hc hd
      intro t ht; cases (show some 103 = some t from ht)
      refine ⟨fun _ => ?_, fun hn => absurd (hd 103 (by kernel_rfl)) hn⟩
      have h0 : ρ (.tmp 0) = .slice A b.length c := ho 0 (by kernel_rfl)
      exact Lin.Runs.value Lin.keeps (Lin.exec_move rfl) h0
    · intro ρ wq hb ho hc hd
      intro t ht; cases (show some 103 = some t from ht)
      refine ⟨fun _ => ?_, fun hn => absurd (hd 103 (by kernel_rfl)) hn⟩
      have h104 : ρ (.tmp 104) = .slice A b.length c := hd 104 (by kernel_rfl)
      have h105 : ρ (.tmp 105) = .slice A b.length c := hd 105 (by kernel_rfl)
      refine Lin.Runs.call Lin.keeps (f := 21) (args := #[.slice A b.length c, .slice A b.length c]) (by simp [execOp, go_sem, hc, h104, h105]) ((equal_p (IA.out.st (HB2.out.trans (hb.mono HB2.out.size))) (IA.out.st (HB2.out.trans (hb.mono HB2.out.size)))).mono ?_)
      rintro e w3 ⟨r, rfl, h1, rfl⟩
      exact ⟨_, rfl, h1, by rw [str_self]; rfl⟩
    · intro ρ wq hb ho hc hd
      have h103 : ρ (.tmp 103) = .bool true := hd 103 (by kernel_rfl)
      have h106 : ρ (.tmp 106) = .bool true := hd 106 (by kernel_rfl)
      exact Lin.Runs.value Lin.keeps (v := .bool true) (by simp [execOp, go_sem, hc, h103, h106]) rfl
    · intro ρ wq hb ho hc hd
      have h107 : ρ (.tmp 107) = .bool true := hd 107 (by kernel_rfl)
      exact Lin.Runs.value Lin.keeps (Lin.exec_move rfl) h107
    · intro ρ wq hb ho hc hd
      intro t ht; cases (show some 108 = some t from ht)
      refine ⟨fun _ => ?_, fun hn => absurd (hd 108 (by kernel_rfl)) hn⟩
      refine Lin.Runs.call Lin.keeps (f := 15) (args := #[]) (by simp [execOp, go_sem, hc, List.map]) (awake01_p wq)
    · intro ρ wq hb ho hc hd
      have h108 : ρ (.tmp 108) = .bool true := hd 108 (by kernel_rfl)
      have h109 : ρ (.tmp 109) = .bool true := hd 109 (by kernel_rfl)
      exact Lin.Runs.value Lin.keeps (v := .bool true) (by simp [execOp, go_sem, hc, h108, h109]) rfl
    · intro ρ wq hb ho hc hd
      have h110 : ρ (.tmp 110) = .bool true := hd 110 (by kernel_rfl)
      exact Lin.Runs.value Lin.keeps (Lin.exec_assign rfl) h110
    · intro vals w3 hb3 hv
      have e10 : vals 10 = .bool true := hv 10 (by kernel_rfl)
      simp only [Lin.putAll, Option.getD_some]
      rw [e10]
      have HB3 := Lib.hid (HB2.out.trans (hb3.mono HB2.out.size))
      clear hv hb3
      go_simp
      generalize vals = vv
      go_wp2_with fail
      go_ret
      exact ⟨rfl, HB3.out⟩
set_option maxRecDepth 100000 in
set_option maxHeartbeats 4000000 in
theorem walk_d (A X : Option Addr) (c d : Nat) (b x : List Int) (i : Int) (n : Nat) (s : Int) (w : World) (ha : IsB b b.length (.slice A b.length c) w) (hx : IsB x x.length (.slice X x.length d) w) (hm : b.length ≤ 1000) (hxm : x.length ≤ 1000) (hn : n < 18446744073709551616) (s0 : -9223372036854775808 ≤ s) (s1 : s ≤ 9223372036854775807) (i0 : -9223372036854775808 ≤ i) (i1 : i ≤ 9223372036854775807) (q1 : 1 ≤ s) (q2 : s ≤ 8) (q3 : 0 ≤ i) (q4 : (b.length : Int) - s < i) :
    Calls Try.prog 3 #[.slice A b.length c, .int .i64 i, .int .u64 (n : Int), .int .i64 s, .slice X x.length d] w fun e w' => e = .returned (.bool true) ∧ Below w.heap.size w w' := by
  have IA := hide ha; have IX := hide hx
  have p1 : ¬ (1000 < b.length) := by omega
  have p2 : ¬ (1000 < x.length) := by omega
  have q5 : decide (i ≤ (b.length : Int) - s) = false := by simpa using q4
  clear ha hx
  go_enter Try.func3, Try.ntmps3
  go_wp2_with fail
  refine (set_bad A c b i n s w (by omega) (by omega)).mono ?_
  rintro e w1 ⟨rfl, rfl⟩
  go_wp2_with fail
  refine Lin.wp_region_lin Lin.keeps (n := 111)  (fun slotq => match slotq with | 66 => Lin.Spec.val (.bool false) | 67 => Lin.Spec.val (.bool false) | 68 => Lin.Spec.val (undef) | 69 => Lin.Spec.val (undef) | 70 => Lin.Spec.val (undef) | 71 => Lin.Spec.val (undef) | 72 => Lin.Spec.val (undef) | 73 => Lin.Spec.val (undef) | 74 => Lin.Spec.val (undef) | 75 => Lin.Spec.val (undef) | 76 => Lin.Spec.val (undef) | 77 => Lin.Spec.val (undef) | 78 => Lin.Spec.val (.bool false) | _ => Lin.Spec.any) (by kernel_rfl) rfl (by kernel_rfl) ⟨?_, ?_, ?_, ?_, ?_, ?_, ?_, ?_, ?_, ?_, ?_, ?_, ?_, trivial⟩ ?_
  · intro ρ wq hb ho hc hd
    have h13 : ρ (.tmp 13) = .bool false := ho 13 (by kernel_rfl)
    exact Lin.Runs.value Lin.keeps (Lin.exec_move rfl) h13
  · intro ρ wq hb ho hc hd
    have h66 : ρ (.tmp 66) = .bool false := hd 66 (by kernel_rfl)
    exact Lin.Runs.value Lin.keeps (Lin.exec_move rfl) h66
  · intro ρ wq hb ho hc hd
    intro t ht; cases (show some 67 = some t from ht)
    exact ⟨fun he => absurd (he.symm.trans (hd 67 (by kernel_rfl))) (by simp), fun _ => rfl⟩
  · intro ρ wq hb ho hc hd
    intro t ht; cases (show some 67 = some t from ht)
    exact ⟨fun he => absurd (he.symm.trans (hd 67 (by kernel_rfl))) (by simp), fun _ => rfl⟩
  · intro ρ wq hb ho hc hd
    intro t ht; cases (show some 67 = some t from ht)
    exact ⟨fun he => absurd (he.symm.trans (hd 67 (by kernel_rfl))) (by simp), fun _ => rfl⟩
  · intro ρ wq hb ho hc hd
    intro t ht; cases (show some 67 = some t from ht)
    exact ⟨fun he => absurd (he.symm.trans (hd 67 (by kernel_rfl))) (by simp), fun _ => rfl⟩
  · intro ρ wq hb ho hc hd
    intro t ht; cases (show some 67 = some t from ht)
    exact ⟨fun he => absurd (he.symm.trans (hd 67 (by kernel_rfl))) (by simp), fun _ => rfl⟩
  · intro ρ wq hb ho hc hd
    intro t ht; cases (show some 67 = some t from ht)
    exact ⟨fun he => absurd (he.symm.trans (hd 67 (by kernel_rfl))) (by simp), fun _ => rfl⟩
  · intro ρ wq hb ho hc hd
    intro t ht; cases (show some 67 = some t from ht)
    exact ⟨fun he => absurd (he.symm.trans (hd 67 (by kernel_rfl))) (by simp), fun _ => rfl⟩
  · intro ρ wq hb ho hc hd
    intro t ht; cases (show some 67 = some t from ht)
    exact ⟨fun he => absurd (he.symm.trans (hd 67 (by kernel_rfl))) (by simp), fun _ => rfl⟩
  · intro ρ wq hb ho hc hd
    intro t ht; cases (show some 67 = some t from ht)
    exact ⟨fun he => absurd (he.symm.trans (hd 67 (by kernel_rfl))) (by simp), fun _ => rfl⟩
  · intro ρ wq hb ho hc hd
    intro t ht; cases (show some 67 = some t from ht)
    exact ⟨fun he => absurd (he.symm.trans (hd 67 (by kernel_rfl))) (by simp), fun _ => rfl⟩
  · intro ρ wq hb ho hc hd
    have h67 : ρ (.tmp 67) = .bool false := hd 67 (by kernel_rfl)
    have h77 : ρ (.tmp 77) = undef := hd 77 (by kernel_rfl)
    exact Lin.Runs.value Lin.keeps (v := .bool false) (by simp [execOp, go_sem, hc, h67, h77]) rfl
  · intro vals w2 hb2 hv
    have e78 : vals 78 = .bool false := hv 78 (by kernel_rfl)
    simp only [Lin.putAll, Option.getD_some]
    rw [e78]
    have HB2 := Lib.hid hb2
    clear hv hb2
    go_simp
    generalize vals = vv
    go_wp2_with fail
    refine Lin.wp_region_lin Lin.keeps (n := 111)  (fun slotq => match slotq with | 79 => Lin.Spec.val (.slice A b.length c) | 80 => Lin.Spec.val (.int .u64 (n : Int)) | 81 => Lin.Spec.val (.int .i64 s) | 82 => Lin.Spec.sl (b ++ be n (sz8 s)) (b ++ be n (sz8 s)).length | 83 => Lin.Spec.val (.string (strOfNums (b ++ be n (sz8 s)))) | 84 => Lin.Spec.val (.slice A b.length c) | 85 => Lin.Spec.val (.int .u64 (n : Int)) | 86 => Lin.Spec.val (.int .i64 s) | 87 => Lin.Spec.sl (be n (sz8 s)) (be n (sz8 s)).length | 88 => Lin.Spec.parts [b, (be n (sz8 s))] | 89 => Lin.Spec.sl (b ++ be n (sz8 s)) (b ++ be n (sz8 s)).length | 90 => Lin.Spec.val (.string (strOfNums (b ++ be n (sz8 s)))) | 91 => Lin.Spec.val (.bool true) | 92 => Lin.Spec.val (.bool true) | 93 => Lin.Spec.val (.slice A b.length c) | 94 => Lin.Spec.val (.slice X x.length d) | 95 => Lin.Spec.val (.bool ((strOfNums b).toList == (strOfNums x).toList)) | 96 => Lin.Spec.val (.slice A b.length c) | 97 => Lin.Spec.val (.string (strOfNums b)) | 98 => Lin.Spec.val (.slice X x.length d) | 99 => Lin.Spec.val (.string (strOfNums x)) | 100 => Lin.Spec.val (.bool ((strOfNums b).toList == (strOfNums x).toList)) | 101 => Lin.Spec.val (.bool true) | 102 => Lin.Spec.val (.bool true) | 103 => Lin.Spec.val (.bool true) | 104 => Lin.Spec.val (.slice A b.length c) | 105 => Lin.Spec.val (.slice A b.length c) | 106 => Lin.Spec.val (.bool true) | 107 => Lin.Spec.val (.bool true) | 108 => Lin.Spec.val (.bool true) | 109 => Lin.Spec.val (.bool true) | 110 => Lin.Spec.val (.bool true) | 10 => Lin.Spec.val (.bool true) | _ => Lin.Spec.any) (by kernel_rfl) rfl (by kernel_rfl) ⟨?_, ?_, ?_, ?_, ?_, ?_, ?_, ?_, ?_, ?_, ?_, ?_, ?_, ?_, ?_, ?_, ?_, ?_, ?_, ?_, ?_, ?_, ?_, ?_, ?_, ?_, ?_, ?_, ?_, ?_, ?_, ?_, ?_, trivial⟩ ?_
    · intro ρ wq hb ho hc hd
      have h0 : ρ (.tmp 0) = .slice A b.length c := ho 0 (by kernel_rfl)
      exact Lin.Runs.value Lin.keeps (Lin.exec_move rfl) h0
    · intro ρ wq hb ho hc hd
      have h2 : ρ (.tmp 2) = .int .u64 (n : Int) := ho 2 (by kernel_rfl)
      exact Lin.Runs.value Lin.keeps (Lin.exec_move rfl) h2
    · intro ρ wq hb ho hc hd
      have h3 : ρ (.tmp 3) = .int .i64 s := ho 3 (by kernel_rfl)
      exact Lin.Runs.value Lin.keeps (Lin.exec_move rfl) h3
    · intro ρ wq hb ho hc hd
      have h79 : ρ (.tmp 79) = .slice A b.length c := hd 79 (by kernel_rfl)
      have h80 : ρ (.tmp 80) = .int .u64 (n : Int) := hd 80 (by kernel_rfl)
      have h81 : ρ (.tmp 81) = .int .i64 s := hd 81 (by kernel_rfl)
      refine Lin.Runs.call Lin.keeps (f := 19) (args := #[.slice A b.length c, .int .u64 (n : Int), .int .i64 s]) (by simp [execOp, go_sem, hc, h79, h80, h81]) (put_p n s (IA.out.st (HB2.out.trans (hb.mono HB2.out.size))) (by omega) hn (by omega) (by omega))
    · intro ρ wq hb ho hc hd
      have h82 := hd 82 (by kernel_rfl)
      exact Lin.Runs.value Lin.keeps (Lin.exec_convert rfl h82.conv) rfl
    · intro ρ wq hb ho hc hd
      have h0 : ρ (.tmp 0) = .slice A b.length c := ho 0 (by kernel_rfl)
      exact Lin.Runs.value Lin.keeps (Lin.exec_move rfl) h0
    · intro ρ wq hb ho hc hd
      have h2 : ρ (.tmp 2) = .int .u64 (n : Int) := ho 2 (by kernel_rfl)
      exact Lin.Runs.value Lin.keeps (Lin.exec_move rfl) h2
    · intro ρ wq hb ho hc hd
      have h3 : ρ (.tmp 3) = .int .i64 s := ho 3 (by kernel_rfl)
      exact Lin.Runs.value Lin.keeps (Lin.exec_move rfl) h3
    · intro ρ wq hb ho hc hd
      have h85 : ρ (.tmp 85) = .int .u64 (n : Int) := hd 85 (by kernel_rfl)
      have h86 : ρ (.tmp 86) = .int .i64 s := hd 86 (by kernel_rfl)
      refine Lin.Runs.call Lin.keeps (f := 18) (args := #[.int .u64 (n : Int), .int .i64 s]) (by simp [execOp, go_sem, hc, h85, h86]) (rbytes_p n s wq hn)
    · intro ρ wq hb ho hc hd
      have h84 : ρ (.tmp 84) = .slice A b.length c := hd 84 (by kernel_rfl)
      have h87 := hd 87 (by kernel_rfl)
      generalize hv87 : ρ (.tmp 87) = v87 at *
      obtain ⟨A2, c2, e2, l2, b2, r2⟩ := h87
      subst e2
      refine Lin.Runs.made (v := .slice (some ⟨wq.heap.size, 0, none⟩) 2 2) (w' := wq.alloc (.cells #[.slice A b.length c, .slice A2 (be n (sz8 s)).length c2] 22)) (by simp [execOp, go_sem, hc, h84, hv87]) ((Below.refl _ _).alloc (Nat.le_refl _) _) ?_
      exact IsP.lit wq [(.slice A b.length c, b), (.slice A2 (be n (sz8 s)).length c2, (be n (sz8 s)))] 22 (by
        intro p hp
        rcases List.mem_cons.1 hp with rfl | hp
        · exact ⟨_, IA.out.st (HB2.out.trans (hb.mono HB2.out.size))⟩
        · rcases List.mem_cons.1 hp with rfl | hp
          · exact ⟨_, A2, c2, rfl, l2, b2, r2⟩
          · cases hp)
    · intro ρ wq hb ho hc hd
      have h88 := hd 88 (by kernel_rfl)
      refine Lin.Runs.call Lin.keeps (f := 20) (args := #[ρ (.tmp 88)]) (by simp [execOp, go_sem, hc, List.map]) (join_p h88 (by simp) (by rw [List.length_append, be_len]; have := sz8_le s; omega) (by simp))
    · intro ρ wq hb ho hc hd
      have h89 := hd 89 (by kernel_rfl)
      exact Lin.Runs.value Lin.keeps (Lin.exec_convert rfl h89.conv) rfl
    · intro ρ wq hb ho hc hd
      have h83 : ρ (.tmp 83) = .string (strOfNums (b ++ be n (sz8 s))) := hd 83 (by kernel_rfl)
      have h90 : ρ (.tmp 90) = .string (strOfNums (b ++ be n (sz8 s))) := hd 90 (by kernel_rfl)
      exact Lin.Runs.value Lin.keeps (v := .bool true) (by simp [execOp, go_sem, hc, h83, h90]) rfl
    · intro ρ wq hb ho hc hd
      have h91 : ρ (.tmp 91) = .bool true := hd 91 (by kernel_rfl)
      exact Lin.Runs.value Lin.keeps (Lin.exec_move rfl) h91
    · intro ρ wq hb ho hc hd
      intro t ht; cases (show some 92 = some t from ht)
      refine ⟨fun _ => ?_, fun hn => absurd (hd 92 (by kernel_rfl)) hn⟩
      have h0 : ρ (.tmp 0) = .slice A b.length c := ho 0 (by kernel_rfl)
      exact Lin.Runs.value Lin.keeps (Lin.exec_move rfl) h0
    · intro ρ wq hb ho hc hd
      intro t ht; cases (show some 92 = some t from ht)
      refine ⟨fun _ => ?_, fun hn => absurd (hd 92 (by kernel_rfl)) hn⟩
      have h4 : ρ (.tmp 4) = .slice X x.length d := ho 4 (by kernel_rfl)
      exact Lin.Runs.value Lin.keeps (Lin.exec_move rfl) h4
    · intro ρ wq hb ho hc hd
      intro t ht; cases (show some 92 = some t from ht)
      refine ⟨fun _ => ?_, fun hn => absurd (hd 92 (by kernel_rfl)) hn⟩
      have h93 : ρ (.tmp 93) = .slice A b.length c := hd 93 (by kernel_rfl)
      have h94 : ρ (.tmp 94) = .slice X x.length d := hd 94 (by kernel_rfl)
      refine Lin.Runs.call Lin.keeps (f := 21) (args := #[.slice A b.length c, .slice X x.length d]) (by simp [execOp, go_sem, hc, h93, h94]) (equal_p (IA.out.st (HB2.out.trans (hb.mono HB2.out.size))) (IX.out.st (HB2.out.trans (hb.mono HB2.out.size))))
    · intro ρ wq hb ho hc hd
      intro t ht; cases (show some 92 = some t from ht)
      refine ⟨fun _ => ?_, fun hn => absurd (hd 92 (by kernel_rfl)) hn⟩
      have h0 : ρ (.tmp 0) = .slice A b.length c := ho 0 (by kernel_rfl)
      exact Lin.Runs.value Lin.keeps (Lin.exec_move rfl) h0
    · intro ρ wq hb ho hc hd
      intro t ht; cases (show some 92 = some t from ht)
      refine ⟨fun _ => ?_, fun hn => absurd (hd 92 (by kernel_rfl)) hn⟩
      have h96 : ρ (.tmp 96) = .slice A b.length c := hd 96 (by kernel_rfl)
      exact Lin.Runs.value Lin.keeps (Lin.exec_convert rfl (by rw [h96]; exact (IA.out.st (HB2.out.trans (hb.mono HB2.out.size))).conv)) rfl
    · intro ρ wq hb ho hc hd
      intro t ht; cases (show some 92 = some t from ht)
      refine ⟨fun _ => ?_, fun hn => absurd (hd 92 (by kernel_rfl)) hn⟩
      have h4 : ρ (.tmp 4) = .slice X x.length d := ho 4 (by kernel_rfl)
      exact Lin.Runs.value Lin.keeps (Lin.exec_move rfl) h4
    · intro ρ wq hb ho hc hd
      intro t ht; cases (show some 92 = some t from ht)
      refine ⟨fun _ => ?_, fun hn => absurd (hd 92 (by kernel_rfl)) hn⟩
      have h98 : ρ (.tmp 98) = .slice X x.length d := hd 98 (by kernel_rfl)
      exact Lin.Runs.value Lin.keeps (Lin.exec_convert rfl (by rw [h98]; exact (IX.out.st (HB2.out.trans (hb.mono HB2.out.size))).conv)) rfl
    · intro ρ wq hb ho hc hd
      intro t ht; cases (show some 92 = some t from ht)
      refine ⟨fun _ => ?_, fun hn => absurd (hd 92 (by kernel_rfl)) hn⟩
      have h97 : ρ (.tmp 97) = .string (strOfNums b) := hd 97 (by kernel_rfl)
      have h99 : ρ (.tmp 99) = .string (strOfNums x) := hd 99 (by kernel_rfl)
      exact Lin.Runs.value Lin.keeps (v := .bool ((strOfNums b).toList == (strOfNums x).toList)) (by simp [execOp, go_sem, hc, h97, h99]) rfl
    · intro ρ wq hb ho hc hd
      intro t ht; cases (show some 92 = some t from ht)
      refine ⟨fun _ => ?_, fun hn => absurd (hd 92 (by kernel_rfl)) hn⟩
      have h95 : ρ (.tmp 95) = .bool ((strOfNums b).toList == (strOfNums x).toList) := hd 95 (by kernel_rfl)
      have h100 : ρ (.tmp 100) = .bool ((strOfNums b).toList == (strOfNums x).toList) := hd 100 (by kernel_rfl)
      exact Lin.Runs.value Lin.keeps (v := .bool true) (by simp [execOp, go_sem, hc, h95, h100]) rfl
    · intro ρ wq hb ho hc hd
      have h92 : ρ (.tmp 92) = .bool true := hd 92 (by kernel_rfl)
      have h101 : ρ (.tmp 101) = .bool true := hd 101 (by kernel_rfl)
      exact Lin.Runs.value Lin.keeps (v := .bool true) (by simp [execOp, go_sem, hc, h92, h101]) rfl
    · intro ρ wq hb ho hc hd
      have h102 : ρ (.tmp 102) = .bool true := hd 102 (by kernel_rfl)
      exact Lin.Runs.value Lin.keeps (Lin.exec_move rfl) h102
    · intro ρ wq hb ho hc hd
      intro t ht; cases (show some 103 = some t from ht)
      refine ⟨fun _ => ?_, fun hn => absurd (hd 103 (by kernel_rfl)) hn⟩
      have h0 : ρ (.tmp 0) = .slice A b.length c := ho 0 (by kernel_rfl)
      exact Lin.Runs.value Lin.keeps (Lin.exec_move rfl) h0
    · intro ρ wq hb ho hc hd
      intro t ht; cases (show some 103 = some t from ht)
      refine ⟨fun _ => ?_, fun hn => absurd (hd 103 (by kernel_rfl)) hn⟩
      have h0 : ρ (.tmp 0) = .slice A b.length c := ho 0 (by kernel_rfl)
      exact Lin.Runs.value Lin.keeps (Lin.exec_move rfl) h0
    · intro ρ wq hb ho hc hd
      intro t ht; cases (show some 103 = some t from ht)
      refine ⟨fun _ => ?_, fun hn => absurd (hd 103 (by kernel_rfl)) hn⟩
      have h104 : ρ (.tmp 104) = .slice A b.length c := hd 104 (by kernel_rfl)
      have h105 : ρ (.tmp 105) = .slice A b.length c := hd 105 (by kernel_rfl)
      refine Lin.Runs.call Lin.keeps (f := 21) (args := #[.slice A b.length c, .slice A b.length c]) (by simp [execOp, go_sem, hc, h104, h105]) ((equal_p (IA.out.st (HB2.out.trans (hb.mono HB2.out.size))) (IA.out.st (HB2.out.trans (hb.mono HB2.out.size)))).mono ?_)
      rintro e w3 ⟨r, rfl, h1, rfl⟩
      exact ⟨_, rfl, h1, by rw [str_self]; rfl⟩
    · intro ρ wq hb ho hc hd
      have h103 : ρ (.tmp 103) = .bool true := hd 103 (by kernel_rfl)
      have h106 : ρ (.tmp 106) = .bool true := hd 106 (by kernel_rfl)
      exact Lin.Runs.value Lin.keeps (v := .bool true) (by simp [execOp, go_sem, hc, h103, h106]) rfl
    · intro ρ wq hb ho hc hd
      have h107 : ρ (.tmp 107) = .bool true := hd 107 (by kernel_rfl)
      exact Lin.Runs.value Lin.keeps (Lin.exec_move rfl) h107
    · intro ρ wq hb ho hc hd
      intro t ht; cases (show some 108 = some t from ht)
      refine ⟨fun _ => ?_, fun hn => absurd (hd 108 (by kernel_rfl)) hn⟩
      refine Lin.Runs.call Lin.keeps (f := 15) (args := #[]) (by simp [execOp, go_sem, hc, List.map]) (awake01_p wq)
    · intro ρ wq hb ho hc hd
      have h108 : ρ (.tmp 108) = .bool true := hd 108 (by kernel_rfl)
      have h109 : ρ (.tmp 109) = .bool true := hd 109 (by kernel_rfl)
      exact Lin.Runs.value Lin.keeps (v := .bool true) (by simp [execOp, go_sem, hc, h108, h109]) rfl
    · intro ρ wq hb ho hc hd
      have h110 : ρ (.tmp 110) = .bool true := hd 110 (by kernel_rfl)
      exact Lin.Runs.value Lin.keeps (Lin.exec_assign rfl) h110
    · intro vals w3 hb3 hv
      have e10 : vals 10 = .bool true := hv 10 (by kernel_rfl)
      simp only [Lin.putAll, Option.getD_some]
      rw [e10]
      have HB3 := Lib.hid (HB2.out.trans (hb3.mono HB2.out.size))
      clear hv hb3
      go_simp
      generalize vals = vv
      go_wp2_with fail
      go_ret
      exact ⟨rfl, HB3.out⟩
set_option maxRecDepth 100000 in
set_option maxHeartbeats 4000000 in
theorem walk_long (A X : Option Addr) (c d : Nat) (b x : List Int) (i n s : Int) (w : World) (hbm : b.length ≤ maxLen) (hxm : x.length ≤ maxLen) (h : 1000 < b.length ∨ (b.length ≤ 1000 ∧ 1000 < x.length)) :
    Calls Try.prog 3 #[.slice A b.length c, .int .i64 i, .int .u64 n, .int .i64 s, .slice X x.length d] w fun e w' => e = .returned (.bool true) ∧ Below w.heap.size w w' := by
  unfold maxLen at hbm hxm
  rcases h with h | ⟨h, h2⟩
  all_goals
    go_enter Try.func3, Try.ntmps3
    go_wp2_with fail
    refine (awake01 _).mono ?_
    rintro e w1 ⟨rfl, hb⟩
    go_wp2_with fail
    go_ret
    exact ⟨rfl, hb⟩
theorem walk (A X : Option Addr) (c d : Nat) (b x : List Int) (i n s : Int) (w : World) (ha : IsB b b.length (.slice A b.length c) w) (hx : IsB x x.length (.slice X x.length d) w) (h : Bytes w w.heap.size A b) (hbm : b.length ≤ maxLen) (hxm : x.length ≤ maxLen) (n0 : 0 ≤ n) (n1 : n < 18446744073709551616) (s0 : -9223372036854775808 ≤ s) (s1 : s ≤ 9223372036854775807) (i0 : -9223372036854775808 ≤ i) (i1 : i ≤ 9223372036854775807) :
    Calls Try.prog 3 #[.slice A b.length c, .int .i64 i, .int .u64 n, .int .i64 s, .slice X x.length d] w fun e w' => e = .returned (.bool true) ∧ Below w.heap.size w w' := by
  by_cases c1 : 1000 < b.length
  · exact walk_long A X c d b x i n s w hbm hxm (.inl c1)
  by_cases c2 : 1000 < x.length
  · exact walk_long A X c d b x i n s w hbm hxm (.inr ⟨by omega, c2⟩)
  obtain ⟨m, rfl⟩ := Int.eq_ofNat_of_zero_le n0
  by_cases q1 : s < 1
  · exact walk_a A X c d b x i m s w ha hx (by omega) (by omega) (by omega) s0 s1 i0 i1 q1
  by_cases q2 : 8 < s
  · exact walk_b A X c d b x i m s w ha hx (by omega) (by omega) (by omega) s0 s1 i0 i1 (by omega) q2
  by_cases q3 : i < 0
  · exact walk_c A X c d b x i m s w ha hx (by omega) (by omega) (by omega) s0 s1 i0 i1 (by omega) (by omega) q3
  by_cases q4 : (b.length : Int) - s < i
  · exact walk_d A X c d b x i m s w ha hx (by omega) (by omega) (by omega) s0 s1 i0 i1 (by omega) (by omega) (by omega) q4
  obtain ⟨k, rfl⟩ := Int.eq_ofNat_of_zero_le (show 0 ≤ s by omega)
  obtain ⟨j, rfl⟩ := Int.eq_ofNat_of_zero_le (show 0 ≤ i by omega)
  exact walk_ok A X c d b x j m k w ha hx h (by omega) (by omega) (by omega) (by omega) (by omega) (by omega)

/-! ### The step from the walk to the row -/
set_option maxRecDepth 100000 in
theorem lifted (os : Os) (started : os.Started) (H : Type) (enc : TypeId × Value → H) :
    ReturnsInHanded {} Try.checked os 3 .any (Rows.octetPutsSpec.pre6 enc Try.prog Try.f3 Rows.octetPutsRow.domain false) (Rows.octetPutsSpec.post enc Try.prog Try.f3 false true false false) := by
  refine returnsInHanded_of_change (C := Try.checked) own started (by kernel_rfl) Try.func3
    (ChangeSpec.witness6 (enc := enc) (C := Try.checked) false ⟨#[], #[.slice none 0 0, .int .i64 0, .int .u64 0, .int .i64 0, .slice none 0 0], []⟩ 8 (by kernel_rfl) (by kernel_rfl) (by kernel_rfl) (by kernel_rfl)) ?_
  intro W base args ds gs before hval0 hW hcnd _
  have hval : ∀ (j : Nat) t v, Try.f3.params[j]? = some t → args[j]? = some v → Value.okWide Try.prog W .any base t v := hval0
  have hW' := hW
  obtain ⟨p, q, hA0, hV, rfl, hfz, hnd⟩ := hW
  have hA : DataW.TrodAll enc Try.prog W 0 (fun _ => true) true Try.f3.params.toList args.toList ds p := hA0
  rw [Try.params3] at hA hval
  obtain ⟨v0, vs0, d0, ds0, p0, q0, hargs, rfl, rfl, h0, r0⟩ := trodAll_cons hA
  obtain ⟨v1, vs1, d1, ds1, p1, q1, rfl, rfl, rfl, h1, r1⟩ := trodAll_cons r0
  obtain ⟨v2, vs2, d2, ds2, p2, q2, rfl, rfl, rfl, h2, r2⟩ := trodAll_cons r1
  obtain ⟨v3, vs3, d3, ds3, p3, q3, rfl, rfl, rfl, h3, r3⟩ := trodAll_cons r2
  obtain ⟨v4, vs4, d4, ds4, p4, q4, rfl, rfl, rfl, h4, r4⟩ := trodAll_cons r3
  obtain ⟨rfl, rfl, rfl⟩ := trodAll_nil r4
  obtain rfl : args = #[v0, v1, v2, v3, v4] := by cases args; simp_all
  obtain ⟨rfl, rfl⟩ := trodVars_none hV
  have k0 := h0
  have lt0 : ∀ x ∈ p0, x.block < W.heap.size := by obtain ⟨m, hm⟩ := k0; exact DataW.trod_lt m _ _ _ hm
  have ok0 := hval 0 22 v0 rfl rfl
  have k1 := h1
  have lt1 : ∀ x ∈ p1, x.block < W.heap.size := by obtain ⟨m, hm⟩ := k1; exact DataW.trod_lt m _ _ _ hm
  have ok1 := hval 1 3 v1 rfl rfl
  have k2 := h2
  have lt2 : ∀ x ∈ p2, x.block < W.heap.size := by obtain ⟨m, hm⟩ := k2; exact DataW.trod_lt m _ _ _ hm
  have ok2 := hval 2 23 v2 rfl rfl
  have k3 := h3
  have lt3 : ∀ x ∈ p3, x.block < W.heap.size := by obtain ⟨m, hm⟩ := k3; exact DataW.trod_lt m _ _ _ hm
  have ok3 := hval 3 3 v3 rfl rfl
  have k4 := h4
  have lt4 : ∀ x ∈ p4, x.block < W.heap.size := by obtain ⟨m, hm⟩ := k4; exact DataW.trod_lt m _ _ _ hm
  have ok4 := hval 4 22 v4 rfl rfl
  clear hA0 hval0
  obtain ⟨A, na, c, rfl⟩ := okWide_slice Try.underlying22 ok0
  obtain ⟨b, rfl, ob, ha, hba⟩ := open_isb (e := 5) Try.underlying22 Try.underlying5 (by kernel_rfl) h0
  obtain ⟨i, rfl, rfl, rfl, w1⟩ := open_int Try.underlying3 ok1 h1
  obtain ⟨n, rfl, rfl, rfl, w2⟩ := open_int Try.underlying23 ok2 h2
  obtain ⟨s, rfl, rfl, rfl, w3⟩ := open_int Try.underlying3 ok3 h3
  obtain ⟨X, nx, d, rfl⟩ := okWide_slice Try.underlying22 ok4
  obtain ⟨x, rfl, ox, hx, hbx⟩ := open_isb (e := 5) Try.underlying22 Try.underlying5 (by kernel_rfl) h4
  have g2 := bounds_u64 w2
  have g1 := bounds_i64 w1
  have g3 := bounds_i64 w3
  have m0 := ha.maxlen
  have m1 := hx.maxlen
  refine (walk A X c d b x i n s W ha hx hba m0 m1 g2.1 (by omega) (by omega) (by omega) (by omega) (by omega)).mono fun e W' ⟨he, bel⟩ => ?_
  subst he
  exact ⟨_, rfl, _, _, _, [], _, [], hW', trodAll_mk1 (shut_bool Try.underlying4 _), (trodAll_cons_mk (Below.trod laidOut (by kernel_rfl) (of_decide_eq_true (by kernel_rfl)) k0 bel lt0) (trodAll_cons_mk (Below.trod laidOut (by kernel_rfl) (of_decide_eq_true (by kernel_rfl)) k1 bel lt1) (trodAll_cons_mk (Below.trod laidOut (by kernel_rfl) (of_decide_eq_true (by kernel_rfl)) k2 bel lt2) (trodAll_cons_mk (Below.trod laidOut (by kernel_rfl) (of_decide_eq_true (by kernel_rfl)) k3 bel lt3) (trodAll_cons_mk (Below.trod laidOut (by kernel_rfl) (of_decide_eq_true (by kernel_rfl)) k4 bel lt4) trodAll_mk0))))), rfl, bel.frame _, fun h => by cases h⟩

theorem over : Rows.octetPutsRow.holds Try.pinned (OpenSpec.ofChange Rows.octetPutsSpec) :=
  OpenClaim.holds_of_wide 3 Try.f3 rfl rfl rfl rfl rfl rfl rfl ⟨rfl, rfl, rfl, rfl, rfl⟩ rfl rfl rfl rfl rfl (by kernel_rfl) Try.func3 (by kernel_rfl)
    (of_decide_eq_true (by kernel_rfl)) (by unfold Func.isWrapper; first | (rw [if_pos (by decide +kernel)]; kernel_rfl) | (rw [if_neg (by decide +kernel)]; exact ⟨rfl, rfl⟩))
    (fun os started H enc _ => lifted os started H enc)

theorem proved : Rows.OctetPutsSaid := over
#print axioms proved
end Go.Proofs.Ytkdcaipadejchaa.octetPuts
