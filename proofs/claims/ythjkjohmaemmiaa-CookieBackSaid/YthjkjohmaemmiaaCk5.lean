/-
  Which flows are right, and the law CookieBack in all cases. Helper of the claim CookieBack. No condition.
-/
import Derived.Test.YthjkjohmaemmiaaCk4
import Derived.Test.YthjkjohmaemmiaaFlo
namespace Go.Proofs.Ythjkjohmaemmiaa
open Go.ChangeShapes Go.WideShapes Go.ChangeAt Go.RowKit
set_option linter.unusedSimpArgs false
set_option linter.unusedVariables false
set_option maxRecDepth 100000
set_option maxHeartbeats 1000000 in
theorem fright (s6 : Bool) (sh sl : Nat) (d6 : Bool) (dh dl sp dp po : Nat) (w : World) : Calls Try.prog 19 #[.agg #[.bool s6, .int .u64 (sh : Int), .int .u64 (sl : Int), .bool d6, .int .u64 (dh : Int), .int .u64 (dl : Int), .int .u16 (sp : Int), .int .u16 (dp : Int), .int .u8 (po : Int)]] w fun e w' => e = .returned (.bool (aright s6 sh sl && aright d6 dh dl)) ∧ Below w.heap.size w w' := by
  have R1 := hide (fun W => aright_any s6 sh sl W); have R2 := hide (fun W => aright_any d6 dh dl W)
  generalize aright s6 sh sl = b1 at *
  generalize aright d6 dh dl = b2 at *
  have HB0 := Lib.hid (show Below w.heap.size w (w.alloc (.cells #[.bool s6, .int .u64 (sh : Int), .int .u64 (sl : Int), .bool d6, .int .u64 (dh : Int), .int .u64 (dl : Int), .int .u16 (sp : Int), .int .u16 (dp : Int), .int .u8 (po : Int)] 28)) from (Below.refl _ _).alloc (Nat.le_refl _) _)
  have G0 := Is.new w 28 #[.bool s6, .int .u64 (sh : Int), .int .u64 (sl : Int), .bool d6, .int .u64 (dh : Int), .int .u64 (dl : Int), .int .u16 (sp : Int), .int .u16 (dp : Int), .int .u8 (po : Int)]
  go_enter Try.func19, Try.ntmps19
  go_wp2_with fail
  generalize w.alloc (.cells #[.bool s6, .int .u64 (sh : Int), .int .u64 (sl : Int), .bool d6, .int .u64 (dh : Int), .int .u64 (dl : Int), .int .u16 (sp : Int), .int .u16 (dp : Int), .int .u8 (po : Int)] 28) = W at *
  refine (unhide R1 _).mono ?_
  rintro e w1 ⟨rfl, hb⟩
  have HB1 := Lib.hid (HB0.out.trans (hb.mono HB0.out.size)); have G1 := G0.below hb G0.lt
  have a3 := G1.cell 3; have a4 := G1.cell 4; have a5 := G1.cell 5
  simp at a3 a4 a5
  clear hb G0 G1 HB0
  cases b1
  · go_wp2_with fail
    go_ret
    exact ⟨rfl, HB1.out⟩
  · go_wp2_with fail
    refine (unhide R2 _).mono ?_
    rintro e w2 ⟨rfl, hb⟩
    have HB2 := Lib.hid (HB1.out.trans (hb.mono HB1.out.size))
    clear hb
    go_wp2_with fail
    go_ret
    exact ⟨by simp, HB2.out⟩
theorem back_all (key : List Int) (hk : key.length = 16) (ho : Octets key) (n : Nat) (hn : n < 18446744073709551616) (s6 : Bool) (sh sl : Nat) (d6 : Bool) (dh dl sp dp po : Nat) (hsh : sh < 18446744073709551616) (hsl : sl < 18446744073709551616) (hdh : dh < 18446744073709551616) (hdl : dl < 18446744073709551616) (hsp : sp ≤ 65535) (hdp : dp ≤ 65535) (hpo : po ≤ 255) (wq : Nat) (hwq : wq < 65536) (w : World) : Calls Try.prog 4 #[.agg (rcs key n), .agg #[.bool s6, .int .u64 (sh : Int), .int .u64 (sl : Int), .bool d6, .int .u64 (dh : Int), .int .u64 (dl : Int), .int .u16 (sp : Int), .int .u16 (dp : Int), .int .u8 (po : Int)], .int .u16 (wq : Int)] w fun e w' => e = .returned (.bool true) ∧ Below w.heap.size w w' := by
  have RT := fun W => fright s6 sh sl d6 dh dl sp dp po W
  have fk := flowk s6 sh sl d6 dh dl sp dp po hsh hsl hdh hdl hsp hdp hpo
  cases hr : (aright s6 sh sl && aright d6 dh dl) with
  | false => rw [hr] at RT; exact back_no key hk ho n hn _ rfl (hide RT) wq w
  | true =>
    rw [hr] at RT
    by_cases hm : n = 18446744073709551615
    · exact back_max key hk ho n hn _ rfl (hide RT) wq hm w
    · exact back_main key hk ho n hn _ rfl (hide RT) _ _ fk wq hwq (by omega) w
end Go.Proofs.Ythjkjohmaemmiaa
