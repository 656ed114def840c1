/-
  Parse and its reference side by side. Helper of the claims of layer 4.
-/
import Derived.Test.YtmgendgfdhhgfaaQf
import Derived.Test.YtmgendgfdhhgfaaQd
namespace Go.Proofs.Ytmgendgfdhhgfaa
open Go.ChangeShapes Go.WideShapes Go.ChangeAt Go.RowKit
set_option linter.unusedSimpArgs false
set_option linter.unusedVariables false
set_option maxRecDepth 100000
theorem parse4_any (A : Option Addr) (c n : Nat) (l : List Int) (w : World) (hv : IsB l n (.slice A n c) w) (ho : Octets l) (hn : n ≤ 70000) :
    Calls Try.prog 15 #[.slice A n c] w (Par4 w l) := by
  have hlen : l.length = n := by obtain ⟨_, _, _, e, _⟩ := hv; exact e
  have er : ∀ x : Int, x ≠ 0 → code4 l = x → ∀ e w', e = Ending.returned (.tuple #[hz4, .slice none 0 0, .int .i64 x]) ∧ Below w.heap.size w w' → Par4 w l e w' := fun x hx hc e w' h => ⟨h.2, .inl ⟨by rw [hc]; exact hx, by rw [hc]; exact h.1⟩⟩
  by_cases h : n < 20
  · exact (parse4_short A c n l w hv ho hn h).mono (er 20 (by omega) (by unfold code4; rw [if_pos (by omega)]))
  have h20 : 20 ≤ n := by omega
  by_cases h1 : at0 l 0 / 16 = 4
  · by_cases h2 : 20 ≤ sz4 l
    · by_cases h3 : 128 ≤ at0 l 6
      · exact (parse4_c A c n l w hv ho hn h20 h1 h2 h3).mono (er 21 (by omega) (code_form (by omega) fun h => by have := h.2.2.1; omega))
      · by_cases h4 : nw l 2 2 < (sz4 l : Int)
        · exact (parse4_d A c n l w hv ho hn h20 h1 h2 (by omega) h4).mono (er 21 (by omega) (code_form (by omega) fun h => by have := h.2.2.2; omega))
        · have hf : form4 l := ⟨h1, h2, by omega, by omega⟩
          by_cases h5 : (n : Int) < nw l 2 2
          · exact (parse4_e A c n l w hv ho hn h20 h1 h2 (by omega) (by omega) h5).mono (er 20 (by omega) (code_short (by omega) hf (by rw [hlen]; exact h5)))
          · by_cases h6 : S2.sumOf (l.take (sz4 l)) = 0
            · refine (parse4_ok A c n l w hv ho hn h20 h1 h2 (by omega) (by omega) (by omega) h6).mono ?_
              rintro e w' ⟨vo, vl, h1, h2, h3, h4⟩
              exact ⟨h2, .inr ⟨code_ok (by omega) hf (by rw [hlen]; exact h5) h6, vo, vl, h1, h3, h4⟩⟩
            · exact (parse4_f A c n l w hv ho hn h20 h1 h2 (by omega) (by omega) (by omega) h6).mono (er 22 (by omega) (code_sum (by omega) hf (by rw [hlen]; exact h5) h6))
    · exact (parse4_b A c n l w hv ho hn h20 h1 (by omega)).mono (er 21 (by omega) (code_form (by omega) fun h => h2 h.2.1))
  · exact (parse4_a A c n l w hv ho hn h20 h1).mono (er 21 (by omega) (code_form (by omega) fun h => h1 h.1))
theorem rparse4_any (A : Option Addr) (c n : Nat) (l : List Int) (w : World) (hv : IsB l n (.slice A n c) w) (ho : Octets l) (hn : n ≤ 70000) :
    Calls Try.prog 16 #[.slice A n c] w (Par4 w l) := by
  have hlen : l.length = n := by obtain ⟨_, _, _, e, _⟩ := hv; exact e
  have er : ∀ x : Int, x ≠ 0 → code4 l = x → ∀ e w', e = Ending.returned (.tuple #[hz4, .slice none 0 0, .int .i64 x]) ∧ Below w.heap.size w w' → Par4 w l e w' := fun x hx hc e w' h => ⟨h.2, .inl ⟨by rw [hc]; exact hx, by rw [hc]; exact h.1⟩⟩
  by_cases h : n < 20
  · exact (rparse4_short A c n l w hv ho hn h).mono (er 20 (by omega) (by unfold code4; rw [if_pos (by omega)]))
  have h20 : 20 ≤ n := by omega
  by_cases h1 : at0 l 0 / 16 = 4
  · by_cases h2 : 20 ≤ sz4 l
    · exact rparse4_rest A c n l w hv ho hn h20 h1 h2
    · exact (rparse4_b A c n l w hv ho hn h20 h1 (by omega)).mono (er 21 (by omega) (code_form (by omega) fun h => h2 h.2.1))
  · exact (rparse4_a A c n l w hv ho hn h20 h1).mono (er 21 (by omega) (code_form (by omega) fun h => h1 h.1))
/-- What both answer: one header, options and a load that read alike, one error. -/
def Got4 (F : Value → Value) (o L : List Int) (er : Int) (w : World) (e : Ending) (w' : World) : Prop := ∃ vo vl i p, e = .returned (.tuple #[F vo, vl, .int .i64 er]) ∧ Below w.heap.size w w' ∧ IsB o i vo w' ∧ IsB L p vl w'
theorem both4 (l : List Int) (n : Nat) (ho : Octets l) (hn : n ≤ 70000) : ∃ (ts le id : Int) (st mo : Bool) (ofs tt pr sm sl dl er : Int) (o L : List Int),
    (∀ A c w, IsB l n (.slice A n c) w → Calls Try.prog 15 #[.slice A n c] w (Got4 (fun vo => hv4 ts le id st mo ofs tt pr sm false 0 sl false 0 dl vo) o L er w)) ∧
    (∀ A c w, IsB l n (.slice A n c) w → Calls Try.prog 16 #[.slice A n c] w (Got4 (fun vo => hv4 ts le id st mo ofs tt pr sm false 0 sl false 0 dl vo) o L er w)) := by
  by_cases hc : code4 l = 0
  · have key : ∀ w e w', Par4 w l e w' → Got4 (fun vo => hdr4 l vo) (opt4 l) (load4 l) 0 w e w' := fun w e w' h => by
      obtain ⟨hb, ⟨h1, _⟩ | ⟨_, vo, vl, h1, h2, h3⟩⟩ := h
      · exact absurd hc h1
      · exact ⟨vo, vl, _, _, h1, hb, h2.isb, h3.isb⟩
    exact ⟨_, _, _, _, _, _, _, _, _, _, _, _, _, _, fun A c w h => (parse4_any A c n l w h ho hn).mono (key w), fun A c w h => (rparse4_any A c n l w h ho hn).mono (key w)⟩
  · have key : ∀ w e w', Par4 w l e w' → Got4 (fun vo => hv4 0 0 0 false false 0 0 0 0 false 0 0 false 0 0 vo) [] [] (code4 l) w e w' := fun w e w' h => by
      obtain ⟨hb, ⟨_, h1⟩ | ⟨h0, _⟩⟩ := h
      · exact ⟨.slice none 0 0, .slice none 0 0, 0, 0, h1, hb, IsB.nil0 _, IsB.nil0 _⟩
      · exact absurd h0 hc
    exact ⟨_, _, _, _, _, _, _, _, _, _, _, _, _, _, fun A c w h => (parse4_any A c n l w h ho hn).mono (key w), fun A c w h => (rparse4_any A c n l w h ho hn).mono (key w)⟩
end Go.Proofs.Ytmgendgfdhhgfaa
