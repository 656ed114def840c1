/-
  No cell of these rows narrows 'for every input' (looked for: loops, veiled, ifaces, maps, wideKeys, modest, calm, conditions, laid).
  DERIVED. THE GIVEN ROWS OF THIS SEAT. 10 by the template 'for every input the law returns true; each argument reads behind the call as it read before'; 0 by the template 'total and deterministic' (their statements: YthjkjohmaemmiaaTotals.lean).
  GIVEN WITH THE SEED: the statements are not yours to turn. If you find one false, say at which input.
  Laid BY PROGRAM, IN A SANDBOX (cutbox-rows.mjs): the forced cells as the released guide's own fill.sh prints them over the translation ab69e5d9ad1e412a… (all of the seat's roots in one cut). By AI agents, Wed Nov 11 2026. No macro, syntax, notation, axiom, sorry.
-/
import Derived.Test.YthjkjohmaemmiaaChecked
import GoSem.Claim
import GoSem.ClaimJoined
import GoSem.ClaimMapViews
import Derived.JoinedTies
import Derived.KernelRfl
namespace Go.Proofs.Ythjkjohmaemmiaa
/- THE CELL 'sum', in the pinned program and in every row, IS THE sha256 OF THE DUMP (.gsa) THAT YthjkjohmaemmiaaProg.lean LOADS. Nothing in Lean hashes anything: it is a label: what it is worth is what the hold of that sum in a sandbox is worth. -/
noncomputable def Try.pinned : Pinned := { name := "ythjkjohmaemmiaa", sum := "ab69e5d9ad1e412a489b47c11b2d60fbb27f6b2f80130090ab0d4a1ebf751870", checked := Try.checked }
namespace Rows
def none {H : Type} : Left H := { results := [], args := [] }

/-- 'counterfoillaw41.SpreadSums': WHATEVER THE INPUT: true; the input reads as it did. -/
def spreadSumsSpec : ChangeSpec := { name := "spreadSums", fn := fun _ => fun
  | [d1, d2, d3] => { results := [.lit (.bool true)], args := [d1, d2, d3] }
  | _ => none }
def spreadSumsRow : OpenClaim := { program := "ythjkjohmaemmiaa", sum := "ab69e5d9ad1e412a489b47c11b2d60fbb27f6b2f80130090ab0d4a1ebf751870", func := "counterfoil/counterfoillaw41.SpreadSums", spec := "spreadSums", apart := false }
def SpreadSumsSaid : Prop := spreadSumsRow.holds Try.pinned (OpenSpec.ofChange spreadSumsSpec)

/-- ITS FALSE NEIGHBOUR: 'it returns false'. Refute it at one input. -/
def spreadSumsWrong : ChangeSpec := { name := "spreadSums", fn := fun _ => fun
  | [d1, d2, d3] => { results := [.lit (.bool false)], args := [d1, d2, d3] }
  | _ => none }
def SpreadSumsWrongFalsely : Prop := spreadSumsRow.holds Try.pinned (OpenSpec.ofChange spreadSumsWrong)

/-- 'counterfoillaw12.CookieBack': WHATEVER THE INPUT: true; the input reads as it did. -/
def cookieBackSpec : ChangeSpec := { name := "cookieBack", fn := fun _ => fun
  | [d1, d2, d3] => { results := [.lit (.bool true)], args := [d1, d2, d3] }
  | _ => none }
def cookieBackRow : OpenClaim := { program := "ythjkjohmaemmiaa", sum := "ab69e5d9ad1e412a489b47c11b2d60fbb27f6b2f80130090ab0d4a1ebf751870", func := "counterfoil/counterfoillaw12.CookieBack", spec := "cookieBack", apart := false }
def CookieBackSaid : Prop := cookieBackRow.holds Try.pinned (OpenSpec.ofChange cookieBackSpec)

/-- ITS FALSE NEIGHBOUR: 'it returns false'. Refute it at one input. -/
def cookieBackWrong : ChangeSpec := { name := "cookieBack", fn := fun _ => fun
  | [d1, d2, d3] => { results := [.lit (.bool false)], args := [d1, d2, d3] }
  | _ => none }
def CookieBackWrongFalsely : Prop := cookieBackRow.holds Try.pinned (OpenSpec.ofChange cookieBackWrong)

/-- 'counterfoillaw13.CidReads': WHATEVER THE INPUT: true; the input reads as it did. -/
def cidReadsSpec : ChangeSpec := { name := "cidReads", fn := fun _ => fun
  | [d1, d2] => { results := [.lit (.bool true)], args := [d1, d2] }
  | _ => none }
def cidReadsRow : OpenClaim := { program := "ythjkjohmaemmiaa", sum := "ab69e5d9ad1e412a489b47c11b2d60fbb27f6b2f80130090ab0d4a1ebf751870", func := "counterfoil/counterfoillaw13.CidReads", spec := "cidReads", apart := false }
def CidReadsSaid : Prop := cidReadsRow.holds Try.pinned (OpenSpec.ofChange cidReadsSpec)

/-- ITS FALSE NEIGHBOUR: 'it returns false'. Refute it at one input. -/
def cidReadsWrong : ChangeSpec := { name := "cidReads", fn := fun _ => fun
  | [d1, d2] => { results := [.lit (.bool false)], args := [d1, d2] }
  | _ => none }
def CidReadsWrongFalsely : Prop := cidReadsRow.holds Try.pinned (OpenSpec.ofChange cidReadsWrong)

/-- 'counterfoillaw13.CidMakes': WHATEVER THE INPUT: true; the input reads as it did. -/
def cidMakesSpec : ChangeSpec := { name := "cidMakes", fn := fun _ => fun
  | [d1, d2, d3] => { results := [.lit (.bool true)], args := [d1, d2, d3] }
  | _ => none }
def cidMakesRow : OpenClaim := { program := "ythjkjohmaemmiaa", sum := "ab69e5d9ad1e412a489b47c11b2d60fbb27f6b2f80130090ab0d4a1ebf751870", func := "counterfoil/counterfoillaw13.CidMakes", spec := "cidMakes", apart := false }
def CidMakesSaid : Prop := cidMakesRow.holds Try.pinned (OpenSpec.ofChange cidMakesSpec)

/-- ITS FALSE NEIGHBOUR: 'it returns false'. Refute it at one input. -/
def cidMakesWrong : ChangeSpec := { name := "cidMakes", fn := fun _ => fun
  | [d1, d2, d3] => { results := [.lit (.bool false)], args := [d1, d2, d3] }
  | _ => none }
def CidMakesWrongFalsely : Prop := cidMakesRow.holds Try.pinned (OpenSpec.ofChange cidMakesWrong)

/-- 'counterfoillaw13.CidLeases': WHATEVER THE INPUT: true; the input reads as it did. -/
def cidLeasesSpec : ChangeSpec := { name := "cidLeases", fn := fun _ => fun
  | [d1, d2, d3, d4] => { results := [.lit (.bool true)], args := [d1, d2, d3, d4] }
  | _ => none }
def cidLeasesRow : OpenClaim := { program := "ythjkjohmaemmiaa", sum := "ab69e5d9ad1e412a489b47c11b2d60fbb27f6b2f80130090ab0d4a1ebf751870", func := "counterfoil/counterfoillaw13.CidLeases", spec := "cidLeases", apart := false }
def CidLeasesSaid : Prop := cidLeasesRow.holds Try.pinned (OpenSpec.ofChange cidLeasesSpec)

/-- ITS FALSE NEIGHBOUR: 'it returns false'. Refute it at one input. -/
def cidLeasesWrong : ChangeSpec := { name := "cidLeases", fn := fun _ => fun
  | [d1, d2, d3, d4] => { results := [.lit (.bool false)], args := [d1, d2, d3, d4] }
  | _ => none }
def CidLeasesWrongFalsely : Prop := cidLeasesRow.holds Try.pinned (OpenSpec.ofChange cidLeasesWrong)

/-- 'counterfoillaw40.LpmCuts': WHATEVER THE INPUT: true; the input reads as it did. -/
def lpmCutsSpec : ChangeSpec := { name := "lpmCuts", fn := fun _ => fun
  | [d1, d2] => { results := [.lit (.bool true)], args := [d1, d2] }
  | _ => none }
def lpmCutsRow : OpenClaim := { program := "ythjkjohmaemmiaa", sum := "ab69e5d9ad1e412a489b47c11b2d60fbb27f6b2f80130090ab0d4a1ebf751870", func := "counterfoil/counterfoillaw40.LpmCuts", spec := "lpmCuts", apart := false }
def LpmCutsSaid : Prop := lpmCutsRow.holds Try.pinned (OpenSpec.ofChange lpmCutsSpec)

/-- ITS FALSE NEIGHBOUR: 'it returns false'. Refute it at one input. -/
def lpmCutsWrong : ChangeSpec := { name := "lpmCuts", fn := fun _ => fun
  | [d1, d2] => { results := [.lit (.bool false)], args := [d1, d2] }
  | _ => none }
def LpmCutsWrongFalsely : Prop := lpmCutsRow.holds Try.pinned (OpenSpec.ofChange lpmCutsWrong)

/-- 'counterfoillaw16.HrwKeeps': WHATEVER THE INPUT: true; the input reads as it did. -/
def hrwKeepsSpec : ChangeSpec := { name := "hrwKeeps", fn := fun _ => fun
  | [d1, d2, d3, d4] => { results := [.lit (.bool true)], args := [d1, d2, d3, d4] }
  | _ => none }
def hrwKeepsRow : OpenClaim := { program := "ythjkjohmaemmiaa", sum := "ab69e5d9ad1e412a489b47c11b2d60fbb27f6b2f80130090ab0d4a1ebf751870", func := "counterfoil/counterfoillaw16.HrwKeeps", spec := "hrwKeeps", unfollowed := true, recurses := true, apart := false }
def HrwKeepsSaid : Prop := hrwKeepsRow.holds Try.pinned (OpenSpec.ofChange hrwKeepsSpec)

/-- ITS FALSE NEIGHBOUR: 'it returns false'. Refute it at one input. -/
def hrwKeepsWrong : ChangeSpec := { name := "hrwKeeps", fn := fun _ => fun
  | [d1, d2, d3, d4] => { results := [.lit (.bool false)], args := [d1, d2, d3, d4] }
  | _ => none }
def HrwKeepsWrongFalsely : Prop := hrwKeepsRow.holds Try.pinned (OpenSpec.ofChange hrwKeepsWrong)

/-- 'counterfoillaw16.HrwRanks': WHATEVER THE INPUT: true; the input reads as it did. -/
def hrwRanksSpec : ChangeSpec := { name := "hrwRanks", fn := fun _ => fun
  | [d1, d2, d3] => { results := [.lit (.bool true)], args := [d1, d2, d3] }
  | _ => none }
def hrwRanksRow : OpenClaim := { program := "ythjkjohmaemmiaa", sum := "ab69e5d9ad1e412a489b47c11b2d60fbb27f6b2f80130090ab0d4a1ebf751870", func := "counterfoil/counterfoillaw16.HrwRanks", spec := "hrwRanks", unfollowed := true, recurses := true, apart := false }
def HrwRanksSaid : Prop := hrwRanksRow.holds Try.pinned (OpenSpec.ofChange hrwRanksSpec)

/-- ITS FALSE NEIGHBOUR: 'it returns false'. Refute it at one input. -/
def hrwRanksWrong : ChangeSpec := { name := "hrwRanks", fn := fun _ => fun
  | [d1, d2, d3] => { results := [.lit (.bool false)], args := [d1, d2, d3] }
  | _ => none }
def HrwRanksWrongFalsely : Prop := hrwRanksRow.holds Try.pinned (OpenSpec.ofChange hrwRanksWrong)

/-- 'counterfoillaw42.MaglevEven': WHATEVER THE INPUT: true; the input reads as it did. -/
def maglevEvenSpec : ChangeSpec := { name := "maglevEven", fn := fun _ => fun
  | [d1, d2, d3, d4] => { results := [.lit (.bool true)], args := [d1, d2, d3, d4] }
  | _ => none }
def maglevEvenRow : OpenClaim := { program := "ythjkjohmaemmiaa", sum := "ab69e5d9ad1e412a489b47c11b2d60fbb27f6b2f80130090ab0d4a1ebf751870", func := "counterfoil/counterfoillaw42.MaglevEven", spec := "maglevEven", apart := false }
def MaglevEvenSaid : Prop := maglevEvenRow.holds Try.pinned (OpenSpec.ofChange maglevEvenSpec)

/-- ITS FALSE NEIGHBOUR: 'it returns false'. Refute it at one input. -/
def maglevEvenWrong : ChangeSpec := { name := "maglevEven", fn := fun _ => fun
  | [d1, d2, d3, d4] => { results := [.lit (.bool false)], args := [d1, d2, d3, d4] }
  | _ => none }
def MaglevEvenWrongFalsely : Prop := maglevEvenRow.holds Try.pinned (OpenSpec.ofChange maglevEvenWrong)

/-- 'counterfoillaw42.MaglevBuilds': WHATEVER THE INPUT: true; the input reads as it did. -/
def maglevBuildsSpec : ChangeSpec := { name := "maglevBuilds", fn := fun _ => fun
  | [d1, d2, d3, d4, d5] => { results := [.lit (.bool true)], args := [d1, d2, d3, d4, d5] }
  | _ => none }
def maglevBuildsRow : OpenClaim := { program := "ythjkjohmaemmiaa", sum := "ab69e5d9ad1e412a489b47c11b2d60fbb27f6b2f80130090ab0d4a1ebf751870", func := "counterfoil/counterfoillaw42.MaglevBuilds", spec := "maglevBuilds", apart := false }
def MaglevBuildsSaid : Prop := maglevBuildsRow.holds Try.pinned (OpenSpec.ofChange maglevBuildsSpec)

/-- ITS FALSE NEIGHBOUR: 'it returns false'. Refute it at one input. -/
def maglevBuildsWrong : ChangeSpec := { name := "maglevBuilds", fn := fun _ => fun
  | [d1, d2, d3, d4, d5] => { results := [.lit (.bool false)], args := [d1, d2, d3, d4, d5] }
  | _ => none }
def MaglevBuildsWrongFalsely : Prop := maglevBuildsRow.holds Try.pinned (OpenSpec.ofChange maglevBuildsWrong)

/- THE SECOND FORM. 'bulk': how many values and letters a reading holds, each counted each time it is reached (what is shared counts as often as it is met; a slice's spare places count too). A statement '..UptoSaid' is the law's where the arguments, and the package variables that the reading takes, are together of bulk at most 1048576: NARROWER than '..Said'. Prove '..Said' where nothing that the law and all that it calls make is longer than what came in: it says more and counts as full. Else prove '..UptoSaid'. A law counts once. -/
mutual
def uptoBulk {H : Type} : DataW H → Nat
  | .lit (.string bytes) => bytes.length + 1
  | .lit _ => 1
  | .nil => 1
  | .ptr d => uptoBulk d + 1
  | .slice elems spare => uptoBulkAll elems + uptoBulkAll spare + 1
  | .agg parts => uptoBulkAll parts + 1
  | .iface _ d => uptoBulk d + 1
  | .map entries => uptoBulkEntries entries + 1
  | .held _ => 1
def uptoBulkAll {H : Type} : List (DataW H) → Nat
  | [] => 0
  | d :: r => uptoBulk d + uptoBulkAll r
def uptoBulkEntries {H : Type} : List (Lit × DataW H) → Nat
  | [] => 0
  | x :: r => uptoBulkEntry x + uptoBulkEntries r
def uptoBulkEntry {H : Type} : Lit × DataW H → Nat
  | (.string bytes, d) => bytes.length + uptoBulk d + 1
  | (_, d) => uptoBulk d + 1
 end
def uptoSmall : (H : Type) → List (DataW H) → Bool := fun _ ds => decide (uptoBulkAll ds ≤ 1048576)
def OpenSpec.upto (s : _root_.Go.ChangeSpec) : _root_.Go.OpenSpec := { _root_.Go.OpenSpec.ofChange s with cond := some uptoSmall }

/-- 'counterfoillaw41.SpreadSums', WHERE WHAT IT READS IS OF BULK AT MOST 1048576: true; the input reads as it did. -/
def spreadSumsUptoRow : OpenClaim := { program := "ythjkjohmaemmiaa", sum := "ab69e5d9ad1e412a489b47c11b2d60fbb27f6b2f80130090ab0d4a1ebf751870", func := "counterfoil/counterfoillaw41.SpreadSums", spec := "spreadSums", apart := false, narrowed := true }
def SpreadSumsUptoSaid : Prop := spreadSumsUptoRow.holds Try.pinned (OpenSpec.upto spreadSumsSpec)

/-- 'counterfoillaw12.CookieBack', WHERE WHAT IT READS IS OF BULK AT MOST 1048576: true; the input reads as it did. -/
def cookieBackUptoRow : OpenClaim := { program := "ythjkjohmaemmiaa", sum := "ab69e5d9ad1e412a489b47c11b2d60fbb27f6b2f80130090ab0d4a1ebf751870", func := "counterfoil/counterfoillaw12.CookieBack", spec := "cookieBack", apart := false, narrowed := true }
def CookieBackUptoSaid : Prop := cookieBackUptoRow.holds Try.pinned (OpenSpec.upto cookieBackSpec)

/-- 'counterfoillaw13.CidReads', WHERE WHAT IT READS IS OF BULK AT MOST 1048576: true; the input reads as it did. -/
def cidReadsUptoRow : OpenClaim := { program := "ythjkjohmaemmiaa", sum := "ab69e5d9ad1e412a489b47c11b2d60fbb27f6b2f80130090ab0d4a1ebf751870", func := "counterfoil/counterfoillaw13.CidReads", spec := "cidReads", apart := false, narrowed := true }
def CidReadsUptoSaid : Prop := cidReadsUptoRow.holds Try.pinned (OpenSpec.upto cidReadsSpec)

/-- 'counterfoillaw13.CidMakes', WHERE WHAT IT READS IS OF BULK AT MOST 1048576: true; the input reads as it did. -/
def cidMakesUptoRow : OpenClaim := { program := "ythjkjohmaemmiaa", sum := "ab69e5d9ad1e412a489b47c11b2d60fbb27f6b2f80130090ab0d4a1ebf751870", func := "counterfoil/counterfoillaw13.CidMakes", spec := "cidMakes", apart := false, narrowed := true }
def CidMakesUptoSaid : Prop := cidMakesUptoRow.holds Try.pinned (OpenSpec.upto cidMakesSpec)

/-- 'counterfoillaw13.CidLeases', WHERE WHAT IT READS IS OF BULK AT MOST 1048576: true; the input reads as it did. -/
def cidLeasesUptoRow : OpenClaim := { program := "ythjkjohmaemmiaa", sum := "ab69e5d9ad1e412a489b47c11b2d60fbb27f6b2f80130090ab0d4a1ebf751870", func := "counterfoil/counterfoillaw13.CidLeases", spec := "cidLeases", apart := false, narrowed := true }
def CidLeasesUptoSaid : Prop := cidLeasesUptoRow.holds Try.pinned (OpenSpec.upto cidLeasesSpec)

/-- 'counterfoillaw40.LpmCuts', WHERE WHAT IT READS IS OF BULK AT MOST 1048576: true; the input reads as it did. -/
def lpmCutsUptoRow : OpenClaim := { program := "ythjkjohmaemmiaa", sum := "ab69e5d9ad1e412a489b47c11b2d60fbb27f6b2f80130090ab0d4a1ebf751870", func := "counterfoil/counterfoillaw40.LpmCuts", spec := "lpmCuts", apart := false, narrowed := true }
def LpmCutsUptoSaid : Prop := lpmCutsUptoRow.holds Try.pinned (OpenSpec.upto lpmCutsSpec)

/-- 'counterfoillaw16.HrwKeeps', WHERE WHAT IT READS IS OF BULK AT MOST 1048576: true; the input reads as it did. -/
def hrwKeepsUptoRow : OpenClaim := { program := "ythjkjohmaemmiaa", sum := "ab69e5d9ad1e412a489b47c11b2d60fbb27f6b2f80130090ab0d4a1ebf751870", func := "counterfoil/counterfoillaw16.HrwKeeps", spec := "hrwKeeps", unfollowed := true, recurses := true, apart := false, narrowed := true }
def HrwKeepsUptoSaid : Prop := hrwKeepsUptoRow.holds Try.pinned (OpenSpec.upto hrwKeepsSpec)

/-- 'counterfoillaw16.HrwRanks', WHERE WHAT IT READS IS OF BULK AT MOST 1048576: true; the input reads as it did. -/
def hrwRanksUptoRow : OpenClaim := { program := "ythjkjohmaemmiaa", sum := "ab69e5d9ad1e412a489b47c11b2d60fbb27f6b2f80130090ab0d4a1ebf751870", func := "counterfoil/counterfoillaw16.HrwRanks", spec := "hrwRanks", unfollowed := true, recurses := true, apart := false, narrowed := true }
def HrwRanksUptoSaid : Prop := hrwRanksUptoRow.holds Try.pinned (OpenSpec.upto hrwRanksSpec)

/-- 'counterfoillaw42.MaglevEven', WHERE WHAT IT READS IS OF BULK AT MOST 1048576: true; the input reads as it did. -/
def maglevEvenUptoRow : OpenClaim := { program := "ythjkjohmaemmiaa", sum := "ab69e5d9ad1e412a489b47c11b2d60fbb27f6b2f80130090ab0d4a1ebf751870", func := "counterfoil/counterfoillaw42.MaglevEven", spec := "maglevEven", apart := false, narrowed := true }
def MaglevEvenUptoSaid : Prop := maglevEvenUptoRow.holds Try.pinned (OpenSpec.upto maglevEvenSpec)

/-- 'counterfoillaw42.MaglevBuilds', WHERE WHAT IT READS IS OF BULK AT MOST 1048576: true; the input reads as it did. -/
def maglevBuildsUptoRow : OpenClaim := { program := "ythjkjohmaemmiaa", sum := "ab69e5d9ad1e412a489b47c11b2d60fbb27f6b2f80130090ab0d4a1ebf751870", func := "counterfoil/counterfoillaw42.MaglevBuilds", spec := "maglevBuilds", apart := false, narrowed := true }
def MaglevBuildsUptoSaid : Prop := maglevBuildsUptoRow.holds Try.pinned (OpenSpec.upto maglevBuildsSpec)

end Rows
end Go.Proofs.Ythjkjohmaemmiaa
