/-
  No cell of these rows narrows 'for every input' (looked for: loops, veiled, ifaces, maps, wideKeys, modest, calm, conditions, laid).
  DERIVED. THE GIVEN ROWS OF THIS SEAT. 9 by the template 'for every input the law returns true; each argument reads behind the call as it read before'; 0 by the template 'total and deterministic' (their statements: YtppafabmmcdlfaaTotals.lean).
  GIVEN WITH THE SEED: the statements are not yours to turn. If you find one false, say at which input.
  Laid BY PROGRAM, IN A SANDBOX (cutbox-rows.mjs): the forced cells as the released guide's own fill.sh prints them over the translation 15d613373e62b581… (all of the seat's roots in one cut). By AI agents, Wed Nov 11 2026. No macro, syntax, notation, axiom, sorry.
-/
import Derived.Test.YtppafabmmcdlfaaChecked
import GoSem.Claim
import GoSem.ClaimJoined
import GoSem.ClaimMapViews
import Derived.JoinedTies
import Derived.KernelRfl
namespace Go.Proofs.Ytppafabmmcdlfaa
/- THE CELL 'sum', in the pinned program and in every row, IS THE sha256 OF THE DUMP (.gsa) THAT YtppafabmmcdlfaaProg.lean LOADS. Nothing in Lean hashes anything: it is a label: what it is worth is what the hold of that sum in a sandbox is worth. -/
noncomputable def Try.pinned : Pinned := { name := "ytppafabmmcdlfaa", sum := "15d613373e62b5814c01a0ff6ba0577f06f5b4943d15e86edbd76b5ac4dc0d70", checked := Try.checked }
namespace Rows
def none {H : Type} : Left H := { results := [], args := [] }

/-- 'counterfoillaw12.CookieTicks': WHATEVER THE INPUT: true; the input reads as it did. -/
def cookieTicksSpec : ChangeSpec := { name := "cookieTicks", fn := fun _ => fun
  | [d1, d2, d3, d4] => { results := [.lit (.bool true)], args := [d1, d2, d3, d4] }
  | _ => none }
def cookieTicksRow : OpenClaim := { program := "ytppafabmmcdlfaa", sum := "15d613373e62b5814c01a0ff6ba0577f06f5b4943d15e86edbd76b5ac4dc0d70", func := "counterfoil/counterfoillaw12.CookieTicks", spec := "cookieTicks", apart := false }
def CookieTicksSaid : Prop := cookieTicksRow.holds Try.pinned (OpenSpec.ofChange cookieTicksSpec)

/-- ITS FALSE NEIGHBOUR: 'it returns false'. Refute it at one input. -/
def cookieTicksWrong : ChangeSpec := { name := "cookieTicks", fn := fun _ => fun
  | [d1, d2, d3, d4] => { results := [.lit (.bool false)], args := [d1, d2, d3, d4] }
  | _ => none }
def CookieTicksWrongFalsely : Prop := cookieTicksRow.holds Try.pinned (OpenSpec.ofChange cookieTicksWrong)

/-- 'counterfoillaw12.CookieRestores': WHATEVER THE INPUT: true; the input reads as it did. -/
def cookieRestoresSpec : ChangeSpec := { name := "cookieRestores", fn := fun _ => fun
  | [d1, d2, d3, d4] => { results := [.lit (.bool true)], args := [d1, d2, d3, d4] }
  | _ => none }
def cookieRestoresRow : OpenClaim := { program := "ytppafabmmcdlfaa", sum := "15d613373e62b5814c01a0ff6ba0577f06f5b4943d15e86edbd76b5ac4dc0d70", func := "counterfoil/counterfoillaw12.CookieRestores", spec := "cookieRestores", apart := false }
def CookieRestoresSaid : Prop := cookieRestoresRow.holds Try.pinned (OpenSpec.ofChange cookieRestoresSpec)

/-- ITS FALSE NEIGHBOUR: 'it returns false'. Refute it at one input. -/
def cookieRestoresWrong : ChangeSpec := { name := "cookieRestores", fn := fun _ => fun
  | [d1, d2, d3, d4] => { results := [.lit (.bool false)], args := [d1, d2, d3, d4] }
  | _ => none }
def CookieRestoresWrongFalsely : Prop := cookieRestoresRow.holds Try.pinned (OpenSpec.ofChange cookieRestoresWrong)

/-- 'counterfoillaw18.TurnAll': WHATEVER THE INPUT: true; the input reads as it did. -/
def turnAllSpec : ChangeSpec := { name := "turnAll", fn := fun _ => fun
  | [d1, d2] => { results := [.lit (.bool true)], args := [d1, d2] }
  | _ => none }
def turnAllRow : OpenClaim := { program := "ytppafabmmcdlfaa", sum := "15d613373e62b5814c01a0ff6ba0577f06f5b4943d15e86edbd76b5ac4dc0d70", func := "counterfoil/counterfoillaw18.TurnAll", spec := "turnAll", apart := false }
def TurnAllSaid : Prop := turnAllRow.holds Try.pinned (OpenSpec.ofChange turnAllSpec)

/-- ITS FALSE NEIGHBOUR: 'it returns false'. Refute it at one input. -/
def turnAllWrong : ChangeSpec := { name := "turnAll", fn := fun _ => fun
  | [d1, d2] => { results := [.lit (.bool false)], args := [d1, d2] }
  | _ => none }
def TurnAllWrongFalsely : Prop := turnAllRow.holds Try.pinned (OpenSpec.ofChange turnAllWrong)

/-- 'counterfoillaw18.TurnTwo': WHATEVER THE INPUT: true; the input reads as it did. -/
def turnTwoSpec : ChangeSpec := { name := "turnTwo", fn := fun _ => fun
  | [d1, d2, d3] => { results := [.lit (.bool true)], args := [d1, d2, d3] }
  | _ => none }
def turnTwoRow : OpenClaim := { program := "ytppafabmmcdlfaa", sum := "15d613373e62b5814c01a0ff6ba0577f06f5b4943d15e86edbd76b5ac4dc0d70", func := "counterfoil/counterfoillaw18.TurnTwo", spec := "turnTwo", apart := false }
def TurnTwoSaid : Prop := turnTwoRow.holds Try.pinned (OpenSpec.ofChange turnTwoSpec)

/-- ITS FALSE NEIGHBOUR: 'it returns false'. Refute it at one input. -/
def turnTwoWrong : ChangeSpec := { name := "turnTwo", fn := fun _ => fun
  | [d1, d2, d3] => { results := [.lit (.bool false)], args := [d1, d2, d3] }
  | _ => none }
def TurnTwoWrongFalsely : Prop := turnTwoRow.holds Try.pinned (OpenSpec.ofChange turnTwoWrong)

/-- 'counterfoillaw18.TurnPicks': WHATEVER THE INPUT: true; the input reads as it did. -/
def turnPicksSpec : ChangeSpec := { name := "turnPicks", fn := fun _ => fun
  | [d] => { results := [.lit (.bool true)], args := [d] }
  | _ => none }
def turnPicksRow : OpenClaim := { program := "ytppafabmmcdlfaa", sum := "15d613373e62b5814c01a0ff6ba0577f06f5b4943d15e86edbd76b5ac4dc0d70", func := "counterfoil/counterfoillaw18.TurnPicks", spec := "turnPicks", apart := false }
def TurnPicksSaid : Prop := turnPicksRow.holds Try.pinned (OpenSpec.ofChange turnPicksSpec)

/-- ITS FALSE NEIGHBOUR: 'it returns false'. Refute it at one input. -/
def turnPicksWrong : ChangeSpec := { name := "turnPicks", fn := fun _ => fun
  | [d] => { results := [.lit (.bool false)], args := [d] }
  | _ => none }
def TurnPicksWrongFalsely : Prop := turnPicksRow.holds Try.pinned (OpenSpec.ofChange turnPicksWrong)

/-- 'counterfoillaw39.VarintNumbers': WHATEVER THE INPUT: true; the input reads as it did. -/
def varintNumbersSpec : ChangeSpec := { name := "varintNumbers", fn := fun _ => fun
  | [d1, d2, d3, d4, d5] => { results := [.lit (.bool true)], args := [d1, d2, d3, d4, d5] }
  | _ => none }
def varintNumbersRow : OpenClaim := { program := "ytppafabmmcdlfaa", sum := "15d613373e62b5814c01a0ff6ba0577f06f5b4943d15e86edbd76b5ac4dc0d70", func := "counterfoil/counterfoillaw39.VarintNumbers", spec := "varintNumbers", apart := false }
def VarintNumbersSaid : Prop := varintNumbersRow.holds Try.pinned (OpenSpec.ofChange varintNumbersSpec)

/-- ITS FALSE NEIGHBOUR: 'it returns false'. Refute it at one input. -/
def varintNumbersWrong : ChangeSpec := { name := "varintNumbers", fn := fun _ => fun
  | [d1, d2, d3, d4, d5] => { results := [.lit (.bool false)], args := [d1, d2, d3, d4, d5] }
  | _ => none }
def VarintNumbersWrongFalsely : Prop := varintNumbersRow.holds Try.pinned (OpenSpec.ofChange varintNumbersWrong)

/-- 'counterfoillaw39.VarintBack': WHATEVER THE INPUT: true; the input reads as it did. -/
def varintBackSpec : ChangeSpec := { name := "varintBack", fn := fun _ => fun
  | [d1, d2, d3] => { results := [.lit (.bool true)], args := [d1, d2, d3] }
  | _ => none }
def varintBackRow : OpenClaim := { program := "ytppafabmmcdlfaa", sum := "15d613373e62b5814c01a0ff6ba0577f06f5b4943d15e86edbd76b5ac4dc0d70", func := "counterfoil/counterfoillaw39.VarintBack", spec := "varintBack", apart := false }
def VarintBackSaid : Prop := varintBackRow.holds Try.pinned (OpenSpec.ofChange varintBackSpec)

/-- ITS FALSE NEIGHBOUR: 'it returns false'. Refute it at one input. -/
def varintBackWrong : ChangeSpec := { name := "varintBack", fn := fun _ => fun
  | [d1, d2, d3] => { results := [.lit (.bool false)], args := [d1, d2, d3] }
  | _ => none }
def VarintBackWrongFalsely : Prop := varintBackRow.holds Try.pinned (OpenSpec.ofChange varintBackWrong)

/-- 'counterfoillaw43.MeterBuckets': WHATEVER THE INPUT: true; the input reads as it did. -/
def meterBucketsSpec : ChangeSpec := { name := "meterBuckets", fn := fun _ => fun
  | [d1, d2, d3] => { results := [.lit (.bool true)], args := [d1, d2, d3] }
  | _ => none }
def meterBucketsRow : OpenClaim := { program := "ytppafabmmcdlfaa", sum := "15d613373e62b5814c01a0ff6ba0577f06f5b4943d15e86edbd76b5ac4dc0d70", func := "counterfoil/counterfoillaw43.MeterBuckets", spec := "meterBuckets", apart := false }
def MeterBucketsSaid : Prop := meterBucketsRow.holds Try.pinned (OpenSpec.ofChange meterBucketsSpec)

/-- ITS FALSE NEIGHBOUR: 'it returns false'. Refute it at one input. -/
def meterBucketsWrong : ChangeSpec := { name := "meterBuckets", fn := fun _ => fun
  | [d1, d2, d3] => { results := [.lit (.bool false)], args := [d1, d2, d3] }
  | _ => none }
def MeterBucketsWrongFalsely : Prop := meterBucketsRow.holds Try.pinned (OpenSpec.ofChange meterBucketsWrong)

/-- 'counterfoillaw43.MeterBounds': WHATEVER THE INPUT: true; the input reads as it did. -/
def meterBoundsSpec : ChangeSpec := { name := "meterBounds", fn := fun _ => fun
  | [d1, d2, d3] => { results := [.lit (.bool true)], args := [d1, d2, d3] }
  | _ => none }
def meterBoundsRow : OpenClaim := { program := "ytppafabmmcdlfaa", sum := "15d613373e62b5814c01a0ff6ba0577f06f5b4943d15e86edbd76b5ac4dc0d70", func := "counterfoil/counterfoillaw43.MeterBounds", spec := "meterBounds", apart := false }
def MeterBoundsSaid : Prop := meterBoundsRow.holds Try.pinned (OpenSpec.ofChange meterBoundsSpec)

/-- ITS FALSE NEIGHBOUR: 'it returns false'. Refute it at one input. -/
def meterBoundsWrong : ChangeSpec := { name := "meterBounds", fn := fun _ => fun
  | [d1, d2, d3] => { results := [.lit (.bool false)], args := [d1, d2, d3] }
  | _ => none }
def MeterBoundsWrongFalsely : Prop := meterBoundsRow.holds Try.pinned (OpenSpec.ofChange meterBoundsWrong)

/- THE SECOND FORM. 'bulk': how many values and letters a reading holds, each counted each time it is reached (what is shared counts as often as it is met; a slice's spare places count too). A statement '..UptoSaid' is the law's where the arguments, and the package variables that the reading takes, are together of bulk at most 1048576: NARROWER than '..Said'. Prove '..Said' where nothing that the law and all that it calls make is longer than what came in: it says more and counts as full. Else prove '..UptoSaid'. A law counts once. -/
mutual
def uptoBulk {H : Type} : DataW H → Nat
  | .lit (.string bytes) => bytes.length + 1
  | .lit _ => 1
  | .nil => 1
  | .ptr d => uptoBulk d + 1
  | .slice elems spare => uptoBulkAll elems + uptoBulkAll spare + 1
  | .agg parts => uptoBulkAll parts + 1
  | .iface _ d => uptoBulk d + 1
  | .map entries => uptoBulkEntries entries + 1
  | .held _ => 1
def uptoBulkAll {H : Type} : List (DataW H) → Nat
  | [] => 0
  | d :: r => uptoBulk d + uptoBulkAll r
def uptoBulkEntries {H : Type} : List (Lit × DataW H) → Nat
  | [] => 0
  | x :: r => uptoBulkEntry x + uptoBulkEntries r
def uptoBulkEntry {H : Type} : Lit × DataW H → Nat
  | (.string bytes, d) => bytes.length + uptoBulk d + 1
  | (_, d) => uptoBulk d + 1
 end
def uptoSmall : (H : Type) → List (DataW H) → Bool := fun _ ds => decide (uptoBulkAll ds ≤ 1048576)
def OpenSpec.upto (s : _root_.Go.ChangeSpec) : _root_.Go.OpenSpec := { _root_.Go.OpenSpec.ofChange s with cond := some uptoSmall }

/-- 'counterfoillaw12.CookieTicks', WHERE WHAT IT READS IS OF BULK AT MOST 1048576: true; the input reads as it did. -/
def cookieTicksUptoRow : OpenClaim := { program := "ytppafabmmcdlfaa", sum := "15d613373e62b5814c01a0ff6ba0577f06f5b4943d15e86edbd76b5ac4dc0d70", func := "counterfoil/counterfoillaw12.CookieTicks", spec := "cookieTicks", apart := false, narrowed := true }
def CookieTicksUptoSaid : Prop := cookieTicksUptoRow.holds Try.pinned (OpenSpec.upto cookieTicksSpec)

/-- 'counterfoillaw12.CookieRestores', WHERE WHAT IT READS IS OF BULK AT MOST 1048576: true; the input reads as it did. -/
def cookieRestoresUptoRow : OpenClaim := { program := "ytppafabmmcdlfaa", sum := "15d613373e62b5814c01a0ff6ba0577f06f5b4943d15e86edbd76b5ac4dc0d70", func := "counterfoil/counterfoillaw12.CookieRestores", spec := "cookieRestores", apart := false, narrowed := true }
def CookieRestoresUptoSaid : Prop := cookieRestoresUptoRow.holds Try.pinned (OpenSpec.upto cookieRestoresSpec)

/-- 'counterfoillaw18.TurnAll', WHERE WHAT IT READS IS OF BULK AT MOST 1048576: true; the input reads as it did. -/
def turnAllUptoRow : OpenClaim := { program := "ytppafabmmcdlfaa", sum := "15d613373e62b5814c01a0ff6ba0577f06f5b4943d15e86edbd76b5ac4dc0d70", func := "counterfoil/counterfoillaw18.TurnAll", spec := "turnAll", apart := false, narrowed := true }
def TurnAllUptoSaid : Prop := turnAllUptoRow.holds Try.pinned (OpenSpec.upto turnAllSpec)

/-- 'counterfoillaw18.TurnTwo', WHERE WHAT IT READS IS OF BULK AT MOST 1048576: true; the input reads as it did. -/
def turnTwoUptoRow : OpenClaim := { program := "ytppafabmmcdlfaa", sum := "15d613373e62b5814c01a0ff6ba0577f06f5b4943d15e86edbd76b5ac4dc0d70", func := "counterfoil/counterfoillaw18.TurnTwo", spec := "turnTwo", apart := false, narrowed := true }
def TurnTwoUptoSaid : Prop := turnTwoUptoRow.holds Try.pinned (OpenSpec.upto turnTwoSpec)

/-- 'counterfoillaw18.TurnPicks', WHERE WHAT IT READS IS OF BULK AT MOST 1048576: true; the input reads as it did. -/
def turnPicksUptoRow : OpenClaim := { program := "ytppafabmmcdlfaa", sum := "15d613373e62b5814c01a0ff6ba0577f06f5b4943d15e86edbd76b5ac4dc0d70", func := "counterfoil/counterfoillaw18.TurnPicks", spec := "turnPicks", apart := false, narrowed := true }
def TurnPicksUptoSaid : Prop := turnPicksUptoRow.holds Try.pinned (OpenSpec.upto turnPicksSpec)

/-- 'counterfoillaw39.VarintNumbers', WHERE WHAT IT READS IS OF BULK AT MOST 1048576: true; the input reads as it did. -/
def varintNumbersUptoRow : OpenClaim := { program := "ytppafabmmcdlfaa", sum := "15d613373e62b5814c01a0ff6ba0577f06f5b4943d15e86edbd76b5ac4dc0d70", func := "counterfoil/counterfoillaw39.VarintNumbers", spec := "varintNumbers", apart := false, narrowed := true }
def VarintNumbersUptoSaid : Prop := varintNumbersUptoRow.holds Try.pinned (OpenSpec.upto varintNumbersSpec)

/-- 'counterfoillaw39.VarintBack', WHERE WHAT IT READS IS OF BULK AT MOST 1048576: true; the input reads as it did. -/
def varintBackUptoRow : OpenClaim := { program := "ytppafabmmcdlfaa", sum := "15d613373e62b5814c01a0ff6ba0577f06f5b4943d15e86edbd76b5ac4dc0d70", func := "counterfoil/counterfoillaw39.VarintBack", spec := "varintBack", apart := false, narrowed := true }
def VarintBackUptoSaid : Prop := varintBackUptoRow.holds Try.pinned (OpenSpec.upto varintBackSpec)

/-- 'counterfoillaw43.MeterBuckets', WHERE WHAT IT READS IS OF BULK AT MOST 1048576: true; the input reads as it did. -/
def meterBucketsUptoRow : OpenClaim := { program := "ytppafabmmcdlfaa", sum := "15d613373e62b5814c01a0ff6ba0577f06f5b4943d15e86edbd76b5ac4dc0d70", func := "counterfoil/counterfoillaw43.MeterBuckets", spec := "meterBuckets", apart := false, narrowed := true }
def MeterBucketsUptoSaid : Prop := meterBucketsUptoRow.holds Try.pinned (OpenSpec.upto meterBucketsSpec)

/-- 'counterfoillaw43.MeterBounds', WHERE WHAT IT READS IS OF BULK AT MOST 1048576: true; the input reads as it did. -/
def meterBoundsUptoRow : OpenClaim := { program := "ytppafabmmcdlfaa", sum := "15d613373e62b5814c01a0ff6ba0577f06f5b4943d15e86edbd76b5ac4dc0d70", func := "counterfoil/counterfoillaw43.MeterBounds", spec := "meterBounds", apart := false, narrowed := true }
def MeterBoundsUptoSaid : Prop := meterBoundsUptoRow.holds Try.pinned (OpenSpec.upto meterBoundsSpec)

end Rows
end Go.Proofs.Ytppafabmmcdlfaa
