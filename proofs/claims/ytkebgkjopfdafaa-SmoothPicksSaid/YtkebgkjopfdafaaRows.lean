/-
  No cell of these rows narrows 'for every input' (looked for: loops, veiled, ifaces, maps, wideKeys, modest, calm, conditions, laid).
  DERIVED. THE GIVEN ROWS OF THIS SEAT. 12 by the template 'for every input the law returns true; each argument reads behind the call as it read before'; 0 by the template 'total and deterministic' (their statements: YtkebgkjopfdafaaTotals.lean).
  GIVEN WITH THE SEED: the statements are not yours to turn. If you find one false, say at which input.
  Laid BY PROGRAM, IN A SANDBOX (cutbox-rows.mjs): the forced cells as the released guide's own fill.sh prints them over the translation f4533d3ed87e8faa… (all of the seat's roots in one cut). By AI agents, Wed Nov 11 2026. No macro, syntax, notation, axiom, sorry.
-/
import Derived.Test.YtkebgkjopfdafaaChecked
import GoSem.Claim
import GoSem.ClaimJoined
import GoSem.ClaimMapViews
import Derived.JoinedTies
import Derived.KernelRfl
namespace Go.Proofs.Ytkebgkjopfdafaa
/- THE CELL 'sum', in the pinned program and in every row, IS THE sha256 OF THE DUMP (.gsa) THAT YtkebgkjopfdafaaProg.lean LOADS. Nothing in Lean hashes anything: it is a label: what it is worth is what the hold of that sum in a sandbox is worth. -/
noncomputable def Try.pinned : Pinned := { name := "ytkebgkjopfdafaa", sum := "f4533d3ed87e8faa0b6f3c4094e83c43b25bf6d7f70ab9bb05a78e778b648c8f", checked := Try.checked }
namespace Rows
def none {H : Type} : Left H := { results := [], args := [] }

/-- 'counterfoillaw18.TurnTwo': WHATEVER THE INPUT: true; the input reads as it did. -/
def turnTwoSpec : ChangeSpec := { name := "turnTwo", fn := fun _ => fun
  | [d1, d2, d3] => { results := [.lit (.bool true)], args := [d1, d2, d3] }
  | _ => none }
def turnTwoRow : OpenClaim := { program := "ytkebgkjopfdafaa", sum := "f4533d3ed87e8faa0b6f3c4094e83c43b25bf6d7f70ab9bb05a78e778b648c8f", func := "counterfoil/counterfoillaw18.TurnTwo", spec := "turnTwo", plainKeys := false, apart := false }
def TurnTwoSaid : Prop := turnTwoRow.holds Try.pinned (OpenSpec.ofChange turnTwoSpec)

/-- ITS FALSE NEIGHBOUR: 'it returns false'. Refute it at one input. -/
def turnTwoWrong : ChangeSpec := { name := "turnTwo", fn := fun _ => fun
  | [d1, d2, d3] => { results := [.lit (.bool false)], args := [d1, d2, d3] }
  | _ => none }
def TurnTwoWrongFalsely : Prop := turnTwoRow.holds Try.pinned (OpenSpec.ofChange turnTwoWrong)

/-- 'counterfoillaw18.TurnPicks': WHATEVER THE INPUT: true; the input reads as it did. -/
def turnPicksSpec : ChangeSpec := { name := "turnPicks", fn := fun _ => fun
  | [d] => { results := [.lit (.bool true)], args := [d] }
  | _ => none }
def turnPicksRow : OpenClaim := { program := "ytkebgkjopfdafaa", sum := "f4533d3ed87e8faa0b6f3c4094e83c43b25bf6d7f70ab9bb05a78e778b648c8f", func := "counterfoil/counterfoillaw18.TurnPicks", spec := "turnPicks", plainKeys := false, apart := false }
def TurnPicksSaid : Prop := turnPicksRow.holds Try.pinned (OpenSpec.ofChange turnPicksSpec)

/-- ITS FALSE NEIGHBOUR: 'it returns false'. Refute it at one input. -/
def turnPicksWrong : ChangeSpec := { name := "turnPicks", fn := fun _ => fun
  | [d] => { results := [.lit (.bool false)], args := [d] }
  | _ => none }
def TurnPicksWrongFalsely : Prop := turnPicksRow.holds Try.pinned (OpenSpec.ofChange turnPicksWrong)

/-- 'counterfoillaw43.MeterBuckets': WHATEVER THE INPUT: true; the input reads as it did. -/
def meterBucketsSpec : ChangeSpec := { name := "meterBuckets", fn := fun _ => fun
  | [d1, d2, d3] => { results := [.lit (.bool true)], args := [d1, d2, d3] }
  | _ => none }
def meterBucketsRow : OpenClaim := { program := "ytkebgkjopfdafaa", sum := "f4533d3ed87e8faa0b6f3c4094e83c43b25bf6d7f70ab9bb05a78e778b648c8f", func := "counterfoil/counterfoillaw43.MeterBuckets", spec := "meterBuckets", plainKeys := false, apart := false }
def MeterBucketsSaid : Prop := meterBucketsRow.holds Try.pinned (OpenSpec.ofChange meterBucketsSpec)

/-- ITS FALSE NEIGHBOUR: 'it returns false'. Refute it at one input. -/
def meterBucketsWrong : ChangeSpec := { name := "meterBuckets", fn := fun _ => fun
  | [d1, d2, d3] => { results := [.lit (.bool false)], args := [d1, d2, d3] }
  | _ => none }
def MeterBucketsWrongFalsely : Prop := meterBucketsRow.holds Try.pinned (OpenSpec.ofChange meterBucketsWrong)

/-- 'counterfoillaw19.SmoothShares': WHATEVER THE INPUT: true; the input reads as it did. -/
def smoothSharesSpec : ChangeSpec := { name := "smoothShares", fn := fun _ => fun
  | [d1, d2] => { results := [.lit (.bool true)], args := [d1, d2] }
  | _ => none }
def smoothSharesRow : OpenClaim := { program := "ytkebgkjopfdafaa", sum := "f4533d3ed87e8faa0b6f3c4094e83c43b25bf6d7f70ab9bb05a78e778b648c8f", func := "counterfoil/counterfoillaw19.SmoothShares", spec := "smoothShares", plainKeys := false, apart := false }
def SmoothSharesSaid : Prop := smoothSharesRow.holds Try.pinned (OpenSpec.ofChange smoothSharesSpec)

/-- ITS FALSE NEIGHBOUR: 'it returns false'. Refute it at one input. -/
def smoothSharesWrong : ChangeSpec := { name := "smoothShares", fn := fun _ => fun
  | [d1, d2] => { results := [.lit (.bool false)], args := [d1, d2] }
  | _ => none }
def SmoothSharesWrongFalsely : Prop := smoothSharesRow.holds Try.pinned (OpenSpec.ofChange smoothSharesWrong)

/-- 'counterfoillaw19.SmoothPicks': WHATEVER THE INPUT: true; the input reads as it did. -/
def smoothPicksSpec : ChangeSpec := { name := "smoothPicks", fn := fun _ => fun
  | [d1, d2] => { results := [.lit (.bool true)], args := [d1, d2] }
  | _ => none }
def smoothPicksRow : OpenClaim := { program := "ytkebgkjopfdafaa", sum := "f4533d3ed87e8faa0b6f3c4094e83c43b25bf6d7f70ab9bb05a78e778b648c8f", func := "counterfoil/counterfoillaw19.SmoothPicks", spec := "smoothPicks", plainKeys := false, apart := false }
def SmoothPicksSaid : Prop := smoothPicksRow.holds Try.pinned (OpenSpec.ofChange smoothPicksSpec)

/-- ITS FALSE NEIGHBOUR: 'it returns false'. Refute it at one input. -/
def smoothPicksWrong : ChangeSpec := { name := "smoothPicks", fn := fun _ => fun
  | [d1, d2] => { results := [.lit (.bool false)], args := [d1, d2] }
  | _ => none }
def SmoothPicksWrongFalsely : Prop := smoothPicksRow.holds Try.pinned (OpenSpec.ofChange smoothPicksWrong)

/-- 'counterfoillaw20.LeastPicks': WHATEVER THE INPUT: true; the input reads as it did. -/
def leastPicksSpec : ChangeSpec := { name := "leastPicks", fn := fun _ => fun
  | [d] => { results := [.lit (.bool true)], args := [d] }
  | _ => none }
def leastPicksRow : OpenClaim := { program := "ytkebgkjopfdafaa", sum := "f4533d3ed87e8faa0b6f3c4094e83c43b25bf6d7f70ab9bb05a78e778b648c8f", func := "counterfoil/counterfoillaw20.LeastPicks", spec := "leastPicks", unfollowed := true, recurses := true, plainKeys := false, apart := false }
def LeastPicksSaid : Prop := leastPicksRow.holds Try.pinned (OpenSpec.ofChange leastPicksSpec)

/-- ITS FALSE NEIGHBOUR: 'it returns false'. Refute it at one input. -/
def leastPicksWrong : ChangeSpec := { name := "leastPicks", fn := fun _ => fun
  | [d] => { results := [.lit (.bool false)], args := [d] }
  | _ => none }
def LeastPicksWrongFalsely : Prop := leastPicksRow.holds Try.pinned (OpenSpec.ofChange leastPicksWrong)

/-- 'counterfoillaw21.PolicyNames': WHATEVER THE INPUT: true; the input reads as it did. -/
def policyNamesSpec : ChangeSpec := { name := "policyNames", fn := fun _ => fun
  | [d1, d2] => { results := [.lit (.bool true)], args := [d1, d2] }
  | _ => none }
def policyNamesRow : OpenClaim := { program := "ytkebgkjopfdafaa", sum := "f4533d3ed87e8faa0b6f3c4094e83c43b25bf6d7f70ab9bb05a78e778b648c8f", func := "counterfoil/counterfoillaw21.PolicyNames", spec := "policyNames", plainKeys := false, apart := false }
def PolicyNamesSaid : Prop := policyNamesRow.holds Try.pinned (OpenSpec.ofChange policyNamesSpec)

/-- ITS FALSE NEIGHBOUR: 'it returns false'. Refute it at one input. -/
def policyNamesWrong : ChangeSpec := { name := "policyNames", fn := fun _ => fun
  | [d1, d2] => { results := [.lit (.bool false)], args := [d1, d2] }
  | _ => none }
def PolicyNamesWrongFalsely : Prop := policyNamesRow.holds Try.pinned (OpenSpec.ofChange policyNamesWrong)

/-- 'counterfoillaw34.MailClears': WHATEVER THE INPUT: true; the input reads as it did. -/
def mailClearsSpec : ChangeSpec := { name := "mailClears", fn := fun _ => fun
  | [d1, d2] => { results := [.lit (.bool true)], args := [d1, d2] }
  | _ => none }
def mailClearsRow : OpenClaim := { program := "ytkebgkjopfdafaa", sum := "f4533d3ed87e8faa0b6f3c4094e83c43b25bf6d7f70ab9bb05a78e778b648c8f", func := "counterfoil/counterfoillaw34.MailClears", spec := "mailClears", unfollowed := true, recurses := true, plainKeys := false, apart := false }
def MailClearsSaid : Prop := mailClearsRow.holds Try.pinned (OpenSpec.ofChange mailClearsSpec)

/-- ITS FALSE NEIGHBOUR: 'it returns false'. Refute it at one input. -/
def mailClearsWrong : ChangeSpec := { name := "mailClears", fn := fun _ => fun
  | [d1, d2] => { results := [.lit (.bool false)], args := [d1, d2] }
  | _ => none }
def MailClearsWrongFalsely : Prop := mailClearsRow.holds Try.pinned (OpenSpec.ofChange mailClearsWrong)

/-- 'counterfoillaw24.DiskKeeps': WHATEVER THE INPUT: true; the input reads as it did. -/
def diskKeepsSpec : ChangeSpec := { name := "diskKeeps", fn := fun _ => fun
  | [d1, d2, d3, d4] => { results := [.lit (.bool true)], args := [d1, d2, d3, d4] }
  | _ => none }
def diskKeepsRow : OpenClaim := { program := "ytkebgkjopfdafaa", sum := "f4533d3ed87e8faa0b6f3c4094e83c43b25bf6d7f70ab9bb05a78e778b648c8f", func := "counterfoil/counterfoillaw24.DiskKeeps", spec := "diskKeeps", plainKeys := false, apart := false }
def DiskKeepsSaid : Prop := diskKeepsRow.holds Try.pinned (OpenSpec.ofChange diskKeepsSpec)

/-- ITS FALSE NEIGHBOUR: 'it returns false'. Refute it at one input. -/
def diskKeepsWrong : ChangeSpec := { name := "diskKeeps", fn := fun _ => fun
  | [d1, d2, d3, d4] => { results := [.lit (.bool false)], args := [d1, d2, d3, d4] }
  | _ => none }
def DiskKeepsWrongFalsely : Prop := diskKeepsRow.holds Try.pinned (OpenSpec.ofChange diskKeepsWrong)

/-- 'counterfoillaw31.ConnsKeep': WHATEVER THE INPUT: true; the input reads as it did. -/
def connsKeepSpec : ChangeSpec := { name := "connsKeep", fn := fun _ => fun
  | [d1, d2, d3, d4] => { results := [.lit (.bool true)], args := [d1, d2, d3, d4] }
  | _ => none }
def connsKeepRow : OpenClaim := { program := "ytkebgkjopfdafaa", sum := "f4533d3ed87e8faa0b6f3c4094e83c43b25bf6d7f70ab9bb05a78e778b648c8f", func := "counterfoil/counterfoillaw31.ConnsKeep", spec := "connsKeep", plainKeys := false, apart := false }
def ConnsKeepSaid : Prop := connsKeepRow.holds Try.pinned (OpenSpec.ofChange connsKeepSpec)

/-- ITS FALSE NEIGHBOUR: 'it returns false'. Refute it at one input. -/
def connsKeepWrong : ChangeSpec := { name := "connsKeep", fn := fun _ => fun
  | [d1, d2, d3, d4] => { results := [.lit (.bool false)], args := [d1, d2, d3, d4] }
  | _ => none }
def ConnsKeepWrongFalsely : Prop := connsKeepRow.holds Try.pinned (OpenSpec.ofChange connsKeepWrong)

/-- 'counterfoillaw41.SpreadPlaces': WHATEVER THE INPUT: true; the input reads as it did. -/
def spreadPlacesSpec : ChangeSpec := { name := "spreadPlaces", fn := fun _ => fun
  | [d1, d2, d3, d4, d5] => { results := [.lit (.bool true)], args := [d1, d2, d3, d4, d5] }
  | _ => none }
def spreadPlacesRow : OpenClaim := { program := "ytkebgkjopfdafaa", sum := "f4533d3ed87e8faa0b6f3c4094e83c43b25bf6d7f70ab9bb05a78e778b648c8f", func := "counterfoil/counterfoillaw41.SpreadPlaces", spec := "spreadPlaces", plainKeys := false, apart := false }
def SpreadPlacesSaid : Prop := spreadPlacesRow.holds Try.pinned (OpenSpec.ofChange spreadPlacesSpec)

/-- ITS FALSE NEIGHBOUR: 'it returns false'. Refute it at one input. -/
def spreadPlacesWrong : ChangeSpec := { name := "spreadPlaces", fn := fun _ => fun
  | [d1, d2, d3, d4, d5] => { results := [.lit (.bool false)], args := [d1, d2, d3, d4, d5] }
  | _ => none }
def SpreadPlacesWrongFalsely : Prop := spreadPlacesRow.holds Try.pinned (OpenSpec.ofChange spreadPlacesWrong)

/-- 'counterfoillaw43.MeterHists': WHATEVER THE INPUT: true; the input reads as it did. -/
def meterHistsSpec : ChangeSpec := { name := "meterHists", fn := fun _ => fun
  | [d1, d2, d3] => { results := [.lit (.bool true)], args := [d1, d2, d3] }
  | _ => none }
def meterHistsRow : OpenClaim := { program := "ytkebgkjopfdafaa", sum := "f4533d3ed87e8faa0b6f3c4094e83c43b25bf6d7f70ab9bb05a78e778b648c8f", func := "counterfoil/counterfoillaw43.MeterHists", spec := "meterHists", plainKeys := false, apart := false }
def MeterHistsSaid : Prop := meterHistsRow.holds Try.pinned (OpenSpec.ofChange meterHistsSpec)

/-- ITS FALSE NEIGHBOUR: 'it returns false'. Refute it at one input. -/
def meterHistsWrong : ChangeSpec := { name := "meterHists", fn := fun _ => fun
  | [d1, d2, d3] => { results := [.lit (.bool false)], args := [d1, d2, d3] }
  | _ => none }
def MeterHistsWrongFalsely : Prop := meterHistsRow.holds Try.pinned (OpenSpec.ofChange meterHistsWrong)

/- THE SECOND FORM. 'bulk': how many values and letters a reading holds, each counted each time it is reached (what is shared counts as often as it is met; a slice's spare places count too). A statement '..UptoSaid' is the law's where the arguments, and the package variables that the reading takes, are together of bulk at most 1048576: NARROWER than '..Said'. Prove '..Said' where nothing that the law and all that it calls make is longer than what came in: it says more and counts as full. Else prove '..UptoSaid'. A law counts once. -/
mutual
def uptoBulk {H : Type} : DataW H → Nat
  | .lit (.string bytes) => bytes.length + 1
  | .lit _ => 1
  | .nil => 1
  | .ptr d => uptoBulk d + 1
  | .slice elems spare => uptoBulkAll elems + uptoBulkAll spare + 1
  | .agg parts => uptoBulkAll parts + 1
  | .iface _ d => uptoBulk d + 1
  | .map entries => uptoBulkEntries entries + 1
  | .held _ => 1
def uptoBulkAll {H : Type} : List (DataW H) → Nat
  | [] => 0
  | d :: r => uptoBulk d + uptoBulkAll r
def uptoBulkEntries {H : Type} : List (Lit × DataW H) → Nat
  | [] => 0
  | x :: r => uptoBulkEntry x + uptoBulkEntries r
def uptoBulkEntry {H : Type} : Lit × DataW H → Nat
  | (.string bytes, d) => bytes.length + uptoBulk d + 1
  | (_, d) => uptoBulk d + 1
 end
def uptoSmall : (H : Type) → List (DataW H) → Bool := fun _ ds => decide (uptoBulkAll ds ≤ 1048576)
def OpenSpec.upto (s : _root_.Go.ChangeSpec) : _root_.Go.OpenSpec := { _root_.Go.OpenSpec.ofChange s with cond := some uptoSmall }

/-- 'counterfoillaw18.TurnTwo', WHERE WHAT IT READS IS OF BULK AT MOST 1048576: true; the input reads as it did. -/
def turnTwoUptoRow : OpenClaim := { program := "ytkebgkjopfdafaa", sum := "f4533d3ed87e8faa0b6f3c4094e83c43b25bf6d7f70ab9bb05a78e778b648c8f", func := "counterfoil/counterfoillaw18.TurnTwo", spec := "turnTwo", plainKeys := false, apart := false, narrowed := true }
def TurnTwoUptoSaid : Prop := turnTwoUptoRow.holds Try.pinned (OpenSpec.upto turnTwoSpec)

/-- 'counterfoillaw18.TurnPicks', WHERE WHAT IT READS IS OF BULK AT MOST 1048576: true; the input reads as it did. -/
def turnPicksUptoRow : OpenClaim := { program := "ytkebgkjopfdafaa", sum := "f4533d3ed87e8faa0b6f3c4094e83c43b25bf6d7f70ab9bb05a78e778b648c8f", func := "counterfoil/counterfoillaw18.TurnPicks", spec := "turnPicks", plainKeys := false, apart := false, narrowed := true }
def TurnPicksUptoSaid : Prop := turnPicksUptoRow.holds Try.pinned (OpenSpec.upto turnPicksSpec)

/-- 'counterfoillaw43.MeterBuckets', WHERE WHAT IT READS IS OF BULK AT MOST 1048576: true; the input reads as it did. -/
def meterBucketsUptoRow : OpenClaim := { program := "ytkebgkjopfdafaa", sum := "f4533d3ed87e8faa0b6f3c4094e83c43b25bf6d7f70ab9bb05a78e778b648c8f", func := "counterfoil/counterfoillaw43.MeterBuckets", spec := "meterBuckets", plainKeys := false, apart := false, narrowed := true }
def MeterBucketsUptoSaid : Prop := meterBucketsUptoRow.holds Try.pinned (OpenSpec.upto meterBucketsSpec)

/-- 'counterfoillaw19.SmoothShares', WHERE WHAT IT READS IS OF BULK AT MOST 1048576: true; the input reads as it did. -/
def smoothSharesUptoRow : OpenClaim := { program := "ytkebgkjopfdafaa", sum := "f4533d3ed87e8faa0b6f3c4094e83c43b25bf6d7f70ab9bb05a78e778b648c8f", func := "counterfoil/counterfoillaw19.SmoothShares", spec := "smoothShares", plainKeys := false, apart := false, narrowed := true }
def SmoothSharesUptoSaid : Prop := smoothSharesUptoRow.holds Try.pinned (OpenSpec.upto smoothSharesSpec)

/-- 'counterfoillaw19.SmoothPicks', WHERE WHAT IT READS IS OF BULK AT MOST 1048576: true; the input reads as it did. -/
def smoothPicksUptoRow : OpenClaim := { program := "ytkebgkjopfdafaa", sum := "f4533d3ed87e8faa0b6f3c4094e83c43b25bf6d7f70ab9bb05a78e778b648c8f", func := "counterfoil/counterfoillaw19.SmoothPicks", spec := "smoothPicks", plainKeys := false, apart := false, narrowed := true }
def SmoothPicksUptoSaid : Prop := smoothPicksUptoRow.holds Try.pinned (OpenSpec.upto smoothPicksSpec)

/-- 'counterfoillaw20.LeastPicks', WHERE WHAT IT READS IS OF BULK AT MOST 1048576: true; the input reads as it did. -/
def leastPicksUptoRow : OpenClaim := { program := "ytkebgkjopfdafaa", sum := "f4533d3ed87e8faa0b6f3c4094e83c43b25bf6d7f70ab9bb05a78e778b648c8f", func := "counterfoil/counterfoillaw20.LeastPicks", spec := "leastPicks", unfollowed := true, recurses := true, plainKeys := false, apart := false, narrowed := true }
def LeastPicksUptoSaid : Prop := leastPicksUptoRow.holds Try.pinned (OpenSpec.upto leastPicksSpec)

/-- 'counterfoillaw21.PolicyNames', WHERE WHAT IT READS IS OF BULK AT MOST 1048576: true; the input reads as it did. -/
def policyNamesUptoRow : OpenClaim := { program := "ytkebgkjopfdafaa", sum := "f4533d3ed87e8faa0b6f3c4094e83c43b25bf6d7f70ab9bb05a78e778b648c8f", func := "counterfoil/counterfoillaw21.PolicyNames", spec := "policyNames", plainKeys := false, apart := false, narrowed := true }
def PolicyNamesUptoSaid : Prop := policyNamesUptoRow.holds Try.pinned (OpenSpec.upto policyNamesSpec)

/-- 'counterfoillaw34.MailClears', WHERE WHAT IT READS IS OF BULK AT MOST 1048576: true; the input reads as it did. -/
def mailClearsUptoRow : OpenClaim := { program := "ytkebgkjopfdafaa", sum := "f4533d3ed87e8faa0b6f3c4094e83c43b25bf6d7f70ab9bb05a78e778b648c8f", func := "counterfoil/counterfoillaw34.MailClears", spec := "mailClears", unfollowed := true, recurses := true, plainKeys := false, apart := false, narrowed := true }
def MailClearsUptoSaid : Prop := mailClearsUptoRow.holds Try.pinned (OpenSpec.upto mailClearsSpec)

/-- 'counterfoillaw24.DiskKeeps', WHERE WHAT IT READS IS OF BULK AT MOST 1048576: true; the input reads as it did. -/
def diskKeepsUptoRow : OpenClaim := { program := "ytkebgkjopfdafaa", sum := "f4533d3ed87e8faa0b6f3c4094e83c43b25bf6d7f70ab9bb05a78e778b648c8f", func := "counterfoil/counterfoillaw24.DiskKeeps", spec := "diskKeeps", plainKeys := false, apart := false, narrowed := true }
def DiskKeepsUptoSaid : Prop := diskKeepsUptoRow.holds Try.pinned (OpenSpec.upto diskKeepsSpec)

/-- 'counterfoillaw31.ConnsKeep', WHERE WHAT IT READS IS OF BULK AT MOST 1048576: true; the input reads as it did. -/
def connsKeepUptoRow : OpenClaim := { program := "ytkebgkjopfdafaa", sum := "f4533d3ed87e8faa0b6f3c4094e83c43b25bf6d7f70ab9bb05a78e778b648c8f", func := "counterfoil/counterfoillaw31.ConnsKeep", spec := "connsKeep", plainKeys := false, apart := false, narrowed := true }
def ConnsKeepUptoSaid : Prop := connsKeepUptoRow.holds Try.pinned (OpenSpec.upto connsKeepSpec)

/-- 'counterfoillaw41.SpreadPlaces', WHERE WHAT IT READS IS OF BULK AT MOST 1048576: true; the input reads as it did. -/
def spreadPlacesUptoRow : OpenClaim := { program := "ytkebgkjopfdafaa", sum := "f4533d3ed87e8faa0b6f3c4094e83c43b25bf6d7f70ab9bb05a78e778b648c8f", func := "counterfoil/counterfoillaw41.SpreadPlaces", spec := "spreadPlaces", plainKeys := false, apart := false, narrowed := true }
def SpreadPlacesUptoSaid : Prop := spreadPlacesUptoRow.holds Try.pinned (OpenSpec.upto spreadPlacesSpec)

/-- 'counterfoillaw43.MeterHists', WHERE WHAT IT READS IS OF BULK AT MOST 1048576: true; the input reads as it did. -/
def meterHistsUptoRow : OpenClaim := { program := "ytkebgkjopfdafaa", sum := "f4533d3ed87e8faa0b6f3c4094e83c43b25bf6d7f70ab9bb05a78e778b648c8f", func := "counterfoil/counterfoillaw43.MeterHists", spec := "meterHists", plainKeys := false, apart := false, narrowed := true }
def MeterHistsUptoSaid : Prop := meterHistsUptoRow.holds Try.pinned (OpenSpec.upto meterHistsSpec)

end Rows
end Go.Proofs.Ytkebgkjopfdafaa
