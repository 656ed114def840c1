/-
  No cell of these rows narrows 'for every input' (looked for: loops, veiled, ifaces, maps, wideKeys, modest, calm, conditions, laid).
  DERIVED. THE GIVEN ROWS OF THIS SEAT. 12 by the template 'for every input the law returns true; each argument reads behind the call as it read before'; 0 by the template 'total and deterministic' (their statements: YtkgmgmlicgjfdaaTotals.lean).
  GIVEN WITH THE SEED: the statements are not yours to turn. If you find one false, say at which input.
  Laid BY PROGRAM, IN A SANDBOX (cutbox-rows.mjs): the forced cells as the released guide's own fill.sh prints them over the translation df180343eda95f61… (all of the seat's roots in one cut). By AI agents, Wed Nov 11 2026. No macro, syntax, notation, axiom, sorry.
-/
import Derived.Test.YtkgmgmlicgjfdaaChecked
import GoSem.Claim
import GoSem.ClaimJoined
import GoSem.ClaimMapViews
import Derived.JoinedTies
import Derived.KernelRfl
namespace Go.Proofs.Ytkgmgmlicgjfdaa
/- THE CELL 'sum', in the pinned program and in every row, IS THE sha256 OF THE DUMP (.gsa) THAT YtkgmgmlicgjfdaaProg.lean LOADS. Nothing in Lean hashes anything: it is a label: what it is worth is what the hold of that sum in a sandbox is worth. -/
noncomputable def Try.pinned : Pinned := { name := "ytkgmgmlicgjfdaa", sum := "df180343eda95f61e1f173e382ecb3ef7a43cc1d2fbc16fbcf81fec52f72f1a9", checked := Try.checked }
namespace Rows
def none {H : Type} : Left H := { results := [], args := [] }

/-- 'counterfoillaw07.UdpLong': WHATEVER THE INPUT: true; the input reads as it did. -/
def udpLongSpec : ChangeSpec := { name := "udpLong", fn := fun _ => fun
  | [d] => { results := [.lit (.bool true)], args := [d] }
  | _ => none }
def udpLongRow : OpenClaim := { program := "ytkgmgmlicgjfdaa", sum := "df180343eda95f61e1f173e382ecb3ef7a43cc1d2fbc16fbcf81fec52f72f1a9", func := "counterfoil/counterfoillaw07.UdpLong", spec := "udpLong", apart := false }
def UdpLongSaid : Prop := udpLongRow.holds Try.pinned (OpenSpec.ofChange udpLongSpec)

/-- ITS FALSE NEIGHBOUR: 'it returns false'. Refute it at one input. -/
def udpLongWrong : ChangeSpec := { name := "udpLong", fn := fun _ => fun
  | [d] => { results := [.lit (.bool false)], args := [d] }
  | _ => none }
def UdpLongWrongFalsely : Prop := udpLongRow.holds Try.pinned (OpenSpec.ofChange udpLongWrong)

/-- 'counterfoillaw06.TcpStamps': WHATEVER THE INPUT: true; the input reads as it did. -/
def tcpStampsSpec : ChangeSpec := { name := "tcpStamps", fn := fun _ => fun
  | [d] => { results := [.lit (.bool true)], args := [d] }
  | _ => none }
def tcpStampsRow : OpenClaim := { program := "ytkgmgmlicgjfdaa", sum := "df180343eda95f61e1f173e382ecb3ef7a43cc1d2fbc16fbcf81fec52f72f1a9", func := "counterfoil/counterfoillaw06.TcpStamps", spec := "tcpStamps", apart := false }
def TcpStampsSaid : Prop := tcpStampsRow.holds Try.pinned (OpenSpec.ofChange tcpStampsSpec)

/-- ITS FALSE NEIGHBOUR: 'it returns false'. Refute it at one input. -/
def tcpStampsWrong : ChangeSpec := { name := "tcpStamps", fn := fun _ => fun
  | [d] => { results := [.lit (.bool false)], args := [d] }
  | _ => none }
def TcpStampsWrongFalsely : Prop := tcpStampsRow.holds Try.pinned (OpenSpec.ofChange tcpStampsWrong)

/-- 'counterfoillaw06.TcpWrites': WHATEVER THE INPUT: true; the input reads as it did. -/
def tcpWritesSpec : ChangeSpec := { name := "tcpWrites", fn := fun _ => fun
  | [d] => { results := [.lit (.bool true)], args := [d] }
  | _ => none }
def tcpWritesRow : OpenClaim := { program := "ytkgmgmlicgjfdaa", sum := "df180343eda95f61e1f173e382ecb3ef7a43cc1d2fbc16fbcf81fec52f72f1a9", func := "counterfoil/counterfoillaw06.TcpWrites", spec := "tcpWrites", apart := false }
def TcpWritesSaid : Prop := tcpWritesRow.holds Try.pinned (OpenSpec.ofChange tcpWritesSpec)

/-- ITS FALSE NEIGHBOUR: 'it returns false'. Refute it at one input. -/
def tcpWritesWrong : ChangeSpec := { name := "tcpWrites", fn := fun _ => fun
  | [d] => { results := [.lit (.bool false)], args := [d] }
  | _ => none }
def TcpWritesWrongFalsely : Prop := tcpWritesRow.holds Try.pinned (OpenSpec.ofChange tcpWritesWrong)

/-- 'counterfoillaw08.IcmpWrites': WHATEVER THE INPUT: true; the input reads as it did. -/
def icmpWritesSpec : ChangeSpec := { name := "icmpWrites", fn := fun _ => fun
  | [d1, d2, d3] => { results := [.lit (.bool true)], args := [d1, d2, d3] }
  | _ => none }
def icmpWritesRow : OpenClaim := { program := "ytkgmgmlicgjfdaa", sum := "df180343eda95f61e1f173e382ecb3ef7a43cc1d2fbc16fbcf81fec52f72f1a9", func := "counterfoil/counterfoillaw08.IcmpWrites", spec := "icmpWrites", apart := false }
def IcmpWritesSaid : Prop := icmpWritesRow.holds Try.pinned (OpenSpec.ofChange icmpWritesSpec)

/-- ITS FALSE NEIGHBOUR: 'it returns false'. Refute it at one input. -/
def icmpWritesWrong : ChangeSpec := { name := "icmpWrites", fn := fun _ => fun
  | [d1, d2, d3] => { results := [.lit (.bool false)], args := [d1, d2, d3] }
  | _ => none }
def IcmpWritesWrongFalsely : Prop := icmpWritesRow.holds Try.pinned (OpenSpec.ofChange icmpWritesWrong)

/-- 'counterfoillaw39.VarintPuts': WHATEVER THE INPUT: true; the input reads as it did. -/
def varintPutsSpec : ChangeSpec := { name := "varintPuts", fn := fun _ => fun
  | [d1, d2] => { results := [.lit (.bool true)], args := [d1, d2] }
  | _ => none }
def varintPutsRow : OpenClaim := { program := "ytkgmgmlicgjfdaa", sum := "df180343eda95f61e1f173e382ecb3ef7a43cc1d2fbc16fbcf81fec52f72f1a9", func := "counterfoil/counterfoillaw39.VarintPuts", spec := "varintPuts", apart := false }
def VarintPutsSaid : Prop := varintPutsRow.holds Try.pinned (OpenSpec.ofChange varintPutsSpec)

/-- ITS FALSE NEIGHBOUR: 'it returns false'. Refute it at one input. -/
def varintPutsWrong : ChangeSpec := { name := "varintPuts", fn := fun _ => fun
  | [d1, d2] => { results := [.lit (.bool false)], args := [d1, d2] }
  | _ => none }
def VarintPutsWrongFalsely : Prop := varintPutsRow.holds Try.pinned (OpenSpec.ofChange varintPutsWrong)

/-- 'counterfoillaw39.VarintTakes': WHATEVER THE INPUT: true; the input reads as it did. -/
def varintTakesSpec : ChangeSpec := { name := "varintTakes", fn := fun _ => fun
  | [d] => { results := [.lit (.bool true)], args := [d] }
  | _ => none }
def varintTakesRow : OpenClaim := { program := "ytkgmgmlicgjfdaa", sum := "df180343eda95f61e1f173e382ecb3ef7a43cc1d2fbc16fbcf81fec52f72f1a9", func := "counterfoil/counterfoillaw39.VarintTakes", spec := "varintTakes", apart := false }
def VarintTakesSaid : Prop := varintTakesRow.holds Try.pinned (OpenSpec.ofChange varintTakesSpec)

/-- ITS FALSE NEIGHBOUR: 'it returns false'. Refute it at one input. -/
def varintTakesWrong : ChangeSpec := { name := "varintTakes", fn := fun _ => fun
  | [d] => { results := [.lit (.bool false)], args := [d] }
  | _ => none }
def VarintTakesWrongFalsely : Prop := varintTakesRow.holds Try.pinned (OpenSpec.ofChange varintTakesWrong)

/-- 'counterfoillaw45.CaptureWrites': WHATEVER THE INPUT: true; the input reads as it did. -/
def captureWritesSpec : ChangeSpec := { name := "captureWrites", fn := fun _ => fun
  | [d1, d2] => { results := [.lit (.bool true)], args := [d1, d2] }
  | _ => none }
def captureWritesRow : OpenClaim := { program := "ytkgmgmlicgjfdaa", sum := "df180343eda95f61e1f173e382ecb3ef7a43cc1d2fbc16fbcf81fec52f72f1a9", func := "counterfoil/counterfoillaw45.CaptureWrites", spec := "captureWrites", apart := false }
def CaptureWritesSaid : Prop := captureWritesRow.holds Try.pinned (OpenSpec.ofChange captureWritesSpec)

/-- ITS FALSE NEIGHBOUR: 'it returns false'. Refute it at one input. -/
def captureWritesWrong : ChangeSpec := { name := "captureWrites", fn := fun _ => fun
  | [d1, d2] => { results := [.lit (.bool false)], args := [d1, d2] }
  | _ => none }
def CaptureWritesWrongFalsely : Prop := captureWritesRow.holds Try.pinned (OpenSpec.ofChange captureWritesWrong)

/-- 'counterfoillaw45.CaptureBack': WHATEVER THE INPUT: true; the input reads as it did. -/
def captureBackSpec : ChangeSpec := { name := "captureBack", fn := fun _ => fun
  | [d1, d2] => { results := [.lit (.bool true)], args := [d1, d2] }
  | _ => none }
def captureBackRow : OpenClaim := { program := "ytkgmgmlicgjfdaa", sum := "df180343eda95f61e1f173e382ecb3ef7a43cc1d2fbc16fbcf81fec52f72f1a9", func := "counterfoil/counterfoillaw45.CaptureBack", spec := "captureBack", unfollowed := true, recurses := true, apart := false }
def CaptureBackSaid : Prop := captureBackRow.holds Try.pinned (OpenSpec.ofChange captureBackSpec)

/-- ITS FALSE NEIGHBOUR: 'it returns false'. Refute it at one input. -/
def captureBackWrong : ChangeSpec := { name := "captureBack", fn := fun _ => fun
  | [d1, d2] => { results := [.lit (.bool false)], args := [d1, d2] }
  | _ => none }
def CaptureBackWrongFalsely : Prop := captureBackRow.holds Try.pinned (OpenSpec.ofChange captureBackWrong)

/-- 'counterfoillaw44.OptionWrites': WHATEVER THE INPUT: true; the input reads as it did. -/
def optionWritesSpec : ChangeSpec := { name := "optionWrites", fn := fun _ => fun
  | [d] => { results := [.lit (.bool true)], args := [d] }
  | _ => none }
def optionWritesRow : OpenClaim := { program := "ytkgmgmlicgjfdaa", sum := "df180343eda95f61e1f173e382ecb3ef7a43cc1d2fbc16fbcf81fec52f72f1a9", func := "counterfoil/counterfoillaw44.OptionWrites", spec := "optionWrites", unfollowed := true, recurses := true, apart := false }
def OptionWritesSaid : Prop := optionWritesRow.holds Try.pinned (OpenSpec.ofChange optionWritesSpec)

/-- ITS FALSE NEIGHBOUR: 'it returns false'. Refute it at one input. -/
def optionWritesWrong : ChangeSpec := { name := "optionWrites", fn := fun _ => fun
  | [d] => { results := [.lit (.bool false)], args := [d] }
  | _ => none }
def OptionWritesWrongFalsely : Prop := optionWritesRow.holds Try.pinned (OpenSpec.ofChange optionWritesWrong)

/-- 'counterfoillaw04.Ip4Long': WHATEVER THE INPUT: true; the input reads as it did. -/
def ip4LongSpec : ChangeSpec := { name := "ip4Long", fn := fun _ => fun
  | [d1, d2] => { results := [.lit (.bool true)], args := [d1, d2] }
  | _ => none }
def ip4LongRow : OpenClaim := { program := "ytkgmgmlicgjfdaa", sum := "df180343eda95f61e1f173e382ecb3ef7a43cc1d2fbc16fbcf81fec52f72f1a9", func := "counterfoil/counterfoillaw04.Ip4Long", spec := "ip4Long", apart := false }
def Ip4LongSaid : Prop := ip4LongRow.holds Try.pinned (OpenSpec.ofChange ip4LongSpec)

/-- ITS FALSE NEIGHBOUR: 'it returns false'. Refute it at one input. -/
def ip4LongWrong : ChangeSpec := { name := "ip4Long", fn := fun _ => fun
  | [d1, d2] => { results := [.lit (.bool false)], args := [d1, d2] }
  | _ => none }
def Ip4LongWrongFalsely : Prop := ip4LongRow.holds Try.pinned (OpenSpec.ofChange ip4LongWrong)

/-- 'counterfoillaw04.Ip4Reads': WHATEVER THE INPUT: true; the input reads as it did. -/
def ip4ReadsSpec : ChangeSpec := { name := "ip4Reads", fn := fun _ => fun
  | [d] => { results := [.lit (.bool true)], args := [d] }
  | _ => none }
def ip4ReadsRow : OpenClaim := { program := "ytkgmgmlicgjfdaa", sum := "df180343eda95f61e1f173e382ecb3ef7a43cc1d2fbc16fbcf81fec52f72f1a9", func := "counterfoil/counterfoillaw04.Ip4Reads", spec := "ip4Reads", apart := false }
def Ip4ReadsSaid : Prop := ip4ReadsRow.holds Try.pinned (OpenSpec.ofChange ip4ReadsSpec)

/-- ITS FALSE NEIGHBOUR: 'it returns false'. Refute it at one input. -/
def ip4ReadsWrong : ChangeSpec := { name := "ip4Reads", fn := fun _ => fun
  | [d] => { results := [.lit (.bool false)], args := [d] }
  | _ => none }
def Ip4ReadsWrongFalsely : Prop := ip4ReadsRow.holds Try.pinned (OpenSpec.ofChange ip4ReadsWrong)

/-- 'counterfoillaw05.Ip6Writes': WHATEVER THE INPUT: true; the input reads as it did. -/
def ip6WritesSpec : ChangeSpec := { name := "ip6Writes", fn := fun _ => fun
  | [d1, d2] => { results := [.lit (.bool true)], args := [d1, d2] }
  | _ => none }
def ip6WritesRow : OpenClaim := { program := "ytkgmgmlicgjfdaa", sum := "df180343eda95f61e1f173e382ecb3ef7a43cc1d2fbc16fbcf81fec52f72f1a9", func := "counterfoil/counterfoillaw05.Ip6Writes", spec := "ip6Writes", apart := false }
def Ip6WritesSaid : Prop := ip6WritesRow.holds Try.pinned (OpenSpec.ofChange ip6WritesSpec)

/-- ITS FALSE NEIGHBOUR: 'it returns false'. Refute it at one input. -/
def ip6WritesWrong : ChangeSpec := { name := "ip6Writes", fn := fun _ => fun
  | [d1, d2] => { results := [.lit (.bool false)], args := [d1, d2] }
  | _ => none }
def Ip6WritesWrongFalsely : Prop := ip6WritesRow.holds Try.pinned (OpenSpec.ofChange ip6WritesWrong)

/- THE SECOND FORM. 'bulk': how many values and letters a reading holds, each counted each time it is reached (what is shared counts as often as it is met; a slice's spare places count too). A statement '..UptoSaid' is the law's where the arguments, and the package variables that the reading takes, are together of bulk at most 1048576: NARROWER than '..Said'. Prove '..Said' where nothing that the law and all that it calls make is longer than what came in: it says more and counts as full. Else prove '..UptoSaid'. A law counts once. -/
mutual
def uptoBulk {H : Type} : DataW H → Nat
  | .lit (.string bytes) => bytes.length + 1
  | .lit _ => 1
  | .nil => 1
  | .ptr d => uptoBulk d + 1
  | .slice elems spare => uptoBulkAll elems + uptoBulkAll spare + 1
  | .agg parts => uptoBulkAll parts + 1
  | .iface _ d => uptoBulk d + 1
  | .map entries => uptoBulkEntries entries + 1
  | .held _ => 1
def uptoBulkAll {H : Type} : List (DataW H) → Nat
  | [] => 0
  | d :: r => uptoBulk d + uptoBulkAll r
def uptoBulkEntries {H : Type} : List (Lit × DataW H) → Nat
  | [] => 0
  | x :: r => uptoBulkEntry x + uptoBulkEntries r
def uptoBulkEntry {H : Type} : Lit × DataW H → Nat
  | (.string bytes, d) => bytes.length + uptoBulk d + 1
  | (_, d) => uptoBulk d + 1
 end
def uptoSmall : (H : Type) → List (DataW H) → Bool := fun _ ds => decide (uptoBulkAll ds ≤ 1048576)
def OpenSpec.upto (s : _root_.Go.ChangeSpec) : _root_.Go.OpenSpec := { _root_.Go.OpenSpec.ofChange s with cond := some uptoSmall }

/-- 'counterfoillaw07.UdpLong', WHERE WHAT IT READS IS OF BULK AT MOST 1048576: true; the input reads as it did. -/
def udpLongUptoRow : OpenClaim := { program := "ytkgmgmlicgjfdaa", sum := "df180343eda95f61e1f173e382ecb3ef7a43cc1d2fbc16fbcf81fec52f72f1a9", func := "counterfoil/counterfoillaw07.UdpLong", spec := "udpLong", apart := false, narrowed := true }
def UdpLongUptoSaid : Prop := udpLongUptoRow.holds Try.pinned (OpenSpec.upto udpLongSpec)

/-- 'counterfoillaw06.TcpStamps', WHERE WHAT IT READS IS OF BULK AT MOST 1048576: true; the input reads as it did. -/
def tcpStampsUptoRow : OpenClaim := { program := "ytkgmgmlicgjfdaa", sum := "df180343eda95f61e1f173e382ecb3ef7a43cc1d2fbc16fbcf81fec52f72f1a9", func := "counterfoil/counterfoillaw06.TcpStamps", spec := "tcpStamps", apart := false, narrowed := true }
def TcpStampsUptoSaid : Prop := tcpStampsUptoRow.holds Try.pinned (OpenSpec.upto tcpStampsSpec)

/-- 'counterfoillaw06.TcpWrites', WHERE WHAT IT READS IS OF BULK AT MOST 1048576: true; the input reads as it did. -/
def tcpWritesUptoRow : OpenClaim := { program := "ytkgmgmlicgjfdaa", sum := "df180343eda95f61e1f173e382ecb3ef7a43cc1d2fbc16fbcf81fec52f72f1a9", func := "counterfoil/counterfoillaw06.TcpWrites", spec := "tcpWrites", apart := false, narrowed := true }
def TcpWritesUptoSaid : Prop := tcpWritesUptoRow.holds Try.pinned (OpenSpec.upto tcpWritesSpec)

/-- 'counterfoillaw08.IcmpWrites', WHERE WHAT IT READS IS OF BULK AT MOST 1048576: true; the input reads as it did. -/
def icmpWritesUptoRow : OpenClaim := { program := "ytkgmgmlicgjfdaa", sum := "df180343eda95f61e1f173e382ecb3ef7a43cc1d2fbc16fbcf81fec52f72f1a9", func := "counterfoil/counterfoillaw08.IcmpWrites", spec := "icmpWrites", apart := false, narrowed := true }
def IcmpWritesUptoSaid : Prop := icmpWritesUptoRow.holds Try.pinned (OpenSpec.upto icmpWritesSpec)

/-- 'counterfoillaw39.VarintPuts', WHERE WHAT IT READS IS OF BULK AT MOST 1048576: true; the input reads as it did. -/
def varintPutsUptoRow : OpenClaim := { program := "ytkgmgmlicgjfdaa", sum := "df180343eda95f61e1f173e382ecb3ef7a43cc1d2fbc16fbcf81fec52f72f1a9", func := "counterfoil/counterfoillaw39.VarintPuts", spec := "varintPuts", apart := false, narrowed := true }
def VarintPutsUptoSaid : Prop := varintPutsUptoRow.holds Try.pinned (OpenSpec.upto varintPutsSpec)

/-- 'counterfoillaw39.VarintTakes', WHERE WHAT IT READS IS OF BULK AT MOST 1048576: true; the input reads as it did. -/
def varintTakesUptoRow : OpenClaim := { program := "ytkgmgmlicgjfdaa", sum := "df180343eda95f61e1f173e382ecb3ef7a43cc1d2fbc16fbcf81fec52f72f1a9", func := "counterfoil/counterfoillaw39.VarintTakes", spec := "varintTakes", apart := false, narrowed := true }
def VarintTakesUptoSaid : Prop := varintTakesUptoRow.holds Try.pinned (OpenSpec.upto varintTakesSpec)

/-- 'counterfoillaw45.CaptureWrites', WHERE WHAT IT READS IS OF BULK AT MOST 1048576: true; the input reads as it did. -/
def captureWritesUptoRow : OpenClaim := { program := "ytkgmgmlicgjfdaa", sum := "df180343eda95f61e1f173e382ecb3ef7a43cc1d2fbc16fbcf81fec52f72f1a9", func := "counterfoil/counterfoillaw45.CaptureWrites", spec := "captureWrites", apart := false, narrowed := true }
def CaptureWritesUptoSaid : Prop := captureWritesUptoRow.holds Try.pinned (OpenSpec.upto captureWritesSpec)

/-- 'counterfoillaw45.CaptureBack', WHERE WHAT IT READS IS OF BULK AT MOST 1048576: true; the input reads as it did. -/
def captureBackUptoRow : OpenClaim := { program := "ytkgmgmlicgjfdaa", sum := "df180343eda95f61e1f173e382ecb3ef7a43cc1d2fbc16fbcf81fec52f72f1a9", func := "counterfoil/counterfoillaw45.CaptureBack", spec := "captureBack", unfollowed := true, recurses := true, apart := false, narrowed := true }
def CaptureBackUptoSaid : Prop := captureBackUptoRow.holds Try.pinned (OpenSpec.upto captureBackSpec)

/-- 'counterfoillaw44.OptionWrites', WHERE WHAT IT READS IS OF BULK AT MOST 1048576: true; the input reads as it did. -/
def optionWritesUptoRow : OpenClaim := { program := "ytkgmgmlicgjfdaa", sum := "df180343eda95f61e1f173e382ecb3ef7a43cc1d2fbc16fbcf81fec52f72f1a9", func := "counterfoil/counterfoillaw44.OptionWrites", spec := "optionWrites", unfollowed := true, recurses := true, apart := false, narrowed := true }
def OptionWritesUptoSaid : Prop := optionWritesUptoRow.holds Try.pinned (OpenSpec.upto optionWritesSpec)

/-- 'counterfoillaw04.Ip4Long', WHERE WHAT IT READS IS OF BULK AT MOST 1048576: true; the input reads as it did. -/
def ip4LongUptoRow : OpenClaim := { program := "ytkgmgmlicgjfdaa", sum := "df180343eda95f61e1f173e382ecb3ef7a43cc1d2fbc16fbcf81fec52f72f1a9", func := "counterfoil/counterfoillaw04.Ip4Long", spec := "ip4Long", apart := false, narrowed := true }
def Ip4LongUptoSaid : Prop := ip4LongUptoRow.holds Try.pinned (OpenSpec.upto ip4LongSpec)

/-- 'counterfoillaw04.Ip4Reads', WHERE WHAT IT READS IS OF BULK AT MOST 1048576: true; the input reads as it did. -/
def ip4ReadsUptoRow : OpenClaim := { program := "ytkgmgmlicgjfdaa", sum := "df180343eda95f61e1f173e382ecb3ef7a43cc1d2fbc16fbcf81fec52f72f1a9", func := "counterfoil/counterfoillaw04.Ip4Reads", spec := "ip4Reads", apart := false, narrowed := true }
def Ip4ReadsUptoSaid : Prop := ip4ReadsUptoRow.holds Try.pinned (OpenSpec.upto ip4ReadsSpec)

/-- 'counterfoillaw05.Ip6Writes', WHERE WHAT IT READS IS OF BULK AT MOST 1048576: true; the input reads as it did. -/
def ip6WritesUptoRow : OpenClaim := { program := "ytkgmgmlicgjfdaa", sum := "df180343eda95f61e1f173e382ecb3ef7a43cc1d2fbc16fbcf81fec52f72f1a9", func := "counterfoil/counterfoillaw05.Ip6Writes", spec := "ip6Writes", apart := false, narrowed := true }
def Ip6WritesUptoSaid : Prop := ip6WritesUptoRow.holds Try.pinned (OpenSpec.upto ip6WritesSpec)

end Rows
end Go.Proofs.Ytkgmgmlicgjfdaa
