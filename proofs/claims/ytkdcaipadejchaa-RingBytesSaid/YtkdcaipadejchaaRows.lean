/-
  No cell of these rows narrows 'for every input' (looked for: loops, veiled, ifaces, maps, wideKeys, modest, calm, conditions, laid).
  DERIVED. THE GIVEN ROWS OF THIS SEAT. 12 by the template 'for every input the law returns true; each argument reads behind the call as it read before'; 0 by the template 'total and deterministic' (their statements: YtkdcaipadejchaaTotals.lean).
  GIVEN WITH THE SEED: the statements are not yours to turn. If you find one false, say at which input.
  Laid BY PROGRAM, IN A SANDBOX (cutbox-rows.mjs): the forced cells as the released guide's own fill.sh prints them over the translation 3cdd523ca44fdb4f… (all of the seat's roots in one cut). By AI agents, Wed Nov 11 2026. No macro, syntax, notation, axiom, sorry.
-/
import Derived.Test.YtkdcaipadejchaaChecked
import GoSem.Claim
import GoSem.ClaimJoined
import GoSem.ClaimMapViews
import Derived.JoinedTies
import Derived.KernelRfl
namespace Go.Proofs.Ytkdcaipadejchaa
/- THE CELL 'sum', in the pinned program and in every row, IS THE sha256 OF THE DUMP (.gsa) THAT YtkdcaipadejchaaProg.lean LOADS. Nothing in Lean hashes anything: it is a label: what it is worth is what the hold of that sum in a sandbox is worth. -/
noncomputable def Try.pinned : Pinned := { name := "ytkdcaipadejchaa", sum := "3cdd523ca44fdb4f325929d9f978ef6e0a5ebc1433bb8b2602e6df72270389fa", checked := Try.checked }
namespace Rows
def none {H : Type} : Left H := { results := [], args := [] }

/-- 'counterfoillaw01.OctetPuts': WHATEVER THE INPUT: true; the input reads as it did. -/
def octetPutsSpec : ChangeSpec := { name := "octetPuts", fn := fun _ => fun
  | [d1, d2, d3, d4, d5] => { results := [.lit (.bool true)], args := [d1, d2, d3, d4, d5] }
  | _ => none }
def octetPutsRow : OpenClaim := { program := "ytkdcaipadejchaa", sum := "3cdd523ca44fdb4f325929d9f978ef6e0a5ebc1433bb8b2602e6df72270389fa", func := "counterfoil/counterfoillaw01.OctetPuts", spec := "octetPuts", apart := false }
def OctetPutsSaid : Prop := octetPutsRow.holds Try.pinned (OpenSpec.ofChange octetPutsSpec)

/-- ITS FALSE NEIGHBOUR: 'it returns false'. Refute it at one input. -/
def octetPutsWrong : ChangeSpec := { name := "octetPuts", fn := fun _ => fun
  | [d1, d2, d3, d4, d5] => { results := [.lit (.bool false)], args := [d1, d2, d3, d4, d5] }
  | _ => none }
def OctetPutsWrongFalsely : Prop := octetPutsRow.holds Try.pinned (OpenSpec.ofChange octetPutsWrong)

/-- 'counterfoillaw01.OctetBack': WHATEVER THE INPUT: true; the input reads as it did. -/
def octetBackSpec : ChangeSpec := { name := "octetBack", fn := fun _ => fun
  | [d1, d2] => { results := [.lit (.bool true)], args := [d1, d2] }
  | _ => none }
def octetBackRow : OpenClaim := { program := "ytkdcaipadejchaa", sum := "3cdd523ca44fdb4f325929d9f978ef6e0a5ebc1433bb8b2602e6df72270389fa", func := "counterfoil/counterfoillaw01.OctetBack", spec := "octetBack", apart := false }
def OctetBackSaid : Prop := octetBackRow.holds Try.pinned (OpenSpec.ofChange octetBackSpec)

/-- ITS FALSE NEIGHBOUR: 'it returns false'. Refute it at one input. -/
def octetBackWrong : ChangeSpec := { name := "octetBack", fn := fun _ => fun
  | [d1, d2] => { results := [.lit (.bool false)], args := [d1, d2] }
  | _ => none }
def OctetBackWrongFalsely : Prop := octetBackRow.holds Try.pinned (OpenSpec.ofChange octetBackWrong)

/-- 'counterfoillaw06.TcpReads': WHATEVER THE INPUT: true; the input reads as it did. -/
def tcpReadsSpec : ChangeSpec := { name := "tcpReads", fn := fun _ => fun
  | [d] => { results := [.lit (.bool true)], args := [d] }
  | _ => none }
def tcpReadsRow : OpenClaim := { program := "ytkdcaipadejchaa", sum := "3cdd523ca44fdb4f325929d9f978ef6e0a5ebc1433bb8b2602e6df72270389fa", func := "counterfoil/counterfoillaw06.TcpReads", spec := "tcpReads", apart := false }
def TcpReadsSaid : Prop := tcpReadsRow.holds Try.pinned (OpenSpec.ofChange tcpReadsSpec)

/-- ITS FALSE NEIGHBOUR: 'it returns false'. Refute it at one input. -/
def tcpReadsWrong : ChangeSpec := { name := "tcpReads", fn := fun _ => fun
  | [d] => { results := [.lit (.bool false)], args := [d] }
  | _ => none }
def TcpReadsWrongFalsely : Prop := tcpReadsRow.holds Try.pinned (OpenSpec.ofChange tcpReadsWrong)

/-- 'counterfoillaw07.UdpReads': WHATEVER THE INPUT: true; the input reads as it did. -/
def udpReadsSpec : ChangeSpec := { name := "udpReads", fn := fun _ => fun
  | [d] => { results := [.lit (.bool true)], args := [d] }
  | _ => none }
def udpReadsRow : OpenClaim := { program := "ytkdcaipadejchaa", sum := "3cdd523ca44fdb4f325929d9f978ef6e0a5ebc1433bb8b2602e6df72270389fa", func := "counterfoil/counterfoillaw07.UdpReads", spec := "udpReads", apart := false }
def UdpReadsSaid : Prop := udpReadsRow.holds Try.pinned (OpenSpec.ofChange udpReadsSpec)

/-- ITS FALSE NEIGHBOUR: 'it returns false'. Refute it at one input. -/
def udpReadsWrong : ChangeSpec := { name := "udpReads", fn := fun _ => fun
  | [d] => { results := [.lit (.bool false)], args := [d] }
  | _ => none }
def UdpReadsWrongFalsely : Prop := udpReadsRow.holds Try.pinned (OpenSpec.ofChange udpReadsWrong)

/-- 'counterfoillaw08.IcmpReads': WHATEVER THE INPUT: true; the input reads as it did. -/
def icmpReadsSpec : ChangeSpec := { name := "icmpReads", fn := fun _ => fun
  | [d] => { results := [.lit (.bool true)], args := [d] }
  | _ => none }
def icmpReadsRow : OpenClaim := { program := "ytkdcaipadejchaa", sum := "3cdd523ca44fdb4f325929d9f978ef6e0a5ebc1433bb8b2602e6df72270389fa", func := "counterfoil/counterfoillaw08.IcmpReads", spec := "icmpReads", apart := false }
def IcmpReadsSaid : Prop := icmpReadsRow.holds Try.pinned (OpenSpec.ofChange icmpReadsSpec)

/-- ITS FALSE NEIGHBOUR: 'it returns false'. Refute it at one input. -/
def icmpReadsWrong : ChangeSpec := { name := "icmpReads", fn := fun _ => fun
  | [d] => { results := [.lit (.bool false)], args := [d] }
  | _ => none }
def IcmpReadsWrongFalsely : Prop := icmpReadsRow.holds Try.pinned (OpenSpec.ofChange icmpReadsWrong)

/-- 'counterfoillaw08.IcmpBig': WHATEVER THE INPUT: true; the input reads as it did. -/
def icmpBigSpec : ChangeSpec := { name := "icmpBig", fn := fun _ => fun
  | [d1, d2, d3] => { results := [.lit (.bool true)], args := [d1, d2, d3] }
  | _ => none }
def icmpBigRow : OpenClaim := { program := "ytkdcaipadejchaa", sum := "3cdd523ca44fdb4f325929d9f978ef6e0a5ebc1433bb8b2602e6df72270389fa", func := "counterfoil/counterfoillaw08.IcmpBig", spec := "icmpBig", apart := false }
def IcmpBigSaid : Prop := icmpBigRow.holds Try.pinned (OpenSpec.ofChange icmpBigSpec)

/-- ITS FALSE NEIGHBOUR: 'it returns false'. Refute it at one input. -/
def icmpBigWrong : ChangeSpec := { name := "icmpBig", fn := fun _ => fun
  | [d1, d2, d3] => { results := [.lit (.bool false)], args := [d1, d2, d3] }
  | _ => none }
def IcmpBigWrongFalsely : Prop := icmpBigRow.holds Try.pinned (OpenSpec.ofChange icmpBigWrong)

/-- 'counterfoillaw10.SiphashSums': WHATEVER THE INPUT: true; the input reads as it did. -/
def siphashSumsSpec : ChangeSpec := { name := "siphashSums", fn := fun _ => fun
  | [d1, d2] => { results := [.lit (.bool true)], args := [d1, d2] }
  | _ => none }
def siphashSumsRow : OpenClaim := { program := "ytkdcaipadejchaa", sum := "3cdd523ca44fdb4f325929d9f978ef6e0a5ebc1433bb8b2602e6df72270389fa", func := "counterfoil/counterfoillaw10.SiphashSums", spec := "siphashSums", apart := false }
def SiphashSumsSaid : Prop := siphashSumsRow.holds Try.pinned (OpenSpec.ofChange siphashSumsSpec)

/-- ITS FALSE NEIGHBOUR: 'it returns false'. Refute it at one input. -/
def siphashSumsWrong : ChangeSpec := { name := "siphashSums", fn := fun _ => fun
  | [d1, d2] => { results := [.lit (.bool false)], args := [d1, d2] }
  | _ => none }
def SiphashSumsWrongFalsely : Prop := siphashSumsRow.holds Try.pinned (OpenSpec.ofChange siphashSumsWrong)

/-- 'counterfoillaw10.SiphashKeys': WHATEVER THE INPUT: true; the input reads as it did. -/
def siphashKeysSpec : ChangeSpec := { name := "siphashKeys", fn := fun _ => fun
  | [d1, d2, d3, d4] => { results := [.lit (.bool true)], args := [d1, d2, d3, d4] }
  | _ => none }
def siphashKeysRow : OpenClaim := { program := "ytkdcaipadejchaa", sum := "3cdd523ca44fdb4f325929d9f978ef6e0a5ebc1433bb8b2602e6df72270389fa", func := "counterfoil/counterfoillaw10.SiphashKeys", spec := "siphashKeys", apart := false }
def SiphashKeysSaid : Prop := siphashKeysRow.holds Try.pinned (OpenSpec.ofChange siphashKeysSpec)

/-- ITS FALSE NEIGHBOUR: 'it returns false'. Refute it at one input. -/
def siphashKeysWrong : ChangeSpec := { name := "siphashKeys", fn := fun _ => fun
  | [d1, d2, d3, d4] => { results := [.lit (.bool false)], args := [d1, d2, d3, d4] }
  | _ => none }
def SiphashKeysWrongFalsely : Prop := siphashKeysRow.holds Try.pinned (OpenSpec.ofChange siphashKeysWrong)

/-- 'counterfoillaw10.SiphashFolds': WHATEVER THE INPUT: true; the input reads as it did. -/
def siphashFoldsSpec : ChangeSpec := { name := "siphashFolds", fn := fun _ => fun
  | [d1, d2] => { results := [.lit (.bool true)], args := [d1, d2] }
  | _ => none }
def siphashFoldsRow : OpenClaim := { program := "ytkdcaipadejchaa", sum := "3cdd523ca44fdb4f325929d9f978ef6e0a5ebc1433bb8b2602e6df72270389fa", func := "counterfoil/counterfoillaw10.SiphashFolds", spec := "siphashFolds", apart := false }
def SiphashFoldsSaid : Prop := siphashFoldsRow.holds Try.pinned (OpenSpec.ofChange siphashFoldsSpec)

/-- ITS FALSE NEIGHBOUR: 'it returns false'. Refute it at one input. -/
def siphashFoldsWrong : ChangeSpec := { name := "siphashFolds", fn := fun _ => fun
  | [d1, d2] => { results := [.lit (.bool false)], args := [d1, d2] }
  | _ => none }
def SiphashFoldsWrongFalsely : Prop := siphashFoldsRow.holds Try.pinned (OpenSpec.ofChange siphashFoldsWrong)

/-- 'counterfoillaw11.RingKeys': WHATEVER THE INPUT: true; the input reads as it did. -/
def ringKeysSpec : ChangeSpec := { name := "ringKeys", fn := fun _ => fun
  | [d1, d2] => { results := [.lit (.bool true)], args := [d1, d2] }
  | _ => none }
def ringKeysRow : OpenClaim := { program := "ytkdcaipadejchaa", sum := "3cdd523ca44fdb4f325929d9f978ef6e0a5ebc1433bb8b2602e6df72270389fa", func := "counterfoil/counterfoillaw11.RingKeys", spec := "ringKeys", apart := false }
def RingKeysSaid : Prop := ringKeysRow.holds Try.pinned (OpenSpec.ofChange ringKeysSpec)

/-- ITS FALSE NEIGHBOUR: 'it returns false'. Refute it at one input. -/
def ringKeysWrong : ChangeSpec := { name := "ringKeys", fn := fun _ => fun
  | [d1, d2] => { results := [.lit (.bool false)], args := [d1, d2] }
  | _ => none }
def RingKeysWrongFalsely : Prop := ringKeysRow.holds Try.pinned (OpenSpec.ofChange ringKeysWrong)

/-- 'counterfoillaw11.RingBytes': WHATEVER THE INPUT: true; the input reads as it did. -/
def ringBytesSpec : ChangeSpec := { name := "ringBytes", fn := fun _ => fun
  | [d1, d2] => { results := [.lit (.bool true)], args := [d1, d2] }
  | _ => none }
def ringBytesRow : OpenClaim := { program := "ytkdcaipadejchaa", sum := "3cdd523ca44fdb4f325929d9f978ef6e0a5ebc1433bb8b2602e6df72270389fa", func := "counterfoil/counterfoillaw11.RingBytes", spec := "ringBytes", apart := false }
def RingBytesSaid : Prop := ringBytesRow.holds Try.pinned (OpenSpec.ofChange ringBytesSpec)

/-- ITS FALSE NEIGHBOUR: 'it returns false'. Refute it at one input. -/
def ringBytesWrong : ChangeSpec := { name := "ringBytes", fn := fun _ => fun
  | [d1, d2] => { results := [.lit (.bool false)], args := [d1, d2] }
  | _ => none }
def RingBytesWrongFalsely : Prop := ringBytesRow.holds Try.pinned (OpenSpec.ofChange ringBytesWrong)

/-- 'counterfoillaw11.RingKeeps': WHATEVER THE INPUT: true; the input reads as it did. -/
def ringKeepsSpec : ChangeSpec := { name := "ringKeeps", fn := fun _ => fun
  | [d] => { results := [.lit (.bool true)], args := [d] }
  | _ => none }
def ringKeepsRow : OpenClaim := { program := "ytkdcaipadejchaa", sum := "3cdd523ca44fdb4f325929d9f978ef6e0a5ebc1433bb8b2602e6df72270389fa", func := "counterfoil/counterfoillaw11.RingKeeps", spec := "ringKeeps", apart := false }
def RingKeepsSaid : Prop := ringKeepsRow.holds Try.pinned (OpenSpec.ofChange ringKeepsSpec)

/-- ITS FALSE NEIGHBOUR: 'it returns false'. Refute it at one input. -/
def ringKeepsWrong : ChangeSpec := { name := "ringKeeps", fn := fun _ => fun
  | [d] => { results := [.lit (.bool false)], args := [d] }
  | _ => none }
def RingKeepsWrongFalsely : Prop := ringKeepsRow.holds Try.pinned (OpenSpec.ofChange ringKeepsWrong)

/- THE SECOND FORM. 'bulk': how many values and letters a reading holds, each counted each time it is reached (what is shared counts as often as it is met; a slice's spare places count too). A statement '..UptoSaid' is the law's where the arguments, and the package variables that the reading takes, are together of bulk at most 1048576: NARROWER than '..Said'. Prove '..Said' where nothing that the law and all that it calls make is longer than what came in: it says more and counts as full. Else prove '..UptoSaid'. A law counts once. -/
mutual
def uptoBulk {H : Type} : DataW H → Nat
  | .lit (.string bytes) => bytes.length + 1
  | .lit _ => 1
  | .nil => 1
  | .ptr d => uptoBulk d + 1
  | .slice elems spare => uptoBulkAll elems + uptoBulkAll spare + 1
  | .agg parts => uptoBulkAll parts + 1
  | .iface _ d => uptoBulk d + 1
  | .map entries => uptoBulkEntries entries + 1
  | .held _ => 1
def uptoBulkAll {H : Type} : List (DataW H) → Nat
  | [] => 0
  | d :: r => uptoBulk d + uptoBulkAll r
def uptoBulkEntries {H : Type} : List (Lit × DataW H) → Nat
  | [] => 0
  | x :: r => uptoBulkEntry x + uptoBulkEntries r
def uptoBulkEntry {H : Type} : Lit × DataW H → Nat
  | (.string bytes, d) => bytes.length + uptoBulk d + 1
  | (_, d) => uptoBulk d + 1
 end
def uptoSmall : (H : Type) → List (DataW H) → Bool := fun _ ds => decide (uptoBulkAll ds ≤ 1048576)
def OpenSpec.upto (s : _root_.Go.ChangeSpec) : _root_.Go.OpenSpec := { _root_.Go.OpenSpec.ofChange s with cond := some uptoSmall }

/-- 'counterfoillaw01.OctetPuts', WHERE WHAT IT READS IS OF BULK AT MOST 1048576: true; the input reads as it did. -/
def octetPutsUptoRow : OpenClaim := { program := "ytkdcaipadejchaa", sum := "3cdd523ca44fdb4f325929d9f978ef6e0a5ebc1433bb8b2602e6df72270389fa", func := "counterfoil/counterfoillaw01.OctetPuts", spec := "octetPuts", apart := false, narrowed := true }
def OctetPutsUptoSaid : Prop := octetPutsUptoRow.holds Try.pinned (OpenSpec.upto octetPutsSpec)

/-- 'counterfoillaw01.OctetBack', WHERE WHAT IT READS IS OF BULK AT MOST 1048576: true; the input reads as it did. -/
def octetBackUptoRow : OpenClaim := { program := "ytkdcaipadejchaa", sum := "3cdd523ca44fdb4f325929d9f978ef6e0a5ebc1433bb8b2602e6df72270389fa", func := "counterfoil/counterfoillaw01.OctetBack", spec := "octetBack", apart := false, narrowed := true }
def OctetBackUptoSaid : Prop := octetBackUptoRow.holds Try.pinned (OpenSpec.upto octetBackSpec)

/-- 'counterfoillaw06.TcpReads', WHERE WHAT IT READS IS OF BULK AT MOST 1048576: true; the input reads as it did. -/
def tcpReadsUptoRow : OpenClaim := { program := "ytkdcaipadejchaa", sum := "3cdd523ca44fdb4f325929d9f978ef6e0a5ebc1433bb8b2602e6df72270389fa", func := "counterfoil/counterfoillaw06.TcpReads", spec := "tcpReads", apart := false, narrowed := true }
def TcpReadsUptoSaid : Prop := tcpReadsUptoRow.holds Try.pinned (OpenSpec.upto tcpReadsSpec)

/-- 'counterfoillaw07.UdpReads', WHERE WHAT IT READS IS OF BULK AT MOST 1048576: true; the input reads as it did. -/
def udpReadsUptoRow : OpenClaim := { program := "ytkdcaipadejchaa", sum := "3cdd523ca44fdb4f325929d9f978ef6e0a5ebc1433bb8b2602e6df72270389fa", func := "counterfoil/counterfoillaw07.UdpReads", spec := "udpReads", apart := false, narrowed := true }
def UdpReadsUptoSaid : Prop := udpReadsUptoRow.holds Try.pinned (OpenSpec.upto udpReadsSpec)

/-- 'counterfoillaw08.IcmpReads', WHERE WHAT IT READS IS OF BULK AT MOST 1048576: true; the input reads as it did. -/
def icmpReadsUptoRow : OpenClaim := { program := "ytkdcaipadejchaa", sum := "3cdd523ca44fdb4f325929d9f978ef6e0a5ebc1433bb8b2602e6df72270389fa", func := "counterfoil/counterfoillaw08.IcmpReads", spec := "icmpReads", apart := false, narrowed := true }
def IcmpReadsUptoSaid : Prop := icmpReadsUptoRow.holds Try.pinned (OpenSpec.upto icmpReadsSpec)

/-- 'counterfoillaw08.IcmpBig', WHERE WHAT IT READS IS OF BULK AT MOST 1048576: true; the input reads as it did. -/
def icmpBigUptoRow : OpenClaim := { program := "ytkdcaipadejchaa", sum := "3cdd523ca44fdb4f325929d9f978ef6e0a5ebc1433bb8b2602e6df72270389fa", func := "counterfoil/counterfoillaw08.IcmpBig", spec := "icmpBig", apart := false, narrowed := true }
def IcmpBigUptoSaid : Prop := icmpBigUptoRow.holds Try.pinned (OpenSpec.upto icmpBigSpec)

/-- 'counterfoillaw10.SiphashSums', WHERE WHAT IT READS IS OF BULK AT MOST 1048576: true; the input reads as it did. -/
def siphashSumsUptoRow : OpenClaim := { program := "ytkdcaipadejchaa", sum := "3cdd523ca44fdb4f325929d9f978ef6e0a5ebc1433bb8b2602e6df72270389fa", func := "counterfoil/counterfoillaw10.SiphashSums", spec := "siphashSums", apart := false, narrowed := true }
def SiphashSumsUptoSaid : Prop := siphashSumsUptoRow.holds Try.pinned (OpenSpec.upto siphashSumsSpec)

/-- 'counterfoillaw10.SiphashKeys', WHERE WHAT IT READS IS OF BULK AT MOST 1048576: true; the input reads as it did. -/
def siphashKeysUptoRow : OpenClaim := { program := "ytkdcaipadejchaa", sum := "3cdd523ca44fdb4f325929d9f978ef6e0a5ebc1433bb8b2602e6df72270389fa", func := "counterfoil/counterfoillaw10.SiphashKeys", spec := "siphashKeys", apart := false, narrowed := true }
def SiphashKeysUptoSaid : Prop := siphashKeysUptoRow.holds Try.pinned (OpenSpec.upto siphashKeysSpec)

/-- 'counterfoillaw10.SiphashFolds', WHERE WHAT IT READS IS OF BULK AT MOST 1048576: true; the input reads as it did. -/
def siphashFoldsUptoRow : OpenClaim := { program := "ytkdcaipadejchaa", sum := "3cdd523ca44fdb4f325929d9f978ef6e0a5ebc1433bb8b2602e6df72270389fa", func := "counterfoil/counterfoillaw10.SiphashFolds", spec := "siphashFolds", apart := false, narrowed := true }
def SiphashFoldsUptoSaid : Prop := siphashFoldsUptoRow.holds Try.pinned (OpenSpec.upto siphashFoldsSpec)

/-- 'counterfoillaw11.RingKeys', WHERE WHAT IT READS IS OF BULK AT MOST 1048576: true; the input reads as it did. -/
def ringKeysUptoRow : OpenClaim := { program := "ytkdcaipadejchaa", sum := "3cdd523ca44fdb4f325929d9f978ef6e0a5ebc1433bb8b2602e6df72270389fa", func := "counterfoil/counterfoillaw11.RingKeys", spec := "ringKeys", apart := false, narrowed := true }
def RingKeysUptoSaid : Prop := ringKeysUptoRow.holds Try.pinned (OpenSpec.upto ringKeysSpec)

/-- 'counterfoillaw11.RingBytes', WHERE WHAT IT READS IS OF BULK AT MOST 1048576: true; the input reads as it did. -/
def ringBytesUptoRow : OpenClaim := { program := "ytkdcaipadejchaa", sum := "3cdd523ca44fdb4f325929d9f978ef6e0a5ebc1433bb8b2602e6df72270389fa", func := "counterfoil/counterfoillaw11.RingBytes", spec := "ringBytes", apart := false, narrowed := true }
def RingBytesUptoSaid : Prop := ringBytesUptoRow.holds Try.pinned (OpenSpec.upto ringBytesSpec)

/-- 'counterfoillaw11.RingKeeps', WHERE WHAT IT READS IS OF BULK AT MOST 1048576: true; the input reads as it did. -/
def ringKeepsUptoRow : OpenClaim := { program := "ytkdcaipadejchaa", sum := "3cdd523ca44fdb4f325929d9f978ef6e0a5ebc1433bb8b2602e6df72270389fa", func := "counterfoil/counterfoillaw11.RingKeeps", spec := "ringKeeps", apart := false, narrowed := true }
def RingKeepsUptoSaid : Prop := ringKeepsUptoRow.holds Try.pinned (OpenSpec.upto ringKeepsSpec)

end Rows
end Go.Proofs.Ytkdcaipadejchaa
