/-
  No cell of these rows narrows 'for every input' (looked for: loops, veiled, ifaces, maps, wideKeys, modest, calm, conditions, laid).
  DERIVED. THE GIVEN ROWS OF THIS SEAT. 3 by the template 'for every input the law returns true; each argument reads behind the call as it read before'; 0 by the template 'total and deterministic' (their statements: YtlioojekjnigiafGreatTotals.lean).
  GIVEN WITH THE SEED: the statements are not yours to turn. If you find one false, say at which input.
  Laid BY PROGRAM, IN A SANDBOX (cutbox-rows.mjs): the forced cells as the released guide's own fill.sh prints them over the translation fb893645bdbec952… (all of the seat's roots in one cut). By AI agents, Wed Nov 11 2026. No macro, syntax, notation, axiom, sorry.
-/
import Derived.Test.YtlioojekjnigiafGreatChecked
import GoSem.Claim
import GoSem.ClaimJoined
import GoSem.ClaimMapViews
import Derived.JoinedTies
import Derived.KernelRfl
namespace Go.Proofs.YtlioojekjnigiafGreat
/- THE CELL 'sum', in the pinned program and in every row, IS THE sha256 OF THE DUMP (.gsa) THAT YtlioojekjnigiafGreatProg.lean LOADS. Nothing in Lean hashes anything: it is a label: what it is worth is what the hold of that sum in a sandbox is worth. -/
noncomputable def Tryz.pinned : Pinned := { name := "ytlioojekjnigiafgreat", sum := "fb893645bdbec95236599c975d074c3d3ece5fbf89ab39057edf1b3c2cff6d33", checked := Tryz.checked }
namespace Rows
def none {H : Type} : Left H := { results := [], args := [] }

/-- 'cutwaterlaw.PacketLearns': WHATEVER THE INPUT: true; the input reads as it did. -/
def packetLearnsSpec : ChangeSpec := { name := "packetLearns", fn := fun _ => fun
  | [d1, d2] => { results := [.lit (.bool true)], args := [d1, d2] }
  | _ => none }
def packetLearnsRow : OpenClaim := { program := "ytlioojekjnigiafgreat", sum := "fb893645bdbec95236599c975d074c3d3ece5fbf89ab39057edf1b3c2cff6d33", func := "cutwater/cutwaterlaw.PacketLearns", spec := "packetLearns", inPlace := ["internal/abi.NoEscape", "slices.overlaps[cutwater/api.Entry]"], unfollowed := true, recurses := true, apart := false }
def PacketLearnsSaid : Prop := packetLearnsRow.holds Tryz.pinned (OpenSpec.ofChange packetLearnsSpec)

/-- ITS FALSE NEIGHBOUR: 'it returns false'. Refute it at one input. -/
def packetLearnsWrong : ChangeSpec := { name := "packetLearns", fn := fun _ => fun
  | [d1, d2] => { results := [.lit (.bool false)], args := [d1, d2] }
  | _ => none }
def PacketLearnsWrongFalsely : Prop := packetLearnsRow.holds Tryz.pinned (OpenSpec.ofChange packetLearnsWrong)

/-- 'cutwaterlaw.RestLogs': WHATEVER THE INPUT: true; the input reads as it did. -/
def restLogsSpec : ChangeSpec := { name := "restLogs", fn := fun _ => fun
  | [d1, d2, d3, d4, d5] => { results := [.lit (.bool true)], args := [d1, d2, d3, d4, d5] }
  | _ => none }
def restLogsRow : OpenClaim := { program := "ytlioojekjnigiafgreat", sum := "fb893645bdbec95236599c975d074c3d3ece5fbf89ab39057edf1b3c2cff6d33", func := "cutwater/cutwaterlaw.RestLogs", spec := "restLogs", inPlace := ["slices.overlaps[cutwater/order.turn]", "internal/bytealg.IndexByteString", "internal/bytealg.IndexString", "internal/abi.NoEscape", "slices.overlaps[cutwater/api.Wait]"], unfollowed := true, recurses := true, named := ["internal/bytealg.MaxLen"], apart := false }
def RestLogsSaid : Prop := restLogsRow.holds Tryz.pinned (OpenSpec.ofChange restLogsSpec)

/-- ITS FALSE NEIGHBOUR: 'it returns false'. Refute it at one input. -/
def restLogsWrong : ChangeSpec := { name := "restLogs", fn := fun _ => fun
  | [d1, d2, d3, d4, d5] => { results := [.lit (.bool false)], args := [d1, d2, d3, d4, d5] }
  | _ => none }
def RestLogsWrongFalsely : Prop := restLogsRow.holds Tryz.pinned (OpenSpec.ofChange restLogsWrong)

/-- 'cutwaterlaw.WorldTells': WHATEVER THE INPUT: true; the input reads as it did. -/
def worldTellsSpec : ChangeSpec := { name := "worldTells", fn := fun _ => fun
  | [d1, d2] => { results := [.lit (.bool true)], args := [d1, d2] }
  | _ => none }
def worldTellsRow : OpenClaim := { program := "ytlioojekjnigiafgreat", sum := "fb893645bdbec95236599c975d074c3d3ece5fbf89ab39057edf1b3c2cff6d33", func := "cutwater/cutwaterlaw.WorldTells", spec := "worldTells", inPlace := ["slices.overlaps[cutwater/api.Entry]"], unfollowed := true, recurses := true, apart := false }
def WorldTellsSaid : Prop := worldTellsRow.holds Tryz.pinned (OpenSpec.ofChange worldTellsSpec)

/-- ITS FALSE NEIGHBOUR: 'it returns false'. Refute it at one input. -/
def worldTellsWrong : ChangeSpec := { name := "worldTells", fn := fun _ => fun
  | [d1, d2] => { results := [.lit (.bool false)], args := [d1, d2] }
  | _ => none }
def WorldTellsWrongFalsely : Prop := worldTellsRow.holds Tryz.pinned (OpenSpec.ofChange worldTellsWrong)

/- THE SECOND FORM. 'bulk': how many values and letters a reading holds, each counted each time it is reached (what is shared counts as often as it is met; a slice's spare places count too). A statement '..UptoSaid' is the law's where the arguments, and the package variables that the reading takes, are together of bulk at most 1048576: NARROWER than '..Said'. Prove '..Said' where nothing that the law and all that it calls make is longer than what came in: it says more and counts as full. Else prove '..UptoSaid'. A law counts once. -/
mutual
def uptoBulk {H : Type} : DataW H → Nat
  | .lit (.string bytes) => bytes.length + 1
  | .lit _ => 1
  | .nil => 1
  | .ptr d => uptoBulk d + 1
  | .slice elems spare => uptoBulkAll elems + uptoBulkAll spare + 1
  | .agg parts => uptoBulkAll parts + 1
  | .iface _ d => uptoBulk d + 1
  | .map entries => uptoBulkEntries entries + 1
  | .held _ => 1
def uptoBulkAll {H : Type} : List (DataW H) → Nat
  | [] => 0
  | d :: r => uptoBulk d + uptoBulkAll r
def uptoBulkEntries {H : Type} : List (Lit × DataW H) → Nat
  | [] => 0
  | x :: r => uptoBulkEntry x + uptoBulkEntries r
def uptoBulkEntry {H : Type} : Lit × DataW H → Nat
  | (.string bytes, d) => bytes.length + uptoBulk d + 1
  | (_, d) => uptoBulk d + 1
 end
def uptoSmall : (H : Type) → List (DataW H) → Bool := fun _ ds => decide (uptoBulkAll ds ≤ 1048576)
def OpenSpec.upto (s : _root_.Go.ChangeSpec) : _root_.Go.OpenSpec := { _root_.Go.OpenSpec.ofChange s with cond := some uptoSmall }

/-- 'cutwaterlaw.PacketLearns', WHERE WHAT IT READS IS OF BULK AT MOST 1048576: true; the input reads as it did. -/
def packetLearnsUptoRow : OpenClaim := { program := "ytlioojekjnigiafgreat", sum := "fb893645bdbec95236599c975d074c3d3ece5fbf89ab39057edf1b3c2cff6d33", func := "cutwater/cutwaterlaw.PacketLearns", spec := "packetLearns", inPlace := ["internal/abi.NoEscape", "slices.overlaps[cutwater/api.Entry]"], unfollowed := true, recurses := true, apart := false, narrowed := true }
def PacketLearnsUptoSaid : Prop := packetLearnsUptoRow.holds Tryz.pinned (OpenSpec.upto packetLearnsSpec)

/-- 'cutwaterlaw.RestLogs', WHERE WHAT IT READS IS OF BULK AT MOST 1048576: true; the input reads as it did. -/
def restLogsUptoRow : OpenClaim := { program := "ytlioojekjnigiafgreat", sum := "fb893645bdbec95236599c975d074c3d3ece5fbf89ab39057edf1b3c2cff6d33", func := "cutwater/cutwaterlaw.RestLogs", spec := "restLogs", inPlace := ["slices.overlaps[cutwater/order.turn]", "internal/bytealg.IndexByteString", "internal/bytealg.IndexString", "internal/abi.NoEscape", "slices.overlaps[cutwater/api.Wait]"], unfollowed := true, recurses := true, named := ["internal/bytealg.MaxLen"], apart := false, narrowed := true }
def RestLogsUptoSaid : Prop := restLogsUptoRow.holds Tryz.pinned (OpenSpec.upto restLogsSpec)

/-- 'cutwaterlaw.WorldTells', WHERE WHAT IT READS IS OF BULK AT MOST 1048576: true; the input reads as it did. -/
def worldTellsUptoRow : OpenClaim := { program := "ytlioojekjnigiafgreat", sum := "fb893645bdbec95236599c975d074c3d3ece5fbf89ab39057edf1b3c2cff6d33", func := "cutwater/cutwaterlaw.WorldTells", spec := "worldTells", inPlace := ["slices.overlaps[cutwater/api.Entry]"], unfollowed := true, recurses := true, apart := false, narrowed := true }
def WorldTellsUptoSaid : Prop := worldTellsUptoRow.holds Tryz.pinned (OpenSpec.upto worldTellsSpec)

end Rows
end Go.Proofs.YtlioojekjnigiafGreat
