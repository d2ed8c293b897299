/-
  No cell of these rows narrows 'for every input' (looked for: loops, veiled, ifaces, maps, wideKeys, modest, calm, conditions, laid).
  DERIVED. THE GIVEN ROWS OF THIS SEAT. 2 by the template 'for every input the law returns true; each argument reads behind the call as it read before'; 0 by the template 'total and deterministic' (their statements: YtikdncgjaomlcabTotals.lean).
  GIVEN WITH THE SEED: the statements are not yours to turn. If you find one false, say at which input.
  Laid BY PROGRAM, IN A SANDBOX (cutbox-rows.mjs): the forced cells as the released guide's own fill.sh prints them over the translation 039d4a24c1e46778… (all of the seat's roots in one cut). By AI agents, Wed Nov 11 2026. No macro, syntax, notation, axiom, sorry.
-/
import Derived.Test.YtikdncgjaomlcabChecked
import GoSem.Claim
import GoSem.ClaimJoined
import GoSem.ClaimMapViews
import Derived.JoinedTies
import Derived.KernelRfl
namespace Go.Proofs.Ytikdncgjaomlcab
/- THE CELL 'sum', in the pinned program and in every row, IS THE sha256 OF THE DUMP (.gsa) THAT YtikdncgjaomlcabProg.lean LOADS. Nothing in Lean hashes anything: it is a label: what it is worth is what the hold of that sum in a sandbox is worth. -/
noncomputable def Try.pinned : Pinned := { name := "ytikdncgjaomlcab", sum := "039d4a24c1e4677838be1a4151e02a955117022b3ec30315f92adcac2c7334b4", checked := Try.checked }
namespace Rows
def none {H : Type} : Left H := { results := [], args := [] }

/-- 'cutwaterlaw.ChainFences': WHATEVER THE INPUT: true; the input reads as it did. -/
def chainFencesSpec : ChangeSpec := { name := "chainFences", fn := fun _ => fun
  | [d1, d2, d3] => { results := [.lit (.bool true)], args := [d1, d2, d3] }
  | _ => none }
def chainFencesRow : OpenClaim := { program := "ytikdncgjaomlcab", sum := "039d4a24c1e4677838be1a4151e02a955117022b3ec30315f92adcac2c7334b4", func := "cutwater/cutwaterlaw.ChainFences", spec := "chainFences", unfollowed := true, recurses := true, apart := false }
def ChainFencesSaid : Prop := chainFencesRow.holds Try.pinned (OpenSpec.ofChange chainFencesSpec)

/-- ITS FALSE NEIGHBOUR: 'it returns false'. Refute it at one input. -/
def chainFencesWrong : ChangeSpec := { name := "chainFences", fn := fun _ => fun
  | [d1, d2, d3] => { results := [.lit (.bool false)], args := [d1, d2, d3] }
  | _ => none }
def ChainFencesWrongFalsely : Prop := chainFencesRow.holds Try.pinned (OpenSpec.ofChange chainFencesWrong)

/-- 'cutwaterlaw.ChainTail': WHATEVER THE INPUT: true; the input reads as it did. -/
def chainTailSpec : ChangeSpec := { name := "chainTail", fn := fun _ => fun
  | [d1, d2, d3] => { results := [.lit (.bool true)], args := [d1, d2, d3] }
  | _ => none }
def chainTailRow : OpenClaim := { program := "ytikdncgjaomlcab", sum := "039d4a24c1e4677838be1a4151e02a955117022b3ec30315f92adcac2c7334b4", func := "cutwater/cutwaterlaw.ChainTail", spec := "chainTail", unfollowed := true, recurses := true, apart := false }
def ChainTailSaid : Prop := chainTailRow.holds Try.pinned (OpenSpec.ofChange chainTailSpec)

/-- ITS FALSE NEIGHBOUR: 'it returns false'. Refute it at one input. -/
def chainTailWrong : ChangeSpec := { name := "chainTail", fn := fun _ => fun
  | [d1, d2, d3] => { results := [.lit (.bool false)], args := [d1, d2, d3] }
  | _ => none }
def ChainTailWrongFalsely : Prop := chainTailRow.holds Try.pinned (OpenSpec.ofChange chainTailWrong)

/- THE SECOND FORM. 'bulk': how many values and letters a reading holds, each counted each time it is reached (what is shared counts as often as it is met; a slice's spare places count too). A statement '..UptoSaid' is the law's where the arguments, and the package variables that the reading takes, are together of bulk at most 1048576: NARROWER than '..Said'. Prove '..Said' where nothing that the law and all that it calls make is longer than what came in: it says more and counts as full. Else prove '..UptoSaid'. A law counts once. -/
mutual
def uptoBulk {H : Type} : DataW H → Nat
  | .lit (.string bytes) => bytes.length + 1
  | .lit _ => 1
  | .nil => 1
  | .ptr d => uptoBulk d + 1
  | .slice elems spare => uptoBulkAll elems + uptoBulkAll spare + 1
  | .agg parts => uptoBulkAll parts + 1
  | .iface _ d => uptoBulk d + 1
  | .map entries => uptoBulkEntries entries + 1
  | .held _ => 1
def uptoBulkAll {H : Type} : List (DataW H) → Nat
  | [] => 0
  | d :: r => uptoBulk d + uptoBulkAll r
def uptoBulkEntries {H : Type} : List (Lit × DataW H) → Nat
  | [] => 0
  | x :: r => uptoBulkEntry x + uptoBulkEntries r
def uptoBulkEntry {H : Type} : Lit × DataW H → Nat
  | (.string bytes, d) => bytes.length + uptoBulk d + 1
  | (_, d) => uptoBulk d + 1
 end
def uptoSmall : (H : Type) → List (DataW H) → Bool := fun _ ds => decide (uptoBulkAll ds ≤ 1048576)
def OpenSpec.upto (s : _root_.Go.ChangeSpec) : _root_.Go.OpenSpec := { _root_.Go.OpenSpec.ofChange s with cond := some uptoSmall }

/-- 'cutwaterlaw.ChainFences', WHERE WHAT IT READS IS OF BULK AT MOST 1048576: true; the input reads as it did. -/
def chainFencesUptoRow : OpenClaim := { program := "ytikdncgjaomlcab", sum := "039d4a24c1e4677838be1a4151e02a955117022b3ec30315f92adcac2c7334b4", func := "cutwater/cutwaterlaw.ChainFences", spec := "chainFences", unfollowed := true, recurses := true, apart := false, narrowed := true }
def ChainFencesUptoSaid : Prop := chainFencesUptoRow.holds Try.pinned (OpenSpec.upto chainFencesSpec)

/-- 'cutwaterlaw.ChainTail', WHERE WHAT IT READS IS OF BULK AT MOST 1048576: true; the input reads as it did. -/
def chainTailUptoRow : OpenClaim := { program := "ytikdncgjaomlcab", sum := "039d4a24c1e4677838be1a4151e02a955117022b3ec30315f92adcac2c7334b4", func := "cutwater/cutwaterlaw.ChainTail", spec := "chainTail", unfollowed := true, recurses := true, apart := false, narrowed := true }
def ChainTailUptoSaid : Prop := chainTailUptoRow.holds Try.pinned (OpenSpec.upto chainTailSpec)

end Rows
end Go.Proofs.Ytikdncgjaomlcab
