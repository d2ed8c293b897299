/-
  No cell of these rows narrows 'for every input' (looked for: loops, veiled, ifaces, maps, wideKeys, modest, calm, conditions, laid).
  DERIVED. THE GIVEN ROWS OF THIS SEAT. 6 by the template 'for every input the law returns true; each argument reads behind the call as it read before'; 0 by the template 'total and deterministic' (their statements: YtlioojekjnigiabTotals.lean).
  GIVEN WITH THE SEED: the statements are not yours to turn. If you find one false, say at which input.
  Laid BY PROGRAM, IN A SANDBOX (cutbox-rows.mjs): the forced cells as the released guide's own fill.sh prints them over the translation 1a924d106e02ebee… (all of the seat's roots in one cut). By AI agents, Wed Nov 11 2026. No macro, syntax, notation, axiom, sorry.
-/
import Derived.Test.YtlioojekjnigiabChecked
import GoSem.Claim
import GoSem.ClaimJoined
import GoSem.ClaimMapViews
import Derived.JoinedTies
import Derived.KernelRfl
namespace Go.Proofs.Ytlioojekjnigiab
/- THE CELL 'sum', in the pinned program and in every row, IS THE sha256 OF THE DUMP (.gsa) THAT YtlioojekjnigiabProg.lean LOADS. Nothing in Lean hashes anything: it is a label: what it is worth is what the hold of that sum in a sandbox is worth. -/
noncomputable def Try.pinned : Pinned := { name := "ytlioojekjnigiab", sum := "1a924d106e02ebee21c1be53bd36113a03024ea2158f0802c7fbb07baa7d2941", checked := Try.checked }
namespace Rows
def none {H : Type} : Left H := { results := [], args := [] }

/-- 'cutwaterlaw.ChainFences': WHATEVER THE INPUT: true; the input reads as it did. -/
def chainFencesSpec : ChangeSpec := { name := "chainFences", fn := fun _ => fun
  | [d1, d2, d3] => { results := [.lit (.bool true)], args := [d1, d2, d3] }
  | _ => none }
def chainFencesRow : OpenClaim := { program := "ytlioojekjnigiab", sum := "1a924d106e02ebee21c1be53bd36113a03024ea2158f0802c7fbb07baa7d2941", func := "cutwater/cutwaterlaw.ChainFences", spec := "chainFences", unfollowed := true, recurses := true, apart := false }
def ChainFencesSaid : Prop := chainFencesRow.holds Try.pinned (OpenSpec.ofChange chainFencesSpec)

/-- ITS FALSE NEIGHBOUR: 'it returns false'. Refute it at one input. -/
def chainFencesWrong : ChangeSpec := { name := "chainFences", fn := fun _ => fun
  | [d1, d2, d3] => { results := [.lit (.bool false)], args := [d1, d2, d3] }
  | _ => none }
def ChainFencesWrongFalsely : Prop := chainFencesRow.holds Try.pinned (OpenSpec.ofChange chainFencesWrong)

/-- 'cutwaterlaw.ChainTail': WHATEVER THE INPUT: true; the input reads as it did. -/
def chainTailSpec : ChangeSpec := { name := "chainTail", fn := fun _ => fun
  | [d1, d2, d3] => { results := [.lit (.bool true)], args := [d1, d2, d3] }
  | _ => none }
def chainTailRow : OpenClaim := { program := "ytlioojekjnigiab", sum := "1a924d106e02ebee21c1be53bd36113a03024ea2158f0802c7fbb07baa7d2941", func := "cutwater/cutwaterlaw.ChainTail", spec := "chainTail", unfollowed := true, recurses := true, apart := false }
def ChainTailSaid : Prop := chainTailRow.holds Try.pinned (OpenSpec.ofChange chainTailSpec)

/-- ITS FALSE NEIGHBOUR: 'it returns false'. Refute it at one input. -/
def chainTailWrong : ChangeSpec := { name := "chainTail", fn := fun _ => fun
  | [d1, d2, d3] => { results := [.lit (.bool false)], args := [d1, d2, d3] }
  | _ => none }
def ChainTailWrongFalsely : Prop := chainTailRow.holds Try.pinned (OpenSpec.ofChange chainTailWrong)

/-- 'cutwaterlaw.SkeenTells': WHATEVER THE INPUT: true; the input reads as it did. -/
def skeenTellsSpec : ChangeSpec := { name := "skeenTells", fn := fun _ => fun
  | [d1, d2, d3, d4, d5] => { results := [.lit (.bool true)], args := [d1, d2, d3, d4, d5] }
  | _ => none }
def skeenTellsRow : OpenClaim := { program := "ytlioojekjnigiab", sum := "1a924d106e02ebee21c1be53bd36113a03024ea2158f0802c7fbb07baa7d2941", func := "cutwater/cutwaterlaw.SkeenTells", spec := "skeenTells", inPlace := ["slices.overlaps[cutwater/api.Wait]"], unfollowed := true, recurses := true, apart := false }
def SkeenTellsSaid : Prop := skeenTellsRow.holds Try.pinned (OpenSpec.ofChange skeenTellsSpec)

/-- ITS FALSE NEIGHBOUR: 'it returns false'. Refute it at one input. -/
def skeenTellsWrong : ChangeSpec := { name := "skeenTells", fn := fun _ => fun
  | [d1, d2, d3, d4, d5] => { results := [.lit (.bool false)], args := [d1, d2, d3, d4, d5] }
  | _ => none }
def SkeenTellsWrongFalsely : Prop := skeenTellsRow.holds Try.pinned (OpenSpec.ofChange skeenTellsWrong)

/-- 'cutwaterlaw.SkeenSame': WHATEVER THE INPUT: true; the input reads as it did. -/
def skeenSameSpec : ChangeSpec := { name := "skeenSame", fn := fun _ => fun
  | [d1, d2] => { results := [.lit (.bool true)], args := [d1, d2] }
  | _ => none }
def skeenSameRow : OpenClaim := { program := "ytlioojekjnigiab", sum := "1a924d106e02ebee21c1be53bd36113a03024ea2158f0802c7fbb07baa7d2941", func := "cutwater/cutwaterlaw.SkeenSame", spec := "skeenSame", inPlace := ["slices.overlaps[cutwater/api.Wait]"], unfollowed := true, recurses := true, apart := false }
def SkeenSameSaid : Prop := skeenSameRow.holds Try.pinned (OpenSpec.ofChange skeenSameSpec)

/-- ITS FALSE NEIGHBOUR: 'it returns false'. Refute it at one input. -/
def skeenSameWrong : ChangeSpec := { name := "skeenSame", fn := fun _ => fun
  | [d1, d2] => { results := [.lit (.bool false)], args := [d1, d2] }
  | _ => none }
def SkeenSameWrongFalsely : Prop := skeenSameRow.holds Try.pinned (OpenSpec.ofChange skeenSameWrong)

/-- 'cutwaterlaw.SkeenAfter': WHATEVER THE INPUT: true; the input reads as it did. -/
def skeenAfterSpec : ChangeSpec := { name := "skeenAfter", fn := fun _ => fun
  | [d1, d2, d3] => { results := [.lit (.bool true)], args := [d1, d2, d3] }
  | _ => none }
def skeenAfterRow : OpenClaim := { program := "ytlioojekjnigiab", sum := "1a924d106e02ebee21c1be53bd36113a03024ea2158f0802c7fbb07baa7d2941", func := "cutwater/cutwaterlaw.SkeenAfter", spec := "skeenAfter", inPlace := ["slices.overlaps[cutwater/api.Wait]"], unfollowed := true, recurses := true, apart := false }
def SkeenAfterSaid : Prop := skeenAfterRow.holds Try.pinned (OpenSpec.ofChange skeenAfterSpec)

/-- ITS FALSE NEIGHBOUR: 'it returns false'. Refute it at one input. -/
def skeenAfterWrong : ChangeSpec := { name := "skeenAfter", fn := fun _ => fun
  | [d1, d2, d3] => { results := [.lit (.bool false)], args := [d1, d2, d3] }
  | _ => none }
def SkeenAfterWrongFalsely : Prop := skeenAfterRow.holds Try.pinned (OpenSpec.ofChange skeenAfterWrong)

/-- 'cutwaterlaw.VectorTells': WHATEVER THE INPUT: true; the input reads as it did. -/
def vectorTellsSpec : ChangeSpec := { name := "vectorTells", fn := fun _ => fun
  | [d1, d2, d3] => { results := [.lit (.bool true)], args := [d1, d2, d3] }
  | _ => none }
def vectorTellsRow : OpenClaim := { program := "ytlioojekjnigiab", sum := "1a924d106e02ebee21c1be53bd36113a03024ea2158f0802c7fbb07baa7d2941", func := "cutwater/cutwaterlaw.VectorTells", spec := "vectorTells", apart := false }
def VectorTellsSaid : Prop := vectorTellsRow.holds Try.pinned (OpenSpec.ofChange vectorTellsSpec)

/-- ITS FALSE NEIGHBOUR: 'it returns false'. Refute it at one input. -/
def vectorTellsWrong : ChangeSpec := { name := "vectorTells", fn := fun _ => fun
  | [d1, d2, d3] => { results := [.lit (.bool false)], args := [d1, d2, d3] }
  | _ => none }
def VectorTellsWrongFalsely : Prop := vectorTellsRow.holds Try.pinned (OpenSpec.ofChange vectorTellsWrong)

/- THE SECOND FORM. 'bulk': how many values and letters a reading holds, each counted each time it is reached (what is shared counts as often as it is met; a slice's spare places count too). A statement '..UptoSaid' is the law's where the arguments, and the package variables that the reading takes, are together of bulk at most 1048576: NARROWER than '..Said'. Prove '..Said' where nothing that the law and all that it calls make is longer than what came in: it says more and counts as full. Else prove '..UptoSaid'. A law counts once. -/
mutual
def uptoBulk {H : Type} : DataW H → Nat
  | .lit (.string bytes) => bytes.length + 1
  | .lit _ => 1
  | .nil => 1
  | .ptr d => uptoBulk d + 1
  | .slice elems spare => uptoBulkAll elems + uptoBulkAll spare + 1
  | .agg parts => uptoBulkAll parts + 1
  | .iface _ d => uptoBulk d + 1
  | .map entries => uptoBulkEntries entries + 1
  | .held _ => 1
def uptoBulkAll {H : Type} : List (DataW H) → Nat
  | [] => 0
  | d :: r => uptoBulk d + uptoBulkAll r
def uptoBulkEntries {H : Type} : List (Lit × DataW H) → Nat
  | [] => 0
  | x :: r => uptoBulkEntry x + uptoBulkEntries r
def uptoBulkEntry {H : Type} : Lit × DataW H → Nat
  | (.string bytes, d) => bytes.length + uptoBulk d + 1
  | (_, d) => uptoBulk d + 1
 end
def uptoSmall : (H : Type) → List (DataW H) → Bool := fun _ ds => decide (uptoBulkAll ds ≤ 1048576)
def OpenSpec.upto (s : _root_.Go.ChangeSpec) : _root_.Go.OpenSpec := { _root_.Go.OpenSpec.ofChange s with cond := some uptoSmall }

/-- 'cutwaterlaw.ChainFences', WHERE WHAT IT READS IS OF BULK AT MOST 1048576: true; the input reads as it did. -/
def chainFencesUptoRow : OpenClaim := { program := "ytlioojekjnigiab", sum := "1a924d106e02ebee21c1be53bd36113a03024ea2158f0802c7fbb07baa7d2941", func := "cutwater/cutwaterlaw.ChainFences", spec := "chainFences", unfollowed := true, recurses := true, apart := false, narrowed := true }
def ChainFencesUptoSaid : Prop := chainFencesUptoRow.holds Try.pinned (OpenSpec.upto chainFencesSpec)

/-- 'cutwaterlaw.ChainTail', WHERE WHAT IT READS IS OF BULK AT MOST 1048576: true; the input reads as it did. -/
def chainTailUptoRow : OpenClaim := { program := "ytlioojekjnigiab", sum := "1a924d106e02ebee21c1be53bd36113a03024ea2158f0802c7fbb07baa7d2941", func := "cutwater/cutwaterlaw.ChainTail", spec := "chainTail", unfollowed := true, recurses := true, apart := false, narrowed := true }
def ChainTailUptoSaid : Prop := chainTailUptoRow.holds Try.pinned (OpenSpec.upto chainTailSpec)

/-- 'cutwaterlaw.SkeenTells', WHERE WHAT IT READS IS OF BULK AT MOST 1048576: true; the input reads as it did. -/
def skeenTellsUptoRow : OpenClaim := { program := "ytlioojekjnigiab", sum := "1a924d106e02ebee21c1be53bd36113a03024ea2158f0802c7fbb07baa7d2941", func := "cutwater/cutwaterlaw.SkeenTells", spec := "skeenTells", inPlace := ["slices.overlaps[cutwater/api.Wait]"], unfollowed := true, recurses := true, apart := false, narrowed := true }
def SkeenTellsUptoSaid : Prop := skeenTellsUptoRow.holds Try.pinned (OpenSpec.upto skeenTellsSpec)

/-- 'cutwaterlaw.SkeenSame', WHERE WHAT IT READS IS OF BULK AT MOST 1048576: true; the input reads as it did. -/
def skeenSameUptoRow : OpenClaim := { program := "ytlioojekjnigiab", sum := "1a924d106e02ebee21c1be53bd36113a03024ea2158f0802c7fbb07baa7d2941", func := "cutwater/cutwaterlaw.SkeenSame", spec := "skeenSame", inPlace := ["slices.overlaps[cutwater/api.Wait]"], unfollowed := true, recurses := true, apart := false, narrowed := true }
def SkeenSameUptoSaid : Prop := skeenSameUptoRow.holds Try.pinned (OpenSpec.upto skeenSameSpec)

/-- 'cutwaterlaw.SkeenAfter', WHERE WHAT IT READS IS OF BULK AT MOST 1048576: true; the input reads as it did. -/
def skeenAfterUptoRow : OpenClaim := { program := "ytlioojekjnigiab", sum := "1a924d106e02ebee21c1be53bd36113a03024ea2158f0802c7fbb07baa7d2941", func := "cutwater/cutwaterlaw.SkeenAfter", spec := "skeenAfter", inPlace := ["slices.overlaps[cutwater/api.Wait]"], unfollowed := true, recurses := true, apart := false, narrowed := true }
def SkeenAfterUptoSaid : Prop := skeenAfterUptoRow.holds Try.pinned (OpenSpec.upto skeenAfterSpec)

/-- 'cutwaterlaw.VectorTells', WHERE WHAT IT READS IS OF BULK AT MOST 1048576: true; the input reads as it did. -/
def vectorTellsUptoRow : OpenClaim := { program := "ytlioojekjnigiab", sum := "1a924d106e02ebee21c1be53bd36113a03024ea2158f0802c7fbb07baa7d2941", func := "cutwater/cutwaterlaw.VectorTells", spec := "vectorTells", apart := false, narrowed := true }
def VectorTellsUptoSaid : Prop := vectorTellsUptoRow.holds Try.pinned (OpenSpec.upto vectorTellsSpec)

end Rows
end Go.Proofs.Ytlioojekjnigiab
