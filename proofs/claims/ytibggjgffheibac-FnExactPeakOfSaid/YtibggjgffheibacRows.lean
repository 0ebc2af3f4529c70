/-
  No cell of these rows narrows 'for every input' (looked for: loops, veiled, ifaces, maps, wideKeys, modest, calm, conditions, laid).
  DERIVED. THE GIVEN ROWS OF THIS SEAT. 6 by the template 'for every input the law returns true; each argument reads behind the call as it read before'; 0 by the template 'total and deterministic' (their statements: YtibggjgffheibacTotals.lean).
  GIVEN WITH THE SEED: the statements are not yours to turn. If you find one false, say at which input.
  Laid BY PROGRAM, IN A SANDBOX (cutbox-rows.mjs): the forced cells as the released guide's own fill.sh prints them over the translation bcca2148a2a3c749… (all of the seat's roots in one cut). By AI agents, Wed Nov 11 2026. No macro, syntax, notation, axiom, sorry.
-/
import Derived.Test.YtibggjgffheibacChecked
import GoSem.Claim
import GoSem.ClaimJoined
import GoSem.ClaimMapViews
import Derived.JoinedTies
import Derived.KernelRfl
namespace Go.Proofs.Ytibggjgffheibac
/- THE CELL 'sum', in the pinned program and in every row, IS THE sha256 OF THE DUMP (.gsa) THAT YtibggjgffheibacProg.lean LOADS. Nothing in Lean hashes anything: it is a label: what it is worth is what the hold of that sum in a sandbox is worth. -/
noncomputable def Try.pinned : Pinned := { name := "ytibggjgffheibac", sum := "bcca2148a2a3c749631e172d830b5deb085170592830f3dc7ad85c816919ac2b", checked := Try.checked }
namespace Rows
def none {H : Type} : Left H := { results := [], args := [] }

/-- 'laws.FnExactIsSilent': WHATEVER THE INPUT: true; the input reads as it did. -/
def fnExactIsSilentSpec : ChangeSpec := { name := "fnExactIsSilent", fn := fun _ => fun
  | [d] => { results := [.lit (.bool true)], args := [d] }
  | _ => none }
def fnExactIsSilentRow : OpenClaim := { program := "ytibggjgffheibac", sum := "bcca2148a2a3c749631e172d830b5deb085170592830f3dc7ad85c816919ac2b", func := "loop.example/g01173/laws.FnExactIsSilent", spec := "fnExactIsSilent", apart := false }
def FnExactIsSilentSaid : Prop := fnExactIsSilentRow.holds Try.pinned (OpenSpec.ofChange fnExactIsSilentSpec)

/-- ITS FALSE NEIGHBOUR: 'it returns false'. Refute it at one input. -/
def fnExactIsSilentWrong : ChangeSpec := { name := "fnExactIsSilent", fn := fun _ => fun
  | [d] => { results := [.lit (.bool false)], args := [d] }
  | _ => none }
def FnExactIsSilentWrongFalsely : Prop := fnExactIsSilentRow.holds Try.pinned (OpenSpec.ofChange fnExactIsSilentWrong)

/-- 'laws.FnExactFlushBlock': WHATEVER THE INPUT: true; the input reads as it did. -/
def fnExactFlushBlockSpec : ChangeSpec := { name := "fnExactFlushBlock", fn := fun _ => fun
  | [d] => { results := [.lit (.bool true)], args := [d] }
  | _ => none }
def fnExactFlushBlockRow : OpenClaim := { program := "ytibggjgffheibac", sum := "bcca2148a2a3c749631e172d830b5deb085170592830f3dc7ad85c816919ac2b", func := "loop.example/g01173/laws.FnExactFlushBlock", spec := "fnExactFlushBlock", inPlace := ["math.Float32bits", "math.Float32frombits"], apart := false }
def FnExactFlushBlockSaid : Prop := fnExactFlushBlockRow.holds Try.pinned (OpenSpec.ofChange fnExactFlushBlockSpec)

/-- ITS FALSE NEIGHBOUR: 'it returns false'. Refute it at one input. -/
def fnExactFlushBlockWrong : ChangeSpec := { name := "fnExactFlushBlock", fn := fun _ => fun
  | [d] => { results := [.lit (.bool false)], args := [d] }
  | _ => none }
def FnExactFlushBlockWrongFalsely : Prop := fnExactFlushBlockRow.holds Try.pinned (OpenSpec.ofChange fnExactFlushBlockWrong)

/-- 'laws.FnExactMixBlocks': WHATEVER THE INPUT: true; the input reads as it did. -/
def fnExactMixBlocksSpec : ChangeSpec := { name := "fnExactMixBlocks", fn := fun _ => fun
  | [d1, d2] => { results := [.lit (.bool true)], args := [d1, d2] }
  | _ => none }
def fnExactMixBlocksRow : OpenClaim := { program := "ytibggjgffheibac", sum := "bcca2148a2a3c749631e172d830b5deb085170592830f3dc7ad85c816919ac2b", func := "loop.example/g01173/laws.FnExactMixBlocks", spec := "fnExactMixBlocks", apart := false }
def FnExactMixBlocksSaid : Prop := fnExactMixBlocksRow.holds Try.pinned (OpenSpec.ofChange fnExactMixBlocksSpec)

/-- ITS FALSE NEIGHBOUR: 'it returns false'. Refute it at one input. -/
def fnExactMixBlocksWrong : ChangeSpec := { name := "fnExactMixBlocks", fn := fun _ => fun
  | [d1, d2] => { results := [.lit (.bool false)], args := [d1, d2] }
  | _ => none }
def FnExactMixBlocksWrongFalsely : Prop := fnExactMixBlocksRow.holds Try.pinned (OpenSpec.ofChange fnExactMixBlocksWrong)

/-- 'laws.FnExactScaleBlock': WHATEVER THE INPUT: true; the input reads as it did. -/
def fnExactScaleBlockSpec : ChangeSpec := { name := "fnExactScaleBlock", fn := fun _ => fun
  | [d1, d2] => { results := [.lit (.bool true)], args := [d1, d2] }
  | _ => none }
def fnExactScaleBlockRow : OpenClaim := { program := "ytibggjgffheibac", sum := "bcca2148a2a3c749631e172d830b5deb085170592830f3dc7ad85c816919ac2b", func := "loop.example/g01173/laws.FnExactScaleBlock", spec := "fnExactScaleBlock", apart := false }
def FnExactScaleBlockSaid : Prop := fnExactScaleBlockRow.holds Try.pinned (OpenSpec.ofChange fnExactScaleBlockSpec)

/-- ITS FALSE NEIGHBOUR: 'it returns false'. Refute it at one input. -/
def fnExactScaleBlockWrong : ChangeSpec := { name := "fnExactScaleBlock", fn := fun _ => fun
  | [d1, d2] => { results := [.lit (.bool false)], args := [d1, d2] }
  | _ => none }
def FnExactScaleBlockWrongFalsely : Prop := fnExactScaleBlockRow.holds Try.pinned (OpenSpec.ofChange fnExactScaleBlockWrong)

/-- 'laws.FnExactRampBlock': WHATEVER THE INPUT: true; the input reads as it did. -/
def fnExactRampBlockSpec : ChangeSpec := { name := "fnExactRampBlock", fn := fun _ => fun
  | [d1, d2, d3] => { results := [.lit (.bool true)], args := [d1, d2, d3] }
  | _ => none }
def fnExactRampBlockRow : OpenClaim := { program := "ytibggjgffheibac", sum := "bcca2148a2a3c749631e172d830b5deb085170592830f3dc7ad85c816919ac2b", func := "loop.example/g01173/laws.FnExactRampBlock", spec := "fnExactRampBlock", apart := false }
def FnExactRampBlockSaid : Prop := fnExactRampBlockRow.holds Try.pinned (OpenSpec.ofChange fnExactRampBlockSpec)

/-- ITS FALSE NEIGHBOUR: 'it returns false'. Refute it at one input. -/
def fnExactRampBlockWrong : ChangeSpec := { name := "fnExactRampBlock", fn := fun _ => fun
  | [d1, d2, d3] => { results := [.lit (.bool false)], args := [d1, d2, d3] }
  | _ => none }
def FnExactRampBlockWrongFalsely : Prop := fnExactRampBlockRow.holds Try.pinned (OpenSpec.ofChange fnExactRampBlockWrong)

/-- 'laws.FnExactPeakOf': WHATEVER THE INPUT: true; the input reads as it did. -/
def fnExactPeakOfSpec : ChangeSpec := { name := "fnExactPeakOf", fn := fun _ => fun
  | [d] => { results := [.lit (.bool true)], args := [d] }
  | _ => none }
def fnExactPeakOfRow : OpenClaim := { program := "ytibggjgffheibac", sum := "bcca2148a2a3c749631e172d830b5deb085170592830f3dc7ad85c816919ac2b", func := "loop.example/g01173/laws.FnExactPeakOf", spec := "fnExactPeakOf", inPlace := ["math.Float32bits", "math.Float32frombits", "math.Float64bits", "math.Float64frombits"], apart := false }
def FnExactPeakOfSaid : Prop := fnExactPeakOfRow.holds Try.pinned (OpenSpec.ofChange fnExactPeakOfSpec)

/-- ITS FALSE NEIGHBOUR: 'it returns false'. Refute it at one input. -/
def fnExactPeakOfWrong : ChangeSpec := { name := "fnExactPeakOf", fn := fun _ => fun
  | [d] => { results := [.lit (.bool false)], args := [d] }
  | _ => none }
def FnExactPeakOfWrongFalsely : Prop := fnExactPeakOfRow.holds Try.pinned (OpenSpec.ofChange fnExactPeakOfWrong)

/- THE SECOND FORM. 'bulk': how many values and letters a reading holds, each counted each time it is reached (what is shared counts as often as it is met; a slice's spare places count too). A statement '..UptoSaid' is the law's where the arguments, and the package variables that the reading takes, are together of bulk at most 1048576: NARROWER than '..Said'. Prove '..Said' where nothing that the law and all that it calls make is longer than what came in: it says more and counts as full. Else prove '..UptoSaid'. A law counts once. -/
mutual
def uptoBulk {H : Type} : DataW H → Nat
  | .lit (.string bytes) => bytes.length + 1
  | .lit _ => 1
  | .nil => 1
  | .ptr d => uptoBulk d + 1
  | .slice elems spare => uptoBulkAll elems + uptoBulkAll spare + 1
  | .agg parts => uptoBulkAll parts + 1
  | .iface _ d => uptoBulk d + 1
  | .map entries => uptoBulkEntries entries + 1
  | .held _ => 1
def uptoBulkAll {H : Type} : List (DataW H) → Nat
  | [] => 0
  | d :: r => uptoBulk d + uptoBulkAll r
def uptoBulkEntries {H : Type} : List (Lit × DataW H) → Nat
  | [] => 0
  | x :: r => uptoBulkEntry x + uptoBulkEntries r
def uptoBulkEntry {H : Type} : Lit × DataW H → Nat
  | (.string bytes, d) => bytes.length + uptoBulk d + 1
  | (_, d) => uptoBulk d + 1
 end
def uptoSmall : (H : Type) → List (DataW H) → Bool := fun _ ds => decide (uptoBulkAll ds ≤ 1048576)
def OpenSpec.upto (s : _root_.Go.ChangeSpec) : _root_.Go.OpenSpec := { _root_.Go.OpenSpec.ofChange s with cond := some uptoSmall }

/-- 'laws.FnExactIsSilent', WHERE WHAT IT READS IS OF BULK AT MOST 1048576: true; the input reads as it did. -/
def fnExactIsSilentUptoRow : OpenClaim := { program := "ytibggjgffheibac", sum := "bcca2148a2a3c749631e172d830b5deb085170592830f3dc7ad85c816919ac2b", func := "loop.example/g01173/laws.FnExactIsSilent", spec := "fnExactIsSilent", apart := false, narrowed := true }
def FnExactIsSilentUptoSaid : Prop := fnExactIsSilentUptoRow.holds Try.pinned (OpenSpec.upto fnExactIsSilentSpec)

/-- 'laws.FnExactFlushBlock', WHERE WHAT IT READS IS OF BULK AT MOST 1048576: true; the input reads as it did. -/
def fnExactFlushBlockUptoRow : OpenClaim := { program := "ytibggjgffheibac", sum := "bcca2148a2a3c749631e172d830b5deb085170592830f3dc7ad85c816919ac2b", func := "loop.example/g01173/laws.FnExactFlushBlock", spec := "fnExactFlushBlock", inPlace := ["math.Float32bits", "math.Float32frombits"], apart := false, narrowed := true }
def FnExactFlushBlockUptoSaid : Prop := fnExactFlushBlockUptoRow.holds Try.pinned (OpenSpec.upto fnExactFlushBlockSpec)

/-- 'laws.FnExactMixBlocks', WHERE WHAT IT READS IS OF BULK AT MOST 1048576: true; the input reads as it did. -/
def fnExactMixBlocksUptoRow : OpenClaim := { program := "ytibggjgffheibac", sum := "bcca2148a2a3c749631e172d830b5deb085170592830f3dc7ad85c816919ac2b", func := "loop.example/g01173/laws.FnExactMixBlocks", spec := "fnExactMixBlocks", apart := false, narrowed := true }
def FnExactMixBlocksUptoSaid : Prop := fnExactMixBlocksUptoRow.holds Try.pinned (OpenSpec.upto fnExactMixBlocksSpec)

/-- 'laws.FnExactScaleBlock', WHERE WHAT IT READS IS OF BULK AT MOST 1048576: true; the input reads as it did. -/
def fnExactScaleBlockUptoRow : OpenClaim := { program := "ytibggjgffheibac", sum := "bcca2148a2a3c749631e172d830b5deb085170592830f3dc7ad85c816919ac2b", func := "loop.example/g01173/laws.FnExactScaleBlock", spec := "fnExactScaleBlock", apart := false, narrowed := true }
def FnExactScaleBlockUptoSaid : Prop := fnExactScaleBlockUptoRow.holds Try.pinned (OpenSpec.upto fnExactScaleBlockSpec)

/-- 'laws.FnExactRampBlock', WHERE WHAT IT READS IS OF BULK AT MOST 1048576: true; the input reads as it did. -/
def fnExactRampBlockUptoRow : OpenClaim := { program := "ytibggjgffheibac", sum := "bcca2148a2a3c749631e172d830b5deb085170592830f3dc7ad85c816919ac2b", func := "loop.example/g01173/laws.FnExactRampBlock", spec := "fnExactRampBlock", apart := false, narrowed := true }
def FnExactRampBlockUptoSaid : Prop := fnExactRampBlockUptoRow.holds Try.pinned (OpenSpec.upto fnExactRampBlockSpec)

/-- 'laws.FnExactPeakOf', WHERE WHAT IT READS IS OF BULK AT MOST 1048576: true; the input reads as it did. -/
def fnExactPeakOfUptoRow : OpenClaim := { program := "ytibggjgffheibac", sum := "bcca2148a2a3c749631e172d830b5deb085170592830f3dc7ad85c816919ac2b", func := "loop.example/g01173/laws.FnExactPeakOf", spec := "fnExactPeakOf", inPlace := ["math.Float32bits", "math.Float32frombits", "math.Float64bits", "math.Float64frombits"], apart := false, narrowed := true }
def FnExactPeakOfUptoSaid : Prop := fnExactPeakOfUptoRow.holds Try.pinned (OpenSpec.upto fnExactPeakOfSpec)

end Rows
end Go.Proofs.Ytibggjgffheibac
