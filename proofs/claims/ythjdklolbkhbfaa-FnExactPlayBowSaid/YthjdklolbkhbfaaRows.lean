/-
  No cell of these rows narrows 'for every input' (looked for: loops, veiled, ifaces, maps, wideKeys, modest, calm, conditions, laid).
  DERIVED. THE GIVEN ROWS OF THIS SEAT. 3 by the template 'for every input the law returns true; each argument reads behind the call as it read before'; 0 by the template 'total and deterministic' (their statements: YthjdklolbkhbfaaTotals.lean).
  GIVEN WITH THE SEED: the statements are not yours to turn. If you find one false, say at which input.
  Laid BY PROGRAM, IN A SANDBOX (cutbox-rows.mjs): the forced cells as the released guide's own fill.sh prints them over the translation d5cc94bd0ff27a63… (all of the seat's roots in one cut). By AI agents, Wed Nov 11 2026. No macro, syntax, notation, axiom, sorry.
-/
import Derived.Test.YthjdklolbkhbfaaChecked
import GoSem.Claim
import GoSem.ClaimJoined
import GoSem.ClaimMapViews
import Derived.JoinedTies
import Derived.KernelRfl
namespace Go.Proofs.Ythjdklolbkhbfaa
/- THE CELL 'sum', in the pinned program and in every row, IS THE sha256 OF THE DUMP (.gsa) THAT YthjdklolbkhbfaaProg.lean LOADS. Nothing in Lean hashes anything: it is a label: what it is worth is what the hold of that sum in a sandbox is worth. -/
noncomputable def Try.pinned : Pinned := { name := "ythjdklolbkhbfaa", sum := "d5cc94bd0ff27a6307f988c488c2fe5d9b89570bbd796c4873b0335958e565bb", checked := Try.checked }
namespace Rows
def none {H : Type} : Left H := { results := [], args := [] }

/-- 'laws.FnExactSticksAt': WHATEVER THE INPUT: true; the input reads as it did. -/
def fnExactSticksAtSpec : ChangeSpec := { name := "fnExactSticksAt", fn := fun _ => fun
  | [d1, d2] => { results := [.lit (.bool true)], args := [d1, d2] }
  | _ => none }
def fnExactSticksAtRow : OpenClaim := { program := "ythjdklolbkhbfaa", sum := "d5cc94bd0ff27a6307f988c488c2fe5d9b89570bbd796c4873b0335958e565bb", func := "loop.example/g01173/laws.FnExactSticksAt", spec := "fnExactSticksAt", inPlace := ["math.Float32bits", "math.Float32frombits", "math.Float64bits", "math.Float64frombits"], unfollowed := true, recurses := true, apart := false }
def FnExactSticksAtSaid : Prop := fnExactSticksAtRow.holds Try.pinned (OpenSpec.ofChange fnExactSticksAtSpec)

/-- ITS FALSE NEIGHBOUR: 'it returns false'. Refute it at one input. -/
def fnExactSticksAtWrong : ChangeSpec := { name := "fnExactSticksAt", fn := fun _ => fun
  | [d1, d2] => { results := [.lit (.bool false)], args := [d1, d2] }
  | _ => none }
def FnExactSticksAtWrongFalsely : Prop := fnExactSticksAtRow.holds Try.pinned (OpenSpec.ofChange fnExactSticksAtWrong)

/-- 'laws.FnExactStepBow': WHATEVER THE INPUT: true; the input reads as it did. -/
def fnExactStepBowSpec : ChangeSpec := { name := "fnExactStepBow", fn := fun _ => fun
  | [d1, d2] => { results := [.lit (.bool true)], args := [d1, d2] }
  | _ => none }
def fnExactStepBowRow : OpenClaim := { program := "ythjdklolbkhbfaa", sum := "d5cc94bd0ff27a6307f988c488c2fe5d9b89570bbd796c4873b0335958e565bb", func := "loop.example/g01173/laws.FnExactStepBow", spec := "fnExactStepBow", inPlace := ["math.Float32bits", "math.Float32frombits", "math.Float64bits", "math.Float64frombits"], unfollowed := true, recurses := true, apart := false }
def FnExactStepBowSaid : Prop := fnExactStepBowRow.holds Try.pinned (OpenSpec.ofChange fnExactStepBowSpec)

/-- ITS FALSE NEIGHBOUR: 'it returns false'. Refute it at one input. -/
def fnExactStepBowWrong : ChangeSpec := { name := "fnExactStepBow", fn := fun _ => fun
  | [d1, d2] => { results := [.lit (.bool false)], args := [d1, d2] }
  | _ => none }
def FnExactStepBowWrongFalsely : Prop := fnExactStepBowRow.holds Try.pinned (OpenSpec.ofChange fnExactStepBowWrong)

/-- 'laws.FnExactPlayBow': WHATEVER THE INPUT: true; the input reads as it did. -/
def fnExactPlayBowSpec : ChangeSpec := { name := "fnExactPlayBow", fn := fun _ => fun
  | [d1, d2] => { results := [.lit (.bool true)], args := [d1, d2] }
  | _ => none }
def fnExactPlayBowRow : OpenClaim := { program := "ythjdklolbkhbfaa", sum := "d5cc94bd0ff27a6307f988c488c2fe5d9b89570bbd796c4873b0335958e565bb", func := "loop.example/g01173/laws.FnExactPlayBow", spec := "fnExactPlayBow", inPlace := ["math.Float32bits", "math.Float32frombits"], unfollowed := true, recurses := true, apart := false }
def FnExactPlayBowSaid : Prop := fnExactPlayBowRow.holds Try.pinned (OpenSpec.ofChange fnExactPlayBowSpec)

/-- ITS FALSE NEIGHBOUR: 'it returns false'. Refute it at one input. -/
def fnExactPlayBowWrong : ChangeSpec := { name := "fnExactPlayBow", fn := fun _ => fun
  | [d1, d2] => { results := [.lit (.bool false)], args := [d1, d2] }
  | _ => none }
def FnExactPlayBowWrongFalsely : Prop := fnExactPlayBowRow.holds Try.pinned (OpenSpec.ofChange fnExactPlayBowWrong)

/- THE SECOND FORM. 'bulk': how many values and letters a reading holds, each counted each time it is reached (what is shared counts as often as it is met; a slice's spare places count too). A statement '..UptoSaid' is the law's where the arguments, and the package variables that the reading takes, are together of bulk at most 1048576: NARROWER than '..Said'. Prove '..Said' where nothing that the law and all that it calls make is longer than what came in: it says more and counts as full. Else prove '..UptoSaid'. A law counts once. -/
mutual
def uptoBulk {H : Type} : DataW H → Nat
  | .lit (.string bytes) => bytes.length + 1
  | .lit _ => 1
  | .nil => 1
  | .ptr d => uptoBulk d + 1
  | .slice elems spare => uptoBulkAll elems + uptoBulkAll spare + 1
  | .agg parts => uptoBulkAll parts + 1
  | .iface _ d => uptoBulk d + 1
  | .map entries => uptoBulkEntries entries + 1
  | .held _ => 1
def uptoBulkAll {H : Type} : List (DataW H) → Nat
  | [] => 0
  | d :: r => uptoBulk d + uptoBulkAll r
def uptoBulkEntries {H : Type} : List (Lit × DataW H) → Nat
  | [] => 0
  | x :: r => uptoBulkEntry x + uptoBulkEntries r
def uptoBulkEntry {H : Type} : Lit × DataW H → Nat
  | (.string bytes, d) => bytes.length + uptoBulk d + 1
  | (_, d) => uptoBulk d + 1
 end
def uptoSmall : (H : Type) → List (DataW H) → Bool := fun _ ds => decide (uptoBulkAll ds ≤ 1048576)
def OpenSpec.upto (s : _root_.Go.ChangeSpec) : _root_.Go.OpenSpec := { _root_.Go.OpenSpec.ofChange s with cond := some uptoSmall }

/-- 'laws.FnExactSticksAt', WHERE WHAT IT READS IS OF BULK AT MOST 1048576: true; the input reads as it did. -/
def fnExactSticksAtUptoRow : OpenClaim := { program := "ythjdklolbkhbfaa", sum := "d5cc94bd0ff27a6307f988c488c2fe5d9b89570bbd796c4873b0335958e565bb", func := "loop.example/g01173/laws.FnExactSticksAt", spec := "fnExactSticksAt", inPlace := ["math.Float32bits", "math.Float32frombits", "math.Float64bits", "math.Float64frombits"], unfollowed := true, recurses := true, apart := false, narrowed := true }
def FnExactSticksAtUptoSaid : Prop := fnExactSticksAtUptoRow.holds Try.pinned (OpenSpec.upto fnExactSticksAtSpec)

/-- 'laws.FnExactStepBow', WHERE WHAT IT READS IS OF BULK AT MOST 1048576: true; the input reads as it did. -/
def fnExactStepBowUptoRow : OpenClaim := { program := "ythjdklolbkhbfaa", sum := "d5cc94bd0ff27a6307f988c488c2fe5d9b89570bbd796c4873b0335958e565bb", func := "loop.example/g01173/laws.FnExactStepBow", spec := "fnExactStepBow", inPlace := ["math.Float32bits", "math.Float32frombits", "math.Float64bits", "math.Float64frombits"], unfollowed := true, recurses := true, apart := false, narrowed := true }
def FnExactStepBowUptoSaid : Prop := fnExactStepBowUptoRow.holds Try.pinned (OpenSpec.upto fnExactStepBowSpec)

/-- 'laws.FnExactPlayBow', WHERE WHAT IT READS IS OF BULK AT MOST 1048576: true; the input reads as it did. -/
def fnExactPlayBowUptoRow : OpenClaim := { program := "ythjdklolbkhbfaa", sum := "d5cc94bd0ff27a6307f988c488c2fe5d9b89570bbd796c4873b0335958e565bb", func := "loop.example/g01173/laws.FnExactPlayBow", spec := "fnExactPlayBow", inPlace := ["math.Float32bits", "math.Float32frombits"], unfollowed := true, recurses := true, apart := false, narrowed := true }
def FnExactPlayBowUptoSaid : Prop := fnExactPlayBowUptoRow.holds Try.pinned (OpenSpec.upto fnExactPlayBowSpec)

end Rows
end Go.Proofs.Ythjdklolbkhbfaa
