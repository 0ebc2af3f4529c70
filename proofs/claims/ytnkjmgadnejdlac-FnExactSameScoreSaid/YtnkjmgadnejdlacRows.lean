/-
  No cell of these rows narrows 'for every input' (looked for: loops, veiled, ifaces, maps, wideKeys, modest, calm, conditions, laid).
  DERIVED. THE GIVEN ROWS OF THIS SEAT. 4 by the template 'for every input the law returns true; each argument reads behind the call as it read before'; 0 by the template 'total and deterministic' (their statements: YtnkjmgadnejdlacTotals.lean).
  GIVEN WITH THE SEED: the statements are not yours to turn. If you find one false, say at which input.
  Laid BY PROGRAM, IN A SANDBOX (cutbox-rows.mjs): the forced cells as the released guide's own fill.sh prints them over the translation 0374aa0dd7de2c49… (all of the seat's roots in one cut). By AI agents, Wed Nov 11 2026. No macro, syntax, notation, axiom, sorry.
-/
import Derived.Test.YtnkjmgadnejdlacChecked
import GoSem.Claim
import GoSem.ClaimJoined
import GoSem.ClaimMapViews
import Derived.JoinedTies
import Derived.KernelRfl
namespace Go.Proofs.Ytnkjmgadnejdlac
/- THE CELL 'sum', in the pinned program and in every row, IS THE sha256 OF THE DUMP (.gsa) THAT YtnkjmgadnejdlacProg.lean LOADS. Nothing in Lean hashes anything: it is a label: what it is worth is what the hold of that sum in a sandbox is worth. -/
noncomputable def Try.pinned : Pinned := { name := "ytnkjmgadnejdlac", sum := "0374aa0dd7de2c49b54b4099793cce47ca819b4889721e5e0697756fc3e9d8c8", checked := Try.checked }
namespace Rows
def none {H : Type} : Left H := { results := [], args := [] }

/-- 'laws.FnExactBlockOfBow': WHATEVER THE INPUT: true; the input reads as it did. -/
def fnExactBlockOfBowSpec : ChangeSpec := { name := "fnExactBlockOfBow", fn := fun _ => fun
  | [d1, d2] => { results := [.lit (.bool true)], args := [d1, d2] }
  | _ => none }
def fnExactBlockOfBowRow : OpenClaim := { program := "ytnkjmgadnejdlac", sum := "0374aa0dd7de2c49b54b4099793cce47ca819b4889721e5e0697756fc3e9d8c8", func := "loop.example/g01173/laws.FnExactBlockOfBow", spec := "fnExactBlockOfBow", inPlace := ["math.Float32bits", "math.Float32frombits"], unfollowed := true, recurses := true, apart := false }
def FnExactBlockOfBowSaid : Prop := fnExactBlockOfBowRow.holds Try.pinned (OpenSpec.ofChange fnExactBlockOfBowSpec)

/-- ITS FALSE NEIGHBOUR: 'it returns false'. Refute it at one input. -/
def fnExactBlockOfBowWrong : ChangeSpec := { name := "fnExactBlockOfBow", fn := fun _ => fun
  | [d1, d2] => { results := [.lit (.bool false)], args := [d1, d2] }
  | _ => none }
def FnExactBlockOfBowWrongFalsely : Prop := fnExactBlockOfBowRow.holds Try.pinned (OpenSpec.ofChange fnExactBlockOfBowWrong)

/-- 'laws.FnExactBlockOfJet': WHATEVER THE INPUT: true; the input reads as it did. -/
def fnExactBlockOfJetSpec : ChangeSpec := { name := "fnExactBlockOfJet", fn := fun _ => fun
  | [d1, d2] => { results := [.lit (.bool true)], args := [d1, d2] }
  | _ => none }
def fnExactBlockOfJetRow : OpenClaim := { program := "ytnkjmgadnejdlac", sum := "0374aa0dd7de2c49b54b4099793cce47ca819b4889721e5e0697756fc3e9d8c8", func := "loop.example/g01173/laws.FnExactBlockOfJet", spec := "fnExactBlockOfJet", inPlace := ["math.Float32bits", "math.Float32frombits"], unfollowed := true, recurses := true, apart := false }
def FnExactBlockOfJetSaid : Prop := fnExactBlockOfJetRow.holds Try.pinned (OpenSpec.ofChange fnExactBlockOfJetSpec)

/-- ITS FALSE NEIGHBOUR: 'it returns false'. Refute it at one input. -/
def fnExactBlockOfJetWrong : ChangeSpec := { name := "fnExactBlockOfJet", fn := fun _ => fun
  | [d1, d2] => { results := [.lit (.bool false)], args := [d1, d2] }
  | _ => none }
def FnExactBlockOfJetWrongFalsely : Prop := fnExactBlockOfJetRow.holds Try.pinned (OpenSpec.ofChange fnExactBlockOfJetWrong)

/-- 'laws.FnExactSameScore': WHATEVER THE INPUT: true; the input reads as it did. -/
def fnExactSameScoreSpec : ChangeSpec := { name := "fnExactSameScore", fn := fun _ => fun
  | [d1, d2] => { results := [.lit (.bool true)], args := [d1, d2] }
  | _ => none }
def fnExactSameScoreRow : OpenClaim := { program := "ytnkjmgadnejdlac", sum := "0374aa0dd7de2c49b54b4099793cce47ca819b4889721e5e0697756fc3e9d8c8", func := "loop.example/g01173/laws.FnExactSameScore", spec := "fnExactSameScore", inPlace := ["math.Float32bits"], unfollowed := true, recurses := true, apart := false }
def FnExactSameScoreSaid : Prop := fnExactSameScoreRow.holds Try.pinned (OpenSpec.ofChange fnExactSameScoreSpec)

/-- ITS FALSE NEIGHBOUR: 'it returns false'. Refute it at one input. -/
def fnExactSameScoreWrong : ChangeSpec := { name := "fnExactSameScore", fn := fun _ => fun
  | [d1, d2] => { results := [.lit (.bool false)], args := [d1, d2] }
  | _ => none }
def FnExactSameScoreWrongFalsely : Prop := fnExactSameScoreRow.holds Try.pinned (OpenSpec.ofChange fnExactSameScoreWrong)

/-- 'laws.FnExactEventsBetween': WHATEVER THE INPUT: true; the input reads as it did. -/
def fnExactEventsBetweenSpec : ChangeSpec := { name := "fnExactEventsBetween", fn := fun _ => fun
  | [d1, d2, d3] => { results := [.lit (.bool true)], args := [d1, d2, d3] }
  | _ => none }
def fnExactEventsBetweenRow : OpenClaim := { program := "ytnkjmgadnejdlac", sum := "0374aa0dd7de2c49b54b4099793cce47ca819b4889721e5e0697756fc3e9d8c8", func := "loop.example/g01173/laws.FnExactEventsBetween", spec := "fnExactEventsBetween", inPlace := ["math.Float32bits"], unfollowed := true, recurses := true, apart := false }
def FnExactEventsBetweenSaid : Prop := fnExactEventsBetweenRow.holds Try.pinned (OpenSpec.ofChange fnExactEventsBetweenSpec)

/-- ITS FALSE NEIGHBOUR: 'it returns false'. Refute it at one input. -/
def fnExactEventsBetweenWrong : ChangeSpec := { name := "fnExactEventsBetween", fn := fun _ => fun
  | [d1, d2, d3] => { results := [.lit (.bool false)], args := [d1, d2, d3] }
  | _ => none }
def FnExactEventsBetweenWrongFalsely : Prop := fnExactEventsBetweenRow.holds Try.pinned (OpenSpec.ofChange fnExactEventsBetweenWrong)

/- THE SECOND FORM. 'bulk': how many values and letters a reading holds, each counted each time it is reached (what is shared counts as often as it is met; a slice's spare places count too). A statement '..UptoSaid' is the law's where the arguments, and the package variables that the reading takes, are together of bulk at most 1048576: NARROWER than '..Said'. Prove '..Said' where nothing that the law and all that it calls make is longer than what came in: it says more and counts as full. Else prove '..UptoSaid'. A law counts once. -/
mutual
def uptoBulk {H : Type} : DataW H → Nat
  | .lit (.string bytes) => bytes.length + 1
  | .lit _ => 1
  | .nil => 1
  | .ptr d => uptoBulk d + 1
  | .slice elems spare => uptoBulkAll elems + uptoBulkAll spare + 1
  | .agg parts => uptoBulkAll parts + 1
  | .iface _ d => uptoBulk d + 1
  | .map entries => uptoBulkEntries entries + 1
  | .held _ => 1
def uptoBulkAll {H : Type} : List (DataW H) → Nat
  | [] => 0
  | d :: r => uptoBulk d + uptoBulkAll r
def uptoBulkEntries {H : Type} : List (Lit × DataW H) → Nat
  | [] => 0
  | x :: r => uptoBulkEntry x + uptoBulkEntries r
def uptoBulkEntry {H : Type} : Lit × DataW H → Nat
  | (.string bytes, d) => bytes.length + uptoBulk d + 1
  | (_, d) => uptoBulk d + 1
 end
def uptoSmall : (H : Type) → List (DataW H) → Bool := fun _ ds => decide (uptoBulkAll ds ≤ 1048576)
def OpenSpec.upto (s : _root_.Go.ChangeSpec) : _root_.Go.OpenSpec := { _root_.Go.OpenSpec.ofChange s with cond := some uptoSmall }

/-- 'laws.FnExactBlockOfBow', WHERE WHAT IT READS IS OF BULK AT MOST 1048576: true; the input reads as it did. -/
def fnExactBlockOfBowUptoRow : OpenClaim := { program := "ytnkjmgadnejdlac", sum := "0374aa0dd7de2c49b54b4099793cce47ca819b4889721e5e0697756fc3e9d8c8", func := "loop.example/g01173/laws.FnExactBlockOfBow", spec := "fnExactBlockOfBow", inPlace := ["math.Float32bits", "math.Float32frombits"], unfollowed := true, recurses := true, apart := false, narrowed := true }
def FnExactBlockOfBowUptoSaid : Prop := fnExactBlockOfBowUptoRow.holds Try.pinned (OpenSpec.upto fnExactBlockOfBowSpec)

/-- 'laws.FnExactBlockOfJet', WHERE WHAT IT READS IS OF BULK AT MOST 1048576: true; the input reads as it did. -/
def fnExactBlockOfJetUptoRow : OpenClaim := { program := "ytnkjmgadnejdlac", sum := "0374aa0dd7de2c49b54b4099793cce47ca819b4889721e5e0697756fc3e9d8c8", func := "loop.example/g01173/laws.FnExactBlockOfJet", spec := "fnExactBlockOfJet", inPlace := ["math.Float32bits", "math.Float32frombits"], unfollowed := true, recurses := true, apart := false, narrowed := true }
def FnExactBlockOfJetUptoSaid : Prop := fnExactBlockOfJetUptoRow.holds Try.pinned (OpenSpec.upto fnExactBlockOfJetSpec)

/-- 'laws.FnExactSameScore', WHERE WHAT IT READS IS OF BULK AT MOST 1048576: true; the input reads as it did. -/
def fnExactSameScoreUptoRow : OpenClaim := { program := "ytnkjmgadnejdlac", sum := "0374aa0dd7de2c49b54b4099793cce47ca819b4889721e5e0697756fc3e9d8c8", func := "loop.example/g01173/laws.FnExactSameScore", spec := "fnExactSameScore", inPlace := ["math.Float32bits"], unfollowed := true, recurses := true, apart := false, narrowed := true }
def FnExactSameScoreUptoSaid : Prop := fnExactSameScoreUptoRow.holds Try.pinned (OpenSpec.upto fnExactSameScoreSpec)

/-- 'laws.FnExactEventsBetween', WHERE WHAT IT READS IS OF BULK AT MOST 1048576: true; the input reads as it did. -/
def fnExactEventsBetweenUptoRow : OpenClaim := { program := "ytnkjmgadnejdlac", sum := "0374aa0dd7de2c49b54b4099793cce47ca819b4889721e5e0697756fc3e9d8c8", func := "loop.example/g01173/laws.FnExactEventsBetween", spec := "fnExactEventsBetween", inPlace := ["math.Float32bits"], unfollowed := true, recurses := true, apart := false, narrowed := true }
def FnExactEventsBetweenUptoSaid : Prop := fnExactEventsBetweenUptoRow.holds Try.pinned (OpenSpec.upto fnExactEventsBetweenSpec)

end Rows
end Go.Proofs.Ytnkjmgadnejdlac
