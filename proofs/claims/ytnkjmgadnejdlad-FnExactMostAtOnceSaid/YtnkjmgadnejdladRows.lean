/-
  No cell of these rows narrows 'for every input' (looked for: loops, veiled, ifaces, maps, wideKeys, modest, calm, conditions, laid).
  DERIVED. THE GIVEN ROWS OF THIS SEAT. 4 by the template 'for every input the law returns true; each argument reads behind the call as it read before'; 0 by the template 'total and deterministic' (their statements: YtnkjmgadnejdladTotals.lean).
  GIVEN WITH THE SEED: the statements are not yours to turn. If you find one false, say at which input.
  Laid BY PROGRAM, IN A SANDBOX (cutbox-rows.mjs): the forced cells as the released guide's own fill.sh prints them over the translation 18685d7baf943f6a… (all of the seat's roots in one cut). By AI agents, Wed Nov 11 2026. No macro, syntax, notation, axiom, sorry.
-/
import Derived.Test.YtnkjmgadnejdladChecked
import GoSem.Claim
import GoSem.ClaimJoined
import GoSem.ClaimMapViews
import Derived.JoinedTies
import Derived.KernelRfl
namespace Go.Proofs.Ytnkjmgadnejdlad
/- THE CELL 'sum', in the pinned program and in every row, IS THE sha256 OF THE DUMP (.gsa) THAT YtnkjmgadnejdladProg.lean LOADS. Nothing in Lean hashes anything: it is a label: what it is worth is what the hold of that sum in a sandbox is worth. -/
noncomputable def Try.pinned : Pinned := { name := "ytnkjmgadnejdlad", sum := "18685d7baf943f6a81d303403a7e8f5e60f57e89cd6e830a325931cfc83ec8b1", checked := Try.checked }
namespace Rows
def none {H : Type} : Left H := { results := [], args := [] }

/-- 'laws.FnExactValidScore': WHATEVER THE INPUT: true; the input reads as it did. -/
def fnExactValidScoreSpec : ChangeSpec := { name := "fnExactValidScore", fn := fun _ => fun
  | [d] => { results := [.lit (.bool true)], args := [d] }
  | _ => none }
def fnExactValidScoreRow : OpenClaim := { program := "ytnkjmgadnejdlad", sum := "18685d7baf943f6a81d303403a7e8f5e60f57e89cd6e830a325931cfc83ec8b1", func := "loop.example/g01173/laws.FnExactValidScore", spec := "fnExactValidScore", inPlace := ["math.Float32bits"], unfollowed := true, recurses := true, apart := false }
def FnExactValidScoreSaid : Prop := fnExactValidScoreRow.holds Try.pinned (OpenSpec.ofChange fnExactValidScoreSpec)

/-- ITS FALSE NEIGHBOUR: 'it returns false'. Refute it at one input. -/
def fnExactValidScoreWrong : ChangeSpec := { name := "fnExactValidScore", fn := fun _ => fun
  | [d] => { results := [.lit (.bool false)], args := [d] }
  | _ => none }
def FnExactValidScoreWrongFalsely : Prop := fnExactValidScoreRow.holds Try.pinned (OpenSpec.ofChange fnExactValidScoreWrong)

/-- 'laws.FnExactNotesOf': WHATEVER THE INPUT: true; the input reads as it did. -/
def fnExactNotesOfSpec : ChangeSpec := { name := "fnExactNotesOf", fn := fun _ => fun
  | [d] => { results := [.lit (.bool true)], args := [d] }
  | _ => none }
def fnExactNotesOfRow : OpenClaim := { program := "ytnkjmgadnejdlad", sum := "18685d7baf943f6a81d303403a7e8f5e60f57e89cd6e830a325931cfc83ec8b1", func := "loop.example/g01173/laws.FnExactNotesOf", spec := "fnExactNotesOf", inPlace := ["math.Float32bits"], unfollowed := true, recurses := true, apart := false }
def FnExactNotesOfSaid : Prop := fnExactNotesOfRow.holds Try.pinned (OpenSpec.ofChange fnExactNotesOfSpec)

/-- ITS FALSE NEIGHBOUR: 'it returns false'. Refute it at one input. -/
def fnExactNotesOfWrong : ChangeSpec := { name := "fnExactNotesOf", fn := fun _ => fun
  | [d] => { results := [.lit (.bool false)], args := [d] }
  | _ => none }
def FnExactNotesOfWrongFalsely : Prop := fnExactNotesOfRow.holds Try.pinned (OpenSpec.ofChange fnExactNotesOfWrong)

/-- 'laws.FnExactEndOfScore': WHATEVER THE INPUT: true; the input reads as it did. -/
def fnExactEndOfScoreSpec : ChangeSpec := { name := "fnExactEndOfScore", fn := fun _ => fun
  | [d] => { results := [.lit (.bool true)], args := [d] }
  | _ => none }
def fnExactEndOfScoreRow : OpenClaim := { program := "ytnkjmgadnejdlad", sum := "18685d7baf943f6a81d303403a7e8f5e60f57e89cd6e830a325931cfc83ec8b1", func := "loop.example/g01173/laws.FnExactEndOfScore", spec := "fnExactEndOfScore", inPlace := ["math.Float32bits"], unfollowed := true, recurses := true, apart := false }
def FnExactEndOfScoreSaid : Prop := fnExactEndOfScoreRow.holds Try.pinned (OpenSpec.ofChange fnExactEndOfScoreSpec)

/-- ITS FALSE NEIGHBOUR: 'it returns false'. Refute it at one input. -/
def fnExactEndOfScoreWrong : ChangeSpec := { name := "fnExactEndOfScore", fn := fun _ => fun
  | [d] => { results := [.lit (.bool false)], args := [d] }
  | _ => none }
def FnExactEndOfScoreWrongFalsely : Prop := fnExactEndOfScoreRow.holds Try.pinned (OpenSpec.ofChange fnExactEndOfScoreWrong)

/-- 'laws.FnExactMostAtOnce': WHATEVER THE INPUT: true; the input reads as it did. -/
def fnExactMostAtOnceSpec : ChangeSpec := { name := "fnExactMostAtOnce", fn := fun _ => fun
  | [d] => { results := [.lit (.bool true)], args := [d] }
  | _ => none }
def fnExactMostAtOnceRow : OpenClaim := { program := "ytnkjmgadnejdlad", sum := "18685d7baf943f6a81d303403a7e8f5e60f57e89cd6e830a325931cfc83ec8b1", func := "loop.example/g01173/laws.FnExactMostAtOnce", spec := "fnExactMostAtOnce", inPlace := ["math.Float32bits"], unfollowed := true, recurses := true, apart := false }
def FnExactMostAtOnceSaid : Prop := fnExactMostAtOnceRow.holds Try.pinned (OpenSpec.ofChange fnExactMostAtOnceSpec)

/-- ITS FALSE NEIGHBOUR: 'it returns false'. Refute it at one input. -/
def fnExactMostAtOnceWrong : ChangeSpec := { name := "fnExactMostAtOnce", fn := fun _ => fun
  | [d] => { results := [.lit (.bool false)], args := [d] }
  | _ => none }
def FnExactMostAtOnceWrongFalsely : Prop := fnExactMostAtOnceRow.holds Try.pinned (OpenSpec.ofChange fnExactMostAtOnceWrong)

/- THE SECOND FORM. 'bulk': how many values and letters a reading holds, each counted each time it is reached (what is shared counts as often as it is met; a slice's spare places count too). A statement '..UptoSaid' is the law's where the arguments, and the package variables that the reading takes, are together of bulk at most 1048576: NARROWER than '..Said'. Prove '..Said' where nothing that the law and all that it calls make is longer than what came in: it says more and counts as full. Else prove '..UptoSaid'. A law counts once. -/
mutual
def uptoBulk {H : Type} : DataW H → Nat
  | .lit (.string bytes) => bytes.length + 1
  | .lit _ => 1
  | .nil => 1
  | .ptr d => uptoBulk d + 1
  | .slice elems spare => uptoBulkAll elems + uptoBulkAll spare + 1
  | .agg parts => uptoBulkAll parts + 1
  | .iface _ d => uptoBulk d + 1
  | .map entries => uptoBulkEntries entries + 1
  | .held _ => 1
def uptoBulkAll {H : Type} : List (DataW H) → Nat
  | [] => 0
  | d :: r => uptoBulk d + uptoBulkAll r
def uptoBulkEntries {H : Type} : List (Lit × DataW H) → Nat
  | [] => 0
  | x :: r => uptoBulkEntry x + uptoBulkEntries r
def uptoBulkEntry {H : Type} : Lit × DataW H → Nat
  | (.string bytes, d) => bytes.length + uptoBulk d + 1
  | (_, d) => uptoBulk d + 1
 end
def uptoSmall : (H : Type) → List (DataW H) → Bool := fun _ ds => decide (uptoBulkAll ds ≤ 1048576)
def OpenSpec.upto (s : _root_.Go.ChangeSpec) : _root_.Go.OpenSpec := { _root_.Go.OpenSpec.ofChange s with cond := some uptoSmall }

/-- 'laws.FnExactValidScore', WHERE WHAT IT READS IS OF BULK AT MOST 1048576: true; the input reads as it did. -/
def fnExactValidScoreUptoRow : OpenClaim := { program := "ytnkjmgadnejdlad", sum := "18685d7baf943f6a81d303403a7e8f5e60f57e89cd6e830a325931cfc83ec8b1", func := "loop.example/g01173/laws.FnExactValidScore", spec := "fnExactValidScore", inPlace := ["math.Float32bits"], unfollowed := true, recurses := true, apart := false, narrowed := true }
def FnExactValidScoreUptoSaid : Prop := fnExactValidScoreUptoRow.holds Try.pinned (OpenSpec.upto fnExactValidScoreSpec)

/-- 'laws.FnExactNotesOf', WHERE WHAT IT READS IS OF BULK AT MOST 1048576: true; the input reads as it did. -/
def fnExactNotesOfUptoRow : OpenClaim := { program := "ytnkjmgadnejdlad", sum := "18685d7baf943f6a81d303403a7e8f5e60f57e89cd6e830a325931cfc83ec8b1", func := "loop.example/g01173/laws.FnExactNotesOf", spec := "fnExactNotesOf", inPlace := ["math.Float32bits"], unfollowed := true, recurses := true, apart := false, narrowed := true }
def FnExactNotesOfUptoSaid : Prop := fnExactNotesOfUptoRow.holds Try.pinned (OpenSpec.upto fnExactNotesOfSpec)

/-- 'laws.FnExactEndOfScore', WHERE WHAT IT READS IS OF BULK AT MOST 1048576: true; the input reads as it did. -/
def fnExactEndOfScoreUptoRow : OpenClaim := { program := "ytnkjmgadnejdlad", sum := "18685d7baf943f6a81d303403a7e8f5e60f57e89cd6e830a325931cfc83ec8b1", func := "loop.example/g01173/laws.FnExactEndOfScore", spec := "fnExactEndOfScore", inPlace := ["math.Float32bits"], unfollowed := true, recurses := true, apart := false, narrowed := true }
def FnExactEndOfScoreUptoSaid : Prop := fnExactEndOfScoreUptoRow.holds Try.pinned (OpenSpec.upto fnExactEndOfScoreSpec)

/-- 'laws.FnExactMostAtOnce', WHERE WHAT IT READS IS OF BULK AT MOST 1048576: true; the input reads as it did. -/
def fnExactMostAtOnceUptoRow : OpenClaim := { program := "ytnkjmgadnejdlad", sum := "18685d7baf943f6a81d303403a7e8f5e60f57e89cd6e830a325931cfc83ec8b1", func := "loop.example/g01173/laws.FnExactMostAtOnce", spec := "fnExactMostAtOnce", inPlace := ["math.Float32bits"], unfollowed := true, recurses := true, apart := false, narrowed := true }
def FnExactMostAtOnceUptoSaid : Prop := fnExactMostAtOnceUptoRow.holds Try.pinned (OpenSpec.upto fnExactMostAtOnceSpec)

end Rows
end Go.Proofs.Ytnkjmgadnejdlad
