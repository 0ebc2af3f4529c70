/-
  No cell of these rows narrows 'for every input' (looked for: loops, veiled, ifaces, maps, wideKeys, modest, calm, conditions, laid).
  DERIVED. THE GIVEN ROWS OF THIS SEAT. 8 by the template 'for every input the law returns true; each argument reads behind the call as it read before'; 0 by the template 'total and deterministic' (their statements: YtaenbpkcehenkabTotals.lean).
  GIVEN WITH THE SEED: the statements are not yours to turn. If you find one false, say at which input.
  Laid BY PROGRAM, IN A SANDBOX (cutbox-rows.mjs): the forced cells as the released guide's own fill.sh prints them over the translation e3bb8ffaa24b29da… (all of the seat's roots in one cut). By AI agents, Wed Nov 11 2026. No macro, syntax, notation, axiom, sorry.
-/
import Derived.Test.YtaenbpkcehenkabChecked
import GoSem.Claim
import GoSem.ClaimJoined
import GoSem.ClaimMapViews
import Derived.JoinedTies
import Derived.KernelRfl
namespace Go.Proofs.Ytaenbpkcehenkab
/- THE CELL 'sum', in the pinned program and in every row, IS THE sha256 OF THE DUMP (.gsa) THAT YtaenbpkcehenkabProg.lean LOADS. Nothing in Lean hashes anything: it is a label: what it is worth is what the hold of that sum in a sandbox is worth. -/
noncomputable def Try.pinned : Pinned := { name := "ytaenbpkcehenkab", sum := "e3bb8ffaa24b29dabab13fba325cac960ca10e799b8b0dea381b8b6fcd79a60f", checked := Try.checked }
namespace Rows
def none {H : Type} : Left H := { results := [], args := [] }

/-- 'laws.FnExactBlockText': WHATEVER THE INPUT: true; the input reads as it did. -/
def fnExactBlockTextSpec : ChangeSpec := { name := "fnExactBlockText", fn := fun _ => fun
  | [d] => { results := [.lit (.bool true)], args := [d] }
  | _ => none }
def fnExactBlockTextRow : OpenClaim := { program := "ytaenbpkcehenkab", sum := "e3bb8ffaa24b29dabab13fba325cac960ca10e799b8b0dea381b8b6fcd79a60f", func := "loop.example/g01173/laws.FnExactBlockText", spec := "fnExactBlockText", inPlace := ["math.Float32bits", "internal/abi.NoEscape", "internal/bytealg.MakeNoZero"], apart := false }
def FnExactBlockTextSaid : Prop := fnExactBlockTextRow.holds Try.pinned (OpenSpec.ofChange fnExactBlockTextSpec)

/-- ITS FALSE NEIGHBOUR: 'it returns false'. Refute it at one input. -/
def fnExactBlockTextWrong : ChangeSpec := { name := "fnExactBlockText", fn := fun _ => fun
  | [d] => { results := [.lit (.bool false)], args := [d] }
  | _ => none }
def FnExactBlockTextWrongFalsely : Prop := fnExactBlockTextRow.holds Try.pinned (OpenSpec.ofChange fnExactBlockTextWrong)

/-- 'laws.FnExactValidFilter': WHATEVER THE INPUT: true; the input reads as it did. -/
def fnExactValidFilterSpec : ChangeSpec := { name := "fnExactValidFilter", fn := fun _ => fun
  | [d] => { results := [.lit (.bool true)], args := [d] }
  | _ => none }
def fnExactValidFilterRow : OpenClaim := { program := "ytaenbpkcehenkab", sum := "e3bb8ffaa24b29dabab13fba325cac960ca10e799b8b0dea381b8b6fcd79a60f", func := "loop.example/g01173/laws.FnExactValidFilter", spec := "fnExactValidFilter", inPlace := ["math.Float32bits"], apart := false }
def FnExactValidFilterSaid : Prop := fnExactValidFilterRow.holds Try.pinned (OpenSpec.ofChange fnExactValidFilterSpec)

/-- ITS FALSE NEIGHBOUR: 'it returns false'. Refute it at one input. -/
def fnExactValidFilterWrong : ChangeSpec := { name := "fnExactValidFilter", fn := fun _ => fun
  | [d] => { results := [.lit (.bool false)], args := [d] }
  | _ => none }
def FnExactValidFilterWrongFalsely : Prop := fnExactValidFilterRow.holds Try.pinned (OpenSpec.ofChange fnExactValidFilterWrong)

/-- 'laws.FnExactStepFilter': WHATEVER THE INPUT: true; the input reads as it did. -/
def fnExactStepFilterSpec : ChangeSpec := { name := "fnExactStepFilter", fn := fun _ => fun
  | [d1, d2] => { results := [.lit (.bool true)], args := [d1, d2] }
  | _ => none }
def fnExactStepFilterRow : OpenClaim := { program := "ytaenbpkcehenkab", sum := "e3bb8ffaa24b29dabab13fba325cac960ca10e799b8b0dea381b8b6fcd79a60f", func := "loop.example/g01173/laws.FnExactStepFilter", spec := "fnExactStepFilter", inPlace := ["math.Float32bits", "math.Float32frombits"], unfollowed := true, recurses := true, apart := false }
def FnExactStepFilterSaid : Prop := fnExactStepFilterRow.holds Try.pinned (OpenSpec.ofChange fnExactStepFilterSpec)

/-- ITS FALSE NEIGHBOUR: 'it returns false'. Refute it at one input. -/
def fnExactStepFilterWrong : ChangeSpec := { name := "fnExactStepFilter", fn := fun _ => fun
  | [d1, d2] => { results := [.lit (.bool false)], args := [d1, d2] }
  | _ => none }
def FnExactStepFilterWrongFalsely : Prop := fnExactStepFilterRow.holds Try.pinned (OpenSpec.ofChange fnExactStepFilterWrong)

/-- 'laws.FnExactRunFilter': WHATEVER THE INPUT: true; the input reads as it did. -/
def fnExactRunFilterSpec : ChangeSpec := { name := "fnExactRunFilter", fn := fun _ => fun
  | [d1, d2] => { results := [.lit (.bool true)], args := [d1, d2] }
  | _ => none }
def fnExactRunFilterRow : OpenClaim := { program := "ytaenbpkcehenkab", sum := "e3bb8ffaa24b29dabab13fba325cac960ca10e799b8b0dea381b8b6fcd79a60f", func := "loop.example/g01173/laws.FnExactRunFilter", spec := "fnExactRunFilter", inPlace := ["math.Float32bits", "math.Float32frombits"], unfollowed := true, recurses := true, apart := false }
def FnExactRunFilterSaid : Prop := fnExactRunFilterRow.holds Try.pinned (OpenSpec.ofChange fnExactRunFilterSpec)

/-- ITS FALSE NEIGHBOUR: 'it returns false'. Refute it at one input. -/
def fnExactRunFilterWrong : ChangeSpec := { name := "fnExactRunFilter", fn := fun _ => fun
  | [d1, d2] => { results := [.lit (.bool false)], args := [d1, d2] }
  | _ => none }
def FnExactRunFilterWrongFalsely : Prop := fnExactRunFilterRow.holds Try.pinned (OpenSpec.ofChange fnExactRunFilterWrong)

/-- 'laws.FnExactIsStill': WHATEVER THE INPUT: true; the input reads as it did. -/
def fnExactIsStillSpec : ChangeSpec := { name := "fnExactIsStill", fn := fun _ => fun
  | [d] => { results := [.lit (.bool true)], args := [d] }
  | _ => none }
def fnExactIsStillRow : OpenClaim := { program := "ytaenbpkcehenkab", sum := "e3bb8ffaa24b29dabab13fba325cac960ca10e799b8b0dea381b8b6fcd79a60f", func := "loop.example/g01173/laws.FnExactIsStill", spec := "fnExactIsStill", inPlace := ["math.Float32bits"], apart := false }
def FnExactIsStillSaid : Prop := fnExactIsStillRow.holds Try.pinned (OpenSpec.ofChange fnExactIsStillSpec)

/-- ITS FALSE NEIGHBOUR: 'it returns false'. Refute it at one input. -/
def fnExactIsStillWrong : ChangeSpec := { name := "fnExactIsStill", fn := fun _ => fun
  | [d] => { results := [.lit (.bool false)], args := [d] }
  | _ => none }
def FnExactIsStillWrongFalsely : Prop := fnExactIsStillRow.holds Try.pinned (OpenSpec.ofChange fnExactIsStillWrong)

/-- 'laws.FnExactStepsToStill': WHATEVER THE INPUT: true; the input reads as it did. -/
def fnExactStepsToStillSpec : ChangeSpec := { name := "fnExactStepsToStill", fn := fun _ => fun
  | [d1, d2] => { results := [.lit (.bool true)], args := [d1, d2] }
  | _ => none }
def fnExactStepsToStillRow : OpenClaim := { program := "ytaenbpkcehenkab", sum := "e3bb8ffaa24b29dabab13fba325cac960ca10e799b8b0dea381b8b6fcd79a60f", func := "loop.example/g01173/laws.FnExactStepsToStill", spec := "fnExactStepsToStill", inPlace := ["math.Float32bits", "math.Float32frombits"], unfollowed := true, recurses := true, apart := false }
def FnExactStepsToStillSaid : Prop := fnExactStepsToStillRow.holds Try.pinned (OpenSpec.ofChange fnExactStepsToStillSpec)

/-- ITS FALSE NEIGHBOUR: 'it returns false'. Refute it at one input. -/
def fnExactStepsToStillWrong : ChangeSpec := { name := "fnExactStepsToStill", fn := fun _ => fun
  | [d1, d2] => { results := [.lit (.bool false)], args := [d1, d2] }
  | _ => none }
def FnExactStepsToStillWrongFalsely : Prop := fnExactStepsToStillRow.holds Try.pinned (OpenSpec.ofChange fnExactStepsToStillWrong)

/-- 'laws.FnStill': WHATEVER THE INPUT: true; the input reads as it did. -/
def fnStillSpec : ChangeSpec := { name := "fnStill", fn := fun _ => fun
  | [d1, d2] => { results := [.lit (.bool true)], args := [d1, d2] }
  | _ => none }
def fnStillRow : OpenClaim := { program := "ytaenbpkcehenkab", sum := "e3bb8ffaa24b29dabab13fba325cac960ca10e799b8b0dea381b8b6fcd79a60f", func := "loop.example/g01173/laws.FnStill", spec := "fnStill", inPlace := ["math.Float32bits", "math.Float32frombits", "math.Float64frombits"], unfollowed := true, recurses := true, apart := false }
def FnStillSaid : Prop := fnStillRow.holds Try.pinned (OpenSpec.ofChange fnStillSpec)

/-- ITS FALSE NEIGHBOUR: 'it returns false'. Refute it at one input. -/
def fnStillWrong : ChangeSpec := { name := "fnStill", fn := fun _ => fun
  | [d1, d2] => { results := [.lit (.bool false)], args := [d1, d2] }
  | _ => none }
def FnStillWrongFalsely : Prop := fnStillRow.holds Try.pinned (OpenSpec.ofChange fnStillWrong)

/-- 'laws.FnShorts': WHATEVER THE INPUT: true; the input reads as it did. -/
def fnShortsSpec : ChangeSpec := { name := "fnShorts", fn := fun _ => fun
  | [d1, d2] => { results := [.lit (.bool true)], args := [d1, d2] }
  | _ => none }
def fnShortsRow : OpenClaim := { program := "ytaenbpkcehenkab", sum := "e3bb8ffaa24b29dabab13fba325cac960ca10e799b8b0dea381b8b6fcd79a60f", func := "loop.example/g01173/laws.FnShorts", spec := "fnShorts", inPlace := ["math.Float64frombits", "math.Float32frombits", "math.RoundToEven", "math.Float32bits"], apart := false }
def FnShortsSaid : Prop := fnShortsRow.holds Try.pinned (OpenSpec.ofChange fnShortsSpec)

/-- ITS FALSE NEIGHBOUR: 'it returns false'. Refute it at one input. -/
def fnShortsWrong : ChangeSpec := { name := "fnShorts", fn := fun _ => fun
  | [d1, d2] => { results := [.lit (.bool false)], args := [d1, d2] }
  | _ => none }
def FnShortsWrongFalsely : Prop := fnShortsRow.holds Try.pinned (OpenSpec.ofChange fnShortsWrong)

/- THE SECOND FORM. 'bulk': how many values and letters a reading holds, each counted each time it is reached (what is shared counts as often as it is met; a slice's spare places count too). A statement '..UptoSaid' is the law's where the arguments, and the package variables that the reading takes, are together of bulk at most 1048576: NARROWER than '..Said'. Prove '..Said' where nothing that the law and all that it calls make is longer than what came in: it says more and counts as full. Else prove '..UptoSaid'. A law counts once. -/
mutual
def uptoBulk {H : Type} : DataW H → Nat
  | .lit (.string bytes) => bytes.length + 1
  | .lit _ => 1
  | .nil => 1
  | .ptr d => uptoBulk d + 1
  | .slice elems spare => uptoBulkAll elems + uptoBulkAll spare + 1
  | .agg parts => uptoBulkAll parts + 1
  | .iface _ d => uptoBulk d + 1
  | .map entries => uptoBulkEntries entries + 1
  | .held _ => 1
def uptoBulkAll {H : Type} : List (DataW H) → Nat
  | [] => 0
  | d :: r => uptoBulk d + uptoBulkAll r
def uptoBulkEntries {H : Type} : List (Lit × DataW H) → Nat
  | [] => 0
  | x :: r => uptoBulkEntry x + uptoBulkEntries r
def uptoBulkEntry {H : Type} : Lit × DataW H → Nat
  | (.string bytes, d) => bytes.length + uptoBulk d + 1
  | (_, d) => uptoBulk d + 1
 end
def uptoSmall : (H : Type) → List (DataW H) → Bool := fun _ ds => decide (uptoBulkAll ds ≤ 1048576)
def OpenSpec.upto (s : _root_.Go.ChangeSpec) : _root_.Go.OpenSpec := { _root_.Go.OpenSpec.ofChange s with cond := some uptoSmall }

/-- 'laws.FnExactBlockText', WHERE WHAT IT READS IS OF BULK AT MOST 1048576: true; the input reads as it did. -/
def fnExactBlockTextUptoRow : OpenClaim := { program := "ytaenbpkcehenkab", sum := "e3bb8ffaa24b29dabab13fba325cac960ca10e799b8b0dea381b8b6fcd79a60f", func := "loop.example/g01173/laws.FnExactBlockText", spec := "fnExactBlockText", inPlace := ["math.Float32bits", "internal/abi.NoEscape", "internal/bytealg.MakeNoZero"], apart := false, narrowed := true }
def FnExactBlockTextUptoSaid : Prop := fnExactBlockTextUptoRow.holds Try.pinned (OpenSpec.upto fnExactBlockTextSpec)

/-- 'laws.FnExactValidFilter', WHERE WHAT IT READS IS OF BULK AT MOST 1048576: true; the input reads as it did. -/
def fnExactValidFilterUptoRow : OpenClaim := { program := "ytaenbpkcehenkab", sum := "e3bb8ffaa24b29dabab13fba325cac960ca10e799b8b0dea381b8b6fcd79a60f", func := "loop.example/g01173/laws.FnExactValidFilter", spec := "fnExactValidFilter", inPlace := ["math.Float32bits"], apart := false, narrowed := true }
def FnExactValidFilterUptoSaid : Prop := fnExactValidFilterUptoRow.holds Try.pinned (OpenSpec.upto fnExactValidFilterSpec)

/-- 'laws.FnExactStepFilter', WHERE WHAT IT READS IS OF BULK AT MOST 1048576: true; the input reads as it did. -/
def fnExactStepFilterUptoRow : OpenClaim := { program := "ytaenbpkcehenkab", sum := "e3bb8ffaa24b29dabab13fba325cac960ca10e799b8b0dea381b8b6fcd79a60f", func := "loop.example/g01173/laws.FnExactStepFilter", spec := "fnExactStepFilter", inPlace := ["math.Float32bits", "math.Float32frombits"], unfollowed := true, recurses := true, apart := false, narrowed := true }
def FnExactStepFilterUptoSaid : Prop := fnExactStepFilterUptoRow.holds Try.pinned (OpenSpec.upto fnExactStepFilterSpec)

/-- 'laws.FnExactRunFilter', WHERE WHAT IT READS IS OF BULK AT MOST 1048576: true; the input reads as it did. -/
def fnExactRunFilterUptoRow : OpenClaim := { program := "ytaenbpkcehenkab", sum := "e3bb8ffaa24b29dabab13fba325cac960ca10e799b8b0dea381b8b6fcd79a60f", func := "loop.example/g01173/laws.FnExactRunFilter", spec := "fnExactRunFilter", inPlace := ["math.Float32bits", "math.Float32frombits"], unfollowed := true, recurses := true, apart := false, narrowed := true }
def FnExactRunFilterUptoSaid : Prop := fnExactRunFilterUptoRow.holds Try.pinned (OpenSpec.upto fnExactRunFilterSpec)

/-- 'laws.FnExactIsStill', WHERE WHAT IT READS IS OF BULK AT MOST 1048576: true; the input reads as it did. -/
def fnExactIsStillUptoRow : OpenClaim := { program := "ytaenbpkcehenkab", sum := "e3bb8ffaa24b29dabab13fba325cac960ca10e799b8b0dea381b8b6fcd79a60f", func := "loop.example/g01173/laws.FnExactIsStill", spec := "fnExactIsStill", inPlace := ["math.Float32bits"], apart := false, narrowed := true }
def FnExactIsStillUptoSaid : Prop := fnExactIsStillUptoRow.holds Try.pinned (OpenSpec.upto fnExactIsStillSpec)

/-- 'laws.FnExactStepsToStill', WHERE WHAT IT READS IS OF BULK AT MOST 1048576: true; the input reads as it did. -/
def fnExactStepsToStillUptoRow : OpenClaim := { program := "ytaenbpkcehenkab", sum := "e3bb8ffaa24b29dabab13fba325cac960ca10e799b8b0dea381b8b6fcd79a60f", func := "loop.example/g01173/laws.FnExactStepsToStill", spec := "fnExactStepsToStill", inPlace := ["math.Float32bits", "math.Float32frombits"], unfollowed := true, recurses := true, apart := false, narrowed := true }
def FnExactStepsToStillUptoSaid : Prop := fnExactStepsToStillUptoRow.holds Try.pinned (OpenSpec.upto fnExactStepsToStillSpec)

/-- 'laws.FnStill', WHERE WHAT IT READS IS OF BULK AT MOST 1048576: true; the input reads as it did. -/
def fnStillUptoRow : OpenClaim := { program := "ytaenbpkcehenkab", sum := "e3bb8ffaa24b29dabab13fba325cac960ca10e799b8b0dea381b8b6fcd79a60f", func := "loop.example/g01173/laws.FnStill", spec := "fnStill", inPlace := ["math.Float32bits", "math.Float32frombits", "math.Float64frombits"], unfollowed := true, recurses := true, apart := false, narrowed := true }
def FnStillUptoSaid : Prop := fnStillUptoRow.holds Try.pinned (OpenSpec.upto fnStillSpec)

/-- 'laws.FnShorts', WHERE WHAT IT READS IS OF BULK AT MOST 1048576: true; the input reads as it did. -/
def fnShortsUptoRow : OpenClaim := { program := "ytaenbpkcehenkab", sum := "e3bb8ffaa24b29dabab13fba325cac960ca10e799b8b0dea381b8b6fcd79a60f", func := "loop.example/g01173/laws.FnShorts", spec := "fnShorts", inPlace := ["math.Float64frombits", "math.Float32frombits", "math.RoundToEven", "math.Float32bits"], apart := false, narrowed := true }
def FnShortsUptoSaid : Prop := fnShortsUptoRow.holds Try.pinned (OpenSpec.upto fnShortsSpec)

end Rows
end Go.Proofs.Ytaenbpkcehenkab
