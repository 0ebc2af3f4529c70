/-
  No cell of these rows narrows 'for every input' (looked for: loops, veiled, ifaces, maps, wideKeys, modest, calm, conditions, laid).
  DERIVED. THE GIVEN ROWS OF THIS SEAT. 6 by the template 'for every input the law returns true; each argument reads behind the call as it read before'; 0 by the template 'total and deterministic' (their statements: YtaenbpkcehenkadTotals.lean).
  GIVEN WITH THE SEED: the statements are not yours to turn. If you find one false, say at which input.
  Laid BY PROGRAM, IN A SANDBOX (cutbox-rows.mjs): the forced cells as the released guide's own fill.sh prints them over the translation cf4435cfeb9d4c23… (all of the seat's roots in one cut). By AI agents, Wed Nov 11 2026. No macro, syntax, notation, axiom, sorry.
-/
import Derived.Test.YtaenbpkcehenkadChecked
import GoSem.Claim
import GoSem.ClaimJoined
import GoSem.ClaimMapViews
import Derived.JoinedTies
import Derived.KernelRfl
namespace Go.Proofs.Ytaenbpkcehenkad
/- THE CELL 'sum', in the pinned program and in every row, IS THE sha256 OF THE DUMP (.gsa) THAT YtaenbpkcehenkadProg.lean LOADS. Nothing in Lean hashes anything: it is a label: what it is worth is what the hold of that sum in a sandbox is worth. -/
noncomputable def Try.pinned : Pinned := { name := "ytaenbpkcehenkad", sum := "cf4435cfeb9d4c23099c81ebdb611ad54abba13fca9b1672872402aa61857a8d", checked := Try.checked }
namespace Rows
def none {H : Type} : Left H := { results := [], args := [] }

/-- 'laws.FnExactPeriodOf': WHATEVER THE INPUT: true; the input reads as it did. -/
def fnExactPeriodOfSpec : ChangeSpec := { name := "fnExactPeriodOf", fn := fun _ => fun
  | [d] => { results := [.lit (.bool true)], args := [d] }
  | _ => none }
def fnExactPeriodOfRow : OpenClaim := { program := "ytaenbpkcehenkad", sum := "cf4435cfeb9d4c23099c81ebdb611ad54abba13fca9b1672872402aa61857a8d", func := "loop.example/g01173/laws.FnExactPeriodOf", spec := "fnExactPeriodOf", inPlace := ["math.Float32bits"], apart := false }
def FnExactPeriodOfSaid : Prop := fnExactPeriodOfRow.holds Try.pinned (OpenSpec.ofChange fnExactPeriodOfSpec)

/-- ITS FALSE NEIGHBOUR: 'it returns false'. Refute it at one input. -/
def fnExactPeriodOfWrong : ChangeSpec := { name := "fnExactPeriodOf", fn := fun _ => fun
  | [d] => { results := [.lit (.bool false)], args := [d] }
  | _ => none }
def FnExactPeriodOfWrongFalsely : Prop := fnExactPeriodOfRow.holds Try.pinned (OpenSpec.ofChange fnExactPeriodOfWrong)

/-- 'laws.FnExactStepBridge': WHATEVER THE INPUT: true; the input reads as it did. -/
def fnExactStepBridgeSpec : ChangeSpec := { name := "fnExactStepBridge", fn := fun _ => fun
  | [d1, d2, d3] => { results := [.lit (.bool true)], args := [d1, d2, d3] }
  | _ => none }
def fnExactStepBridgeRow : OpenClaim := { program := "ytaenbpkcehenkad", sum := "cf4435cfeb9d4c23099c81ebdb611ad54abba13fca9b1672872402aa61857a8d", func := "loop.example/g01173/laws.FnExactStepBridge", spec := "fnExactStepBridge", inPlace := ["math.Float32bits", "math.Float32frombits"], unfollowed := true, recurses := true, apart := false }
def FnExactStepBridgeSaid : Prop := fnExactStepBridgeRow.holds Try.pinned (OpenSpec.ofChange fnExactStepBridgeSpec)

/-- ITS FALSE NEIGHBOUR: 'it returns false'. Refute it at one input. -/
def fnExactStepBridgeWrong : ChangeSpec := { name := "fnExactStepBridge", fn := fun _ => fun
  | [d1, d2, d3] => { results := [.lit (.bool false)], args := [d1, d2, d3] }
  | _ => none }
def FnExactStepBridgeWrongFalsely : Prop := fnExactStepBridgeRow.holds Try.pinned (OpenSpec.ofChange fnExactStepBridgeWrong)

/-- 'laws.FnTuned': WHATEVER THE INPUT: true; the input reads as it did. -/
def fnTunedSpec : ChangeSpec := { name := "fnTuned", fn := fun _ => fun
  | [d1, d2] => { results := [.lit (.bool true)], args := [d1, d2] }
  | _ => none }
def fnTunedRow : OpenClaim := { program := "ytaenbpkcehenkad", sum := "cf4435cfeb9d4c23099c81ebdb611ad54abba13fca9b1672872402aa61857a8d", func := "loop.example/g01173/laws.FnTuned", spec := "fnTuned", inPlace := ["math.Float32bits"], unfollowed := true, recurses := true, apart := false }
def FnTunedSaid : Prop := fnTunedRow.holds Try.pinned (OpenSpec.ofChange fnTunedSpec)

/-- ITS FALSE NEIGHBOUR: 'it returns false'. Refute it at one input. -/
def fnTunedWrong : ChangeSpec := { name := "fnTuned", fn := fun _ => fun
  | [d1, d2] => { results := [.lit (.bool false)], args := [d1, d2] }
  | _ => none }
def FnTunedWrongFalsely : Prop := fnTunedRow.holds Try.pinned (OpenSpec.ofChange fnTunedWrong)

/-- 'laws.FnSilence': WHATEVER THE INPUT: true; the input reads as it did. -/
def fnSilenceSpec : ChangeSpec := { name := "fnSilence", fn := fun _ => fun
  | [d1, d2] => { results := [.lit (.bool true)], args := [d1, d2] }
  | _ => none }
def fnSilenceRow : OpenClaim := { program := "ytaenbpkcehenkad", sum := "cf4435cfeb9d4c23099c81ebdb611ad54abba13fca9b1672872402aa61857a8d", func := "loop.example/g01173/laws.FnSilence", spec := "fnSilence", inPlace := ["math.Float32bits", "math.Float32frombits"], unfollowed := true, recurses := true, apart := false }
def FnSilenceSaid : Prop := fnSilenceRow.holds Try.pinned (OpenSpec.ofChange fnSilenceSpec)

/-- ITS FALSE NEIGHBOUR: 'it returns false'. Refute it at one input. -/
def fnSilenceWrong : ChangeSpec := { name := "fnSilence", fn := fun _ => fun
  | [d1, d2] => { results := [.lit (.bool false)], args := [d1, d2] }
  | _ => none }
def FnSilenceWrongFalsely : Prop := fnSilenceRow.holds Try.pinned (OpenSpec.ofChange fnSilenceWrong)

/-- 'laws.FnBridges': WHATEVER THE INPUT: true; the input reads as it did. -/
def fnBridgesSpec : ChangeSpec := { name := "fnBridges", fn := fun _ => fun
  | [d1, d2] => { results := [.lit (.bool true)], args := [d1, d2] }
  | _ => none }
def fnBridgesRow : OpenClaim := { program := "ytaenbpkcehenkad", sum := "cf4435cfeb9d4c23099c81ebdb611ad54abba13fca9b1672872402aa61857a8d", func := "loop.example/g01173/laws.FnBridges", spec := "fnBridges", inPlace := ["math.Float32bits", "math.Float32frombits"], unfollowed := true, recurses := true, apart := false }
def FnBridgesSaid : Prop := fnBridgesRow.holds Try.pinned (OpenSpec.ofChange fnBridgesSpec)

/-- ITS FALSE NEIGHBOUR: 'it returns false'. Refute it at one input. -/
def fnBridgesWrong : ChangeSpec := { name := "fnBridges", fn := fun _ => fun
  | [d1, d2] => { results := [.lit (.bool false)], args := [d1, d2] }
  | _ => none }
def FnBridgesWrongFalsely : Prop := fnBridgesRow.holds Try.pinned (OpenSpec.ofChange fnBridgesWrong)

/-- 'laws.FnSines': WHATEVER THE INPUT: true; the input reads as it did. -/
def fnSinesSpec : ChangeSpec := { name := "fnSines", fn := fun _ => fun
  | [d1, d2] => { results := [.lit (.bool true)], args := [d1, d2] }
  | _ => none }
def fnSinesRow : OpenClaim := { program := "ytaenbpkcehenkad", sum := "cf4435cfeb9d4c23099c81ebdb611ad54abba13fca9b1672872402aa61857a8d", func := "loop.example/g01173/laws.FnSines", spec := "fnSines", inPlace := ["math.Float64bits", "math.Float64frombits", "math.Float32frombits", "math.archFloor", "math.archTrunc", "math.Float32bits"], unfollowed := true, recurses := true, apart := false }
def FnSinesSaid : Prop := fnSinesRow.holds Try.pinned (OpenSpec.ofChange fnSinesSpec)

/-- ITS FALSE NEIGHBOUR: 'it returns false'. Refute it at one input. -/
def fnSinesWrong : ChangeSpec := { name := "fnSines", fn := fun _ => fun
  | [d1, d2] => { results := [.lit (.bool false)], args := [d1, d2] }
  | _ => none }
def FnSinesWrongFalsely : Prop := fnSinesRow.holds Try.pinned (OpenSpec.ofChange fnSinesWrong)

/- THE SECOND FORM. 'bulk': how many values and letters a reading holds, each counted each time it is reached (what is shared counts as often as it is met; a slice's spare places count too). A statement '..UptoSaid' is the law's where the arguments, and the package variables that the reading takes, are together of bulk at most 1048576: NARROWER than '..Said'. Prove '..Said' where nothing that the law and all that it calls make is longer than what came in: it says more and counts as full. Else prove '..UptoSaid'. A law counts once. -/
mutual
def uptoBulk {H : Type} : DataW H → Nat
  | .lit (.string bytes) => bytes.length + 1
  | .lit _ => 1
  | .nil => 1
  | .ptr d => uptoBulk d + 1
  | .slice elems spare => uptoBulkAll elems + uptoBulkAll spare + 1
  | .agg parts => uptoBulkAll parts + 1
  | .iface _ d => uptoBulk d + 1
  | .map entries => uptoBulkEntries entries + 1
  | .held _ => 1
def uptoBulkAll {H : Type} : List (DataW H) → Nat
  | [] => 0
  | d :: r => uptoBulk d + uptoBulkAll r
def uptoBulkEntries {H : Type} : List (Lit × DataW H) → Nat
  | [] => 0
  | x :: r => uptoBulkEntry x + uptoBulkEntries r
def uptoBulkEntry {H : Type} : Lit × DataW H → Nat
  | (.string bytes, d) => bytes.length + uptoBulk d + 1
  | (_, d) => uptoBulk d + 1
 end
def uptoSmall : (H : Type) → List (DataW H) → Bool := fun _ ds => decide (uptoBulkAll ds ≤ 1048576)
def OpenSpec.upto (s : _root_.Go.ChangeSpec) : _root_.Go.OpenSpec := { _root_.Go.OpenSpec.ofChange s with cond := some uptoSmall }

/-- 'laws.FnExactPeriodOf', WHERE WHAT IT READS IS OF BULK AT MOST 1048576: true; the input reads as it did. -/
def fnExactPeriodOfUptoRow : OpenClaim := { program := "ytaenbpkcehenkad", sum := "cf4435cfeb9d4c23099c81ebdb611ad54abba13fca9b1672872402aa61857a8d", func := "loop.example/g01173/laws.FnExactPeriodOf", spec := "fnExactPeriodOf", inPlace := ["math.Float32bits"], apart := false, narrowed := true }
def FnExactPeriodOfUptoSaid : Prop := fnExactPeriodOfUptoRow.holds Try.pinned (OpenSpec.upto fnExactPeriodOfSpec)

/-- 'laws.FnExactStepBridge', WHERE WHAT IT READS IS OF BULK AT MOST 1048576: true; the input reads as it did. -/
def fnExactStepBridgeUptoRow : OpenClaim := { program := "ytaenbpkcehenkad", sum := "cf4435cfeb9d4c23099c81ebdb611ad54abba13fca9b1672872402aa61857a8d", func := "loop.example/g01173/laws.FnExactStepBridge", spec := "fnExactStepBridge", inPlace := ["math.Float32bits", "math.Float32frombits"], unfollowed := true, recurses := true, apart := false, narrowed := true }
def FnExactStepBridgeUptoSaid : Prop := fnExactStepBridgeUptoRow.holds Try.pinned (OpenSpec.upto fnExactStepBridgeSpec)

/-- 'laws.FnTuned', WHERE WHAT IT READS IS OF BULK AT MOST 1048576: true; the input reads as it did. -/
def fnTunedUptoRow : OpenClaim := { program := "ytaenbpkcehenkad", sum := "cf4435cfeb9d4c23099c81ebdb611ad54abba13fca9b1672872402aa61857a8d", func := "loop.example/g01173/laws.FnTuned", spec := "fnTuned", inPlace := ["math.Float32bits"], unfollowed := true, recurses := true, apart := false, narrowed := true }
def FnTunedUptoSaid : Prop := fnTunedUptoRow.holds Try.pinned (OpenSpec.upto fnTunedSpec)

/-- 'laws.FnSilence', WHERE WHAT IT READS IS OF BULK AT MOST 1048576: true; the input reads as it did. -/
def fnSilenceUptoRow : OpenClaim := { program := "ytaenbpkcehenkad", sum := "cf4435cfeb9d4c23099c81ebdb611ad54abba13fca9b1672872402aa61857a8d", func := "loop.example/g01173/laws.FnSilence", spec := "fnSilence", inPlace := ["math.Float32bits", "math.Float32frombits"], unfollowed := true, recurses := true, apart := false, narrowed := true }
def FnSilenceUptoSaid : Prop := fnSilenceUptoRow.holds Try.pinned (OpenSpec.upto fnSilenceSpec)

/-- 'laws.FnBridges', WHERE WHAT IT READS IS OF BULK AT MOST 1048576: true; the input reads as it did. -/
def fnBridgesUptoRow : OpenClaim := { program := "ytaenbpkcehenkad", sum := "cf4435cfeb9d4c23099c81ebdb611ad54abba13fca9b1672872402aa61857a8d", func := "loop.example/g01173/laws.FnBridges", spec := "fnBridges", inPlace := ["math.Float32bits", "math.Float32frombits"], unfollowed := true, recurses := true, apart := false, narrowed := true }
def FnBridgesUptoSaid : Prop := fnBridgesUptoRow.holds Try.pinned (OpenSpec.upto fnBridgesSpec)

/-- 'laws.FnSines', WHERE WHAT IT READS IS OF BULK AT MOST 1048576: true; the input reads as it did. -/
def fnSinesUptoRow : OpenClaim := { program := "ytaenbpkcehenkad", sum := "cf4435cfeb9d4c23099c81ebdb611ad54abba13fca9b1672872402aa61857a8d", func := "loop.example/g01173/laws.FnSines", spec := "fnSines", inPlace := ["math.Float64bits", "math.Float64frombits", "math.Float32frombits", "math.archFloor", "math.archTrunc", "math.Float32bits"], unfollowed := true, recurses := true, apart := false, narrowed := true }
def FnSinesUptoSaid : Prop := fnSinesUptoRow.holds Try.pinned (OpenSpec.upto fnSinesSpec)

end Rows
end Go.Proofs.Ytaenbpkcehenkad
