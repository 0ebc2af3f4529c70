/-
  No cell of these rows narrows 'for every input' (looked for: loops, veiled, ifaces, maps, wideKeys, modest, calm, conditions, laid).
  DERIVED. THE GIVEN ROWS OF THIS SEAT. 12 by the template 'for every input the law returns true; each argument reads behind the call as it read before'; 0 by the template 'total and deterministic' (their statements: YtjcbolllohmjjaaTotals.lean).
  GIVEN WITH THE SEED: the statements are not yours to turn. If you find one false, say at which input.
  Laid BY PROGRAM, IN A SANDBOX (cutbox-rows.mjs): the forced cells as the released guide's own fill.sh prints them over the translation 77165554e6c4b1da… (all of the seat's roots in one cut). By AI agents, Wed Nov 11 2026. No macro, syntax, notation, axiom, sorry.
-/
import Derived.Test.YtjcbolllohmjjaaChecked
import GoSem.Claim
import GoSem.ClaimJoined
import GoSem.ClaimMapViews
import Derived.JoinedTies
import Derived.KernelRfl
namespace Go.Proofs.Ytjcbolllohmjjaa
/- THE CELL 'sum', in the pinned program and in every row, IS THE sha256 OF THE DUMP (.gsa) THAT YtjcbolllohmjjaaProg.lean LOADS. Nothing in Lean hashes anything: it is a label: what it is worth is what the hold of that sum in a sandbox is worth. -/
noncomputable def Try.pinned : Pinned := { name := "ytjcbolllohmjjaa", sum := "77165554e6c4b1da1129e1442298d8791be94dfae3b03b00626cf9d1a60d06e4", checked := Try.checked }
namespace Rows
def none {H : Type} : Left H := { results := [], args := [] }

/-- 'laws.FnExactScatterOf': WHATEVER THE INPUT: true; the input reads as it did. -/
def fnExactScatterOfSpec : ChangeSpec := { name := "fnExactScatterOf", fn := fun _ => fun
  | [d1, d2] => { results := [.lit (.bool true)], args := [d1, d2] }
  | _ => none }
def fnExactScatterOfRow : OpenClaim := { program := "ytjcbolllohmjjaa", sum := "77165554e6c4b1da1129e1442298d8791be94dfae3b03b00626cf9d1a60d06e4", func := "loop.example/g01173/laws.FnExactScatterOf", spec := "fnExactScatterOf", inPlace := ["math.Float32bits"], apart := false }
def FnExactScatterOfSaid : Prop := fnExactScatterOfRow.holds Try.pinned (OpenSpec.ofChange fnExactScatterOfSpec)

/-- ITS FALSE NEIGHBOUR: 'it returns false'. Refute it at one input. -/
def fnExactScatterOfWrong : ChangeSpec := { name := "fnExactScatterOf", fn := fun _ => fun
  | [d1, d2] => { results := [.lit (.bool false)], args := [d1, d2] }
  | _ => none }
def FnExactScatterOfWrongFalsely : Prop := fnExactScatterOfRow.holds Try.pinned (OpenSpec.ofChange fnExactScatterOfWrong)

/-- 'laws.FnExactReedAt': WHATEVER THE INPUT: true; the input reads as it did. -/
def fnExactReedAtSpec : ChangeSpec := { name := "fnExactReedAt", fn := fun _ => fun
  | [d1, d2, d3] => { results := [.lit (.bool true)], args := [d1, d2, d3] }
  | _ => none }
def fnExactReedAtRow : OpenClaim := { program := "ytjcbolllohmjjaa", sum := "77165554e6c4b1da1129e1442298d8791be94dfae3b03b00626cf9d1a60d06e4", func := "loop.example/g01173/laws.FnExactReedAt", spec := "fnExactReedAt", apart := false }
def FnExactReedAtSaid : Prop := fnExactReedAtRow.holds Try.pinned (OpenSpec.ofChange fnExactReedAtSpec)

/-- ITS FALSE NEIGHBOUR: 'it returns false'. Refute it at one input. -/
def fnExactReedAtWrong : ChangeSpec := { name := "fnExactReedAt", fn := fun _ => fun
  | [d1, d2, d3] => { results := [.lit (.bool false)], args := [d1, d2, d3] }
  | _ => none }
def FnExactReedAtWrongFalsely : Prop := fnExactReedAtRow.holds Try.pinned (OpenSpec.ofChange fnExactReedAtWrong)

/-- 'laws.FnExactBreathRamp': WHATEVER THE INPUT: true; the input reads as it did. -/
def fnExactBreathRampSpec : ChangeSpec := { name := "fnExactBreathRamp", fn := fun _ => fun
  | [d1, d2, d3] => { results := [.lit (.bool true)], args := [d1, d2, d3] }
  | _ => none }
def fnExactBreathRampRow : OpenClaim := { program := "ytjcbolllohmjjaa", sum := "77165554e6c4b1da1129e1442298d8791be94dfae3b03b00626cf9d1a60d06e4", func := "loop.example/g01173/laws.FnExactBreathRamp", spec := "fnExactBreathRamp", apart := false }
def FnExactBreathRampSaid : Prop := fnExactBreathRampRow.holds Try.pinned (OpenSpec.ofChange fnExactBreathRampSpec)

/-- ITS FALSE NEIGHBOUR: 'it returns false'. Refute it at one input. -/
def fnExactBreathRampWrong : ChangeSpec := { name := "fnExactBreathRamp", fn := fun _ => fun
  | [d1, d2, d3] => { results := [.lit (.bool false)], args := [d1, d2, d3] }
  | _ => none }
def FnExactBreathRampWrongFalsely : Prop := fnExactBreathRampRow.holds Try.pinned (OpenSpec.ofChange fnExactBreathRampWrong)

/-- 'laws.FnExactLengthOfPipe': WHATEVER THE INPUT: true; the input reads as it did. -/
def fnExactLengthOfPipeSpec : ChangeSpec := { name := "fnExactLengthOfPipe", fn := fun _ => fun
  | [d] => { results := [.lit (.bool true)], args := [d] }
  | _ => none }
def fnExactLengthOfPipeRow : OpenClaim := { program := "ytjcbolllohmjjaa", sum := "77165554e6c4b1da1129e1442298d8791be94dfae3b03b00626cf9d1a60d06e4", func := "loop.example/g01173/laws.FnExactLengthOfPipe", spec := "fnExactLengthOfPipe", inPlace := ["math.Float32bits"], apart := false }
def FnExactLengthOfPipeSaid : Prop := fnExactLengthOfPipeRow.holds Try.pinned (OpenSpec.ofChange fnExactLengthOfPipeSpec)

/-- ITS FALSE NEIGHBOUR: 'it returns false'. Refute it at one input. -/
def fnExactLengthOfPipeWrong : ChangeSpec := { name := "fnExactLengthOfPipe", fn := fun _ => fun
  | [d] => { results := [.lit (.bool false)], args := [d] }
  | _ => none }
def FnExactLengthOfPipeWrongFalsely : Prop := fnExactLengthOfPipeRow.holds Try.pinned (OpenSpec.ofChange fnExactLengthOfPipeWrong)

/-- 'laws.FnExactValidPipe': WHATEVER THE INPUT: true; the input reads as it did. -/
def fnExactValidPipeSpec : ChangeSpec := { name := "fnExactValidPipe", fn := fun _ => fun
  | [d] => { results := [.lit (.bool true)], args := [d] }
  | _ => none }
def fnExactValidPipeRow : OpenClaim := { program := "ytjcbolllohmjjaa", sum := "77165554e6c4b1da1129e1442298d8791be94dfae3b03b00626cf9d1a60d06e4", func := "loop.example/g01173/laws.FnExactValidPipe", spec := "fnExactValidPipe", inPlace := ["math.Float32bits"], apart := false }
def FnExactValidPipeSaid : Prop := fnExactValidPipeRow.holds Try.pinned (OpenSpec.ofChange fnExactValidPipeSpec)

/-- ITS FALSE NEIGHBOUR: 'it returns false'. Refute it at one input. -/
def fnExactValidPipeWrong : ChangeSpec := { name := "fnExactValidPipe", fn := fun _ => fun
  | [d] => { results := [.lit (.bool false)], args := [d] }
  | _ => none }
def FnExactValidPipeWrongFalsely : Prop := fnExactValidPipeRow.holds Try.pinned (OpenSpec.ofChange fnExactValidPipeWrong)

/-- 'laws.FnExactSamePipe': WHATEVER THE INPUT: true; the input reads as it did. -/
def fnExactSamePipeSpec : ChangeSpec := { name := "fnExactSamePipe", fn := fun _ => fun
  | [d1, d2] => { results := [.lit (.bool true)], args := [d1, d2] }
  | _ => none }
def fnExactSamePipeRow : OpenClaim := { program := "ytjcbolllohmjjaa", sum := "77165554e6c4b1da1129e1442298d8791be94dfae3b03b00626cf9d1a60d06e4", func := "loop.example/g01173/laws.FnExactSamePipe", spec := "fnExactSamePipe", inPlace := ["math.Float32bits"], unfollowed := true, recurses := true, apart := false }
def FnExactSamePipeSaid : Prop := fnExactSamePipeRow.holds Try.pinned (OpenSpec.ofChange fnExactSamePipeSpec)

/-- ITS FALSE NEIGHBOUR: 'it returns false'. Refute it at one input. -/
def fnExactSamePipeWrong : ChangeSpec := { name := "fnExactSamePipe", fn := fun _ => fun
  | [d1, d2] => { results := [.lit (.bool false)], args := [d1, d2] }
  | _ => none }
def FnExactSamePipeWrongFalsely : Prop := fnExactSamePipeRow.holds Try.pinned (OpenSpec.ofChange fnExactSamePipeWrong)

/-- 'laws.FnExactEnergyOfPipe': WHATEVER THE INPUT: true; the input reads as it did. -/
def fnExactEnergyOfPipeSpec : ChangeSpec := { name := "fnExactEnergyOfPipe", fn := fun _ => fun
  | [d] => { results := [.lit (.bool true)], args := [d] }
  | _ => none }
def fnExactEnergyOfPipeRow : OpenClaim := { program := "ytjcbolllohmjjaa", sum := "77165554e6c4b1da1129e1442298d8791be94dfae3b03b00626cf9d1a60d06e4", func := "loop.example/g01173/laws.FnExactEnergyOfPipe", spec := "fnExactEnergyOfPipe", inPlace := ["math.Float32bits"], apart := false }
def FnExactEnergyOfPipeSaid : Prop := fnExactEnergyOfPipeRow.holds Try.pinned (OpenSpec.ofChange fnExactEnergyOfPipeSpec)

/-- ITS FALSE NEIGHBOUR: 'it returns false'. Refute it at one input. -/
def fnExactEnergyOfPipeWrong : ChangeSpec := { name := "fnExactEnergyOfPipe", fn := fun _ => fun
  | [d] => { results := [.lit (.bool false)], args := [d] }
  | _ => none }
def FnExactEnergyOfPipeWrongFalsely : Prop := fnExactEnergyOfPipeRow.holds Try.pinned (OpenSpec.ofChange fnExactEnergyOfPipeWrong)

/-- 'laws.FnExactPressureAt': WHATEVER THE INPUT: true; the input reads as it did. -/
def fnExactPressureAtSpec : ChangeSpec := { name := "fnExactPressureAt", fn := fun _ => fun
  | [d1, d2, d3] => { results := [.lit (.bool true)], args := [d1, d2, d3] }
  | _ => none }
def fnExactPressureAtRow : OpenClaim := { program := "ytjcbolllohmjjaa", sum := "77165554e6c4b1da1129e1442298d8791be94dfae3b03b00626cf9d1a60d06e4", func := "loop.example/g01173/laws.FnExactPressureAt", spec := "fnExactPressureAt", inPlace := ["math.Float32bits"], apart := false }
def FnExactPressureAtSaid : Prop := fnExactPressureAtRow.holds Try.pinned (OpenSpec.ofChange fnExactPressureAtSpec)

/-- ITS FALSE NEIGHBOUR: 'it returns false'. Refute it at one input. -/
def fnExactPressureAtWrong : ChangeSpec := { name := "fnExactPressureAt", fn := fun _ => fun
  | [d1, d2, d3] => { results := [.lit (.bool false)], args := [d1, d2, d3] }
  | _ => none }
def FnExactPressureAtWrongFalsely : Prop := fnExactPressureAtRow.holds Try.pinned (OpenSpec.ofChange fnExactPressureAtWrong)

/-- 'laws.FnExactNewPipe': WHATEVER THE INPUT: true; the input reads as it did. -/
def fnExactNewPipeSpec : ChangeSpec := { name := "fnExactNewPipe", fn := fun _ => fun
  | [d1, d2, d3, d4, d5] => { results := [.lit (.bool true)], args := [d1, d2, d3, d4, d5] }
  | _ => none }
def fnExactNewPipeRow : OpenClaim := { program := "ytjcbolllohmjjaa", sum := "77165554e6c4b1da1129e1442298d8791be94dfae3b03b00626cf9d1a60d06e4", func := "loop.example/g01173/laws.FnExactNewPipe", spec := "fnExactNewPipe", apart := false }
def FnExactNewPipeSaid : Prop := fnExactNewPipeRow.holds Try.pinned (OpenSpec.ofChange fnExactNewPipeSpec)

/-- ITS FALSE NEIGHBOUR: 'it returns false'. Refute it at one input. -/
def fnExactNewPipeWrong : ChangeSpec := { name := "fnExactNewPipe", fn := fun _ => fun
  | [d1, d2, d3, d4, d5] => { results := [.lit (.bool false)], args := [d1, d2, d3, d4, d5] }
  | _ => none }
def FnExactNewPipeWrongFalsely : Prop := fnExactNewPipeRow.holds Try.pinned (OpenSpec.ofChange fnExactNewPipeWrong)

/-- 'laws.FnExactWithReed': WHATEVER THE INPUT: true; the input reads as it did. -/
def fnExactWithReedSpec : ChangeSpec := { name := "fnExactWithReed", fn := fun _ => fun
  | [d1, d2, d3] => { results := [.lit (.bool true)], args := [d1, d2, d3] }
  | _ => none }
def fnExactWithReedRow : OpenClaim := { program := "ytjcbolllohmjjaa", sum := "77165554e6c4b1da1129e1442298d8791be94dfae3b03b00626cf9d1a60d06e4", func := "loop.example/g01173/laws.FnExactWithReed", spec := "fnExactWithReed", inPlace := ["math.Float32bits"], unfollowed := true, recurses := true, apart := false }
def FnExactWithReedSaid : Prop := fnExactWithReedRow.holds Try.pinned (OpenSpec.ofChange fnExactWithReedSpec)

/-- ITS FALSE NEIGHBOUR: 'it returns false'. Refute it at one input. -/
def fnExactWithReedWrong : ChangeSpec := { name := "fnExactWithReed", fn := fun _ => fun
  | [d1, d2, d3] => { results := [.lit (.bool false)], args := [d1, d2, d3] }
  | _ => none }
def FnExactWithReedWrongFalsely : Prop := fnExactWithReedRow.holds Try.pinned (OpenSpec.ofChange fnExactWithReedWrong)

/-- 'laws.FnExactMutePipe': WHATEVER THE INPUT: true; the input reads as it did. -/
def fnExactMutePipeSpec : ChangeSpec := { name := "fnExactMutePipe", fn := fun _ => fun
  | [d] => { results := [.lit (.bool true)], args := [d] }
  | _ => none }
def fnExactMutePipeRow : OpenClaim := { program := "ytjcbolllohmjjaa", sum := "77165554e6c4b1da1129e1442298d8791be94dfae3b03b00626cf9d1a60d06e4", func := "loop.example/g01173/laws.FnExactMutePipe", spec := "fnExactMutePipe", inPlace := ["math.Float32bits"], unfollowed := true, recurses := true, apart := false }
def FnExactMutePipeSaid : Prop := fnExactMutePipeRow.holds Try.pinned (OpenSpec.ofChange fnExactMutePipeSpec)

/-- ITS FALSE NEIGHBOUR: 'it returns false'. Refute it at one input. -/
def fnExactMutePipeWrong : ChangeSpec := { name := "fnExactMutePipe", fn := fun _ => fun
  | [d] => { results := [.lit (.bool false)], args := [d] }
  | _ => none }
def FnExactMutePipeWrongFalsely : Prop := fnExactMutePipeRow.holds Try.pinned (OpenSpec.ofChange fnExactMutePipeWrong)

/-- 'laws.FnExactIsSilentPipe': WHATEVER THE INPUT: true; the input reads as it did. -/
def fnExactIsSilentPipeSpec : ChangeSpec := { name := "fnExactIsSilentPipe", fn := fun _ => fun
  | [d] => { results := [.lit (.bool true)], args := [d] }
  | _ => none }
def fnExactIsSilentPipeRow : OpenClaim := { program := "ytjcbolllohmjjaa", sum := "77165554e6c4b1da1129e1442298d8791be94dfae3b03b00626cf9d1a60d06e4", func := "loop.example/g01173/laws.FnExactIsSilentPipe", spec := "fnExactIsSilentPipe", inPlace := ["math.Float32bits"], apart := false }
def FnExactIsSilentPipeSaid : Prop := fnExactIsSilentPipeRow.holds Try.pinned (OpenSpec.ofChange fnExactIsSilentPipeSpec)

/-- ITS FALSE NEIGHBOUR: 'it returns false'. Refute it at one input. -/
def fnExactIsSilentPipeWrong : ChangeSpec := { name := "fnExactIsSilentPipe", fn := fun _ => fun
  | [d] => { results := [.lit (.bool false)], args := [d] }
  | _ => none }
def FnExactIsSilentPipeWrongFalsely : Prop := fnExactIsSilentPipeRow.holds Try.pinned (OpenSpec.ofChange fnExactIsSilentPipeWrong)

/- THE SECOND FORM. 'bulk': how many values and letters a reading holds, each counted each time it is reached (what is shared counts as often as it is met; a slice's spare places count too). A statement '..UptoSaid' is the law's where the arguments, and the package variables that the reading takes, are together of bulk at most 1048576: NARROWER than '..Said'. Prove '..Said' where nothing that the law and all that it calls make is longer than what came in: it says more and counts as full. Else prove '..UptoSaid'. A law counts once. -/
mutual
def uptoBulk {H : Type} : DataW H → Nat
  | .lit (.string bytes) => bytes.length + 1
  | .lit _ => 1
  | .nil => 1
  | .ptr d => uptoBulk d + 1
  | .slice elems spare => uptoBulkAll elems + uptoBulkAll spare + 1
  | .agg parts => uptoBulkAll parts + 1
  | .iface _ d => uptoBulk d + 1
  | .map entries => uptoBulkEntries entries + 1
  | .held _ => 1
def uptoBulkAll {H : Type} : List (DataW H) → Nat
  | [] => 0
  | d :: r => uptoBulk d + uptoBulkAll r
def uptoBulkEntries {H : Type} : List (Lit × DataW H) → Nat
  | [] => 0
  | x :: r => uptoBulkEntry x + uptoBulkEntries r
def uptoBulkEntry {H : Type} : Lit × DataW H → Nat
  | (.string bytes, d) => bytes.length + uptoBulk d + 1
  | (_, d) => uptoBulk d + 1
 end
def uptoSmall : (H : Type) → List (DataW H) → Bool := fun _ ds => decide (uptoBulkAll ds ≤ 1048576)
def OpenSpec.upto (s : _root_.Go.ChangeSpec) : _root_.Go.OpenSpec := { _root_.Go.OpenSpec.ofChange s with cond := some uptoSmall }

/-- 'laws.FnExactScatterOf', WHERE WHAT IT READS IS OF BULK AT MOST 1048576: true; the input reads as it did. -/
def fnExactScatterOfUptoRow : OpenClaim := { program := "ytjcbolllohmjjaa", sum := "77165554e6c4b1da1129e1442298d8791be94dfae3b03b00626cf9d1a60d06e4", func := "loop.example/g01173/laws.FnExactScatterOf", spec := "fnExactScatterOf", inPlace := ["math.Float32bits"], apart := false, narrowed := true }
def FnExactScatterOfUptoSaid : Prop := fnExactScatterOfUptoRow.holds Try.pinned (OpenSpec.upto fnExactScatterOfSpec)

/-- 'laws.FnExactReedAt', WHERE WHAT IT READS IS OF BULK AT MOST 1048576: true; the input reads as it did. -/
def fnExactReedAtUptoRow : OpenClaim := { program := "ytjcbolllohmjjaa", sum := "77165554e6c4b1da1129e1442298d8791be94dfae3b03b00626cf9d1a60d06e4", func := "loop.example/g01173/laws.FnExactReedAt", spec := "fnExactReedAt", apart := false, narrowed := true }
def FnExactReedAtUptoSaid : Prop := fnExactReedAtUptoRow.holds Try.pinned (OpenSpec.upto fnExactReedAtSpec)

/-- 'laws.FnExactBreathRamp', WHERE WHAT IT READS IS OF BULK AT MOST 1048576: true; the input reads as it did. -/
def fnExactBreathRampUptoRow : OpenClaim := { program := "ytjcbolllohmjjaa", sum := "77165554e6c4b1da1129e1442298d8791be94dfae3b03b00626cf9d1a60d06e4", func := "loop.example/g01173/laws.FnExactBreathRamp", spec := "fnExactBreathRamp", apart := false, narrowed := true }
def FnExactBreathRampUptoSaid : Prop := fnExactBreathRampUptoRow.holds Try.pinned (OpenSpec.upto fnExactBreathRampSpec)

/-- 'laws.FnExactLengthOfPipe', WHERE WHAT IT READS IS OF BULK AT MOST 1048576: true; the input reads as it did. -/
def fnExactLengthOfPipeUptoRow : OpenClaim := { program := "ytjcbolllohmjjaa", sum := "77165554e6c4b1da1129e1442298d8791be94dfae3b03b00626cf9d1a60d06e4", func := "loop.example/g01173/laws.FnExactLengthOfPipe", spec := "fnExactLengthOfPipe", inPlace := ["math.Float32bits"], apart := false, narrowed := true }
def FnExactLengthOfPipeUptoSaid : Prop := fnExactLengthOfPipeUptoRow.holds Try.pinned (OpenSpec.upto fnExactLengthOfPipeSpec)

/-- 'laws.FnExactValidPipe', WHERE WHAT IT READS IS OF BULK AT MOST 1048576: true; the input reads as it did. -/
def fnExactValidPipeUptoRow : OpenClaim := { program := "ytjcbolllohmjjaa", sum := "77165554e6c4b1da1129e1442298d8791be94dfae3b03b00626cf9d1a60d06e4", func := "loop.example/g01173/laws.FnExactValidPipe", spec := "fnExactValidPipe", inPlace := ["math.Float32bits"], apart := false, narrowed := true }
def FnExactValidPipeUptoSaid : Prop := fnExactValidPipeUptoRow.holds Try.pinned (OpenSpec.upto fnExactValidPipeSpec)

/-- 'laws.FnExactSamePipe', WHERE WHAT IT READS IS OF BULK AT MOST 1048576: true; the input reads as it did. -/
def fnExactSamePipeUptoRow : OpenClaim := { program := "ytjcbolllohmjjaa", sum := "77165554e6c4b1da1129e1442298d8791be94dfae3b03b00626cf9d1a60d06e4", func := "loop.example/g01173/laws.FnExactSamePipe", spec := "fnExactSamePipe", inPlace := ["math.Float32bits"], unfollowed := true, recurses := true, apart := false, narrowed := true }
def FnExactSamePipeUptoSaid : Prop := fnExactSamePipeUptoRow.holds Try.pinned (OpenSpec.upto fnExactSamePipeSpec)

/-- 'laws.FnExactEnergyOfPipe', WHERE WHAT IT READS IS OF BULK AT MOST 1048576: true; the input reads as it did. -/
def fnExactEnergyOfPipeUptoRow : OpenClaim := { program := "ytjcbolllohmjjaa", sum := "77165554e6c4b1da1129e1442298d8791be94dfae3b03b00626cf9d1a60d06e4", func := "loop.example/g01173/laws.FnExactEnergyOfPipe", spec := "fnExactEnergyOfPipe", inPlace := ["math.Float32bits"], apart := false, narrowed := true }
def FnExactEnergyOfPipeUptoSaid : Prop := fnExactEnergyOfPipeUptoRow.holds Try.pinned (OpenSpec.upto fnExactEnergyOfPipeSpec)

/-- 'laws.FnExactPressureAt', WHERE WHAT IT READS IS OF BULK AT MOST 1048576: true; the input reads as it did. -/
def fnExactPressureAtUptoRow : OpenClaim := { program := "ytjcbolllohmjjaa", sum := "77165554e6c4b1da1129e1442298d8791be94dfae3b03b00626cf9d1a60d06e4", func := "loop.example/g01173/laws.FnExactPressureAt", spec := "fnExactPressureAt", inPlace := ["math.Float32bits"], apart := false, narrowed := true }
def FnExactPressureAtUptoSaid : Prop := fnExactPressureAtUptoRow.holds Try.pinned (OpenSpec.upto fnExactPressureAtSpec)

/-- 'laws.FnExactNewPipe', WHERE WHAT IT READS IS OF BULK AT MOST 1048576: true; the input reads as it did. -/
def fnExactNewPipeUptoRow : OpenClaim := { program := "ytjcbolllohmjjaa", sum := "77165554e6c4b1da1129e1442298d8791be94dfae3b03b00626cf9d1a60d06e4", func := "loop.example/g01173/laws.FnExactNewPipe", spec := "fnExactNewPipe", apart := false, narrowed := true }
def FnExactNewPipeUptoSaid : Prop := fnExactNewPipeUptoRow.holds Try.pinned (OpenSpec.upto fnExactNewPipeSpec)

/-- 'laws.FnExactWithReed', WHERE WHAT IT READS IS OF BULK AT MOST 1048576: true; the input reads as it did. -/
def fnExactWithReedUptoRow : OpenClaim := { program := "ytjcbolllohmjjaa", sum := "77165554e6c4b1da1129e1442298d8791be94dfae3b03b00626cf9d1a60d06e4", func := "loop.example/g01173/laws.FnExactWithReed", spec := "fnExactWithReed", inPlace := ["math.Float32bits"], unfollowed := true, recurses := true, apart := false, narrowed := true }
def FnExactWithReedUptoSaid : Prop := fnExactWithReedUptoRow.holds Try.pinned (OpenSpec.upto fnExactWithReedSpec)

/-- 'laws.FnExactMutePipe', WHERE WHAT IT READS IS OF BULK AT MOST 1048576: true; the input reads as it did. -/
def fnExactMutePipeUptoRow : OpenClaim := { program := "ytjcbolllohmjjaa", sum := "77165554e6c4b1da1129e1442298d8791be94dfae3b03b00626cf9d1a60d06e4", func := "loop.example/g01173/laws.FnExactMutePipe", spec := "fnExactMutePipe", inPlace := ["math.Float32bits"], unfollowed := true, recurses := true, apart := false, narrowed := true }
def FnExactMutePipeUptoSaid : Prop := fnExactMutePipeUptoRow.holds Try.pinned (OpenSpec.upto fnExactMutePipeSpec)

/-- 'laws.FnExactIsSilentPipe', WHERE WHAT IT READS IS OF BULK AT MOST 1048576: true; the input reads as it did. -/
def fnExactIsSilentPipeUptoRow : OpenClaim := { program := "ytjcbolllohmjjaa", sum := "77165554e6c4b1da1129e1442298d8791be94dfae3b03b00626cf9d1a60d06e4", func := "loop.example/g01173/laws.FnExactIsSilentPipe", spec := "fnExactIsSilentPipe", inPlace := ["math.Float32bits"], apart := false, narrowed := true }
def FnExactIsSilentPipeUptoSaid : Prop := fnExactIsSilentPipeUptoRow.holds Try.pinned (OpenSpec.upto fnExactIsSilentPipeSpec)

end Rows
end Go.Proofs.Ytjcbolllohmjjaa
