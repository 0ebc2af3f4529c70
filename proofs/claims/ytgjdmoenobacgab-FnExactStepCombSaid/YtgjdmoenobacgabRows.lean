/-
  No cell of these rows narrows 'for every input' (looked for: loops, veiled, ifaces, maps, wideKeys, modest, calm, conditions, laid).
  DERIVED. THE GIVEN ROWS OF THIS SEAT. 12 by the template 'for every input the law returns true; each argument reads behind the call as it read before'; 0 by the template 'total and deterministic' (their statements: YtgjdmoenobacgabTotals.lean).
  GIVEN WITH THE SEED: the statements are not yours to turn. If you find one false, say at which input.
  Laid BY PROGRAM, IN A SANDBOX (cutbox-rows.mjs): the forced cells as the released guide's own fill.sh prints them over the translation 597f46841c2d80ca… (all of the seat's roots in one cut). By AI agents, Wed Nov 11 2026. No macro, syntax, notation, axiom, sorry.
-/
import Derived.Test.YtgjdmoenobacgabChecked
import GoSem.Claim
import GoSem.ClaimJoined
import GoSem.ClaimMapViews
import Derived.JoinedTies
import Derived.KernelRfl
namespace Go.Proofs.Ytgjdmoenobacgab
/- THE CELL 'sum', in the pinned program and in every row, IS THE sha256 OF THE DUMP (.gsa) THAT YtgjdmoenobacgabProg.lean LOADS. Nothing in Lean hashes anything: it is a label: what it is worth is what the hold of that sum in a sandbox is worth. -/
noncomputable def Try.pinned : Pinned := { name := "ytgjdmoenobacgab", sum := "597f46841c2d80caf9adc99e2cff42f747460e79cc1d5a1753a9463cb5a3c3a5", checked := Try.checked }
namespace Rows
def none {H : Type} : Left H := { results := [], args := [] }

/-- 'laws.FnExactNewComb': WHATEVER THE INPUT: true; the input reads as it did. -/
def fnExactNewCombSpec : ChangeSpec := { name := "fnExactNewComb", fn := fun _ => fun
  | [d1, d2] => { results := [.lit (.bool true)], args := [d1, d2] }
  | _ => none }
def fnExactNewCombRow : OpenClaim := { program := "ytgjdmoenobacgab", sum := "597f46841c2d80caf9adc99e2cff42f747460e79cc1d5a1753a9463cb5a3c3a5", func := "loop.example/g01173/laws.FnExactNewComb", spec := "fnExactNewComb", apart := false }
def FnExactNewCombSaid : Prop := fnExactNewCombRow.holds Try.pinned (OpenSpec.ofChange fnExactNewCombSpec)

/-- ITS FALSE NEIGHBOUR: 'it returns false'. Refute it at one input. -/
def fnExactNewCombWrong : ChangeSpec := { name := "fnExactNewComb", fn := fun _ => fun
  | [d1, d2] => { results := [.lit (.bool false)], args := [d1, d2] }
  | _ => none }
def FnExactNewCombWrongFalsely : Prop := fnExactNewCombRow.holds Try.pinned (OpenSpec.ofChange fnExactNewCombWrong)

/-- 'laws.FnExactValidComb': WHATEVER THE INPUT: true; the input reads as it did. -/
def fnExactValidCombSpec : ChangeSpec := { name := "fnExactValidComb", fn := fun _ => fun
  | [d] => { results := [.lit (.bool true)], args := [d] }
  | _ => none }
def fnExactValidCombRow : OpenClaim := { program := "ytgjdmoenobacgab", sum := "597f46841c2d80caf9adc99e2cff42f747460e79cc1d5a1753a9463cb5a3c3a5", func := "loop.example/g01173/laws.FnExactValidComb", spec := "fnExactValidComb", inPlace := ["math.Float32bits"], apart := false }
def FnExactValidCombSaid : Prop := fnExactValidCombRow.holds Try.pinned (OpenSpec.ofChange fnExactValidCombSpec)

/-- ITS FALSE NEIGHBOUR: 'it returns false'. Refute it at one input. -/
def fnExactValidCombWrong : ChangeSpec := { name := "fnExactValidComb", fn := fun _ => fun
  | [d] => { results := [.lit (.bool false)], args := [d] }
  | _ => none }
def FnExactValidCombWrongFalsely : Prop := fnExactValidCombRow.holds Try.pinned (OpenSpec.ofChange fnExactValidCombWrong)

/-- 'laws.FnExactStepComb': WHATEVER THE INPUT: true; the input reads as it did. -/
def fnExactStepCombSpec : ChangeSpec := { name := "fnExactStepComb", fn := fun _ => fun
  | [d1, d2] => { results := [.lit (.bool true)], args := [d1, d2] }
  | _ => none }
def fnExactStepCombRow : OpenClaim := { program := "ytgjdmoenobacgab", sum := "597f46841c2d80caf9adc99e2cff42f747460e79cc1d5a1753a9463cb5a3c3a5", func := "loop.example/g01173/laws.FnExactStepComb", spec := "fnExactStepComb", inPlace := ["math.Float32bits", "math.Float32frombits"], apart := false }
def FnExactStepCombSaid : Prop := fnExactStepCombRow.holds Try.pinned (OpenSpec.ofChange fnExactStepCombSpec)

/-- ITS FALSE NEIGHBOUR: 'it returns false'. Refute it at one input. -/
def fnExactStepCombWrong : ChangeSpec := { name := "fnExactStepComb", fn := fun _ => fun
  | [d1, d2] => { results := [.lit (.bool false)], args := [d1, d2] }
  | _ => none }
def FnExactStepCombWrongFalsely : Prop := fnExactStepCombRow.holds Try.pinned (OpenSpec.ofChange fnExactStepCombWrong)

/-- 'laws.FnExactMixFour': WHATEVER THE INPUT: true; the input reads as it did. -/
def fnExactMixFourSpec : ChangeSpec := { name := "fnExactMixFour", fn := fun _ => fun
  | [d] => { results := [.lit (.bool true)], args := [d] }
  | _ => none }
def fnExactMixFourRow : OpenClaim := { program := "ytgjdmoenobacgab", sum := "597f46841c2d80caf9adc99e2cff42f747460e79cc1d5a1753a9463cb5a3c3a5", func := "loop.example/g01173/laws.FnExactMixFour", spec := "fnExactMixFour", apart := false }
def FnExactMixFourSaid : Prop := fnExactMixFourRow.holds Try.pinned (OpenSpec.ofChange fnExactMixFourSpec)

/-- ITS FALSE NEIGHBOUR: 'it returns false'. Refute it at one input. -/
def fnExactMixFourWrong : ChangeSpec := { name := "fnExactMixFour", fn := fun _ => fun
  | [d] => { results := [.lit (.bool false)], args := [d] }
  | _ => none }
def FnExactMixFourWrongFalsely : Prop := fnExactMixFourRow.holds Try.pinned (OpenSpec.ofChange fnExactMixFourWrong)

/-- 'laws.FnExactSpreadFour': WHATEVER THE INPUT: true; the input reads as it did. -/
def fnExactSpreadFourSpec : ChangeSpec := { name := "fnExactSpreadFour", fn := fun _ => fun
  | [d1, d2] => { results := [.lit (.bool true)], args := [d1, d2] }
  | _ => none }
def fnExactSpreadFourRow : OpenClaim := { program := "ytgjdmoenobacgab", sum := "597f46841c2d80caf9adc99e2cff42f747460e79cc1d5a1753a9463cb5a3c3a5", func := "loop.example/g01173/laws.FnExactSpreadFour", spec := "fnExactSpreadFour", apart := false }
def FnExactSpreadFourSaid : Prop := fnExactSpreadFourRow.holds Try.pinned (OpenSpec.ofChange fnExactSpreadFourSpec)

/-- ITS FALSE NEIGHBOUR: 'it returns false'. Refute it at one input. -/
def fnExactSpreadFourWrong : ChangeSpec := { name := "fnExactSpreadFour", fn := fun _ => fun
  | [d1, d2] => { results := [.lit (.bool false)], args := [d1, d2] }
  | _ => none }
def FnExactSpreadFourWrongFalsely : Prop := fnExactSpreadFourRow.holds Try.pinned (OpenSpec.ofChange fnExactSpreadFourWrong)

/-- 'laws.FnExactGainFor': WHATEVER THE INPUT: true; the input reads as it did. -/
def fnExactGainForSpec : ChangeSpec := { name := "fnExactGainFor", fn := fun _ => fun
  | [d1, d2] => { results := [.lit (.bool true)], args := [d1, d2] }
  | _ => none }
def fnExactGainForRow : OpenClaim := { program := "ytgjdmoenobacgab", sum := "597f46841c2d80caf9adc99e2cff42f747460e79cc1d5a1753a9463cb5a3c3a5", func := "loop.example/g01173/laws.FnExactGainFor", spec := "fnExactGainFor", apart := false }
def FnExactGainForSaid : Prop := fnExactGainForRow.holds Try.pinned (OpenSpec.ofChange fnExactGainForSpec)

/-- ITS FALSE NEIGHBOUR: 'it returns false'. Refute it at one input. -/
def fnExactGainForWrong : ChangeSpec := { name := "fnExactGainFor", fn := fun _ => fun
  | [d1, d2] => { results := [.lit (.bool false)], args := [d1, d2] }
  | _ => none }
def FnExactGainForWrongFalsely : Prop := fnExactGainForRow.holds Try.pinned (OpenSpec.ofChange fnExactGainForWrong)

/-- 'laws.FnExactNewRoom': WHATEVER THE INPUT: true; the input reads as it did. -/
def fnExactNewRoomSpec : ChangeSpec := { name := "fnExactNewRoom", fn := fun _ => fun
  | [d1, d2, d3, d4] => { results := [.lit (.bool true)], args := [d1, d2, d3, d4] }
  | _ => none }
def fnExactNewRoomRow : OpenClaim := { program := "ytgjdmoenobacgab", sum := "597f46841c2d80caf9adc99e2cff42f747460e79cc1d5a1753a9463cb5a3c3a5", func := "loop.example/g01173/laws.FnExactNewRoom", spec := "fnExactNewRoom", inPlace := ["math.Float32bits"], apart := false }
def FnExactNewRoomSaid : Prop := fnExactNewRoomRow.holds Try.pinned (OpenSpec.ofChange fnExactNewRoomSpec)

/-- ITS FALSE NEIGHBOUR: 'it returns false'. Refute it at one input. -/
def fnExactNewRoomWrong : ChangeSpec := { name := "fnExactNewRoom", fn := fun _ => fun
  | [d1, d2, d3, d4] => { results := [.lit (.bool false)], args := [d1, d2, d3, d4] }
  | _ => none }
def FnExactNewRoomWrongFalsely : Prop := fnExactNewRoomRow.holds Try.pinned (OpenSpec.ofChange fnExactNewRoomWrong)

/-- 'laws.FnExactWithTaps': WHATEVER THE INPUT: true; the input reads as it did. -/
def fnExactWithTapsSpec : ChangeSpec := { name := "fnExactWithTaps", fn := fun _ => fun
  | [d1, d2, d3] => { results := [.lit (.bool true)], args := [d1, d2, d3] }
  | _ => none }
def fnExactWithTapsRow : OpenClaim := { program := "ytgjdmoenobacgab", sum := "597f46841c2d80caf9adc99e2cff42f747460e79cc1d5a1753a9463cb5a3c3a5", func := "loop.example/g01173/laws.FnExactWithTaps", spec := "fnExactWithTaps", inPlace := ["math.Float32bits"], unfollowed := true, recurses := true, apart := false }
def FnExactWithTapsSaid : Prop := fnExactWithTapsRow.holds Try.pinned (OpenSpec.ofChange fnExactWithTapsSpec)

/-- ITS FALSE NEIGHBOUR: 'it returns false'. Refute it at one input. -/
def fnExactWithTapsWrong : ChangeSpec := { name := "fnExactWithTaps", fn := fun _ => fun
  | [d1, d2, d3] => { results := [.lit (.bool false)], args := [d1, d2, d3] }
  | _ => none }
def FnExactWithTapsWrongFalsely : Prop := fnExactWithTapsRow.holds Try.pinned (OpenSpec.ofChange fnExactWithTapsWrong)

/-- 'laws.FnExactValidRoom': WHATEVER THE INPUT: true; the input reads as it did. -/
def fnExactValidRoomSpec : ChangeSpec := { name := "fnExactValidRoom", fn := fun _ => fun
  | [d] => { results := [.lit (.bool true)], args := [d] }
  | _ => none }
def fnExactValidRoomRow : OpenClaim := { program := "ytgjdmoenobacgab", sum := "597f46841c2d80caf9adc99e2cff42f747460e79cc1d5a1753a9463cb5a3c3a5", func := "loop.example/g01173/laws.FnExactValidRoom", spec := "fnExactValidRoom", inPlace := ["math.Float32bits"], apart := false }
def FnExactValidRoomSaid : Prop := fnExactValidRoomRow.holds Try.pinned (OpenSpec.ofChange fnExactValidRoomSpec)

/-- ITS FALSE NEIGHBOUR: 'it returns false'. Refute it at one input. -/
def fnExactValidRoomWrong : ChangeSpec := { name := "fnExactValidRoom", fn := fun _ => fun
  | [d] => { results := [.lit (.bool false)], args := [d] }
  | _ => none }
def FnExactValidRoomWrongFalsely : Prop := fnExactValidRoomRow.holds Try.pinned (OpenSpec.ofChange fnExactValidRoomWrong)

/-- 'laws.FnExactSameRoom': WHATEVER THE INPUT: true; the input reads as it did. -/
def fnExactSameRoomSpec : ChangeSpec := { name := "fnExactSameRoom", fn := fun _ => fun
  | [d1, d2] => { results := [.lit (.bool true)], args := [d1, d2] }
  | _ => none }
def fnExactSameRoomRow : OpenClaim := { program := "ytgjdmoenobacgab", sum := "597f46841c2d80caf9adc99e2cff42f747460e79cc1d5a1753a9463cb5a3c3a5", func := "loop.example/g01173/laws.FnExactSameRoom", spec := "fnExactSameRoom", inPlace := ["math.Float32bits"], unfollowed := true, recurses := true, apart := false }
def FnExactSameRoomSaid : Prop := fnExactSameRoomRow.holds Try.pinned (OpenSpec.ofChange fnExactSameRoomSpec)

/-- ITS FALSE NEIGHBOUR: 'it returns false'. Refute it at one input. -/
def fnExactSameRoomWrong : ChangeSpec := { name := "fnExactSameRoom", fn := fun _ => fun
  | [d1, d2] => { results := [.lit (.bool false)], args := [d1, d2] }
  | _ => none }
def FnExactSameRoomWrongFalsely : Prop := fnExactSameRoomRow.holds Try.pinned (OpenSpec.ofChange fnExactSameRoomWrong)

/-- 'laws.FnExactMuteRoom': WHATEVER THE INPUT: true; the input reads as it did. -/
def fnExactMuteRoomSpec : ChangeSpec := { name := "fnExactMuteRoom", fn := fun _ => fun
  | [d] => { results := [.lit (.bool true)], args := [d] }
  | _ => none }
def fnExactMuteRoomRow : OpenClaim := { program := "ytgjdmoenobacgab", sum := "597f46841c2d80caf9adc99e2cff42f747460e79cc1d5a1753a9463cb5a3c3a5", func := "loop.example/g01173/laws.FnExactMuteRoom", spec := "fnExactMuteRoom", inPlace := ["math.Float32bits"], unfollowed := true, recurses := true, apart := false }
def FnExactMuteRoomSaid : Prop := fnExactMuteRoomRow.holds Try.pinned (OpenSpec.ofChange fnExactMuteRoomSpec)

/-- ITS FALSE NEIGHBOUR: 'it returns false'. Refute it at one input. -/
def fnExactMuteRoomWrong : ChangeSpec := { name := "fnExactMuteRoom", fn := fun _ => fun
  | [d] => { results := [.lit (.bool false)], args := [d] }
  | _ => none }
def FnExactMuteRoomWrongFalsely : Prop := fnExactMuteRoomRow.holds Try.pinned (OpenSpec.ofChange fnExactMuteRoomWrong)

/-- 'laws.FnExactEnergyOfRoom': WHATEVER THE INPUT: true; the input reads as it did. -/
def fnExactEnergyOfRoomSpec : ChangeSpec := { name := "fnExactEnergyOfRoom", fn := fun _ => fun
  | [d] => { results := [.lit (.bool true)], args := [d] }
  | _ => none }
def fnExactEnergyOfRoomRow : OpenClaim := { program := "ytgjdmoenobacgab", sum := "597f46841c2d80caf9adc99e2cff42f747460e79cc1d5a1753a9463cb5a3c3a5", func := "loop.example/g01173/laws.FnExactEnergyOfRoom", spec := "fnExactEnergyOfRoom", inPlace := ["math.Float32bits"], apart := false }
def FnExactEnergyOfRoomSaid : Prop := fnExactEnergyOfRoomRow.holds Try.pinned (OpenSpec.ofChange fnExactEnergyOfRoomSpec)

/-- ITS FALSE NEIGHBOUR: 'it returns false'. Refute it at one input. -/
def fnExactEnergyOfRoomWrong : ChangeSpec := { name := "fnExactEnergyOfRoom", fn := fun _ => fun
  | [d] => { results := [.lit (.bool false)], args := [d] }
  | _ => none }
def FnExactEnergyOfRoomWrongFalsely : Prop := fnExactEnergyOfRoomRow.holds Try.pinned (OpenSpec.ofChange fnExactEnergyOfRoomWrong)

/- THE SECOND FORM. 'bulk': how many values and letters a reading holds, each counted each time it is reached (what is shared counts as often as it is met; a slice's spare places count too). A statement '..UptoSaid' is the law's where the arguments, and the package variables that the reading takes, are together of bulk at most 1048576: NARROWER than '..Said'. Prove '..Said' where nothing that the law and all that it calls make is longer than what came in: it says more and counts as full. Else prove '..UptoSaid'. A law counts once. -/
mutual
def uptoBulk {H : Type} : DataW H → Nat
  | .lit (.string bytes) => bytes.length + 1
  | .lit _ => 1
  | .nil => 1
  | .ptr d => uptoBulk d + 1
  | .slice elems spare => uptoBulkAll elems + uptoBulkAll spare + 1
  | .agg parts => uptoBulkAll parts + 1
  | .iface _ d => uptoBulk d + 1
  | .map entries => uptoBulkEntries entries + 1
  | .held _ => 1
def uptoBulkAll {H : Type} : List (DataW H) → Nat
  | [] => 0
  | d :: r => uptoBulk d + uptoBulkAll r
def uptoBulkEntries {H : Type} : List (Lit × DataW H) → Nat
  | [] => 0
  | x :: r => uptoBulkEntry x + uptoBulkEntries r
def uptoBulkEntry {H : Type} : Lit × DataW H → Nat
  | (.string bytes, d) => bytes.length + uptoBulk d + 1
  | (_, d) => uptoBulk d + 1
 end
def uptoSmall : (H : Type) → List (DataW H) → Bool := fun _ ds => decide (uptoBulkAll ds ≤ 1048576)
def OpenSpec.upto (s : _root_.Go.ChangeSpec) : _root_.Go.OpenSpec := { _root_.Go.OpenSpec.ofChange s with cond := some uptoSmall }

/-- 'laws.FnExactNewComb', WHERE WHAT IT READS IS OF BULK AT MOST 1048576: true; the input reads as it did. -/
def fnExactNewCombUptoRow : OpenClaim := { program := "ytgjdmoenobacgab", sum := "597f46841c2d80caf9adc99e2cff42f747460e79cc1d5a1753a9463cb5a3c3a5", func := "loop.example/g01173/laws.FnExactNewComb", spec := "fnExactNewComb", apart := false, narrowed := true }
def FnExactNewCombUptoSaid : Prop := fnExactNewCombUptoRow.holds Try.pinned (OpenSpec.upto fnExactNewCombSpec)

/-- 'laws.FnExactValidComb', WHERE WHAT IT READS IS OF BULK AT MOST 1048576: true; the input reads as it did. -/
def fnExactValidCombUptoRow : OpenClaim := { program := "ytgjdmoenobacgab", sum := "597f46841c2d80caf9adc99e2cff42f747460e79cc1d5a1753a9463cb5a3c3a5", func := "loop.example/g01173/laws.FnExactValidComb", spec := "fnExactValidComb", inPlace := ["math.Float32bits"], apart := false, narrowed := true }
def FnExactValidCombUptoSaid : Prop := fnExactValidCombUptoRow.holds Try.pinned (OpenSpec.upto fnExactValidCombSpec)

/-- 'laws.FnExactStepComb', WHERE WHAT IT READS IS OF BULK AT MOST 1048576: true; the input reads as it did. -/
def fnExactStepCombUptoRow : OpenClaim := { program := "ytgjdmoenobacgab", sum := "597f46841c2d80caf9adc99e2cff42f747460e79cc1d5a1753a9463cb5a3c3a5", func := "loop.example/g01173/laws.FnExactStepComb", spec := "fnExactStepComb", inPlace := ["math.Float32bits", "math.Float32frombits"], apart := false, narrowed := true }
def FnExactStepCombUptoSaid : Prop := fnExactStepCombUptoRow.holds Try.pinned (OpenSpec.upto fnExactStepCombSpec)

/-- 'laws.FnExactMixFour', WHERE WHAT IT READS IS OF BULK AT MOST 1048576: true; the input reads as it did. -/
def fnExactMixFourUptoRow : OpenClaim := { program := "ytgjdmoenobacgab", sum := "597f46841c2d80caf9adc99e2cff42f747460e79cc1d5a1753a9463cb5a3c3a5", func := "loop.example/g01173/laws.FnExactMixFour", spec := "fnExactMixFour", apart := false, narrowed := true }
def FnExactMixFourUptoSaid : Prop := fnExactMixFourUptoRow.holds Try.pinned (OpenSpec.upto fnExactMixFourSpec)

/-- 'laws.FnExactSpreadFour', WHERE WHAT IT READS IS OF BULK AT MOST 1048576: true; the input reads as it did. -/
def fnExactSpreadFourUptoRow : OpenClaim := { program := "ytgjdmoenobacgab", sum := "597f46841c2d80caf9adc99e2cff42f747460e79cc1d5a1753a9463cb5a3c3a5", func := "loop.example/g01173/laws.FnExactSpreadFour", spec := "fnExactSpreadFour", apart := false, narrowed := true }
def FnExactSpreadFourUptoSaid : Prop := fnExactSpreadFourUptoRow.holds Try.pinned (OpenSpec.upto fnExactSpreadFourSpec)

/-- 'laws.FnExactGainFor', WHERE WHAT IT READS IS OF BULK AT MOST 1048576: true; the input reads as it did. -/
def fnExactGainForUptoRow : OpenClaim := { program := "ytgjdmoenobacgab", sum := "597f46841c2d80caf9adc99e2cff42f747460e79cc1d5a1753a9463cb5a3c3a5", func := "loop.example/g01173/laws.FnExactGainFor", spec := "fnExactGainFor", apart := false, narrowed := true }
def FnExactGainForUptoSaid : Prop := fnExactGainForUptoRow.holds Try.pinned (OpenSpec.upto fnExactGainForSpec)

/-- 'laws.FnExactNewRoom', WHERE WHAT IT READS IS OF BULK AT MOST 1048576: true; the input reads as it did. -/
def fnExactNewRoomUptoRow : OpenClaim := { program := "ytgjdmoenobacgab", sum := "597f46841c2d80caf9adc99e2cff42f747460e79cc1d5a1753a9463cb5a3c3a5", func := "loop.example/g01173/laws.FnExactNewRoom", spec := "fnExactNewRoom", inPlace := ["math.Float32bits"], apart := false, narrowed := true }
def FnExactNewRoomUptoSaid : Prop := fnExactNewRoomUptoRow.holds Try.pinned (OpenSpec.upto fnExactNewRoomSpec)

/-- 'laws.FnExactWithTaps', WHERE WHAT IT READS IS OF BULK AT MOST 1048576: true; the input reads as it did. -/
def fnExactWithTapsUptoRow : OpenClaim := { program := "ytgjdmoenobacgab", sum := "597f46841c2d80caf9adc99e2cff42f747460e79cc1d5a1753a9463cb5a3c3a5", func := "loop.example/g01173/laws.FnExactWithTaps", spec := "fnExactWithTaps", inPlace := ["math.Float32bits"], unfollowed := true, recurses := true, apart := false, narrowed := true }
def FnExactWithTapsUptoSaid : Prop := fnExactWithTapsUptoRow.holds Try.pinned (OpenSpec.upto fnExactWithTapsSpec)

/-- 'laws.FnExactValidRoom', WHERE WHAT IT READS IS OF BULK AT MOST 1048576: true; the input reads as it did. -/
def fnExactValidRoomUptoRow : OpenClaim := { program := "ytgjdmoenobacgab", sum := "597f46841c2d80caf9adc99e2cff42f747460e79cc1d5a1753a9463cb5a3c3a5", func := "loop.example/g01173/laws.FnExactValidRoom", spec := "fnExactValidRoom", inPlace := ["math.Float32bits"], apart := false, narrowed := true }
def FnExactValidRoomUptoSaid : Prop := fnExactValidRoomUptoRow.holds Try.pinned (OpenSpec.upto fnExactValidRoomSpec)

/-- 'laws.FnExactSameRoom', WHERE WHAT IT READS IS OF BULK AT MOST 1048576: true; the input reads as it did. -/
def fnExactSameRoomUptoRow : OpenClaim := { program := "ytgjdmoenobacgab", sum := "597f46841c2d80caf9adc99e2cff42f747460e79cc1d5a1753a9463cb5a3c3a5", func := "loop.example/g01173/laws.FnExactSameRoom", spec := "fnExactSameRoom", inPlace := ["math.Float32bits"], unfollowed := true, recurses := true, apart := false, narrowed := true }
def FnExactSameRoomUptoSaid : Prop := fnExactSameRoomUptoRow.holds Try.pinned (OpenSpec.upto fnExactSameRoomSpec)

/-- 'laws.FnExactMuteRoom', WHERE WHAT IT READS IS OF BULK AT MOST 1048576: true; the input reads as it did. -/
def fnExactMuteRoomUptoRow : OpenClaim := { program := "ytgjdmoenobacgab", sum := "597f46841c2d80caf9adc99e2cff42f747460e79cc1d5a1753a9463cb5a3c3a5", func := "loop.example/g01173/laws.FnExactMuteRoom", spec := "fnExactMuteRoom", inPlace := ["math.Float32bits"], unfollowed := true, recurses := true, apart := false, narrowed := true }
def FnExactMuteRoomUptoSaid : Prop := fnExactMuteRoomUptoRow.holds Try.pinned (OpenSpec.upto fnExactMuteRoomSpec)

/-- 'laws.FnExactEnergyOfRoom', WHERE WHAT IT READS IS OF BULK AT MOST 1048576: true; the input reads as it did. -/
def fnExactEnergyOfRoomUptoRow : OpenClaim := { program := "ytgjdmoenobacgab", sum := "597f46841c2d80caf9adc99e2cff42f747460e79cc1d5a1753a9463cb5a3c3a5", func := "loop.example/g01173/laws.FnExactEnergyOfRoom", spec := "fnExactEnergyOfRoom", inPlace := ["math.Float32bits"], apart := false, narrowed := true }
def FnExactEnergyOfRoomUptoSaid : Prop := fnExactEnergyOfRoomUptoRow.holds Try.pinned (OpenSpec.upto fnExactEnergyOfRoomSpec)

end Rows
end Go.Proofs.Ytgjdmoenobacgab
