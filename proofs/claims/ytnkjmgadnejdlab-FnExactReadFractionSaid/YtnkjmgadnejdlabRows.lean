/-
  No cell of these rows narrows 'for every input' (looked for: loops, veiled, ifaces, maps, wideKeys, modest, calm, conditions, laid).
  DERIVED. THE GIVEN ROWS OF THIS SEAT. 4 by the template 'for every input the law returns true; each argument reads behind the call as it read before'; 0 by the template 'total and deterministic' (their statements: YtnkjmgadnejdlabTotals.lean).
  GIVEN WITH THE SEED: the statements are not yours to turn. If you find one false, say at which input.
  Laid BY PROGRAM, IN A SANDBOX (cutbox-rows.mjs): the forced cells as the released guide's own fill.sh prints them over the translation f1effbbbea276216… (all of the seat's roots in one cut). By AI agents, Wed Nov 11 2026. No macro, syntax, notation, axiom, sorry.
-/
import Derived.Test.YtnkjmgadnejdlabChecked
import GoSem.Claim
import GoSem.ClaimJoined
import GoSem.ClaimMapViews
import Derived.JoinedTies
import Derived.KernelRfl
namespace Go.Proofs.Ytnkjmgadnejdlab
/- THE CELL 'sum', in the pinned program and in every row, IS THE sha256 OF THE DUMP (.gsa) THAT YtnkjmgadnejdlabProg.lean LOADS. Nothing in Lean hashes anything: it is a label: what it is worth is what the hold of that sum in a sandbox is worth. -/
noncomputable def Try.pinned : Pinned := { name := "ytnkjmgadnejdlab", sum := "f1effbbbea2762164b73e53bd32dd5012fb7147ef4ee660e4857142a182e8b3b", checked := Try.checked }
namespace Rows
def none {H : Type} : Left H := { results := [], args := [] }

/-- 'laws.FnExactReadFraction': WHATEVER THE INPUT: true; the input reads as it did. -/
def fnExactReadFractionSpec : ChangeSpec := { name := "fnExactReadFraction", fn := fun _ => fun
  | [d] => { results := [.lit (.bool true)], args := [d] }
  | _ => none }
def fnExactReadFractionRow : OpenClaim := { program := "ytnkjmgadnejdlab", sum := "f1effbbbea2762164b73e53bd32dd5012fb7147ef4ee660e4857142a182e8b3b", func := "loop.example/g01173/laws.FnExactReadFraction", spec := "fnExactReadFraction", inPlace := ["internal/bytealg.IndexByteString", "internal/bytealg.IndexString"], named := ["internal/bytealg.MaxLen"], apart := false }
def FnExactReadFractionSaid : Prop := fnExactReadFractionRow.holds Try.pinned (OpenSpec.ofChange fnExactReadFractionSpec)

/-- ITS FALSE NEIGHBOUR: 'it returns false'. Refute it at one input. -/
def fnExactReadFractionWrong : ChangeSpec := { name := "fnExactReadFraction", fn := fun _ => fun
  | [d] => { results := [.lit (.bool false)], args := [d] }
  | _ => none }
def FnExactReadFractionWrongFalsely : Prop := fnExactReadFractionRow.holds Try.pinned (OpenSpec.ofChange fnExactReadFractionWrong)

/-- 'laws.FnExactValidInstrument': WHATEVER THE INPUT: true; the input reads as it did. -/
def fnExactValidInstrumentSpec : ChangeSpec := { name := "fnExactValidInstrument", fn := fun _ => fun
  | [d] => { results := [.lit (.bool true)], args := [d] }
  | _ => none }
def fnExactValidInstrumentRow : OpenClaim := { program := "ytnkjmgadnejdlab", sum := "f1effbbbea2762164b73e53bd32dd5012fb7147ef4ee660e4857142a182e8b3b", func := "loop.example/g01173/laws.FnExactValidInstrument", spec := "fnExactValidInstrument", inPlace := ["math.Float32bits"], apart := false }
def FnExactValidInstrumentSaid : Prop := fnExactValidInstrumentRow.holds Try.pinned (OpenSpec.ofChange fnExactValidInstrumentSpec)

/-- ITS FALSE NEIGHBOUR: 'it returns false'. Refute it at one input. -/
def fnExactValidInstrumentWrong : ChangeSpec := { name := "fnExactValidInstrument", fn := fun _ => fun
  | [d] => { results := [.lit (.bool false)], args := [d] }
  | _ => none }
def FnExactValidInstrumentWrongFalsely : Prop := fnExactValidInstrumentRow.holds Try.pinned (OpenSpec.ofChange fnExactValidInstrumentWrong)

/-- 'laws.FnCombs': WHATEVER THE INPUT: true; the input reads as it did. -/
def fnCombsSpec : ChangeSpec := { name := "fnCombs", fn := fun _ => fun
  | [d1, d2] => { results := [.lit (.bool true)], args := [d1, d2] }
  | _ => none }
def fnCombsRow : OpenClaim := { program := "ytnkjmgadnejdlab", sum := "f1effbbbea2762164b73e53bd32dd5012fb7147ef4ee660e4857142a182e8b3b", func := "loop.example/g01173/laws.FnCombs", spec := "fnCombs", inPlace := ["math.Float32bits", "math.Float32frombits"], apart := false }
def FnCombsSaid : Prop := fnCombsRow.holds Try.pinned (OpenSpec.ofChange fnCombsSpec)

/-- ITS FALSE NEIGHBOUR: 'it returns false'. Refute it at one input. -/
def fnCombsWrong : ChangeSpec := { name := "fnCombs", fn := fun _ => fun
  | [d1, d2] => { results := [.lit (.bool false)], args := [d1, d2] }
  | _ => none }
def FnCombsWrongFalsely : Prop := fnCombsRow.holds Try.pinned (OpenSpec.ofChange fnCombsWrong)

/-- 'laws.FnExactPulsePipe': WHATEVER THE INPUT: true; the input reads as it did. -/
def fnExactPulsePipeSpec : ChangeSpec := { name := "fnExactPulsePipe", fn := fun _ => fun
  | [d1, d2, d3, d4] => { results := [.lit (.bool true)], args := [d1, d2, d3, d4] }
  | _ => none }
def fnExactPulsePipeRow : OpenClaim := { program := "ytnkjmgadnejdlab", sum := "f1effbbbea2762164b73e53bd32dd5012fb7147ef4ee660e4857142a182e8b3b", func := "loop.example/g01173/laws.FnExactPulsePipe", spec := "fnExactPulsePipe", inPlace := ["math.Float32bits", "math.Float32frombits"], unfollowed := true, recurses := true, apart := false }
def FnExactPulsePipeSaid : Prop := fnExactPulsePipeRow.holds Try.pinned (OpenSpec.ofChange fnExactPulsePipeSpec)

/-- ITS FALSE NEIGHBOUR: 'it returns false'. Refute it at one input. -/
def fnExactPulsePipeWrong : ChangeSpec := { name := "fnExactPulsePipe", fn := fun _ => fun
  | [d1, d2, d3, d4] => { results := [.lit (.bool false)], args := [d1, d2, d3, d4] }
  | _ => none }
def FnExactPulsePipeWrongFalsely : Prop := fnExactPulsePipeRow.holds Try.pinned (OpenSpec.ofChange fnExactPulsePipeWrong)

/- THE SECOND FORM. 'bulk': how many values and letters a reading holds, each counted each time it is reached (what is shared counts as often as it is met; a slice's spare places count too). A statement '..UptoSaid' is the law's where the arguments, and the package variables that the reading takes, are together of bulk at most 1048576: NARROWER than '..Said'. Prove '..Said' where nothing that the law and all that it calls make is longer than what came in: it says more and counts as full. Else prove '..UptoSaid'. A law counts once. -/
mutual
def uptoBulk {H : Type} : DataW H → Nat
  | .lit (.string bytes) => bytes.length + 1
  | .lit _ => 1
  | .nil => 1
  | .ptr d => uptoBulk d + 1
  | .slice elems spare => uptoBulkAll elems + uptoBulkAll spare + 1
  | .agg parts => uptoBulkAll parts + 1
  | .iface _ d => uptoBulk d + 1
  | .map entries => uptoBulkEntries entries + 1
  | .held _ => 1
def uptoBulkAll {H : Type} : List (DataW H) → Nat
  | [] => 0
  | d :: r => uptoBulk d + uptoBulkAll r
def uptoBulkEntries {H : Type} : List (Lit × DataW H) → Nat
  | [] => 0
  | x :: r => uptoBulkEntry x + uptoBulkEntries r
def uptoBulkEntry {H : Type} : Lit × DataW H → Nat
  | (.string bytes, d) => bytes.length + uptoBulk d + 1
  | (_, d) => uptoBulk d + 1
 end
def uptoSmall : (H : Type) → List (DataW H) → Bool := fun _ ds => decide (uptoBulkAll ds ≤ 1048576)
def OpenSpec.upto (s : _root_.Go.ChangeSpec) : _root_.Go.OpenSpec := { _root_.Go.OpenSpec.ofChange s with cond := some uptoSmall }

/-- 'laws.FnExactReadFraction', WHERE WHAT IT READS IS OF BULK AT MOST 1048576: true; the input reads as it did. -/
def fnExactReadFractionUptoRow : OpenClaim := { program := "ytnkjmgadnejdlab", sum := "f1effbbbea2762164b73e53bd32dd5012fb7147ef4ee660e4857142a182e8b3b", func := "loop.example/g01173/laws.FnExactReadFraction", spec := "fnExactReadFraction", inPlace := ["internal/bytealg.IndexByteString", "internal/bytealg.IndexString"], named := ["internal/bytealg.MaxLen"], apart := false, narrowed := true }
def FnExactReadFractionUptoSaid : Prop := fnExactReadFractionUptoRow.holds Try.pinned (OpenSpec.upto fnExactReadFractionSpec)

/-- 'laws.FnExactValidInstrument', WHERE WHAT IT READS IS OF BULK AT MOST 1048576: true; the input reads as it did. -/
def fnExactValidInstrumentUptoRow : OpenClaim := { program := "ytnkjmgadnejdlab", sum := "f1effbbbea2762164b73e53bd32dd5012fb7147ef4ee660e4857142a182e8b3b", func := "loop.example/g01173/laws.FnExactValidInstrument", spec := "fnExactValidInstrument", inPlace := ["math.Float32bits"], apart := false, narrowed := true }
def FnExactValidInstrumentUptoSaid : Prop := fnExactValidInstrumentUptoRow.holds Try.pinned (OpenSpec.upto fnExactValidInstrumentSpec)

/-- 'laws.FnCombs', WHERE WHAT IT READS IS OF BULK AT MOST 1048576: true; the input reads as it did. -/
def fnCombsUptoRow : OpenClaim := { program := "ytnkjmgadnejdlab", sum := "f1effbbbea2762164b73e53bd32dd5012fb7147ef4ee660e4857142a182e8b3b", func := "loop.example/g01173/laws.FnCombs", spec := "fnCombs", inPlace := ["math.Float32bits", "math.Float32frombits"], apart := false, narrowed := true }
def FnCombsUptoSaid : Prop := fnCombsUptoRow.holds Try.pinned (OpenSpec.upto fnCombsSpec)

/-- 'laws.FnExactPulsePipe', WHERE WHAT IT READS IS OF BULK AT MOST 1048576: true; the input reads as it did. -/
def fnExactPulsePipeUptoRow : OpenClaim := { program := "ytnkjmgadnejdlab", sum := "f1effbbbea2762164b73e53bd32dd5012fb7147ef4ee660e4857142a182e8b3b", func := "loop.example/g01173/laws.FnExactPulsePipe", spec := "fnExactPulsePipe", inPlace := ["math.Float32bits", "math.Float32frombits"], unfollowed := true, recurses := true, apart := false, narrowed := true }
def FnExactPulsePipeUptoSaid : Prop := fnExactPulsePipeUptoRow.holds Try.pinned (OpenSpec.upto fnExactPulsePipeSpec)

end Rows
end Go.Proofs.Ytnkjmgadnejdlab
