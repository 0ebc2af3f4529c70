/-
  No cell of these rows narrows 'for every input' (looked for: loops, veiled, ifaces, maps, wideKeys, modest, calm, conditions, laid).
  DERIVED. THE GIVEN ROWS OF THIS SEAT. 6 by the template 'for every input the law returns true; each argument reads behind the call as it read before'; 0 by the template 'total and deterministic' (their statements: YtibggjgffheibabTotals.lean).
  GIVEN WITH THE SEED: the statements are not yours to turn. If you find one false, say at which input.
  Laid BY PROGRAM, IN A SANDBOX (cutbox-rows.mjs): the forced cells as the released guide's own fill.sh prints them over the translation c29f3681691687ee… (all of the seat's roots in one cut). By AI agents, Wed Nov 11 2026. No macro, syntax, notation, axiom, sorry.
-/
import Derived.Test.YtibggjgffheibabChecked
import GoSem.Claim
import GoSem.ClaimJoined
import GoSem.ClaimMapViews
import Derived.JoinedTies
import Derived.KernelRfl
namespace Go.Proofs.Ytibggjgffheibab
/- THE CELL 'sum', in the pinned program and in every row, IS THE sha256 OF THE DUMP (.gsa) THAT YtibggjgffheibabProg.lean LOADS. Nothing in Lean hashes anything: it is a label: what it is worth is what the hold of that sum in a sandbox is worth. -/
noncomputable def Try.pinned : Pinned := { name := "ytibggjgffheibab", sum := "c29f3681691687eeb55a1ecce2eb07f65c3f0e41169411169d39ff104e0f04cb", checked := Try.checked }
namespace Rows
def none {H : Type} : Left H := { results := [], args := [] }

/-- 'laws.FnExactClampSample': WHATEVER THE INPUT: true; the input reads as it did. -/
def fnExactClampSampleSpec : ChangeSpec := { name := "fnExactClampSample", fn := fun _ => fun
  | [d1, d2] => { results := [.lit (.bool true)], args := [d1, d2] }
  | _ => none }
def fnExactClampSampleRow : OpenClaim := { program := "ytibggjgffheibab", sum := "c29f3681691687eeb55a1ecce2eb07f65c3f0e41169411169d39ff104e0f04cb", func := "loop.example/g01173/laws.FnExactClampSample", spec := "fnExactClampSample", apart := false }
def FnExactClampSampleSaid : Prop := fnExactClampSampleRow.holds Try.pinned (OpenSpec.ofChange fnExactClampSampleSpec)

/-- ITS FALSE NEIGHBOUR: 'it returns false'. Refute it at one input. -/
def fnExactClampSampleWrong : ChangeSpec := { name := "fnExactClampSample", fn := fun _ => fun
  | [d1, d2] => { results := [.lit (.bool false)], args := [d1, d2] }
  | _ => none }
def FnExactClampSampleWrongFalsely : Prop := fnExactClampSampleRow.holds Try.pinned (OpenSpec.ofChange fnExactClampSampleWrong)

/-- 'laws.FnExactToShort': WHATEVER THE INPUT: true; the input reads as it did. -/
def fnExactToShortSpec : ChangeSpec := { name := "fnExactToShort", fn := fun _ => fun
  | [d] => { results := [.lit (.bool true)], args := [d] }
  | _ => none }
def fnExactToShortRow : OpenClaim := { program := "ytibggjgffheibab", sum := "c29f3681691687eeb55a1ecce2eb07f65c3f0e41169411169d39ff104e0f04cb", func := "loop.example/g01173/laws.FnExactToShort", spec := "fnExactToShort", inPlace := ["math.RoundToEven"], apart := false }
def FnExactToShortSaid : Prop := fnExactToShortRow.holds Try.pinned (OpenSpec.ofChange fnExactToShortSpec)

/-- ITS FALSE NEIGHBOUR: 'it returns false'. Refute it at one input. -/
def fnExactToShortWrong : ChangeSpec := { name := "fnExactToShort", fn := fun _ => fun
  | [d] => { results := [.lit (.bool false)], args := [d] }
  | _ => none }
def FnExactToShortWrongFalsely : Prop := fnExactToShortRow.holds Try.pinned (OpenSpec.ofChange fnExactToShortWrong)

/-- 'laws.FnExactFromShort': WHATEVER THE INPUT: true; the input reads as it did. -/
def fnExactFromShortSpec : ChangeSpec := { name := "fnExactFromShort", fn := fun _ => fun
  | [d] => { results := [.lit (.bool true)], args := [d] }
  | _ => none }
def fnExactFromShortRow : OpenClaim := { program := "ytibggjgffheibab", sum := "c29f3681691687eeb55a1ecce2eb07f65c3f0e41169411169d39ff104e0f04cb", func := "loop.example/g01173/laws.FnExactFromShort", spec := "fnExactFromShort", apart := false }
def FnExactFromShortSaid : Prop := fnExactFromShortRow.holds Try.pinned (OpenSpec.ofChange fnExactFromShortSpec)

/-- ITS FALSE NEIGHBOUR: 'it returns false'. Refute it at one input. -/
def fnExactFromShortWrong : ChangeSpec := { name := "fnExactFromShort", fn := fun _ => fun
  | [d] => { results := [.lit (.bool false)], args := [d] }
  | _ => none }
def FnExactFromShortWrongFalsely : Prop := fnExactFromShortRow.holds Try.pinned (OpenSpec.ofChange fnExactFromShortWrong)

/-- 'laws.FnExactToShorts': WHATEVER THE INPUT: true; the input reads as it did. -/
def fnExactToShortsSpec : ChangeSpec := { name := "fnExactToShorts", fn := fun _ => fun
  | [d] => { results := [.lit (.bool true)], args := [d] }
  | _ => none }
def fnExactToShortsRow : OpenClaim := { program := "ytibggjgffheibab", sum := "c29f3681691687eeb55a1ecce2eb07f65c3f0e41169411169d39ff104e0f04cb", func := "loop.example/g01173/laws.FnExactToShorts", spec := "fnExactToShorts", inPlace := ["math.RoundToEven"], apart := false }
def FnExactToShortsSaid : Prop := fnExactToShortsRow.holds Try.pinned (OpenSpec.ofChange fnExactToShortsSpec)

/-- ITS FALSE NEIGHBOUR: 'it returns false'. Refute it at one input. -/
def fnExactToShortsWrong : ChangeSpec := { name := "fnExactToShorts", fn := fun _ => fun
  | [d] => { results := [.lit (.bool false)], args := [d] }
  | _ => none }
def FnExactToShortsWrongFalsely : Prop := fnExactToShortsRow.holds Try.pinned (OpenSpec.ofChange fnExactToShortsWrong)

/-- 'laws.FnExactFromShorts': WHATEVER THE INPUT: true; the input reads as it did. -/
def fnExactFromShortsSpec : ChangeSpec := { name := "fnExactFromShorts", fn := fun _ => fun
  | [d] => { results := [.lit (.bool true)], args := [d] }
  | _ => none }
def fnExactFromShortsRow : OpenClaim := { program := "ytibggjgffheibab", sum := "c29f3681691687eeb55a1ecce2eb07f65c3f0e41169411169d39ff104e0f04cb", func := "loop.example/g01173/laws.FnExactFromShorts", spec := "fnExactFromShorts", apart := false }
def FnExactFromShortsSaid : Prop := fnExactFromShortsRow.holds Try.pinned (OpenSpec.ofChange fnExactFromShortsSpec)

/-- ITS FALSE NEIGHBOUR: 'it returns false'. Refute it at one input. -/
def fnExactFromShortsWrong : ChangeSpec := { name := "fnExactFromShorts", fn := fun _ => fun
  | [d] => { results := [.lit (.bool false)], args := [d] }
  | _ => none }
def FnExactFromShortsWrongFalsely : Prop := fnExactFromShortsRow.holds Try.pinned (OpenSpec.ofChange fnExactFromShortsWrong)

/-- 'laws.FnExactSameBlock': WHATEVER THE INPUT: true; the input reads as it did. -/
def fnExactSameBlockSpec : ChangeSpec := { name := "fnExactSameBlock", fn := fun _ => fun
  | [d1, d2] => { results := [.lit (.bool true)], args := [d1, d2] }
  | _ => none }
def fnExactSameBlockRow : OpenClaim := { program := "ytibggjgffheibab", sum := "c29f3681691687eeb55a1ecce2eb07f65c3f0e41169411169d39ff104e0f04cb", func := "loop.example/g01173/laws.FnExactSameBlock", spec := "fnExactSameBlock", inPlace := ["math.Float32bits"], apart := false }
def FnExactSameBlockSaid : Prop := fnExactSameBlockRow.holds Try.pinned (OpenSpec.ofChange fnExactSameBlockSpec)

/-- ITS FALSE NEIGHBOUR: 'it returns false'. Refute it at one input. -/
def fnExactSameBlockWrong : ChangeSpec := { name := "fnExactSameBlock", fn := fun _ => fun
  | [d1, d2] => { results := [.lit (.bool false)], args := [d1, d2] }
  | _ => none }
def FnExactSameBlockWrongFalsely : Prop := fnExactSameBlockRow.holds Try.pinned (OpenSpec.ofChange fnExactSameBlockWrong)

/- THE SECOND FORM. 'bulk': how many values and letters a reading holds, each counted each time it is reached (what is shared counts as often as it is met; a slice's spare places count too). A statement '..UptoSaid' is the law's where the arguments, and the package variables that the reading takes, are together of bulk at most 1048576: NARROWER than '..Said'. Prove '..Said' where nothing that the law and all that it calls make is longer than what came in: it says more and counts as full. Else prove '..UptoSaid'. A law counts once. -/
mutual
def uptoBulk {H : Type} : DataW H → Nat
  | .lit (.string bytes) => bytes.length + 1
  | .lit _ => 1
  | .nil => 1
  | .ptr d => uptoBulk d + 1
  | .slice elems spare => uptoBulkAll elems + uptoBulkAll spare + 1
  | .agg parts => uptoBulkAll parts + 1
  | .iface _ d => uptoBulk d + 1
  | .map entries => uptoBulkEntries entries + 1
  | .held _ => 1
def uptoBulkAll {H : Type} : List (DataW H) → Nat
  | [] => 0
  | d :: r => uptoBulk d + uptoBulkAll r
def uptoBulkEntries {H : Type} : List (Lit × DataW H) → Nat
  | [] => 0
  | x :: r => uptoBulkEntry x + uptoBulkEntries r
def uptoBulkEntry {H : Type} : Lit × DataW H → Nat
  | (.string bytes, d) => bytes.length + uptoBulk d + 1
  | (_, d) => uptoBulk d + 1
 end
def uptoSmall : (H : Type) → List (DataW H) → Bool := fun _ ds => decide (uptoBulkAll ds ≤ 1048576)
def OpenSpec.upto (s : _root_.Go.ChangeSpec) : _root_.Go.OpenSpec := { _root_.Go.OpenSpec.ofChange s with cond := some uptoSmall }

/-- 'laws.FnExactClampSample', WHERE WHAT IT READS IS OF BULK AT MOST 1048576: true; the input reads as it did. -/
def fnExactClampSampleUptoRow : OpenClaim := { program := "ytibggjgffheibab", sum := "c29f3681691687eeb55a1ecce2eb07f65c3f0e41169411169d39ff104e0f04cb", func := "loop.example/g01173/laws.FnExactClampSample", spec := "fnExactClampSample", apart := false, narrowed := true }
def FnExactClampSampleUptoSaid : Prop := fnExactClampSampleUptoRow.holds Try.pinned (OpenSpec.upto fnExactClampSampleSpec)

/-- 'laws.FnExactToShort', WHERE WHAT IT READS IS OF BULK AT MOST 1048576: true; the input reads as it did. -/
def fnExactToShortUptoRow : OpenClaim := { program := "ytibggjgffheibab", sum := "c29f3681691687eeb55a1ecce2eb07f65c3f0e41169411169d39ff104e0f04cb", func := "loop.example/g01173/laws.FnExactToShort", spec := "fnExactToShort", inPlace := ["math.RoundToEven"], apart := false, narrowed := true }
def FnExactToShortUptoSaid : Prop := fnExactToShortUptoRow.holds Try.pinned (OpenSpec.upto fnExactToShortSpec)

/-- 'laws.FnExactFromShort', WHERE WHAT IT READS IS OF BULK AT MOST 1048576: true; the input reads as it did. -/
def fnExactFromShortUptoRow : OpenClaim := { program := "ytibggjgffheibab", sum := "c29f3681691687eeb55a1ecce2eb07f65c3f0e41169411169d39ff104e0f04cb", func := "loop.example/g01173/laws.FnExactFromShort", spec := "fnExactFromShort", apart := false, narrowed := true }
def FnExactFromShortUptoSaid : Prop := fnExactFromShortUptoRow.holds Try.pinned (OpenSpec.upto fnExactFromShortSpec)

/-- 'laws.FnExactToShorts', WHERE WHAT IT READS IS OF BULK AT MOST 1048576: true; the input reads as it did. -/
def fnExactToShortsUptoRow : OpenClaim := { program := "ytibggjgffheibab", sum := "c29f3681691687eeb55a1ecce2eb07f65c3f0e41169411169d39ff104e0f04cb", func := "loop.example/g01173/laws.FnExactToShorts", spec := "fnExactToShorts", inPlace := ["math.RoundToEven"], apart := false, narrowed := true }
def FnExactToShortsUptoSaid : Prop := fnExactToShortsUptoRow.holds Try.pinned (OpenSpec.upto fnExactToShortsSpec)

/-- 'laws.FnExactFromShorts', WHERE WHAT IT READS IS OF BULK AT MOST 1048576: true; the input reads as it did. -/
def fnExactFromShortsUptoRow : OpenClaim := { program := "ytibggjgffheibab", sum := "c29f3681691687eeb55a1ecce2eb07f65c3f0e41169411169d39ff104e0f04cb", func := "loop.example/g01173/laws.FnExactFromShorts", spec := "fnExactFromShorts", apart := false, narrowed := true }
def FnExactFromShortsUptoSaid : Prop := fnExactFromShortsUptoRow.holds Try.pinned (OpenSpec.upto fnExactFromShortsSpec)

/-- 'laws.FnExactSameBlock', WHERE WHAT IT READS IS OF BULK AT MOST 1048576: true; the input reads as it did. -/
def fnExactSameBlockUptoRow : OpenClaim := { program := "ytibggjgffheibab", sum := "c29f3681691687eeb55a1ecce2eb07f65c3f0e41169411169d39ff104e0f04cb", func := "loop.example/g01173/laws.FnExactSameBlock", spec := "fnExactSameBlock", inPlace := ["math.Float32bits"], apart := false, narrowed := true }
def FnExactSameBlockUptoSaid : Prop := fnExactSameBlockUptoRow.holds Try.pinned (OpenSpec.upto fnExactSameBlockSpec)

end Rows
end Go.Proofs.Ytibggjgffheibab
