/-
  No cell of these rows narrows 'for every input' (looked for: loops, veiled, ifaces, maps, wideKeys, modest, calm, conditions, laid).
  DERIVED. THE GIVEN ROWS OF THIS SEAT. 12 by the template 'for every input the law returns true; each argument reads behind the call as it read before'; 0 by the template 'total and deterministic' (their statements: YtaenbpkcehenkaaTotals.lean).
  GIVEN WITH THE SEED: the statements are not yours to turn. If you find one false, say at which input.
  Laid BY PROGRAM, IN A SANDBOX (cutbox-rows.mjs): the forced cells as the released guide's own fill.sh prints them over the translation e28c81e17d2f6d21… (all of the seat's roots in one cut). By AI agents, Wed Nov 11 2026. No macro, syntax, notation, axiom, sorry.
-/
import Derived.Test.YtaenbpkcehenkaaChecked
import GoSem.Claim
import GoSem.ClaimJoined
import GoSem.ClaimMapViews
import Derived.JoinedTies
import Derived.KernelRfl
namespace Go.Proofs.Ytaenbpkcehenkaa
/- THE CELL 'sum', in the pinned program and in every row, IS THE sha256 OF THE DUMP (.gsa) THAT YtaenbpkcehenkaaProg.lean LOADS. Nothing in Lean hashes anything: it is a label: what it is worth is what the hold of that sum in a sandbox is worth. -/
noncomputable def Try.pinned : Pinned := { name := "ytaenbpkcehenkaa", sum := "e28c81e17d2f6d217624f032fdd8f34d3441aac3feb3812ef618c042e5a1bc55", checked := Try.checked }
namespace Rows
def none {H : Type} : Left H := { results := [], args := [] }

/-- 'laws.FnExactValidRing': WHATEVER THE INPUT: true; the input reads as it did. -/
def fnExactValidRingSpec : ChangeSpec := { name := "fnExactValidRing", fn := fun _ => fun
  | [d] => { results := [.lit (.bool true)], args := [d] }
  | _ => none }
def fnExactValidRingRow : OpenClaim := { program := "ytaenbpkcehenkaa", sum := "e28c81e17d2f6d217624f032fdd8f34d3441aac3feb3812ef618c042e5a1bc55", func := "loop.example/g01173/laws.FnExactValidRing", spec := "fnExactValidRing", apart := false }
def FnExactValidRingSaid : Prop := fnExactValidRingRow.holds Try.pinned (OpenSpec.ofChange fnExactValidRingSpec)

/-- ITS FALSE NEIGHBOUR: 'it returns false'. Refute it at one input. -/
def fnExactValidRingWrong : ChangeSpec := { name := "fnExactValidRing", fn := fun _ => fun
  | [d] => { results := [.lit (.bool false)], args := [d] }
  | _ => none }
def FnExactValidRingWrongFalsely : Prop := fnExactValidRingRow.holds Try.pinned (OpenSpec.ofChange fnExactValidRingWrong)

/-- 'laws.FnExactSameRing': WHATEVER THE INPUT: true; the input reads as it did. -/
def fnExactSameRingSpec : ChangeSpec := { name := "fnExactSameRing", fn := fun _ => fun
  | [d1, d2] => { results := [.lit (.bool true)], args := [d1, d2] }
  | _ => none }
def fnExactSameRingRow : OpenClaim := { program := "ytaenbpkcehenkaa", sum := "e28c81e17d2f6d217624f032fdd8f34d3441aac3feb3812ef618c042e5a1bc55", func := "loop.example/g01173/laws.FnExactSameRing", spec := "fnExactSameRing", inPlace := ["math.Float32bits"], unfollowed := true, recurses := true, apart := false }
def FnExactSameRingSaid : Prop := fnExactSameRingRow.holds Try.pinned (OpenSpec.ofChange fnExactSameRingSpec)

/-- ITS FALSE NEIGHBOUR: 'it returns false'. Refute it at one input. -/
def fnExactSameRingWrong : ChangeSpec := { name := "fnExactSameRing", fn := fun _ => fun
  | [d1, d2] => { results := [.lit (.bool false)], args := [d1, d2] }
  | _ => none }
def FnExactSameRingWrongFalsely : Prop := fnExactSameRingRow.holds Try.pinned (OpenSpec.ofChange fnExactSameRingWrong)

/-- 'laws.FnExactPushSample': WHATEVER THE INPUT: true; the input reads as it did. -/
def fnExactPushSampleSpec : ChangeSpec := { name := "fnExactPushSample", fn := fun _ => fun
  | [d1, d2] => { results := [.lit (.bool true)], args := [d1, d2] }
  | _ => none }
def fnExactPushSampleRow : OpenClaim := { program := "ytaenbpkcehenkaa", sum := "e28c81e17d2f6d217624f032fdd8f34d3441aac3feb3812ef618c042e5a1bc55", func := "loop.example/g01173/laws.FnExactPushSample", spec := "fnExactPushSample", apart := false }
def FnExactPushSampleSaid : Prop := fnExactPushSampleRow.holds Try.pinned (OpenSpec.ofChange fnExactPushSampleSpec)

/-- ITS FALSE NEIGHBOUR: 'it returns false'. Refute it at one input. -/
def fnExactPushSampleWrong : ChangeSpec := { name := "fnExactPushSample", fn := fun _ => fun
  | [d1, d2] => { results := [.lit (.bool false)], args := [d1, d2] }
  | _ => none }
def FnExactPushSampleWrongFalsely : Prop := fnExactPushSampleRow.holds Try.pinned (OpenSpec.ofChange fnExactPushSampleWrong)

/-- 'laws.FnExactReadBack': WHATEVER THE INPUT: true; the input reads as it did. -/
def fnExactReadBackSpec : ChangeSpec := { name := "fnExactReadBack", fn := fun _ => fun
  | [d1, d2] => { results := [.lit (.bool true)], args := [d1, d2] }
  | _ => none }
def fnExactReadBackRow : OpenClaim := { program := "ytaenbpkcehenkaa", sum := "e28c81e17d2f6d217624f032fdd8f34d3441aac3feb3812ef618c042e5a1bc55", func := "loop.example/g01173/laws.FnExactReadBack", spec := "fnExactReadBack", apart := false }
def FnExactReadBackSaid : Prop := fnExactReadBackRow.holds Try.pinned (OpenSpec.ofChange fnExactReadBackSpec)

/-- ITS FALSE NEIGHBOUR: 'it returns false'. Refute it at one input. -/
def fnExactReadBackWrong : ChangeSpec := { name := "fnExactReadBack", fn := fun _ => fun
  | [d1, d2] => { results := [.lit (.bool false)], args := [d1, d2] }
  | _ => none }
def FnExactReadBackWrongFalsely : Prop := fnExactReadBackRow.holds Try.pinned (OpenSpec.ofChange fnExactReadBackWrong)

/-- 'laws.FnExactReadBetween': WHATEVER THE INPUT: true; the input reads as it did. -/
def fnExactReadBetweenSpec : ChangeSpec := { name := "fnExactReadBetween", fn := fun _ => fun
  | [d1, d2] => { results := [.lit (.bool true)], args := [d1, d2] }
  | _ => none }
def fnExactReadBetweenRow : OpenClaim := { program := "ytaenbpkcehenkaa", sum := "e28c81e17d2f6d217624f032fdd8f34d3441aac3feb3812ef618c042e5a1bc55", func := "loop.example/g01173/laws.FnExactReadBetween", spec := "fnExactReadBetween", apart := false }
def FnExactReadBetweenSaid : Prop := fnExactReadBetweenRow.holds Try.pinned (OpenSpec.ofChange fnExactReadBetweenSpec)

/-- ITS FALSE NEIGHBOUR: 'it returns false'. Refute it at one input. -/
def fnExactReadBetweenWrong : ChangeSpec := { name := "fnExactReadBetween", fn := fun _ => fun
  | [d1, d2] => { results := [.lit (.bool false)], args := [d1, d2] }
  | _ => none }
def FnExactReadBetweenWrongFalsely : Prop := fnExactReadBetweenRow.holds Try.pinned (OpenSpec.ofChange fnExactReadBetweenWrong)

/-- 'laws.FnExactTurnRing': WHATEVER THE INPUT: true; the input reads as it did. -/
def fnExactTurnRingSpec : ChangeSpec := { name := "fnExactTurnRing", fn := fun _ => fun
  | [d] => { results := [.lit (.bool true)], args := [d] }
  | _ => none }
def fnExactTurnRingRow : OpenClaim := { program := "ytaenbpkcehenkaa", sum := "e28c81e17d2f6d217624f032fdd8f34d3441aac3feb3812ef618c042e5a1bc55", func := "loop.example/g01173/laws.FnExactTurnRing", spec := "fnExactTurnRing", apart := false }
def FnExactTurnRingSaid : Prop := fnExactTurnRingRow.holds Try.pinned (OpenSpec.ofChange fnExactTurnRingSpec)

/-- ITS FALSE NEIGHBOUR: 'it returns false'. Refute it at one input. -/
def fnExactTurnRingWrong : ChangeSpec := { name := "fnExactTurnRing", fn := fun _ => fun
  | [d] => { results := [.lit (.bool false)], args := [d] }
  | _ => none }
def FnExactTurnRingWrongFalsely : Prop := fnExactTurnRingRow.holds Try.pinned (OpenSpec.ofChange fnExactTurnRingWrong)

/-- 'laws.FnRings': WHATEVER THE INPUT: true; the input reads as it did. -/
def fnRingsSpec : ChangeSpec := { name := "fnRings", fn := fun _ => fun
  | [d1, d2] => { results := [.lit (.bool true)], args := [d1, d2] }
  | _ => none }
def fnRingsRow : OpenClaim := { program := "ytaenbpkcehenkaa", sum := "e28c81e17d2f6d217624f032fdd8f34d3441aac3feb3812ef618c042e5a1bc55", func := "loop.example/g01173/laws.FnRings", spec := "fnRings", inPlace := ["math.Float64frombits", "math.Float32frombits", "math.Float32bits"], unfollowed := true, recurses := true, apart := false }
def FnRingsSaid : Prop := fnRingsRow.holds Try.pinned (OpenSpec.ofChange fnRingsSpec)

/-- ITS FALSE NEIGHBOUR: 'it returns false'. Refute it at one input. -/
def fnRingsWrong : ChangeSpec := { name := "fnRings", fn := fun _ => fun
  | [d1, d2] => { results := [.lit (.bool false)], args := [d1, d2] }
  | _ => none }
def FnRingsWrongFalsely : Prop := fnRingsRow.holds Try.pinned (OpenSpec.ofChange fnRingsWrong)

/-- 'laws.FnExactRunChain': WHATEVER THE INPUT: true; the input reads as it did. -/
def fnExactRunChainSpec : ChangeSpec := { name := "fnExactRunChain", fn := fun _ => fun
  | [d1, d2] => { results := [.lit (.bool true)], args := [d1, d2] }
  | _ => none }
def fnExactRunChainRow : OpenClaim := { program := "ytaenbpkcehenkaa", sum := "e28c81e17d2f6d217624f032fdd8f34d3441aac3feb3812ef618c042e5a1bc55", func := "loop.example/g01173/laws.FnExactRunChain", spec := "fnExactRunChain", inPlace := ["math.Float32bits", "math.Float32frombits"], unfollowed := true, recurses := true, apart := false }
def FnExactRunChainSaid : Prop := fnExactRunChainRow.holds Try.pinned (OpenSpec.ofChange fnExactRunChainSpec)

/-- ITS FALSE NEIGHBOUR: 'it returns false'. Refute it at one input. -/
def fnExactRunChainWrong : ChangeSpec := { name := "fnExactRunChain", fn := fun _ => fun
  | [d1, d2] => { results := [.lit (.bool false)], args := [d1, d2] }
  | _ => none }
def FnExactRunChainWrongFalsely : Prop := fnExactRunChainRow.holds Try.pinned (OpenSpec.ofChange fnExactRunChainWrong)

/-- 'laws.FnExactBlocksOf': WHATEVER THE INPUT: true; the input reads as it did. -/
def fnExactBlocksOfSpec : ChangeSpec := { name := "fnExactBlocksOf", fn := fun _ => fun
  | [d] => { results := [.lit (.bool true)], args := [d] }
  | _ => none }
def fnExactBlocksOfRow : OpenClaim := { program := "ytaenbpkcehenkaa", sum := "e28c81e17d2f6d217624f032fdd8f34d3441aac3feb3812ef618c042e5a1bc55", func := "loop.example/g01173/laws.FnExactBlocksOf", spec := "fnExactBlocksOf", apart := false }
def FnExactBlocksOfSaid : Prop := fnExactBlocksOfRow.holds Try.pinned (OpenSpec.ofChange fnExactBlocksOfSpec)

/-- ITS FALSE NEIGHBOUR: 'it returns false'. Refute it at one input. -/
def fnExactBlocksOfWrong : ChangeSpec := { name := "fnExactBlocksOf", fn := fun _ => fun
  | [d] => { results := [.lit (.bool false)], args := [d] }
  | _ => none }
def FnExactBlocksOfWrongFalsely : Prop := fnExactBlocksOfRow.holds Try.pinned (OpenSpec.ofChange fnExactBlocksOfWrong)

/-- 'laws.FnExactSamplesOf': WHATEVER THE INPUT: true; the input reads as it did. -/
def fnExactSamplesOfSpec : ChangeSpec := { name := "fnExactSamplesOf", fn := fun _ => fun
  | [d1, d2] => { results := [.lit (.bool true)], args := [d1, d2] }
  | _ => none }
def fnExactSamplesOfRow : OpenClaim := { program := "ytaenbpkcehenkaa", sum := "e28c81e17d2f6d217624f032fdd8f34d3441aac3feb3812ef618c042e5a1bc55", func := "loop.example/g01173/laws.FnExactSamplesOf", spec := "fnExactSamplesOf", apart := false }
def FnExactSamplesOfSaid : Prop := fnExactSamplesOfRow.holds Try.pinned (OpenSpec.ofChange fnExactSamplesOfSpec)

/-- ITS FALSE NEIGHBOUR: 'it returns false'. Refute it at one input. -/
def fnExactSamplesOfWrong : ChangeSpec := { name := "fnExactSamplesOf", fn := fun _ => fun
  | [d1, d2] => { results := [.lit (.bool false)], args := [d1, d2] }
  | _ => none }
def FnExactSamplesOfWrongFalsely : Prop := fnExactSamplesOfRow.holds Try.pinned (OpenSpec.ofChange fnExactSamplesOfWrong)

/-- 'laws.FnExactAllpassFor': WHATEVER THE INPUT: true; the input reads as it did. -/
def fnExactAllpassForSpec : ChangeSpec := { name := "fnExactAllpassFor", fn := fun _ => fun
  | [d] => { results := [.lit (.bool true)], args := [d] }
  | _ => none }
def fnExactAllpassForRow : OpenClaim := { program := "ytaenbpkcehenkaa", sum := "e28c81e17d2f6d217624f032fdd8f34d3441aac3feb3812ef618c042e5a1bc55", func := "loop.example/g01173/laws.FnExactAllpassFor", spec := "fnExactAllpassFor", apart := false }
def FnExactAllpassForSaid : Prop := fnExactAllpassForRow.holds Try.pinned (OpenSpec.ofChange fnExactAllpassForSpec)

/-- ITS FALSE NEIGHBOUR: 'it returns false'. Refute it at one input. -/
def fnExactAllpassForWrong : ChangeSpec := { name := "fnExactAllpassFor", fn := fun _ => fun
  | [d] => { results := [.lit (.bool false)], args := [d] }
  | _ => none }
def FnExactAllpassForWrongFalsely : Prop := fnExactAllpassForRow.holds Try.pinned (OpenSpec.ofChange fnExactAllpassForWrong)

/-- 'laws.FnExactTableAt': WHATEVER THE INPUT: true; the input reads as it did. -/
def fnExactTableAtSpec : ChangeSpec := { name := "fnExactTableAt", fn := fun _ => fun
  | [d1, d2] => { results := [.lit (.bool true)], args := [d1, d2] }
  | _ => none }
def fnExactTableAtRow : OpenClaim := { program := "ytaenbpkcehenkaa", sum := "e28c81e17d2f6d217624f032fdd8f34d3441aac3feb3812ef618c042e5a1bc55", func := "loop.example/g01173/laws.FnExactTableAt", spec := "fnExactTableAt", apart := false }
def FnExactTableAtSaid : Prop := fnExactTableAtRow.holds Try.pinned (OpenSpec.ofChange fnExactTableAtSpec)

/-- ITS FALSE NEIGHBOUR: 'it returns false'. Refute it at one input. -/
def fnExactTableAtWrong : ChangeSpec := { name := "fnExactTableAt", fn := fun _ => fun
  | [d1, d2] => { results := [.lit (.bool false)], args := [d1, d2] }
  | _ => none }
def FnExactTableAtWrongFalsely : Prop := fnExactTableAtRow.holds Try.pinned (OpenSpec.ofChange fnExactTableAtWrong)

/- THE SECOND FORM. 'bulk': how many values and letters a reading holds, each counted each time it is reached (what is shared counts as often as it is met; a slice's spare places count too). A statement '..UptoSaid' is the law's where the arguments, and the package variables that the reading takes, are together of bulk at most 1048576: NARROWER than '..Said'. Prove '..Said' where nothing that the law and all that it calls make is longer than what came in: it says more and counts as full. Else prove '..UptoSaid'. A law counts once. -/
mutual
def uptoBulk {H : Type} : DataW H → Nat
  | .lit (.string bytes) => bytes.length + 1
  | .lit _ => 1
  | .nil => 1
  | .ptr d => uptoBulk d + 1
  | .slice elems spare => uptoBulkAll elems + uptoBulkAll spare + 1
  | .agg parts => uptoBulkAll parts + 1
  | .iface _ d => uptoBulk d + 1
  | .map entries => uptoBulkEntries entries + 1
  | .held _ => 1
def uptoBulkAll {H : Type} : List (DataW H) → Nat
  | [] => 0
  | d :: r => uptoBulk d + uptoBulkAll r
def uptoBulkEntries {H : Type} : List (Lit × DataW H) → Nat
  | [] => 0
  | x :: r => uptoBulkEntry x + uptoBulkEntries r
def uptoBulkEntry {H : Type} : Lit × DataW H → Nat
  | (.string bytes, d) => bytes.length + uptoBulk d + 1
  | (_, d) => uptoBulk d + 1
 end
def uptoSmall : (H : Type) → List (DataW H) → Bool := fun _ ds => decide (uptoBulkAll ds ≤ 1048576)
def OpenSpec.upto (s : _root_.Go.ChangeSpec) : _root_.Go.OpenSpec := { _root_.Go.OpenSpec.ofChange s with cond := some uptoSmall }

/-- 'laws.FnExactValidRing', WHERE WHAT IT READS IS OF BULK AT MOST 1048576: true; the input reads as it did. -/
def fnExactValidRingUptoRow : OpenClaim := { program := "ytaenbpkcehenkaa", sum := "e28c81e17d2f6d217624f032fdd8f34d3441aac3feb3812ef618c042e5a1bc55", func := "loop.example/g01173/laws.FnExactValidRing", spec := "fnExactValidRing", apart := false, narrowed := true }
def FnExactValidRingUptoSaid : Prop := fnExactValidRingUptoRow.holds Try.pinned (OpenSpec.upto fnExactValidRingSpec)

/-- 'laws.FnExactSameRing', WHERE WHAT IT READS IS OF BULK AT MOST 1048576: true; the input reads as it did. -/
def fnExactSameRingUptoRow : OpenClaim := { program := "ytaenbpkcehenkaa", sum := "e28c81e17d2f6d217624f032fdd8f34d3441aac3feb3812ef618c042e5a1bc55", func := "loop.example/g01173/laws.FnExactSameRing", spec := "fnExactSameRing", inPlace := ["math.Float32bits"], unfollowed := true, recurses := true, apart := false, narrowed := true }
def FnExactSameRingUptoSaid : Prop := fnExactSameRingUptoRow.holds Try.pinned (OpenSpec.upto fnExactSameRingSpec)

/-- 'laws.FnExactPushSample', WHERE WHAT IT READS IS OF BULK AT MOST 1048576: true; the input reads as it did. -/
def fnExactPushSampleUptoRow : OpenClaim := { program := "ytaenbpkcehenkaa", sum := "e28c81e17d2f6d217624f032fdd8f34d3441aac3feb3812ef618c042e5a1bc55", func := "loop.example/g01173/laws.FnExactPushSample", spec := "fnExactPushSample", apart := false, narrowed := true }
def FnExactPushSampleUptoSaid : Prop := fnExactPushSampleUptoRow.holds Try.pinned (OpenSpec.upto fnExactPushSampleSpec)

/-- 'laws.FnExactReadBack', WHERE WHAT IT READS IS OF BULK AT MOST 1048576: true; the input reads as it did. -/
def fnExactReadBackUptoRow : OpenClaim := { program := "ytaenbpkcehenkaa", sum := "e28c81e17d2f6d217624f032fdd8f34d3441aac3feb3812ef618c042e5a1bc55", func := "loop.example/g01173/laws.FnExactReadBack", spec := "fnExactReadBack", apart := false, narrowed := true }
def FnExactReadBackUptoSaid : Prop := fnExactReadBackUptoRow.holds Try.pinned (OpenSpec.upto fnExactReadBackSpec)

/-- 'laws.FnExactReadBetween', WHERE WHAT IT READS IS OF BULK AT MOST 1048576: true; the input reads as it did. -/
def fnExactReadBetweenUptoRow : OpenClaim := { program := "ytaenbpkcehenkaa", sum := "e28c81e17d2f6d217624f032fdd8f34d3441aac3feb3812ef618c042e5a1bc55", func := "loop.example/g01173/laws.FnExactReadBetween", spec := "fnExactReadBetween", apart := false, narrowed := true }
def FnExactReadBetweenUptoSaid : Prop := fnExactReadBetweenUptoRow.holds Try.pinned (OpenSpec.upto fnExactReadBetweenSpec)

/-- 'laws.FnExactTurnRing', WHERE WHAT IT READS IS OF BULK AT MOST 1048576: true; the input reads as it did. -/
def fnExactTurnRingUptoRow : OpenClaim := { program := "ytaenbpkcehenkaa", sum := "e28c81e17d2f6d217624f032fdd8f34d3441aac3feb3812ef618c042e5a1bc55", func := "loop.example/g01173/laws.FnExactTurnRing", spec := "fnExactTurnRing", apart := false, narrowed := true }
def FnExactTurnRingUptoSaid : Prop := fnExactTurnRingUptoRow.holds Try.pinned (OpenSpec.upto fnExactTurnRingSpec)

/-- 'laws.FnRings', WHERE WHAT IT READS IS OF BULK AT MOST 1048576: true; the input reads as it did. -/
def fnRingsUptoRow : OpenClaim := { program := "ytaenbpkcehenkaa", sum := "e28c81e17d2f6d217624f032fdd8f34d3441aac3feb3812ef618c042e5a1bc55", func := "loop.example/g01173/laws.FnRings", spec := "fnRings", inPlace := ["math.Float64frombits", "math.Float32frombits", "math.Float32bits"], unfollowed := true, recurses := true, apart := false, narrowed := true }
def FnRingsUptoSaid : Prop := fnRingsUptoRow.holds Try.pinned (OpenSpec.upto fnRingsSpec)

/-- 'laws.FnExactRunChain', WHERE WHAT IT READS IS OF BULK AT MOST 1048576: true; the input reads as it did. -/
def fnExactRunChainUptoRow : OpenClaim := { program := "ytaenbpkcehenkaa", sum := "e28c81e17d2f6d217624f032fdd8f34d3441aac3feb3812ef618c042e5a1bc55", func := "loop.example/g01173/laws.FnExactRunChain", spec := "fnExactRunChain", inPlace := ["math.Float32bits", "math.Float32frombits"], unfollowed := true, recurses := true, apart := false, narrowed := true }
def FnExactRunChainUptoSaid : Prop := fnExactRunChainUptoRow.holds Try.pinned (OpenSpec.upto fnExactRunChainSpec)

/-- 'laws.FnExactBlocksOf', WHERE WHAT IT READS IS OF BULK AT MOST 1048576: true; the input reads as it did. -/
def fnExactBlocksOfUptoRow : OpenClaim := { program := "ytaenbpkcehenkaa", sum := "e28c81e17d2f6d217624f032fdd8f34d3441aac3feb3812ef618c042e5a1bc55", func := "loop.example/g01173/laws.FnExactBlocksOf", spec := "fnExactBlocksOf", apart := false, narrowed := true }
def FnExactBlocksOfUptoSaid : Prop := fnExactBlocksOfUptoRow.holds Try.pinned (OpenSpec.upto fnExactBlocksOfSpec)

/-- 'laws.FnExactSamplesOf', WHERE WHAT IT READS IS OF BULK AT MOST 1048576: true; the input reads as it did. -/
def fnExactSamplesOfUptoRow : OpenClaim := { program := "ytaenbpkcehenkaa", sum := "e28c81e17d2f6d217624f032fdd8f34d3441aac3feb3812ef618c042e5a1bc55", func := "loop.example/g01173/laws.FnExactSamplesOf", spec := "fnExactSamplesOf", apart := false, narrowed := true }
def FnExactSamplesOfUptoSaid : Prop := fnExactSamplesOfUptoRow.holds Try.pinned (OpenSpec.upto fnExactSamplesOfSpec)

/-- 'laws.FnExactAllpassFor', WHERE WHAT IT READS IS OF BULK AT MOST 1048576: true; the input reads as it did. -/
def fnExactAllpassForUptoRow : OpenClaim := { program := "ytaenbpkcehenkaa", sum := "e28c81e17d2f6d217624f032fdd8f34d3441aac3feb3812ef618c042e5a1bc55", func := "loop.example/g01173/laws.FnExactAllpassFor", spec := "fnExactAllpassFor", apart := false, narrowed := true }
def FnExactAllpassForUptoSaid : Prop := fnExactAllpassForUptoRow.holds Try.pinned (OpenSpec.upto fnExactAllpassForSpec)

/-- 'laws.FnExactTableAt', WHERE WHAT IT READS IS OF BULK AT MOST 1048576: true; the input reads as it did. -/
def fnExactTableAtUptoRow : OpenClaim := { program := "ytaenbpkcehenkaa", sum := "e28c81e17d2f6d217624f032fdd8f34d3441aac3feb3812ef618c042e5a1bc55", func := "loop.example/g01173/laws.FnExactTableAt", spec := "fnExactTableAt", apart := false, narrowed := true }
def FnExactTableAtUptoSaid : Prop := fnExactTableAtUptoRow.holds Try.pinned (OpenSpec.upto fnExactTableAtSpec)

end Rows
end Go.Proofs.Ytaenbpkcehenkaa
