/-
  No cell of these rows narrows 'for every input' (looked for: loops, veiled, ifaces, maps, wideKeys, modest, calm, conditions, laid).
  DERIVED. THE GIVEN ROWS OF THIS SEAT. 5 by the template 'for every input the law returns true; each argument reads behind the call as it read before'; 0 by the template 'total and deterministic' (their statements: YtibggjgffheibaaTotals.lean).
  GIVEN WITH THE SEED: the statements are not yours to turn. If you find one false, say at which input.
  Laid BY PROGRAM, IN A SANDBOX (cutbox-rows.mjs): the forced cells as the released guide's own fill.sh prints them over the translation 956991182c257e20… (all of the seat's roots in one cut). By AI agents, Wed Nov 11 2026. No macro, syntax, notation, axiom, sorry.
-/
import Derived.Test.YtibggjgffheibaaChecked
import GoSem.Claim
import GoSem.ClaimJoined
import GoSem.ClaimMapViews
import Derived.JoinedTies
import Derived.KernelRfl
namespace Go.Proofs.Ytibggjgffheibaa
/- THE CELL 'sum', in the pinned program and in every row, IS THE sha256 OF THE DUMP (.gsa) THAT YtibggjgffheibaaProg.lean LOADS. Nothing in Lean hashes anything: it is a label: what it is worth is what the hold of that sum in a sandbox is worth. -/
noncomputable def Try.pinned : Pinned := { name := "ytibggjgffheibaa", sum := "956991182c257e20bdb631cae92e63ed76f6a5c045dfb6286e41acbacec9d3a5", checked := Try.checked }
namespace Rows
def none {H : Type} : Left H := { results := [], args := [] }

/-- 'laws.FnShorts': WHATEVER THE INPUT: true; the input reads as it did. -/
def fnShortsSpec : ChangeSpec := { name := "fnShorts", fn := fun _ => fun
  | [d1, d2] => { results := [.lit (.bool true)], args := [d1, d2] }
  | _ => none }
def fnShortsRow : OpenClaim := { program := "ytibggjgffheibaa", sum := "956991182c257e20bdb631cae92e63ed76f6a5c045dfb6286e41acbacec9d3a5", func := "loop.example/g01173/laws.FnShorts", spec := "fnShorts", inPlace := ["math.Float64frombits", "math.Float32frombits", "math.RoundToEven", "math.Float32bits"], apart := false }
def FnShortsSaid : Prop := fnShortsRow.holds Try.pinned (OpenSpec.ofChange fnShortsSpec)

/-- ITS FALSE NEIGHBOUR: 'it returns false'. Refute it at one input. -/
def fnShortsWrong : ChangeSpec := { name := "fnShorts", fn := fun _ => fun
  | [d1, d2] => { results := [.lit (.bool false)], args := [d1, d2] }
  | _ => none }
def FnShortsWrongFalsely : Prop := fnShortsRow.holds Try.pinned (OpenSpec.ofChange fnShortsWrong)

/-- 'laws.FnSines': WHATEVER THE INPUT: true; the input reads as it did. -/
def fnSinesSpec : ChangeSpec := { name := "fnSines", fn := fun _ => fun
  | [d1, d2] => { results := [.lit (.bool true)], args := [d1, d2] }
  | _ => none }
def fnSinesRow : OpenClaim := { program := "ytibggjgffheibaa", sum := "956991182c257e20bdb631cae92e63ed76f6a5c045dfb6286e41acbacec9d3a5", func := "loop.example/g01173/laws.FnSines", spec := "fnSines", inPlace := ["math.Float64bits", "math.Float64frombits", "math.Float32frombits", "math.archFloor", "math.archTrunc", "math.Float32bits"], unfollowed := true, recurses := true, apart := false }
def FnSinesSaid : Prop := fnSinesRow.holds Try.pinned (OpenSpec.ofChange fnSinesSpec)

/-- ITS FALSE NEIGHBOUR: 'it returns false'. Refute it at one input. -/
def fnSinesWrong : ChangeSpec := { name := "fnSines", fn := fun _ => fun
  | [d1, d2] => { results := [.lit (.bool false)], args := [d1, d2] }
  | _ => none }
def FnSinesWrongFalsely : Prop := fnSinesRow.holds Try.pinned (OpenSpec.ofChange fnSinesWrong)

/-- 'laws.FnExactCodeName': WHATEVER THE INPUT: true; the input reads as it did. -/
def fnExactCodeNameSpec : ChangeSpec := { name := "fnExactCodeName", fn := fun _ => fun
  | [d] => { results := [.lit (.bool true)], args := [d] }
  | _ => none }
def fnExactCodeNameRow : OpenClaim := { program := "ytibggjgffheibaa", sum := "956991182c257e20bdb631cae92e63ed76f6a5c045dfb6286e41acbacec9d3a5", func := "loop.example/g01173/laws.FnExactCodeName", spec := "fnExactCodeName", apart := false }
def FnExactCodeNameSaid : Prop := fnExactCodeNameRow.holds Try.pinned (OpenSpec.ofChange fnExactCodeNameSpec)

/-- ITS FALSE NEIGHBOUR: 'it returns false'. Refute it at one input. -/
def fnExactCodeNameWrong : ChangeSpec := { name := "fnExactCodeName", fn := fun _ => fun
  | [d] => { results := [.lit (.bool false)], args := [d] }
  | _ => none }
def FnExactCodeNameWrongFalsely : Prop := fnExactCodeNameRow.holds Try.pinned (OpenSpec.ofChange fnExactCodeNameWrong)

/-- 'laws.FnExactSameSample': WHATEVER THE INPUT: true; the input reads as it did. -/
def fnExactSameSampleSpec : ChangeSpec := { name := "fnExactSameSample", fn := fun _ => fun
  | [d1, d2] => { results := [.lit (.bool true)], args := [d1, d2] }
  | _ => none }
def fnExactSameSampleRow : OpenClaim := { program := "ytibggjgffheibaa", sum := "956991182c257e20bdb631cae92e63ed76f6a5c045dfb6286e41acbacec9d3a5", func := "loop.example/g01173/laws.FnExactSameSample", spec := "fnExactSameSample", inPlace := ["math.Float32bits"], apart := false }
def FnExactSameSampleSaid : Prop := fnExactSameSampleRow.holds Try.pinned (OpenSpec.ofChange fnExactSameSampleSpec)

/-- ITS FALSE NEIGHBOUR: 'it returns false'. Refute it at one input. -/
def fnExactSameSampleWrong : ChangeSpec := { name := "fnExactSameSample", fn := fun _ => fun
  | [d1, d2] => { results := [.lit (.bool false)], args := [d1, d2] }
  | _ => none }
def FnExactSameSampleWrongFalsely : Prop := fnExactSameSampleRow.holds Try.pinned (OpenSpec.ofChange fnExactSameSampleWrong)

/-- 'laws.FnExactFlushSample': WHATEVER THE INPUT: true; the input reads as it did. -/
def fnExactFlushSampleSpec : ChangeSpec := { name := "fnExactFlushSample", fn := fun _ => fun
  | [d] => { results := [.lit (.bool true)], args := [d] }
  | _ => none }
def fnExactFlushSampleRow : OpenClaim := { program := "ytibggjgffheibaa", sum := "956991182c257e20bdb631cae92e63ed76f6a5c045dfb6286e41acbacec9d3a5", func := "loop.example/g01173/laws.FnExactFlushSample", spec := "fnExactFlushSample", inPlace := ["math.Float32bits", "math.Float32frombits"], apart := false }
def FnExactFlushSampleSaid : Prop := fnExactFlushSampleRow.holds Try.pinned (OpenSpec.ofChange fnExactFlushSampleSpec)

/-- ITS FALSE NEIGHBOUR: 'it returns false'. Refute it at one input. -/
def fnExactFlushSampleWrong : ChangeSpec := { name := "fnExactFlushSample", fn := fun _ => fun
  | [d] => { results := [.lit (.bool false)], args := [d] }
  | _ => none }
def FnExactFlushSampleWrongFalsely : Prop := fnExactFlushSampleRow.holds Try.pinned (OpenSpec.ofChange fnExactFlushSampleWrong)

/- THE SECOND FORM. 'bulk': how many values and letters a reading holds, each counted each time it is reached (what is shared counts as often as it is met; a slice's spare places count too). A statement '..UptoSaid' is the law's where the arguments, and the package variables that the reading takes, are together of bulk at most 1048576: NARROWER than '..Said'. Prove '..Said' where nothing that the law and all that it calls make is longer than what came in: it says more and counts as full. Else prove '..UptoSaid'. A law counts once. -/
mutual
def uptoBulk {H : Type} : DataW H → Nat
  | .lit (.string bytes) => bytes.length + 1
  | .lit _ => 1
  | .nil => 1
  | .ptr d => uptoBulk d + 1
  | .slice elems spare => uptoBulkAll elems + uptoBulkAll spare + 1
  | .agg parts => uptoBulkAll parts + 1
  | .iface _ d => uptoBulk d + 1
  | .map entries => uptoBulkEntries entries + 1
  | .held _ => 1
def uptoBulkAll {H : Type} : List (DataW H) → Nat
  | [] => 0
  | d :: r => uptoBulk d + uptoBulkAll r
def uptoBulkEntries {H : Type} : List (Lit × DataW H) → Nat
  | [] => 0
  | x :: r => uptoBulkEntry x + uptoBulkEntries r
def uptoBulkEntry {H : Type} : Lit × DataW H → Nat
  | (.string bytes, d) => bytes.length + uptoBulk d + 1
  | (_, d) => uptoBulk d + 1
 end
def uptoSmall : (H : Type) → List (DataW H) → Bool := fun _ ds => decide (uptoBulkAll ds ≤ 1048576)
def OpenSpec.upto (s : _root_.Go.ChangeSpec) : _root_.Go.OpenSpec := { _root_.Go.OpenSpec.ofChange s with cond := some uptoSmall }

/-- 'laws.FnShorts', WHERE WHAT IT READS IS OF BULK AT MOST 1048576: true; the input reads as it did. -/
def fnShortsUptoRow : OpenClaim := { program := "ytibggjgffheibaa", sum := "956991182c257e20bdb631cae92e63ed76f6a5c045dfb6286e41acbacec9d3a5", func := "loop.example/g01173/laws.FnShorts", spec := "fnShorts", inPlace := ["math.Float64frombits", "math.Float32frombits", "math.RoundToEven", "math.Float32bits"], apart := false, narrowed := true }
def FnShortsUptoSaid : Prop := fnShortsUptoRow.holds Try.pinned (OpenSpec.upto fnShortsSpec)

/-- 'laws.FnSines', WHERE WHAT IT READS IS OF BULK AT MOST 1048576: true; the input reads as it did. -/
def fnSinesUptoRow : OpenClaim := { program := "ytibggjgffheibaa", sum := "956991182c257e20bdb631cae92e63ed76f6a5c045dfb6286e41acbacec9d3a5", func := "loop.example/g01173/laws.FnSines", spec := "fnSines", inPlace := ["math.Float64bits", "math.Float64frombits", "math.Float32frombits", "math.archFloor", "math.archTrunc", "math.Float32bits"], unfollowed := true, recurses := true, apart := false, narrowed := true }
def FnSinesUptoSaid : Prop := fnSinesUptoRow.holds Try.pinned (OpenSpec.upto fnSinesSpec)

/-- 'laws.FnExactCodeName', WHERE WHAT IT READS IS OF BULK AT MOST 1048576: true; the input reads as it did. -/
def fnExactCodeNameUptoRow : OpenClaim := { program := "ytibggjgffheibaa", sum := "956991182c257e20bdb631cae92e63ed76f6a5c045dfb6286e41acbacec9d3a5", func := "loop.example/g01173/laws.FnExactCodeName", spec := "fnExactCodeName", apart := false, narrowed := true }
def FnExactCodeNameUptoSaid : Prop := fnExactCodeNameUptoRow.holds Try.pinned (OpenSpec.upto fnExactCodeNameSpec)

/-- 'laws.FnExactSameSample', WHERE WHAT IT READS IS OF BULK AT MOST 1048576: true; the input reads as it did. -/
def fnExactSameSampleUptoRow : OpenClaim := { program := "ytibggjgffheibaa", sum := "956991182c257e20bdb631cae92e63ed76f6a5c045dfb6286e41acbacec9d3a5", func := "loop.example/g01173/laws.FnExactSameSample", spec := "fnExactSameSample", inPlace := ["math.Float32bits"], apart := false, narrowed := true }
def FnExactSameSampleUptoSaid : Prop := fnExactSameSampleUptoRow.holds Try.pinned (OpenSpec.upto fnExactSameSampleSpec)

/-- 'laws.FnExactFlushSample', WHERE WHAT IT READS IS OF BULK AT MOST 1048576: true; the input reads as it did. -/
def fnExactFlushSampleUptoRow : OpenClaim := { program := "ytibggjgffheibaa", sum := "956991182c257e20bdb631cae92e63ed76f6a5c045dfb6286e41acbacec9d3a5", func := "loop.example/g01173/laws.FnExactFlushSample", spec := "fnExactFlushSample", inPlace := ["math.Float32bits", "math.Float32frombits"], apart := false, narrowed := true }
def FnExactFlushSampleUptoSaid : Prop := fnExactFlushSampleUptoRow.holds Try.pinned (OpenSpec.upto fnExactFlushSampleSpec)

end Rows
end Go.Proofs.Ytibggjgffheibaa
