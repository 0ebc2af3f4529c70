/-
  No cell of these rows narrows 'for every input' (looked for: loops, veiled, ifaces, maps, wideKeys, modest, calm, conditions, laid).
  DERIVED. THE GIVEN ROWS OF THIS SEAT. 12 by the template 'for every input the law returns true; each argument reads behind the call as it read before'; 0 by the template 'total and deterministic' (their statements: YtkjgcfmfejjdkabTotals.lean).
  GIVEN WITH THE SEED: the statements are not yours to turn. If you find one false, say at which input.
  Laid BY PROGRAM, IN A SANDBOX (cutbox-rows.mjs): the forced cells as the released guide's own fill.sh prints them over the translation 39779f55c3a3cf46… (all of the seat's roots in one cut). By AI agents, Wed Nov 11 2026. No macro, syntax, notation, axiom, sorry.
-/
import Derived.Test.YtkjgcfmfejjdkabChecked
import GoSem.Claim
import GoSem.ClaimJoined
import GoSem.ClaimMapViews
import Derived.JoinedTies
import Derived.KernelRfl
namespace Go.Proofs.Ytkjgcfmfejjdkab
/- THE CELL 'sum', in the pinned program and in every row, IS THE sha256 OF THE DUMP (.gsa) THAT YtkjgcfmfejjdkabProg.lean LOADS. Nothing in Lean hashes anything: it is a label: what it is worth is what the hold of that sum in a sandbox is worth. -/
noncomputable def Try.pinned : Pinned := { name := "ytkjgcfmfejjdkab", sum := "39779f55c3a3cf46f08e834563b87884b8186def663f7f774aebfc8a56e77edb", checked := Try.checked }
namespace Rows
def none {H : Type} : Left H := { results := [], args := [] }

/-- 'laws.FnExactIsSilentBow': WHATEVER THE INPUT: true; the input reads as it did. -/
def fnExactIsSilentBowSpec : ChangeSpec := { name := "fnExactIsSilentBow", fn := fun _ => fun
  | [d] => { results := [.lit (.bool true)], args := [d] }
  | _ => none }
def fnExactIsSilentBowRow : OpenClaim := { program := "ytkjgcfmfejjdkab", sum := "39779f55c3a3cf46f08e834563b87884b8186def663f7f774aebfc8a56e77edb", func := "loop.example/g01173/laws.FnExactIsSilentBow", spec := "fnExactIsSilentBow", inPlace := ["math.Float32bits"], unfollowed := true, recurses := true, apart := false }
def FnExactIsSilentBowSaid : Prop := fnExactIsSilentBowRow.holds Try.pinned (OpenSpec.ofChange fnExactIsSilentBowSpec)

/-- ITS FALSE NEIGHBOUR: 'it returns false'. Refute it at one input. -/
def fnExactIsSilentBowWrong : ChangeSpec := { name := "fnExactIsSilentBow", fn := fun _ => fun
  | [d] => { results := [.lit (.bool false)], args := [d] }
  | _ => none }
def FnExactIsSilentBowWrongFalsely : Prop := fnExactIsSilentBowRow.holds Try.pinned (OpenSpec.ofChange fnExactIsSilentBowWrong)

/-- 'laws.FnExactIsSilentJet': WHATEVER THE INPUT: true; the input reads as it did. -/
def fnExactIsSilentJetSpec : ChangeSpec := { name := "fnExactIsSilentJet", fn := fun _ => fun
  | [d] => { results := [.lit (.bool true)], args := [d] }
  | _ => none }
def fnExactIsSilentJetRow : OpenClaim := { program := "ytkjgcfmfejjdkab", sum := "39779f55c3a3cf46f08e834563b87884b8186def663f7f774aebfc8a56e77edb", func := "loop.example/g01173/laws.FnExactIsSilentJet", spec := "fnExactIsSilentJet", inPlace := ["math.Float32bits"], unfollowed := true, recurses := true, apart := false }
def FnExactIsSilentJetSaid : Prop := fnExactIsSilentJetRow.holds Try.pinned (OpenSpec.ofChange fnExactIsSilentJetSpec)

/-- ITS FALSE NEIGHBOUR: 'it returns false'. Refute it at one input. -/
def fnExactIsSilentJetWrong : ChangeSpec := { name := "fnExactIsSilentJet", fn := fun _ => fun
  | [d] => { results := [.lit (.bool false)], args := [d] }
  | _ => none }
def FnExactIsSilentJetWrongFalsely : Prop := fnExactIsSilentJetRow.holds Try.pinned (OpenSpec.ofChange fnExactIsSilentJetWrong)

/-- 'laws.FnExactSticksAt': WHATEVER THE INPUT: true; the input reads as it did. -/
def fnExactSticksAtSpec : ChangeSpec := { name := "fnExactSticksAt", fn := fun _ => fun
  | [d1, d2] => { results := [.lit (.bool true)], args := [d1, d2] }
  | _ => none }
def fnExactSticksAtRow : OpenClaim := { program := "ytkjgcfmfejjdkab", sum := "39779f55c3a3cf46f08e834563b87884b8186def663f7f774aebfc8a56e77edb", func := "loop.example/g01173/laws.FnExactSticksAt", spec := "fnExactSticksAt", inPlace := ["math.Float32bits", "math.Float32frombits", "math.Float64bits", "math.Float64frombits"], unfollowed := true, recurses := true, apart := false }
def FnExactSticksAtSaid : Prop := fnExactSticksAtRow.holds Try.pinned (OpenSpec.ofChange fnExactSticksAtSpec)

/-- ITS FALSE NEIGHBOUR: 'it returns false'. Refute it at one input. -/
def fnExactSticksAtWrong : ChangeSpec := { name := "fnExactSticksAt", fn := fun _ => fun
  | [d1, d2] => { results := [.lit (.bool false)], args := [d1, d2] }
  | _ => none }
def FnExactSticksAtWrongFalsely : Prop := fnExactSticksAtRow.holds Try.pinned (OpenSpec.ofChange fnExactSticksAtWrong)

/-- 'laws.FnExactStepBow': WHATEVER THE INPUT: true; the input reads as it did. -/
def fnExactStepBowSpec : ChangeSpec := { name := "fnExactStepBow", fn := fun _ => fun
  | [d1, d2] => { results := [.lit (.bool true)], args := [d1, d2] }
  | _ => none }
def fnExactStepBowRow : OpenClaim := { program := "ytkjgcfmfejjdkab", sum := "39779f55c3a3cf46f08e834563b87884b8186def663f7f774aebfc8a56e77edb", func := "loop.example/g01173/laws.FnExactStepBow", spec := "fnExactStepBow", inPlace := ["math.Float32bits", "math.Float32frombits", "math.Float64bits", "math.Float64frombits"], unfollowed := true, recurses := true, apart := false }
def FnExactStepBowSaid : Prop := fnExactStepBowRow.holds Try.pinned (OpenSpec.ofChange fnExactStepBowSpec)

/-- ITS FALSE NEIGHBOUR: 'it returns false'. Refute it at one input. -/
def fnExactStepBowWrong : ChangeSpec := { name := "fnExactStepBow", fn := fun _ => fun
  | [d1, d2] => { results := [.lit (.bool false)], args := [d1, d2] }
  | _ => none }
def FnExactStepBowWrongFalsely : Prop := fnExactStepBowRow.holds Try.pinned (OpenSpec.ofChange fnExactStepBowWrong)

/-- 'laws.FnExactStepJet': WHATEVER THE INPUT: true; the input reads as it did. -/
def fnExactStepJetSpec : ChangeSpec := { name := "fnExactStepJet", fn := fun _ => fun
  | [d1, d2] => { results := [.lit (.bool true)], args := [d1, d2] }
  | _ => none }
def fnExactStepJetRow : OpenClaim := { program := "ytkjgcfmfejjdkab", sum := "39779f55c3a3cf46f08e834563b87884b8186def663f7f774aebfc8a56e77edb", func := "loop.example/g01173/laws.FnExactStepJet", spec := "fnExactStepJet", inPlace := ["math.Float32bits", "math.Float32frombits"], unfollowed := true, recurses := true, apart := false }
def FnExactStepJetSaid : Prop := fnExactStepJetRow.holds Try.pinned (OpenSpec.ofChange fnExactStepJetSpec)

/-- ITS FALSE NEIGHBOUR: 'it returns false'. Refute it at one input. -/
def fnExactStepJetWrong : ChangeSpec := { name := "fnExactStepJet", fn := fun _ => fun
  | [d1, d2] => { results := [.lit (.bool false)], args := [d1, d2] }
  | _ => none }
def FnExactStepJetWrongFalsely : Prop := fnExactStepJetRow.holds Try.pinned (OpenSpec.ofChange fnExactStepJetWrong)

/-- 'laws.FnExactPlayBow': WHATEVER THE INPUT: true; the input reads as it did. -/
def fnExactPlayBowSpec : ChangeSpec := { name := "fnExactPlayBow", fn := fun _ => fun
  | [d1, d2] => { results := [.lit (.bool true)], args := [d1, d2] }
  | _ => none }
def fnExactPlayBowRow : OpenClaim := { program := "ytkjgcfmfejjdkab", sum := "39779f55c3a3cf46f08e834563b87884b8186def663f7f774aebfc8a56e77edb", func := "loop.example/g01173/laws.FnExactPlayBow", spec := "fnExactPlayBow", inPlace := ["math.Float32bits", "math.Float32frombits"], unfollowed := true, recurses := true, apart := false }
def FnExactPlayBowSaid : Prop := fnExactPlayBowRow.holds Try.pinned (OpenSpec.ofChange fnExactPlayBowSpec)

/-- ITS FALSE NEIGHBOUR: 'it returns false'. Refute it at one input. -/
def fnExactPlayBowWrong : ChangeSpec := { name := "fnExactPlayBow", fn := fun _ => fun
  | [d1, d2] => { results := [.lit (.bool false)], args := [d1, d2] }
  | _ => none }
def FnExactPlayBowWrongFalsely : Prop := fnExactPlayBowRow.holds Try.pinned (OpenSpec.ofChange fnExactPlayBowWrong)

/-- 'laws.FnExactPlayJet': WHATEVER THE INPUT: true; the input reads as it did. -/
def fnExactPlayJetSpec : ChangeSpec := { name := "fnExactPlayJet", fn := fun _ => fun
  | [d1, d2] => { results := [.lit (.bool true)], args := [d1, d2] }
  | _ => none }
def fnExactPlayJetRow : OpenClaim := { program := "ytkjgcfmfejjdkab", sum := "39779f55c3a3cf46f08e834563b87884b8186def663f7f774aebfc8a56e77edb", func := "loop.example/g01173/laws.FnExactPlayJet", spec := "fnExactPlayJet", inPlace := ["math.Float32bits", "math.Float32frombits"], unfollowed := true, recurses := true, apart := false }
def FnExactPlayJetSaid : Prop := fnExactPlayJetRow.holds Try.pinned (OpenSpec.ofChange fnExactPlayJetSpec)

/-- ITS FALSE NEIGHBOUR: 'it returns false'. Refute it at one input. -/
def fnExactPlayJetWrong : ChangeSpec := { name := "fnExactPlayJet", fn := fun _ => fun
  | [d1, d2] => { results := [.lit (.bool false)], args := [d1, d2] }
  | _ => none }
def FnExactPlayJetWrongFalsely : Prop := fnExactPlayJetRow.holds Try.pinned (OpenSpec.ofChange fnExactPlayJetWrong)

/-- 'laws.FnExactBlockOfBow': WHATEVER THE INPUT: true; the input reads as it did. -/
def fnExactBlockOfBowSpec : ChangeSpec := { name := "fnExactBlockOfBow", fn := fun _ => fun
  | [d1, d2] => { results := [.lit (.bool true)], args := [d1, d2] }
  | _ => none }
def fnExactBlockOfBowRow : OpenClaim := { program := "ytkjgcfmfejjdkab", sum := "39779f55c3a3cf46f08e834563b87884b8186def663f7f774aebfc8a56e77edb", func := "loop.example/g01173/laws.FnExactBlockOfBow", spec := "fnExactBlockOfBow", inPlace := ["math.Float32bits", "math.Float32frombits"], unfollowed := true, recurses := true, apart := false }
def FnExactBlockOfBowSaid : Prop := fnExactBlockOfBowRow.holds Try.pinned (OpenSpec.ofChange fnExactBlockOfBowSpec)

/-- ITS FALSE NEIGHBOUR: 'it returns false'. Refute it at one input. -/
def fnExactBlockOfBowWrong : ChangeSpec := { name := "fnExactBlockOfBow", fn := fun _ => fun
  | [d1, d2] => { results := [.lit (.bool false)], args := [d1, d2] }
  | _ => none }
def FnExactBlockOfBowWrongFalsely : Prop := fnExactBlockOfBowRow.holds Try.pinned (OpenSpec.ofChange fnExactBlockOfBowWrong)

/-- 'laws.FnExactBlockOfJet': WHATEVER THE INPUT: true; the input reads as it did. -/
def fnExactBlockOfJetSpec : ChangeSpec := { name := "fnExactBlockOfJet", fn := fun _ => fun
  | [d1, d2] => { results := [.lit (.bool true)], args := [d1, d2] }
  | _ => none }
def fnExactBlockOfJetRow : OpenClaim := { program := "ytkjgcfmfejjdkab", sum := "39779f55c3a3cf46f08e834563b87884b8186def663f7f774aebfc8a56e77edb", func := "loop.example/g01173/laws.FnExactBlockOfJet", spec := "fnExactBlockOfJet", inPlace := ["math.Float32bits", "math.Float32frombits"], unfollowed := true, recurses := true, apart := false }
def FnExactBlockOfJetSaid : Prop := fnExactBlockOfJetRow.holds Try.pinned (OpenSpec.ofChange fnExactBlockOfJetSpec)

/-- ITS FALSE NEIGHBOUR: 'it returns false'. Refute it at one input. -/
def fnExactBlockOfJetWrong : ChangeSpec := { name := "fnExactBlockOfJet", fn := fun _ => fun
  | [d1, d2] => { results := [.lit (.bool false)], args := [d1, d2] }
  | _ => none }
def FnExactBlockOfJetWrongFalsely : Prop := fnExactBlockOfJetRow.holds Try.pinned (OpenSpec.ofChange fnExactBlockOfJetWrong)

/-- 'laws.FnFriction': WHATEVER THE INPUT: true; the input reads as it did. -/
def fnFrictionSpec : ChangeSpec := { name := "fnFriction", fn := fun _ => fun
  | [d1, d2] => { results := [.lit (.bool true)], args := [d1, d2] }
  | _ => none }
def fnFrictionRow : OpenClaim := { program := "ytkjgcfmfejjdkab", sum := "39779f55c3a3cf46f08e834563b87884b8186def663f7f774aebfc8a56e77edb", func := "loop.example/g01173/laws.FnFriction", spec := "fnFriction", inPlace := ["math.Float64bits", "math.Float64frombits", "math.Float32bits", "math.Float32frombits", "math.archFloor", "math.archTrunc"], unfollowed := true, recurses := true, apart := false }
def FnFrictionSaid : Prop := fnFrictionRow.holds Try.pinned (OpenSpec.ofChange fnFrictionSpec)

/-- ITS FALSE NEIGHBOUR: 'it returns false'. Refute it at one input. -/
def fnFrictionWrong : ChangeSpec := { name := "fnFriction", fn := fun _ => fun
  | [d1, d2] => { results := [.lit (.bool false)], args := [d1, d2] }
  | _ => none }
def FnFrictionWrongFalsely : Prop := fnFrictionRow.holds Try.pinned (OpenSpec.ofChange fnFrictionWrong)

/-- 'laws.FnShorts': WHATEVER THE INPUT: true; the input reads as it did. -/
def fnShortsSpec : ChangeSpec := { name := "fnShorts", fn := fun _ => fun
  | [d1, d2] => { results := [.lit (.bool true)], args := [d1, d2] }
  | _ => none }
def fnShortsRow : OpenClaim := { program := "ytkjgcfmfejjdkab", sum := "39779f55c3a3cf46f08e834563b87884b8186def663f7f774aebfc8a56e77edb", func := "loop.example/g01173/laws.FnShorts", spec := "fnShorts", inPlace := ["math.Float64frombits", "math.Float32frombits", "math.RoundToEven", "math.Float32bits"], apart := false }
def FnShortsSaid : Prop := fnShortsRow.holds Try.pinned (OpenSpec.ofChange fnShortsSpec)

/-- ITS FALSE NEIGHBOUR: 'it returns false'. Refute it at one input. -/
def fnShortsWrong : ChangeSpec := { name := "fnShorts", fn := fun _ => fun
  | [d1, d2] => { results := [.lit (.bool false)], args := [d1, d2] }
  | _ => none }
def FnShortsWrongFalsely : Prop := fnShortsRow.holds Try.pinned (OpenSpec.ofChange fnShortsWrong)

/-- 'laws.FnSines': WHATEVER THE INPUT: true; the input reads as it did. -/
def fnSinesSpec : ChangeSpec := { name := "fnSines", fn := fun _ => fun
  | [d1, d2] => { results := [.lit (.bool true)], args := [d1, d2] }
  | _ => none }
def fnSinesRow : OpenClaim := { program := "ytkjgcfmfejjdkab", sum := "39779f55c3a3cf46f08e834563b87884b8186def663f7f774aebfc8a56e77edb", func := "loop.example/g01173/laws.FnSines", spec := "fnSines", inPlace := ["math.Float64bits", "math.Float64frombits", "math.Float32frombits", "math.archFloor", "math.archTrunc", "math.Float32bits"], unfollowed := true, recurses := true, apart := false }
def FnSinesSaid : Prop := fnSinesRow.holds Try.pinned (OpenSpec.ofChange fnSinesSpec)

/-- ITS FALSE NEIGHBOUR: 'it returns false'. Refute it at one input. -/
def fnSinesWrong : ChangeSpec := { name := "fnSines", fn := fun _ => fun
  | [d1, d2] => { results := [.lit (.bool false)], args := [d1, d2] }
  | _ => none }
def FnSinesWrongFalsely : Prop := fnSinesRow.holds Try.pinned (OpenSpec.ofChange fnSinesWrong)

/- THE SECOND FORM. 'bulk': how many values and letters a reading holds, each counted each time it is reached (what is shared counts as often as it is met; a slice's spare places count too). A statement '..UptoSaid' is the law's where the arguments, and the package variables that the reading takes, are together of bulk at most 1048576: NARROWER than '..Said'. Prove '..Said' where nothing that the law and all that it calls make is longer than what came in: it says more and counts as full. Else prove '..UptoSaid'. A law counts once. -/
mutual
def uptoBulk {H : Type} : DataW H → Nat
  | .lit (.string bytes) => bytes.length + 1
  | .lit _ => 1
  | .nil => 1
  | .ptr d => uptoBulk d + 1
  | .slice elems spare => uptoBulkAll elems + uptoBulkAll spare + 1
  | .agg parts => uptoBulkAll parts + 1
  | .iface _ d => uptoBulk d + 1
  | .map entries => uptoBulkEntries entries + 1
  | .held _ => 1
def uptoBulkAll {H : Type} : List (DataW H) → Nat
  | [] => 0
  | d :: r => uptoBulk d + uptoBulkAll r
def uptoBulkEntries {H : Type} : List (Lit × DataW H) → Nat
  | [] => 0
  | x :: r => uptoBulkEntry x + uptoBulkEntries r
def uptoBulkEntry {H : Type} : Lit × DataW H → Nat
  | (.string bytes, d) => bytes.length + uptoBulk d + 1
  | (_, d) => uptoBulk d + 1
 end
def uptoSmall : (H : Type) → List (DataW H) → Bool := fun _ ds => decide (uptoBulkAll ds ≤ 1048576)
def OpenSpec.upto (s : _root_.Go.ChangeSpec) : _root_.Go.OpenSpec := { _root_.Go.OpenSpec.ofChange s with cond := some uptoSmall }

/-- 'laws.FnExactIsSilentBow', WHERE WHAT IT READS IS OF BULK AT MOST 1048576: true; the input reads as it did. -/
def fnExactIsSilentBowUptoRow : OpenClaim := { program := "ytkjgcfmfejjdkab", sum := "39779f55c3a3cf46f08e834563b87884b8186def663f7f774aebfc8a56e77edb", func := "loop.example/g01173/laws.FnExactIsSilentBow", spec := "fnExactIsSilentBow", inPlace := ["math.Float32bits"], unfollowed := true, recurses := true, apart := false, narrowed := true }
def FnExactIsSilentBowUptoSaid : Prop := fnExactIsSilentBowUptoRow.holds Try.pinned (OpenSpec.upto fnExactIsSilentBowSpec)

/-- 'laws.FnExactIsSilentJet', WHERE WHAT IT READS IS OF BULK AT MOST 1048576: true; the input reads as it did. -/
def fnExactIsSilentJetUptoRow : OpenClaim := { program := "ytkjgcfmfejjdkab", sum := "39779f55c3a3cf46f08e834563b87884b8186def663f7f774aebfc8a56e77edb", func := "loop.example/g01173/laws.FnExactIsSilentJet", spec := "fnExactIsSilentJet", inPlace := ["math.Float32bits"], unfollowed := true, recurses := true, apart := false, narrowed := true }
def FnExactIsSilentJetUptoSaid : Prop := fnExactIsSilentJetUptoRow.holds Try.pinned (OpenSpec.upto fnExactIsSilentJetSpec)

/-- 'laws.FnExactSticksAt', WHERE WHAT IT READS IS OF BULK AT MOST 1048576: true; the input reads as it did. -/
def fnExactSticksAtUptoRow : OpenClaim := { program := "ytkjgcfmfejjdkab", sum := "39779f55c3a3cf46f08e834563b87884b8186def663f7f774aebfc8a56e77edb", func := "loop.example/g01173/laws.FnExactSticksAt", spec := "fnExactSticksAt", inPlace := ["math.Float32bits", "math.Float32frombits", "math.Float64bits", "math.Float64frombits"], unfollowed := true, recurses := true, apart := false, narrowed := true }
def FnExactSticksAtUptoSaid : Prop := fnExactSticksAtUptoRow.holds Try.pinned (OpenSpec.upto fnExactSticksAtSpec)

/-- 'laws.FnExactStepBow', WHERE WHAT IT READS IS OF BULK AT MOST 1048576: true; the input reads as it did. -/
def fnExactStepBowUptoRow : OpenClaim := { program := "ytkjgcfmfejjdkab", sum := "39779f55c3a3cf46f08e834563b87884b8186def663f7f774aebfc8a56e77edb", func := "loop.example/g01173/laws.FnExactStepBow", spec := "fnExactStepBow", inPlace := ["math.Float32bits", "math.Float32frombits", "math.Float64bits", "math.Float64frombits"], unfollowed := true, recurses := true, apart := false, narrowed := true }
def FnExactStepBowUptoSaid : Prop := fnExactStepBowUptoRow.holds Try.pinned (OpenSpec.upto fnExactStepBowSpec)

/-- 'laws.FnExactStepJet', WHERE WHAT IT READS IS OF BULK AT MOST 1048576: true; the input reads as it did. -/
def fnExactStepJetUptoRow : OpenClaim := { program := "ytkjgcfmfejjdkab", sum := "39779f55c3a3cf46f08e834563b87884b8186def663f7f774aebfc8a56e77edb", func := "loop.example/g01173/laws.FnExactStepJet", spec := "fnExactStepJet", inPlace := ["math.Float32bits", "math.Float32frombits"], unfollowed := true, recurses := true, apart := false, narrowed := true }
def FnExactStepJetUptoSaid : Prop := fnExactStepJetUptoRow.holds Try.pinned (OpenSpec.upto fnExactStepJetSpec)

/-- 'laws.FnExactPlayBow', WHERE WHAT IT READS IS OF BULK AT MOST 1048576: true; the input reads as it did. -/
def fnExactPlayBowUptoRow : OpenClaim := { program := "ytkjgcfmfejjdkab", sum := "39779f55c3a3cf46f08e834563b87884b8186def663f7f774aebfc8a56e77edb", func := "loop.example/g01173/laws.FnExactPlayBow", spec := "fnExactPlayBow", inPlace := ["math.Float32bits", "math.Float32frombits"], unfollowed := true, recurses := true, apart := false, narrowed := true }
def FnExactPlayBowUptoSaid : Prop := fnExactPlayBowUptoRow.holds Try.pinned (OpenSpec.upto fnExactPlayBowSpec)

/-- 'laws.FnExactPlayJet', WHERE WHAT IT READS IS OF BULK AT MOST 1048576: true; the input reads as it did. -/
def fnExactPlayJetUptoRow : OpenClaim := { program := "ytkjgcfmfejjdkab", sum := "39779f55c3a3cf46f08e834563b87884b8186def663f7f774aebfc8a56e77edb", func := "loop.example/g01173/laws.FnExactPlayJet", spec := "fnExactPlayJet", inPlace := ["math.Float32bits", "math.Float32frombits"], unfollowed := true, recurses := true, apart := false, narrowed := true }
def FnExactPlayJetUptoSaid : Prop := fnExactPlayJetUptoRow.holds Try.pinned (OpenSpec.upto fnExactPlayJetSpec)

/-- 'laws.FnExactBlockOfBow', WHERE WHAT IT READS IS OF BULK AT MOST 1048576: true; the input reads as it did. -/
def fnExactBlockOfBowUptoRow : OpenClaim := { program := "ytkjgcfmfejjdkab", sum := "39779f55c3a3cf46f08e834563b87884b8186def663f7f774aebfc8a56e77edb", func := "loop.example/g01173/laws.FnExactBlockOfBow", spec := "fnExactBlockOfBow", inPlace := ["math.Float32bits", "math.Float32frombits"], unfollowed := true, recurses := true, apart := false, narrowed := true }
def FnExactBlockOfBowUptoSaid : Prop := fnExactBlockOfBowUptoRow.holds Try.pinned (OpenSpec.upto fnExactBlockOfBowSpec)

/-- 'laws.FnExactBlockOfJet', WHERE WHAT IT READS IS OF BULK AT MOST 1048576: true; the input reads as it did. -/
def fnExactBlockOfJetUptoRow : OpenClaim := { program := "ytkjgcfmfejjdkab", sum := "39779f55c3a3cf46f08e834563b87884b8186def663f7f774aebfc8a56e77edb", func := "loop.example/g01173/laws.FnExactBlockOfJet", spec := "fnExactBlockOfJet", inPlace := ["math.Float32bits", "math.Float32frombits"], unfollowed := true, recurses := true, apart := false, narrowed := true }
def FnExactBlockOfJetUptoSaid : Prop := fnExactBlockOfJetUptoRow.holds Try.pinned (OpenSpec.upto fnExactBlockOfJetSpec)

/-- 'laws.FnFriction', WHERE WHAT IT READS IS OF BULK AT MOST 1048576: true; the input reads as it did. -/
def fnFrictionUptoRow : OpenClaim := { program := "ytkjgcfmfejjdkab", sum := "39779f55c3a3cf46f08e834563b87884b8186def663f7f774aebfc8a56e77edb", func := "loop.example/g01173/laws.FnFriction", spec := "fnFriction", inPlace := ["math.Float64bits", "math.Float64frombits", "math.Float32bits", "math.Float32frombits", "math.archFloor", "math.archTrunc"], unfollowed := true, recurses := true, apart := false, narrowed := true }
def FnFrictionUptoSaid : Prop := fnFrictionUptoRow.holds Try.pinned (OpenSpec.upto fnFrictionSpec)

/-- 'laws.FnShorts', WHERE WHAT IT READS IS OF BULK AT MOST 1048576: true; the input reads as it did. -/
def fnShortsUptoRow : OpenClaim := { program := "ytkjgcfmfejjdkab", sum := "39779f55c3a3cf46f08e834563b87884b8186def663f7f774aebfc8a56e77edb", func := "loop.example/g01173/laws.FnShorts", spec := "fnShorts", inPlace := ["math.Float64frombits", "math.Float32frombits", "math.RoundToEven", "math.Float32bits"], apart := false, narrowed := true }
def FnShortsUptoSaid : Prop := fnShortsUptoRow.holds Try.pinned (OpenSpec.upto fnShortsSpec)

/-- 'laws.FnSines', WHERE WHAT IT READS IS OF BULK AT MOST 1048576: true; the input reads as it did. -/
def fnSinesUptoRow : OpenClaim := { program := "ytkjgcfmfejjdkab", sum := "39779f55c3a3cf46f08e834563b87884b8186def663f7f774aebfc8a56e77edb", func := "loop.example/g01173/laws.FnSines", spec := "fnSines", inPlace := ["math.Float64bits", "math.Float64frombits", "math.Float32frombits", "math.archFloor", "math.archTrunc", "math.Float32bits"], unfollowed := true, recurses := true, apart := false, narrowed := true }
def FnSinesUptoSaid : Prop := fnSinesUptoRow.holds Try.pinned (OpenSpec.upto fnSinesSpec)

end Rows
end Go.Proofs.Ytkjgcfmfejjdkab
