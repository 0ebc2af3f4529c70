/-
  No cell of these rows narrows 'for every input' (looked for: loops, veiled, ifaces, maps, wideKeys, modest, calm, conditions, laid).
  DERIVED. THE GIVEN ROWS OF THIS SEAT. 12 by the template 'for every input the law returns true; each argument reads behind the call as it read before'; 0 by the template 'total and deterministic' (their statements: YtkjgcfmfejjdkaaTotals.lean).
  GIVEN WITH THE SEED: the statements are not yours to turn. If you find one false, say at which input.
  Laid BY PROGRAM, IN A SANDBOX (cutbox-rows.mjs): the forced cells as the released guide's own fill.sh prints them over the translation 9bef068e8cb7385f… (all of the seat's roots in one cut). By AI agents, Wed Nov 11 2026. No macro, syntax, notation, axiom, sorry.
-/
import Derived.Test.YtkjgcfmfejjdkaaChecked
import GoSem.Claim
import GoSem.ClaimJoined
import GoSem.ClaimMapViews
import Derived.JoinedTies
import Derived.KernelRfl
namespace Go.Proofs.Ytkjgcfmfejjdkaa
/- THE CELL 'sum', in the pinned program and in every row, IS THE sha256 OF THE DUMP (.gsa) THAT YtkjgcfmfejjdkaaProg.lean LOADS. Nothing in Lean hashes anything: it is a label: what it is worth is what the hold of that sum in a sandbox is worth. -/
noncomputable def Try.pinned : Pinned := { name := "ytkjgcfmfejjdkaa", sum := "9bef068e8cb7385f826b790eb3b7b00c4675f7418c3a397bbdbe9401e9520fd8", checked := Try.checked }
namespace Rows
def none {H : Type} : Left H := { results := [], args := [] }

/-- 'laws.FnExactFrictionAt': WHATEVER THE INPUT: true; the input reads as it did. -/
def fnExactFrictionAtSpec : ChangeSpec := { name := "fnExactFrictionAt", fn := fun _ => fun
  | [d1, d2] => { results := [.lit (.bool true)], args := [d1, d2] }
  | _ => none }
def fnExactFrictionAtRow : OpenClaim := { program := "ytkjgcfmfejjdkaa", sum := "9bef068e8cb7385f826b790eb3b7b00c4675f7418c3a397bbdbe9401e9520fd8", func := "loop.example/g01173/laws.FnExactFrictionAt", spec := "fnExactFrictionAt", inPlace := ["math.Float32bits", "math.Float32frombits", "math.Float64bits", "math.Float64frombits"], unfollowed := true, recurses := true, apart := false }
def FnExactFrictionAtSaid : Prop := fnExactFrictionAtRow.holds Try.pinned (OpenSpec.ofChange fnExactFrictionAtSpec)

/-- ITS FALSE NEIGHBOUR: 'it returns false'. Refute it at one input. -/
def fnExactFrictionAtWrong : ChangeSpec := { name := "fnExactFrictionAt", fn := fun _ => fun
  | [d1, d2] => { results := [.lit (.bool false)], args := [d1, d2] }
  | _ => none }
def FnExactFrictionAtWrongFalsely : Prop := fnExactFrictionAtRow.holds Try.pinned (OpenSpec.ofChange fnExactFrictionAtWrong)

/-- 'laws.FnExactFrictionTable': WHATEVER THE INPUT: true; the input reads as it did. -/
def fnExactFrictionTableSpec : ChangeSpec := { name := "fnExactFrictionTable", fn := fun _ => fun
  | [d] => { results := [.lit (.bool true)], args := [d] }
  | _ => none }
def fnExactFrictionTableRow : OpenClaim := { program := "ytkjgcfmfejjdkaa", sum := "9bef068e8cb7385f826b790eb3b7b00c4675f7418c3a397bbdbe9401e9520fd8", func := "loop.example/g01173/laws.FnExactFrictionTable", spec := "fnExactFrictionTable", inPlace := ["math.Float32bits", "math.Float32frombits", "math.Float64bits", "math.Float64frombits"], unfollowed := true, recurses := true, apart := false }
def FnExactFrictionTableSaid : Prop := fnExactFrictionTableRow.holds Try.pinned (OpenSpec.ofChange fnExactFrictionTableSpec)

/-- ITS FALSE NEIGHBOUR: 'it returns false'. Refute it at one input. -/
def fnExactFrictionTableWrong : ChangeSpec := { name := "fnExactFrictionTable", fn := fun _ => fun
  | [d] => { results := [.lit (.bool false)], args := [d] }
  | _ => none }
def FnExactFrictionTableWrongFalsely : Prop := fnExactFrictionTableRow.holds Try.pinned (OpenSpec.ofChange fnExactFrictionTableWrong)

/-- 'laws.FnExactJetAt': WHATEVER THE INPUT: true; the input reads as it did. -/
def fnExactJetAtSpec : ChangeSpec := { name := "fnExactJetAt", fn := fun _ => fun
  | [d] => { results := [.lit (.bool true)], args := [d] }
  | _ => none }
def fnExactJetAtRow : OpenClaim := { program := "ytkjgcfmfejjdkaa", sum := "9bef068e8cb7385f826b790eb3b7b00c4675f7418c3a397bbdbe9401e9520fd8", func := "loop.example/g01173/laws.FnExactJetAt", spec := "fnExactJetAt", apart := false }
def FnExactJetAtSaid : Prop := fnExactJetAtRow.holds Try.pinned (OpenSpec.ofChange fnExactJetAtSpec)

/-- ITS FALSE NEIGHBOUR: 'it returns false'. Refute it at one input. -/
def fnExactJetAtWrong : ChangeSpec := { name := "fnExactJetAt", fn := fun _ => fun
  | [d] => { results := [.lit (.bool false)], args := [d] }
  | _ => none }
def FnExactJetAtWrongFalsely : Prop := fnExactJetAtRow.holds Try.pinned (OpenSpec.ofChange fnExactJetAtWrong)

/-- 'laws.FnExactNewBow': WHATEVER THE INPUT: true; the input reads as it did. -/
def fnExactNewBowSpec : ChangeSpec := { name := "fnExactNewBow", fn := fun _ => fun
  | [d1, d2, d3, d4, d5] => { results := [.lit (.bool true)], args := [d1, d2, d3, d4, d5] }
  | _ => none }
def fnExactNewBowRow : OpenClaim := { program := "ytkjgcfmfejjdkaa", sum := "9bef068e8cb7385f826b790eb3b7b00c4675f7418c3a397bbdbe9401e9520fd8", func := "loop.example/g01173/laws.FnExactNewBow", spec := "fnExactNewBow", inPlace := ["math.archFloor", "math.Float64bits", "math.Float64frombits", "math.archTrunc", "math.Float32bits"], apart := false }
def FnExactNewBowSaid : Prop := fnExactNewBowRow.holds Try.pinned (OpenSpec.ofChange fnExactNewBowSpec)

/-- ITS FALSE NEIGHBOUR: 'it returns false'. Refute it at one input. -/
def fnExactNewBowWrong : ChangeSpec := { name := "fnExactNewBow", fn := fun _ => fun
  | [d1, d2, d3, d4, d5] => { results := [.lit (.bool false)], args := [d1, d2, d3, d4, d5] }
  | _ => none }
def FnExactNewBowWrongFalsely : Prop := fnExactNewBowRow.holds Try.pinned (OpenSpec.ofChange fnExactNewBowWrong)

/-- 'laws.FnExactNewJet': WHATEVER THE INPUT: true; the input reads as it did. -/
def fnExactNewJetSpec : ChangeSpec := { name := "fnExactNewJet", fn := fun _ => fun
  | [d1, d2, d3, d4, d5] => { results := [.lit (.bool true)], args := [d1, d2, d3, d4, d5] }
  | _ => none }
def fnExactNewJetRow : OpenClaim := { program := "ytkjgcfmfejjdkaa", sum := "9bef068e8cb7385f826b790eb3b7b00c4675f7418c3a397bbdbe9401e9520fd8", func := "loop.example/g01173/laws.FnExactNewJet", spec := "fnExactNewJet", apart := false }
def FnExactNewJetSaid : Prop := fnExactNewJetRow.holds Try.pinned (OpenSpec.ofChange fnExactNewJetSpec)

/-- ITS FALSE NEIGHBOUR: 'it returns false'. Refute it at one input. -/
def fnExactNewJetWrong : ChangeSpec := { name := "fnExactNewJet", fn := fun _ => fun
  | [d1, d2, d3, d4, d5] => { results := [.lit (.bool false)], args := [d1, d2, d3, d4, d5] }
  | _ => none }
def FnExactNewJetWrongFalsely : Prop := fnExactNewJetRow.holds Try.pinned (OpenSpec.ofChange fnExactNewJetWrong)

/-- 'laws.FnExactValidBow': WHATEVER THE INPUT: true; the input reads as it did. -/
def fnExactValidBowSpec : ChangeSpec := { name := "fnExactValidBow", fn := fun _ => fun
  | [d] => { results := [.lit (.bool true)], args := [d] }
  | _ => none }
def fnExactValidBowRow : OpenClaim := { program := "ytkjgcfmfejjdkaa", sum := "9bef068e8cb7385f826b790eb3b7b00c4675f7418c3a397bbdbe9401e9520fd8", func := "loop.example/g01173/laws.FnExactValidBow", spec := "fnExactValidBow", inPlace := ["math.Float32bits"], unfollowed := true, recurses := true, apart := false }
def FnExactValidBowSaid : Prop := fnExactValidBowRow.holds Try.pinned (OpenSpec.ofChange fnExactValidBowSpec)

/-- ITS FALSE NEIGHBOUR: 'it returns false'. Refute it at one input. -/
def fnExactValidBowWrong : ChangeSpec := { name := "fnExactValidBow", fn := fun _ => fun
  | [d] => { results := [.lit (.bool false)], args := [d] }
  | _ => none }
def FnExactValidBowWrongFalsely : Prop := fnExactValidBowRow.holds Try.pinned (OpenSpec.ofChange fnExactValidBowWrong)

/-- 'laws.FnExactValidJet': WHATEVER THE INPUT: true; the input reads as it did. -/
def fnExactValidJetSpec : ChangeSpec := { name := "fnExactValidJet", fn := fun _ => fun
  | [d] => { results := [.lit (.bool true)], args := [d] }
  | _ => none }
def fnExactValidJetRow : OpenClaim := { program := "ytkjgcfmfejjdkaa", sum := "9bef068e8cb7385f826b790eb3b7b00c4675f7418c3a397bbdbe9401e9520fd8", func := "loop.example/g01173/laws.FnExactValidJet", spec := "fnExactValidJet", inPlace := ["math.Float32bits"], unfollowed := true, recurses := true, apart := false }
def FnExactValidJetSaid : Prop := fnExactValidJetRow.holds Try.pinned (OpenSpec.ofChange fnExactValidJetSpec)

/-- ITS FALSE NEIGHBOUR: 'it returns false'. Refute it at one input. -/
def fnExactValidJetWrong : ChangeSpec := { name := "fnExactValidJet", fn := fun _ => fun
  | [d] => { results := [.lit (.bool false)], args := [d] }
  | _ => none }
def FnExactValidJetWrongFalsely : Prop := fnExactValidJetRow.holds Try.pinned (OpenSpec.ofChange fnExactValidJetWrong)

/-- 'laws.FnExactMuteBow': WHATEVER THE INPUT: true; the input reads as it did. -/
def fnExactMuteBowSpec : ChangeSpec := { name := "fnExactMuteBow", fn := fun _ => fun
  | [d] => { results := [.lit (.bool true)], args := [d] }
  | _ => none }
def fnExactMuteBowRow : OpenClaim := { program := "ytkjgcfmfejjdkaa", sum := "9bef068e8cb7385f826b790eb3b7b00c4675f7418c3a397bbdbe9401e9520fd8", func := "loop.example/g01173/laws.FnExactMuteBow", spec := "fnExactMuteBow", inPlace := ["math.Float32bits"], unfollowed := true, recurses := true, apart := false }
def FnExactMuteBowSaid : Prop := fnExactMuteBowRow.holds Try.pinned (OpenSpec.ofChange fnExactMuteBowSpec)

/-- ITS FALSE NEIGHBOUR: 'it returns false'. Refute it at one input. -/
def fnExactMuteBowWrong : ChangeSpec := { name := "fnExactMuteBow", fn := fun _ => fun
  | [d] => { results := [.lit (.bool false)], args := [d] }
  | _ => none }
def FnExactMuteBowWrongFalsely : Prop := fnExactMuteBowRow.holds Try.pinned (OpenSpec.ofChange fnExactMuteBowWrong)

/-- 'laws.FnExactMuteJet': WHATEVER THE INPUT: true; the input reads as it did. -/
def fnExactMuteJetSpec : ChangeSpec := { name := "fnExactMuteJet", fn := fun _ => fun
  | [d] => { results := [.lit (.bool true)], args := [d] }
  | _ => none }
def fnExactMuteJetRow : OpenClaim := { program := "ytkjgcfmfejjdkaa", sum := "9bef068e8cb7385f826b790eb3b7b00c4675f7418c3a397bbdbe9401e9520fd8", func := "loop.example/g01173/laws.FnExactMuteJet", spec := "fnExactMuteJet", inPlace := ["math.Float32bits"], unfollowed := true, recurses := true, apart := false }
def FnExactMuteJetSaid : Prop := fnExactMuteJetRow.holds Try.pinned (OpenSpec.ofChange fnExactMuteJetSpec)

/-- ITS FALSE NEIGHBOUR: 'it returns false'. Refute it at one input. -/
def fnExactMuteJetWrong : ChangeSpec := { name := "fnExactMuteJet", fn := fun _ => fun
  | [d] => { results := [.lit (.bool false)], args := [d] }
  | _ => none }
def FnExactMuteJetWrongFalsely : Prop := fnExactMuteJetRow.holds Try.pinned (OpenSpec.ofChange fnExactMuteJetWrong)

/-- 'laws.FnExactPullBow': WHATEVER THE INPUT: true; the input reads as it did. -/
def fnExactPullBowSpec : ChangeSpec := { name := "fnExactPullBow", fn := fun _ => fun
  | [d1, d2] => { results := [.lit (.bool true)], args := [d1, d2] }
  | _ => none }
def fnExactPullBowRow : OpenClaim := { program := "ytkjgcfmfejjdkaa", sum := "9bef068e8cb7385f826b790eb3b7b00c4675f7418c3a397bbdbe9401e9520fd8", func := "loop.example/g01173/laws.FnExactPullBow", spec := "fnExactPullBow", inPlace := ["math.Float32bits", "math.Float32frombits"], unfollowed := true, recurses := true, apart := false }
def FnExactPullBowSaid : Prop := fnExactPullBowRow.holds Try.pinned (OpenSpec.ofChange fnExactPullBowSpec)

/-- ITS FALSE NEIGHBOUR: 'it returns false'. Refute it at one input. -/
def fnExactPullBowWrong : ChangeSpec := { name := "fnExactPullBow", fn := fun _ => fun
  | [d1, d2] => { results := [.lit (.bool false)], args := [d1, d2] }
  | _ => none }
def FnExactPullBowWrongFalsely : Prop := fnExactPullBowRow.holds Try.pinned (OpenSpec.ofChange fnExactPullBowWrong)

/-- 'laws.FnExactSameBow': WHATEVER THE INPUT: true; the input reads as it did. -/
def fnExactSameBowSpec : ChangeSpec := { name := "fnExactSameBow", fn := fun _ => fun
  | [d1, d2] => { results := [.lit (.bool true)], args := [d1, d2] }
  | _ => none }
def fnExactSameBowRow : OpenClaim := { program := "ytkjgcfmfejjdkaa", sum := "9bef068e8cb7385f826b790eb3b7b00c4675f7418c3a397bbdbe9401e9520fd8", func := "loop.example/g01173/laws.FnExactSameBow", spec := "fnExactSameBow", inPlace := ["math.Float32bits"], unfollowed := true, recurses := true, apart := false }
def FnExactSameBowSaid : Prop := fnExactSameBowRow.holds Try.pinned (OpenSpec.ofChange fnExactSameBowSpec)

/-- ITS FALSE NEIGHBOUR: 'it returns false'. Refute it at one input. -/
def fnExactSameBowWrong : ChangeSpec := { name := "fnExactSameBow", fn := fun _ => fun
  | [d1, d2] => { results := [.lit (.bool false)], args := [d1, d2] }
  | _ => none }
def FnExactSameBowWrongFalsely : Prop := fnExactSameBowRow.holds Try.pinned (OpenSpec.ofChange fnExactSameBowWrong)

/-- 'laws.FnExactSameJet': WHATEVER THE INPUT: true; the input reads as it did. -/
def fnExactSameJetSpec : ChangeSpec := { name := "fnExactSameJet", fn := fun _ => fun
  | [d1, d2] => { results := [.lit (.bool true)], args := [d1, d2] }
  | _ => none }
def fnExactSameJetRow : OpenClaim := { program := "ytkjgcfmfejjdkaa", sum := "9bef068e8cb7385f826b790eb3b7b00c4675f7418c3a397bbdbe9401e9520fd8", func := "loop.example/g01173/laws.FnExactSameJet", spec := "fnExactSameJet", inPlace := ["math.Float32bits"], unfollowed := true, recurses := true, apart := false }
def FnExactSameJetSaid : Prop := fnExactSameJetRow.holds Try.pinned (OpenSpec.ofChange fnExactSameJetSpec)

/-- ITS FALSE NEIGHBOUR: 'it returns false'. Refute it at one input. -/
def fnExactSameJetWrong : ChangeSpec := { name := "fnExactSameJet", fn := fun _ => fun
  | [d1, d2] => { results := [.lit (.bool false)], args := [d1, d2] }
  | _ => none }
def FnExactSameJetWrongFalsely : Prop := fnExactSameJetRow.holds Try.pinned (OpenSpec.ofChange fnExactSameJetWrong)

/- THE SECOND FORM. 'bulk': how many values and letters a reading holds, each counted each time it is reached (what is shared counts as often as it is met; a slice's spare places count too). A statement '..UptoSaid' is the law's where the arguments, and the package variables that the reading takes, are together of bulk at most 1048576: NARROWER than '..Said'. Prove '..Said' where nothing that the law and all that it calls make is longer than what came in: it says more and counts as full. Else prove '..UptoSaid'. A law counts once. -/
mutual
def uptoBulk {H : Type} : DataW H → Nat
  | .lit (.string bytes) => bytes.length + 1
  | .lit _ => 1
  | .nil => 1
  | .ptr d => uptoBulk d + 1
  | .slice elems spare => uptoBulkAll elems + uptoBulkAll spare + 1
  | .agg parts => uptoBulkAll parts + 1
  | .iface _ d => uptoBulk d + 1
  | .map entries => uptoBulkEntries entries + 1
  | .held _ => 1
def uptoBulkAll {H : Type} : List (DataW H) → Nat
  | [] => 0
  | d :: r => uptoBulk d + uptoBulkAll r
def uptoBulkEntries {H : Type} : List (Lit × DataW H) → Nat
  | [] => 0
  | x :: r => uptoBulkEntry x + uptoBulkEntries r
def uptoBulkEntry {H : Type} : Lit × DataW H → Nat
  | (.string bytes, d) => bytes.length + uptoBulk d + 1
  | (_, d) => uptoBulk d + 1
 end
def uptoSmall : (H : Type) → List (DataW H) → Bool := fun _ ds => decide (uptoBulkAll ds ≤ 1048576)
def OpenSpec.upto (s : _root_.Go.ChangeSpec) : _root_.Go.OpenSpec := { _root_.Go.OpenSpec.ofChange s with cond := some uptoSmall }

/-- 'laws.FnExactFrictionAt', WHERE WHAT IT READS IS OF BULK AT MOST 1048576: true; the input reads as it did. -/
def fnExactFrictionAtUptoRow : OpenClaim := { program := "ytkjgcfmfejjdkaa", sum := "9bef068e8cb7385f826b790eb3b7b00c4675f7418c3a397bbdbe9401e9520fd8", func := "loop.example/g01173/laws.FnExactFrictionAt", spec := "fnExactFrictionAt", inPlace := ["math.Float32bits", "math.Float32frombits", "math.Float64bits", "math.Float64frombits"], unfollowed := true, recurses := true, apart := false, narrowed := true }
def FnExactFrictionAtUptoSaid : Prop := fnExactFrictionAtUptoRow.holds Try.pinned (OpenSpec.upto fnExactFrictionAtSpec)

/-- 'laws.FnExactFrictionTable', WHERE WHAT IT READS IS OF BULK AT MOST 1048576: true; the input reads as it did. -/
def fnExactFrictionTableUptoRow : OpenClaim := { program := "ytkjgcfmfejjdkaa", sum := "9bef068e8cb7385f826b790eb3b7b00c4675f7418c3a397bbdbe9401e9520fd8", func := "loop.example/g01173/laws.FnExactFrictionTable", spec := "fnExactFrictionTable", inPlace := ["math.Float32bits", "math.Float32frombits", "math.Float64bits", "math.Float64frombits"], unfollowed := true, recurses := true, apart := false, narrowed := true }
def FnExactFrictionTableUptoSaid : Prop := fnExactFrictionTableUptoRow.holds Try.pinned (OpenSpec.upto fnExactFrictionTableSpec)

/-- 'laws.FnExactJetAt', WHERE WHAT IT READS IS OF BULK AT MOST 1048576: true; the input reads as it did. -/
def fnExactJetAtUptoRow : OpenClaim := { program := "ytkjgcfmfejjdkaa", sum := "9bef068e8cb7385f826b790eb3b7b00c4675f7418c3a397bbdbe9401e9520fd8", func := "loop.example/g01173/laws.FnExactJetAt", spec := "fnExactJetAt", apart := false, narrowed := true }
def FnExactJetAtUptoSaid : Prop := fnExactJetAtUptoRow.holds Try.pinned (OpenSpec.upto fnExactJetAtSpec)

/-- 'laws.FnExactNewBow', WHERE WHAT IT READS IS OF BULK AT MOST 1048576: true; the input reads as it did. -/
def fnExactNewBowUptoRow : OpenClaim := { program := "ytkjgcfmfejjdkaa", sum := "9bef068e8cb7385f826b790eb3b7b00c4675f7418c3a397bbdbe9401e9520fd8", func := "loop.example/g01173/laws.FnExactNewBow", spec := "fnExactNewBow", inPlace := ["math.archFloor", "math.Float64bits", "math.Float64frombits", "math.archTrunc", "math.Float32bits"], apart := false, narrowed := true }
def FnExactNewBowUptoSaid : Prop := fnExactNewBowUptoRow.holds Try.pinned (OpenSpec.upto fnExactNewBowSpec)

/-- 'laws.FnExactNewJet', WHERE WHAT IT READS IS OF BULK AT MOST 1048576: true; the input reads as it did. -/
def fnExactNewJetUptoRow : OpenClaim := { program := "ytkjgcfmfejjdkaa", sum := "9bef068e8cb7385f826b790eb3b7b00c4675f7418c3a397bbdbe9401e9520fd8", func := "loop.example/g01173/laws.FnExactNewJet", spec := "fnExactNewJet", apart := false, narrowed := true }
def FnExactNewJetUptoSaid : Prop := fnExactNewJetUptoRow.holds Try.pinned (OpenSpec.upto fnExactNewJetSpec)

/-- 'laws.FnExactValidBow', WHERE WHAT IT READS IS OF BULK AT MOST 1048576: true; the input reads as it did. -/
def fnExactValidBowUptoRow : OpenClaim := { program := "ytkjgcfmfejjdkaa", sum := "9bef068e8cb7385f826b790eb3b7b00c4675f7418c3a397bbdbe9401e9520fd8", func := "loop.example/g01173/laws.FnExactValidBow", spec := "fnExactValidBow", inPlace := ["math.Float32bits"], unfollowed := true, recurses := true, apart := false, narrowed := true }
def FnExactValidBowUptoSaid : Prop := fnExactValidBowUptoRow.holds Try.pinned (OpenSpec.upto fnExactValidBowSpec)

/-- 'laws.FnExactValidJet', WHERE WHAT IT READS IS OF BULK AT MOST 1048576: true; the input reads as it did. -/
def fnExactValidJetUptoRow : OpenClaim := { program := "ytkjgcfmfejjdkaa", sum := "9bef068e8cb7385f826b790eb3b7b00c4675f7418c3a397bbdbe9401e9520fd8", func := "loop.example/g01173/laws.FnExactValidJet", spec := "fnExactValidJet", inPlace := ["math.Float32bits"], unfollowed := true, recurses := true, apart := false, narrowed := true }
def FnExactValidJetUptoSaid : Prop := fnExactValidJetUptoRow.holds Try.pinned (OpenSpec.upto fnExactValidJetSpec)

/-- 'laws.FnExactMuteBow', WHERE WHAT IT READS IS OF BULK AT MOST 1048576: true; the input reads as it did. -/
def fnExactMuteBowUptoRow : OpenClaim := { program := "ytkjgcfmfejjdkaa", sum := "9bef068e8cb7385f826b790eb3b7b00c4675f7418c3a397bbdbe9401e9520fd8", func := "loop.example/g01173/laws.FnExactMuteBow", spec := "fnExactMuteBow", inPlace := ["math.Float32bits"], unfollowed := true, recurses := true, apart := false, narrowed := true }
def FnExactMuteBowUptoSaid : Prop := fnExactMuteBowUptoRow.holds Try.pinned (OpenSpec.upto fnExactMuteBowSpec)

/-- 'laws.FnExactMuteJet', WHERE WHAT IT READS IS OF BULK AT MOST 1048576: true; the input reads as it did. -/
def fnExactMuteJetUptoRow : OpenClaim := { program := "ytkjgcfmfejjdkaa", sum := "9bef068e8cb7385f826b790eb3b7b00c4675f7418c3a397bbdbe9401e9520fd8", func := "loop.example/g01173/laws.FnExactMuteJet", spec := "fnExactMuteJet", inPlace := ["math.Float32bits"], unfollowed := true, recurses := true, apart := false, narrowed := true }
def FnExactMuteJetUptoSaid : Prop := fnExactMuteJetUptoRow.holds Try.pinned (OpenSpec.upto fnExactMuteJetSpec)

/-- 'laws.FnExactPullBow', WHERE WHAT IT READS IS OF BULK AT MOST 1048576: true; the input reads as it did. -/
def fnExactPullBowUptoRow : OpenClaim := { program := "ytkjgcfmfejjdkaa", sum := "9bef068e8cb7385f826b790eb3b7b00c4675f7418c3a397bbdbe9401e9520fd8", func := "loop.example/g01173/laws.FnExactPullBow", spec := "fnExactPullBow", inPlace := ["math.Float32bits", "math.Float32frombits"], unfollowed := true, recurses := true, apart := false, narrowed := true }
def FnExactPullBowUptoSaid : Prop := fnExactPullBowUptoRow.holds Try.pinned (OpenSpec.upto fnExactPullBowSpec)

/-- 'laws.FnExactSameBow', WHERE WHAT IT READS IS OF BULK AT MOST 1048576: true; the input reads as it did. -/
def fnExactSameBowUptoRow : OpenClaim := { program := "ytkjgcfmfejjdkaa", sum := "9bef068e8cb7385f826b790eb3b7b00c4675f7418c3a397bbdbe9401e9520fd8", func := "loop.example/g01173/laws.FnExactSameBow", spec := "fnExactSameBow", inPlace := ["math.Float32bits"], unfollowed := true, recurses := true, apart := false, narrowed := true }
def FnExactSameBowUptoSaid : Prop := fnExactSameBowUptoRow.holds Try.pinned (OpenSpec.upto fnExactSameBowSpec)

/-- 'laws.FnExactSameJet', WHERE WHAT IT READS IS OF BULK AT MOST 1048576: true; the input reads as it did. -/
def fnExactSameJetUptoRow : OpenClaim := { program := "ytkjgcfmfejjdkaa", sum := "9bef068e8cb7385f826b790eb3b7b00c4675f7418c3a397bbdbe9401e9520fd8", func := "loop.example/g01173/laws.FnExactSameJet", spec := "fnExactSameJet", inPlace := ["math.Float32bits"], unfollowed := true, recurses := true, apart := false, narrowed := true }
def FnExactSameJetUptoSaid : Prop := fnExactSameJetUptoRow.holds Try.pinned (OpenSpec.upto fnExactSameJetSpec)

end Rows
end Go.Proofs.Ytkjgcfmfejjdkaa
