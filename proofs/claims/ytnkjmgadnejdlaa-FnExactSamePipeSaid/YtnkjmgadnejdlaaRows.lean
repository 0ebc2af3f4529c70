/-
  No cell of these rows narrows 'for every input' (looked for: loops, veiled, ifaces, maps, wideKeys, modest, calm, conditions, laid).
  DERIVED. THE GIVEN ROWS OF THIS SEAT. 4 by the template 'for every input the law returns true; each argument reads behind the call as it read before'; 0 by the template 'total and deterministic' (their statements: YtnkjmgadnejdlaaTotals.lean).
  GIVEN WITH THE SEED: the statements are not yours to turn. If you find one false, say at which input.
  Laid BY PROGRAM, IN A SANDBOX (cutbox-rows.mjs): the forced cells as the released guide's own fill.sh prints them over the translation ee8525362bc15b86… (all of the seat's roots in one cut). By AI agents, Wed Nov 11 2026. No macro, syntax, notation, axiom, sorry.
-/
import Derived.Test.YtnkjmgadnejdlaaChecked
import GoSem.Claim
import GoSem.ClaimJoined
import GoSem.ClaimMapViews
import Derived.JoinedTies
import Derived.KernelRfl
namespace Go.Proofs.Ytnkjmgadnejdlaa
/- THE CELL 'sum', in the pinned program and in every row, IS THE sha256 OF THE DUMP (.gsa) THAT YtnkjmgadnejdlaaProg.lean LOADS. Nothing in Lean hashes anything: it is a label: what it is worth is what the hold of that sum in a sandbox is worth. -/
noncomputable def Try.pinned : Pinned := { name := "ytnkjmgadnejdlaa", sum := "ee8525362bc15b86d32e51cbf93f946fa07be8871bfcdd2beba5988e5dc6f54f", checked := Try.checked }
namespace Rows
def none {H : Type} : Left H := { results := [], args := [] }

/-- 'laws.FnExactSamePipe': WHATEVER THE INPUT: true; the input reads as it did. -/
def fnExactSamePipeSpec : ChangeSpec := { name := "fnExactSamePipe", fn := fun _ => fun
  | [d1, d2] => { results := [.lit (.bool true)], args := [d1, d2] }
  | _ => none }
def fnExactSamePipeRow : OpenClaim := { program := "ytnkjmgadnejdlaa", sum := "ee8525362bc15b86d32e51cbf93f946fa07be8871bfcdd2beba5988e5dc6f54f", func := "loop.example/g01173/laws.FnExactSamePipe", spec := "fnExactSamePipe", inPlace := ["math.Float32bits"], unfollowed := true, recurses := true, apart := false }
def FnExactSamePipeSaid : Prop := fnExactSamePipeRow.holds Try.pinned (OpenSpec.ofChange fnExactSamePipeSpec)

/-- ITS FALSE NEIGHBOUR: 'it returns false'. Refute it at one input. -/
def fnExactSamePipeWrong : ChangeSpec := { name := "fnExactSamePipe", fn := fun _ => fun
  | [d1, d2] => { results := [.lit (.bool false)], args := [d1, d2] }
  | _ => none }
def FnExactSamePipeWrongFalsely : Prop := fnExactSamePipeRow.holds Try.pinned (OpenSpec.ofChange fnExactSamePipeWrong)

/-- 'laws.FnExactIsSilentPipe': WHATEVER THE INPUT: true; the input reads as it did. -/
def fnExactIsSilentPipeSpec : ChangeSpec := { name := "fnExactIsSilentPipe", fn := fun _ => fun
  | [d] => { results := [.lit (.bool true)], args := [d] }
  | _ => none }
def fnExactIsSilentPipeRow : OpenClaim := { program := "ytnkjmgadnejdlaa", sum := "ee8525362bc15b86d32e51cbf93f946fa07be8871bfcdd2beba5988e5dc6f54f", func := "loop.example/g01173/laws.FnExactIsSilentPipe", spec := "fnExactIsSilentPipe", inPlace := ["math.Float32bits"], apart := false }
def FnExactIsSilentPipeSaid : Prop := fnExactIsSilentPipeRow.holds Try.pinned (OpenSpec.ofChange fnExactIsSilentPipeSpec)

/-- ITS FALSE NEIGHBOUR: 'it returns false'. Refute it at one input. -/
def fnExactIsSilentPipeWrong : ChangeSpec := { name := "fnExactIsSilentPipe", fn := fun _ => fun
  | [d] => { results := [.lit (.bool false)], args := [d] }
  | _ => none }
def FnExactIsSilentPipeWrongFalsely : Prop := fnExactIsSilentPipeRow.holds Try.pinned (OpenSpec.ofChange fnExactIsSilentPipeWrong)

/-- 'laws.FnExactMutePipe': WHATEVER THE INPUT: true; the input reads as it did. -/
def fnExactMutePipeSpec : ChangeSpec := { name := "fnExactMutePipe", fn := fun _ => fun
  | [d] => { results := [.lit (.bool true)], args := [d] }
  | _ => none }
def fnExactMutePipeRow : OpenClaim := { program := "ytnkjmgadnejdlaa", sum := "ee8525362bc15b86d32e51cbf93f946fa07be8871bfcdd2beba5988e5dc6f54f", func := "loop.example/g01173/laws.FnExactMutePipe", spec := "fnExactMutePipe", inPlace := ["math.Float32bits"], unfollowed := true, recurses := true, apart := false }
def FnExactMutePipeSaid : Prop := fnExactMutePipeRow.holds Try.pinned (OpenSpec.ofChange fnExactMutePipeSpec)

/-- ITS FALSE NEIGHBOUR: 'it returns false'. Refute it at one input. -/
def fnExactMutePipeWrong : ChangeSpec := { name := "fnExactMutePipe", fn := fun _ => fun
  | [d] => { results := [.lit (.bool false)], args := [d] }
  | _ => none }
def FnExactMutePipeWrongFalsely : Prop := fnExactMutePipeRow.holds Try.pinned (OpenSpec.ofChange fnExactMutePipeWrong)

/-- 'laws.FnExactWithReed': WHATEVER THE INPUT: true; the input reads as it did. -/
def fnExactWithReedSpec : ChangeSpec := { name := "fnExactWithReed", fn := fun _ => fun
  | [d1, d2, d3] => { results := [.lit (.bool true)], args := [d1, d2, d3] }
  | _ => none }
def fnExactWithReedRow : OpenClaim := { program := "ytnkjmgadnejdlaa", sum := "ee8525362bc15b86d32e51cbf93f946fa07be8871bfcdd2beba5988e5dc6f54f", func := "loop.example/g01173/laws.FnExactWithReed", spec := "fnExactWithReed", inPlace := ["math.Float32bits"], unfollowed := true, recurses := true, apart := false }
def FnExactWithReedSaid : Prop := fnExactWithReedRow.holds Try.pinned (OpenSpec.ofChange fnExactWithReedSpec)

/-- ITS FALSE NEIGHBOUR: 'it returns false'. Refute it at one input. -/
def fnExactWithReedWrong : ChangeSpec := { name := "fnExactWithReed", fn := fun _ => fun
  | [d1, d2, d3] => { results := [.lit (.bool false)], args := [d1, d2, d3] }
  | _ => none }
def FnExactWithReedWrongFalsely : Prop := fnExactWithReedRow.holds Try.pinned (OpenSpec.ofChange fnExactWithReedWrong)

/- THE SECOND FORM. 'bulk': how many values and letters a reading holds, each counted each time it is reached (what is shared counts as often as it is met; a slice's spare places count too). A statement '..UptoSaid' is the law's where the arguments, and the package variables that the reading takes, are together of bulk at most 1048576: NARROWER than '..Said'. Prove '..Said' where nothing that the law and all that it calls make is longer than what came in: it says more and counts as full. Else prove '..UptoSaid'. A law counts once. -/
mutual
def uptoBulk {H : Type} : DataW H → Nat
  | .lit (.string bytes) => bytes.length + 1
  | .lit _ => 1
  | .nil => 1
  | .ptr d => uptoBulk d + 1
  | .slice elems spare => uptoBulkAll elems + uptoBulkAll spare + 1
  | .agg parts => uptoBulkAll parts + 1
  | .iface _ d => uptoBulk d + 1
  | .map entries => uptoBulkEntries entries + 1
  | .held _ => 1
def uptoBulkAll {H : Type} : List (DataW H) → Nat
  | [] => 0
  | d :: r => uptoBulk d + uptoBulkAll r
def uptoBulkEntries {H : Type} : List (Lit × DataW H) → Nat
  | [] => 0
  | x :: r => uptoBulkEntry x + uptoBulkEntries r
def uptoBulkEntry {H : Type} : Lit × DataW H → Nat
  | (.string bytes, d) => bytes.length + uptoBulk d + 1
  | (_, d) => uptoBulk d + 1
 end
def uptoSmall : (H : Type) → List (DataW H) → Bool := fun _ ds => decide (uptoBulkAll ds ≤ 1048576)
def OpenSpec.upto (s : _root_.Go.ChangeSpec) : _root_.Go.OpenSpec := { _root_.Go.OpenSpec.ofChange s with cond := some uptoSmall }

/-- 'laws.FnExactSamePipe', WHERE WHAT IT READS IS OF BULK AT MOST 1048576: true; the input reads as it did. -/
def fnExactSamePipeUptoRow : OpenClaim := { program := "ytnkjmgadnejdlaa", sum := "ee8525362bc15b86d32e51cbf93f946fa07be8871bfcdd2beba5988e5dc6f54f", func := "loop.example/g01173/laws.FnExactSamePipe", spec := "fnExactSamePipe", inPlace := ["math.Float32bits"], unfollowed := true, recurses := true, apart := false, narrowed := true }
def FnExactSamePipeUptoSaid : Prop := fnExactSamePipeUptoRow.holds Try.pinned (OpenSpec.upto fnExactSamePipeSpec)

/-- 'laws.FnExactIsSilentPipe', WHERE WHAT IT READS IS OF BULK AT MOST 1048576: true; the input reads as it did. -/
def fnExactIsSilentPipeUptoRow : OpenClaim := { program := "ytnkjmgadnejdlaa", sum := "ee8525362bc15b86d32e51cbf93f946fa07be8871bfcdd2beba5988e5dc6f54f", func := "loop.example/g01173/laws.FnExactIsSilentPipe", spec := "fnExactIsSilentPipe", inPlace := ["math.Float32bits"], apart := false, narrowed := true }
def FnExactIsSilentPipeUptoSaid : Prop := fnExactIsSilentPipeUptoRow.holds Try.pinned (OpenSpec.upto fnExactIsSilentPipeSpec)

/-- 'laws.FnExactMutePipe', WHERE WHAT IT READS IS OF BULK AT MOST 1048576: true; the input reads as it did. -/
def fnExactMutePipeUptoRow : OpenClaim := { program := "ytnkjmgadnejdlaa", sum := "ee8525362bc15b86d32e51cbf93f946fa07be8871bfcdd2beba5988e5dc6f54f", func := "loop.example/g01173/laws.FnExactMutePipe", spec := "fnExactMutePipe", inPlace := ["math.Float32bits"], unfollowed := true, recurses := true, apart := false, narrowed := true }
def FnExactMutePipeUptoSaid : Prop := fnExactMutePipeUptoRow.holds Try.pinned (OpenSpec.upto fnExactMutePipeSpec)

/-- 'laws.FnExactWithReed', WHERE WHAT IT READS IS OF BULK AT MOST 1048576: true; the input reads as it did. -/
def fnExactWithReedUptoRow : OpenClaim := { program := "ytnkjmgadnejdlaa", sum := "ee8525362bc15b86d32e51cbf93f946fa07be8871bfcdd2beba5988e5dc6f54f", func := "loop.example/g01173/laws.FnExactWithReed", spec := "fnExactWithReed", inPlace := ["math.Float32bits"], unfollowed := true, recurses := true, apart := false, narrowed := true }
def FnExactWithReedUptoSaid : Prop := fnExactWithReedUptoRow.holds Try.pinned (OpenSpec.upto fnExactWithReedSpec)

end Rows
end Go.Proofs.Ytnkjmgadnejdlaa
