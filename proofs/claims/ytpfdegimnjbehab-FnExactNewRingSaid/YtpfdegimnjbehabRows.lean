/-
  No cell of these rows narrows 'for every input' (looked for: loops, veiled, ifaces, maps, wideKeys, modest, calm, conditions, laid).
  DERIVED. THE GIVEN ROWS OF THIS SEAT. 11 by the template 'for every input the law returns true; each argument reads behind the call as it read before'; 0 by the template 'total and deterministic' (their statements: YtpfdegimnjbehabTotals.lean).
  GIVEN WITH THE SEED: the statements are not yours to turn. If you find one false, say at which input.
  Laid BY PROGRAM, IN A SANDBOX (cutbox-rows.mjs): the forced cells as the released guide's own fill.sh prints them over the translation ae8ca8f93cb83ab0… (all of the seat's roots in one cut). By AI agents, Wed Nov 11 2026. No macro, syntax, notation, axiom, sorry.
-/
import Derived.Test.YtpfdegimnjbehabChecked
import GoSem.Claim
import GoSem.ClaimJoined
import GoSem.ClaimMapViews
import Derived.JoinedTies
import Derived.KernelRfl
namespace Go.Proofs.Ytpfdegimnjbehab
/- THE CELL 'sum', in the pinned program and in every row, IS THE sha256 OF THE DUMP (.gsa) THAT YtpfdegimnjbehabProg.lean LOADS. Nothing in Lean hashes anything: it is a label: what it is worth is what the hold of that sum in a sandbox is worth. -/
noncomputable def Try.pinned : Pinned := { name := "ytpfdegimnjbehab", sum := "ae8ca8f93cb83ab0e8b79386fbad9168c632ccb71010bd9ec944b10664f23097", checked := Try.checked }
namespace Rows
def none {H : Type} : Left H := { results := [], args := [] }

/-- 'laws.FnExactNewRing': WHATEVER THE INPUT: true; the input reads as it did. -/
def fnExactNewRingSpec : ChangeSpec := { name := "fnExactNewRing", fn := fun _ => fun
  | [d] => { results := [.lit (.bool true)], args := [d] }
  | _ => none }
def fnExactNewRingRow : OpenClaim := { program := "ytpfdegimnjbehab", sum := "ae8ca8f93cb83ab0e8b79386fbad9168c632ccb71010bd9ec944b10664f23097", func := "loop.example/g01173/laws.FnExactNewRing", spec := "fnExactNewRing", apart := false }
def FnExactNewRingSaid : Prop := fnExactNewRingRow.holds Try.pinned (OpenSpec.ofChange fnExactNewRingSpec)

/-- ITS FALSE NEIGHBOUR: 'it returns false'. Refute it at one input. -/
def fnExactNewRingWrong : ChangeSpec := { name := "fnExactNewRing", fn := fun _ => fun
  | [d] => { results := [.lit (.bool false)], args := [d] }
  | _ => none }
def FnExactNewRingWrongFalsely : Prop := fnExactNewRingRow.holds Try.pinned (OpenSpec.ofChange fnExactNewRingWrong)

/-- 'laws.FnExactValidRing': WHATEVER THE INPUT: true; the input reads as it did. -/
def fnExactValidRingSpec : ChangeSpec := { name := "fnExactValidRing", fn := fun _ => fun
  | [d] => { results := [.lit (.bool true)], args := [d] }
  | _ => none }
def fnExactValidRingRow : OpenClaim := { program := "ytpfdegimnjbehab", sum := "ae8ca8f93cb83ab0e8b79386fbad9168c632ccb71010bd9ec944b10664f23097", func := "loop.example/g01173/laws.FnExactValidRing", spec := "fnExactValidRing", apart := false }
def FnExactValidRingSaid : Prop := fnExactValidRingRow.holds Try.pinned (OpenSpec.ofChange fnExactValidRingSpec)

/-- ITS FALSE NEIGHBOUR: 'it returns false'. Refute it at one input. -/
def fnExactValidRingWrong : ChangeSpec := { name := "fnExactValidRing", fn := fun _ => fun
  | [d] => { results := [.lit (.bool false)], args := [d] }
  | _ => none }
def FnExactValidRingWrongFalsely : Prop := fnExactValidRingRow.holds Try.pinned (OpenSpec.ofChange fnExactValidRingWrong)

/-- 'laws.FnExactSameRing': WHATEVER THE INPUT: true; the input reads as it did. -/
def fnExactSameRingSpec : ChangeSpec := { name := "fnExactSameRing", fn := fun _ => fun
  | [d1, d2] => { results := [.lit (.bool true)], args := [d1, d2] }
  | _ => none }
def fnExactSameRingRow : OpenClaim := { program := "ytpfdegimnjbehab", sum := "ae8ca8f93cb83ab0e8b79386fbad9168c632ccb71010bd9ec944b10664f23097", func := "loop.example/g01173/laws.FnExactSameRing", spec := "fnExactSameRing", inPlace := ["math.Float32bits"], unfollowed := true, recurses := true, apart := false }
def FnExactSameRingSaid : Prop := fnExactSameRingRow.holds Try.pinned (OpenSpec.ofChange fnExactSameRingSpec)

/-- ITS FALSE NEIGHBOUR: 'it returns false'. Refute it at one input. -/
def fnExactSameRingWrong : ChangeSpec := { name := "fnExactSameRing", fn := fun _ => fun
  | [d1, d2] => { results := [.lit (.bool false)], args := [d1, d2] }
  | _ => none }
def FnExactSameRingWrongFalsely : Prop := fnExactSameRingRow.holds Try.pinned (OpenSpec.ofChange fnExactSameRingWrong)

/-- 'laws.FnExactPushSample': WHATEVER THE INPUT: true; the input reads as it did. -/
def fnExactPushSampleSpec : ChangeSpec := { name := "fnExactPushSample", fn := fun _ => fun
  | [d1, d2] => { results := [.lit (.bool true)], args := [d1, d2] }
  | _ => none }
def fnExactPushSampleRow : OpenClaim := { program := "ytpfdegimnjbehab", sum := "ae8ca8f93cb83ab0e8b79386fbad9168c632ccb71010bd9ec944b10664f23097", func := "loop.example/g01173/laws.FnExactPushSample", spec := "fnExactPushSample", apart := false }
def FnExactPushSampleSaid : Prop := fnExactPushSampleRow.holds Try.pinned (OpenSpec.ofChange fnExactPushSampleSpec)

/-- ITS FALSE NEIGHBOUR: 'it returns false'. Refute it at one input. -/
def fnExactPushSampleWrong : ChangeSpec := { name := "fnExactPushSample", fn := fun _ => fun
  | [d1, d2] => { results := [.lit (.bool false)], args := [d1, d2] }
  | _ => none }
def FnExactPushSampleWrongFalsely : Prop := fnExactPushSampleRow.holds Try.pinned (OpenSpec.ofChange fnExactPushSampleWrong)

/-- 'laws.FnExactReadBack': WHATEVER THE INPUT: true; the input reads as it did. -/
def fnExactReadBackSpec : ChangeSpec := { name := "fnExactReadBack", fn := fun _ => fun
  | [d1, d2] => { results := [.lit (.bool true)], args := [d1, d2] }
  | _ => none }
def fnExactReadBackRow : OpenClaim := { program := "ytpfdegimnjbehab", sum := "ae8ca8f93cb83ab0e8b79386fbad9168c632ccb71010bd9ec944b10664f23097", func := "loop.example/g01173/laws.FnExactReadBack", spec := "fnExactReadBack", apart := false }
def FnExactReadBackSaid : Prop := fnExactReadBackRow.holds Try.pinned (OpenSpec.ofChange fnExactReadBackSpec)

/-- ITS FALSE NEIGHBOUR: 'it returns false'. Refute it at one input. -/
def fnExactReadBackWrong : ChangeSpec := { name := "fnExactReadBack", fn := fun _ => fun
  | [d1, d2] => { results := [.lit (.bool false)], args := [d1, d2] }
  | _ => none }
def FnExactReadBackWrongFalsely : Prop := fnExactReadBackRow.holds Try.pinned (OpenSpec.ofChange fnExactReadBackWrong)

/-- 'laws.FnExactReadBetween': WHATEVER THE INPUT: true; the input reads as it did. -/
def fnExactReadBetweenSpec : ChangeSpec := { name := "fnExactReadBetween", fn := fun _ => fun
  | [d1, d2] => { results := [.lit (.bool true)], args := [d1, d2] }
  | _ => none }
def fnExactReadBetweenRow : OpenClaim := { program := "ytpfdegimnjbehab", sum := "ae8ca8f93cb83ab0e8b79386fbad9168c632ccb71010bd9ec944b10664f23097", func := "loop.example/g01173/laws.FnExactReadBetween", spec := "fnExactReadBetween", apart := false }
def FnExactReadBetweenSaid : Prop := fnExactReadBetweenRow.holds Try.pinned (OpenSpec.ofChange fnExactReadBetweenSpec)

/-- ITS FALSE NEIGHBOUR: 'it returns false'. Refute it at one input. -/
def fnExactReadBetweenWrong : ChangeSpec := { name := "fnExactReadBetween", fn := fun _ => fun
  | [d1, d2] => { results := [.lit (.bool false)], args := [d1, d2] }
  | _ => none }
def FnExactReadBetweenWrongFalsely : Prop := fnExactReadBetweenRow.holds Try.pinned (OpenSpec.ofChange fnExactReadBetweenWrong)

/-- 'laws.FnExactTurnRing': WHATEVER THE INPUT: true; the input reads as it did. -/
def fnExactTurnRingSpec : ChangeSpec := { name := "fnExactTurnRing", fn := fun _ => fun
  | [d] => { results := [.lit (.bool true)], args := [d] }
  | _ => none }
def fnExactTurnRingRow : OpenClaim := { program := "ytpfdegimnjbehab", sum := "ae8ca8f93cb83ab0e8b79386fbad9168c632ccb71010bd9ec944b10664f23097", func := "loop.example/g01173/laws.FnExactTurnRing", spec := "fnExactTurnRing", apart := false }
def FnExactTurnRingSaid : Prop := fnExactTurnRingRow.holds Try.pinned (OpenSpec.ofChange fnExactTurnRingSpec)

/-- ITS FALSE NEIGHBOUR: 'it returns false'. Refute it at one input. -/
def fnExactTurnRingWrong : ChangeSpec := { name := "fnExactTurnRing", fn := fun _ => fun
  | [d] => { results := [.lit (.bool false)], args := [d] }
  | _ => none }
def FnExactTurnRingWrongFalsely : Prop := fnExactTurnRingRow.holds Try.pinned (OpenSpec.ofChange fnExactTurnRingWrong)

/-- 'laws.FnExactOnePole': WHATEVER THE INPUT: true; the input reads as it did. -/
def fnExactOnePoleSpec : ChangeSpec := { name := "fnExactOnePole", fn := fun _ => fun
  | [d] => { results := [.lit (.bool true)], args := [d] }
  | _ => none }
def fnExactOnePoleRow : OpenClaim := { program := "ytpfdegimnjbehab", sum := "ae8ca8f93cb83ab0e8b79386fbad9168c632ccb71010bd9ec944b10664f23097", func := "loop.example/g01173/laws.FnExactOnePole", spec := "fnExactOnePole", apart := false }
def FnExactOnePoleSaid : Prop := fnExactOnePoleRow.holds Try.pinned (OpenSpec.ofChange fnExactOnePoleSpec)

/-- ITS FALSE NEIGHBOUR: 'it returns false'. Refute it at one input. -/
def fnExactOnePoleWrong : ChangeSpec := { name := "fnExactOnePole", fn := fun _ => fun
  | [d] => { results := [.lit (.bool false)], args := [d] }
  | _ => none }
def FnExactOnePoleWrongFalsely : Prop := fnExactOnePoleRow.holds Try.pinned (OpenSpec.ofChange fnExactOnePoleWrong)

/-- 'laws.FnExactOneZero': WHATEVER THE INPUT: true; the input reads as it did. -/
def fnExactOneZeroSpec : ChangeSpec := { name := "fnExactOneZero", fn := fun _ => fun
  | [d] => { results := [.lit (.bool true)], args := [d] }
  | _ => none }
def fnExactOneZeroRow : OpenClaim := { program := "ytpfdegimnjbehab", sum := "ae8ca8f93cb83ab0e8b79386fbad9168c632ccb71010bd9ec944b10664f23097", func := "loop.example/g01173/laws.FnExactOneZero", spec := "fnExactOneZero", apart := false }
def FnExactOneZeroSaid : Prop := fnExactOneZeroRow.holds Try.pinned (OpenSpec.ofChange fnExactOneZeroSpec)

/-- ITS FALSE NEIGHBOUR: 'it returns false'. Refute it at one input. -/
def fnExactOneZeroWrong : ChangeSpec := { name := "fnExactOneZero", fn := fun _ => fun
  | [d] => { results := [.lit (.bool false)], args := [d] }
  | _ => none }
def FnExactOneZeroWrongFalsely : Prop := fnExactOneZeroRow.holds Try.pinned (OpenSpec.ofChange fnExactOneZeroWrong)

/-- 'laws.FnExactAllpassFor': WHATEVER THE INPUT: true; the input reads as it did. -/
def fnExactAllpassForSpec : ChangeSpec := { name := "fnExactAllpassFor", fn := fun _ => fun
  | [d] => { results := [.lit (.bool true)], args := [d] }
  | _ => none }
def fnExactAllpassForRow : OpenClaim := { program := "ytpfdegimnjbehab", sum := "ae8ca8f93cb83ab0e8b79386fbad9168c632ccb71010bd9ec944b10664f23097", func := "loop.example/g01173/laws.FnExactAllpassFor", spec := "fnExactAllpassFor", apart := false }
def FnExactAllpassForSaid : Prop := fnExactAllpassForRow.holds Try.pinned (OpenSpec.ofChange fnExactAllpassForSpec)

/-- ITS FALSE NEIGHBOUR: 'it returns false'. Refute it at one input. -/
def fnExactAllpassForWrong : ChangeSpec := { name := "fnExactAllpassFor", fn := fun _ => fun
  | [d] => { results := [.lit (.bool false)], args := [d] }
  | _ => none }
def FnExactAllpassForWrongFalsely : Prop := fnExactAllpassForRow.holds Try.pinned (OpenSpec.ofChange fnExactAllpassForWrong)

/-- 'laws.FnExactTwoPole': WHATEVER THE INPUT: true; the input reads as it did. -/
def fnExactTwoPoleSpec : ChangeSpec := { name := "fnExactTwoPole", fn := fun _ => fun
  | [d1, d2] => { results := [.lit (.bool true)], args := [d1, d2] }
  | _ => none }
def fnExactTwoPoleRow : OpenClaim := { program := "ytpfdegimnjbehab", sum := "ae8ca8f93cb83ab0e8b79386fbad9168c632ccb71010bd9ec944b10664f23097", func := "loop.example/g01173/laws.FnExactTwoPole", spec := "fnExactTwoPole", inPlace := ["math.Float64frombits", "math.archFloor", "math.Float64bits", "math.archTrunc", "math.Float32frombits"], unfollowed := true, recurses := true, apart := false }
def FnExactTwoPoleSaid : Prop := fnExactTwoPoleRow.holds Try.pinned (OpenSpec.ofChange fnExactTwoPoleSpec)

/-- ITS FALSE NEIGHBOUR: 'it returns false'. Refute it at one input. -/
def fnExactTwoPoleWrong : ChangeSpec := { name := "fnExactTwoPole", fn := fun _ => fun
  | [d1, d2] => { results := [.lit (.bool false)], args := [d1, d2] }
  | _ => none }
def FnExactTwoPoleWrongFalsely : Prop := fnExactTwoPoleRow.holds Try.pinned (OpenSpec.ofChange fnExactTwoPoleWrong)

/- THE SECOND FORM. 'bulk': how many values and letters a reading holds, each counted each time it is reached (what is shared counts as often as it is met; a slice's spare places count too). A statement '..UptoSaid' is the law's where the arguments, and the package variables that the reading takes, are together of bulk at most 1048576: NARROWER than '..Said'. Prove '..Said' where nothing that the law and all that it calls make is longer than what came in: it says more and counts as full. Else prove '..UptoSaid'. A law counts once. -/
mutual
def uptoBulk {H : Type} : DataW H → Nat
  | .lit (.string bytes) => bytes.length + 1
  | .lit _ => 1
  | .nil => 1
  | .ptr d => uptoBulk d + 1
  | .slice elems spare => uptoBulkAll elems + uptoBulkAll spare + 1
  | .agg parts => uptoBulkAll parts + 1
  | .iface _ d => uptoBulk d + 1
  | .map entries => uptoBulkEntries entries + 1
  | .held _ => 1
def uptoBulkAll {H : Type} : List (DataW H) → Nat
  | [] => 0
  | d :: r => uptoBulk d + uptoBulkAll r
def uptoBulkEntries {H : Type} : List (Lit × DataW H) → Nat
  | [] => 0
  | x :: r => uptoBulkEntry x + uptoBulkEntries r
def uptoBulkEntry {H : Type} : Lit × DataW H → Nat
  | (.string bytes, d) => bytes.length + uptoBulk d + 1
  | (_, d) => uptoBulk d + 1
 end
def uptoSmall : (H : Type) → List (DataW H) → Bool := fun _ ds => decide (uptoBulkAll ds ≤ 1048576)
def OpenSpec.upto (s : _root_.Go.ChangeSpec) : _root_.Go.OpenSpec := { _root_.Go.OpenSpec.ofChange s with cond := some uptoSmall }

/-- 'laws.FnExactNewRing', WHERE WHAT IT READS IS OF BULK AT MOST 1048576: true; the input reads as it did. -/
def fnExactNewRingUptoRow : OpenClaim := { program := "ytpfdegimnjbehab", sum := "ae8ca8f93cb83ab0e8b79386fbad9168c632ccb71010bd9ec944b10664f23097", func := "loop.example/g01173/laws.FnExactNewRing", spec := "fnExactNewRing", apart := false, narrowed := true }
def FnExactNewRingUptoSaid : Prop := fnExactNewRingUptoRow.holds Try.pinned (OpenSpec.upto fnExactNewRingSpec)

/-- 'laws.FnExactValidRing', WHERE WHAT IT READS IS OF BULK AT MOST 1048576: true; the input reads as it did. -/
def fnExactValidRingUptoRow : OpenClaim := { program := "ytpfdegimnjbehab", sum := "ae8ca8f93cb83ab0e8b79386fbad9168c632ccb71010bd9ec944b10664f23097", func := "loop.example/g01173/laws.FnExactValidRing", spec := "fnExactValidRing", apart := false, narrowed := true }
def FnExactValidRingUptoSaid : Prop := fnExactValidRingUptoRow.holds Try.pinned (OpenSpec.upto fnExactValidRingSpec)

/-- 'laws.FnExactSameRing', WHERE WHAT IT READS IS OF BULK AT MOST 1048576: true; the input reads as it did. -/
def fnExactSameRingUptoRow : OpenClaim := { program := "ytpfdegimnjbehab", sum := "ae8ca8f93cb83ab0e8b79386fbad9168c632ccb71010bd9ec944b10664f23097", func := "loop.example/g01173/laws.FnExactSameRing", spec := "fnExactSameRing", inPlace := ["math.Float32bits"], unfollowed := true, recurses := true, apart := false, narrowed := true }
def FnExactSameRingUptoSaid : Prop := fnExactSameRingUptoRow.holds Try.pinned (OpenSpec.upto fnExactSameRingSpec)

/-- 'laws.FnExactPushSample', WHERE WHAT IT READS IS OF BULK AT MOST 1048576: true; the input reads as it did. -/
def fnExactPushSampleUptoRow : OpenClaim := { program := "ytpfdegimnjbehab", sum := "ae8ca8f93cb83ab0e8b79386fbad9168c632ccb71010bd9ec944b10664f23097", func := "loop.example/g01173/laws.FnExactPushSample", spec := "fnExactPushSample", apart := false, narrowed := true }
def FnExactPushSampleUptoSaid : Prop := fnExactPushSampleUptoRow.holds Try.pinned (OpenSpec.upto fnExactPushSampleSpec)

/-- 'laws.FnExactReadBack', WHERE WHAT IT READS IS OF BULK AT MOST 1048576: true; the input reads as it did. -/
def fnExactReadBackUptoRow : OpenClaim := { program := "ytpfdegimnjbehab", sum := "ae8ca8f93cb83ab0e8b79386fbad9168c632ccb71010bd9ec944b10664f23097", func := "loop.example/g01173/laws.FnExactReadBack", spec := "fnExactReadBack", apart := false, narrowed := true }
def FnExactReadBackUptoSaid : Prop := fnExactReadBackUptoRow.holds Try.pinned (OpenSpec.upto fnExactReadBackSpec)

/-- 'laws.FnExactReadBetween', WHERE WHAT IT READS IS OF BULK AT MOST 1048576: true; the input reads as it did. -/
def fnExactReadBetweenUptoRow : OpenClaim := { program := "ytpfdegimnjbehab", sum := "ae8ca8f93cb83ab0e8b79386fbad9168c632ccb71010bd9ec944b10664f23097", func := "loop.example/g01173/laws.FnExactReadBetween", spec := "fnExactReadBetween", apart := false, narrowed := true }
def FnExactReadBetweenUptoSaid : Prop := fnExactReadBetweenUptoRow.holds Try.pinned (OpenSpec.upto fnExactReadBetweenSpec)

/-- 'laws.FnExactTurnRing', WHERE WHAT IT READS IS OF BULK AT MOST 1048576: true; the input reads as it did. -/
def fnExactTurnRingUptoRow : OpenClaim := { program := "ytpfdegimnjbehab", sum := "ae8ca8f93cb83ab0e8b79386fbad9168c632ccb71010bd9ec944b10664f23097", func := "loop.example/g01173/laws.FnExactTurnRing", spec := "fnExactTurnRing", apart := false, narrowed := true }
def FnExactTurnRingUptoSaid : Prop := fnExactTurnRingUptoRow.holds Try.pinned (OpenSpec.upto fnExactTurnRingSpec)

/-- 'laws.FnExactOnePole', WHERE WHAT IT READS IS OF BULK AT MOST 1048576: true; the input reads as it did. -/
def fnExactOnePoleUptoRow : OpenClaim := { program := "ytpfdegimnjbehab", sum := "ae8ca8f93cb83ab0e8b79386fbad9168c632ccb71010bd9ec944b10664f23097", func := "loop.example/g01173/laws.FnExactOnePole", spec := "fnExactOnePole", apart := false, narrowed := true }
def FnExactOnePoleUptoSaid : Prop := fnExactOnePoleUptoRow.holds Try.pinned (OpenSpec.upto fnExactOnePoleSpec)

/-- 'laws.FnExactOneZero', WHERE WHAT IT READS IS OF BULK AT MOST 1048576: true; the input reads as it did. -/
def fnExactOneZeroUptoRow : OpenClaim := { program := "ytpfdegimnjbehab", sum := "ae8ca8f93cb83ab0e8b79386fbad9168c632ccb71010bd9ec944b10664f23097", func := "loop.example/g01173/laws.FnExactOneZero", spec := "fnExactOneZero", apart := false, narrowed := true }
def FnExactOneZeroUptoSaid : Prop := fnExactOneZeroUptoRow.holds Try.pinned (OpenSpec.upto fnExactOneZeroSpec)

/-- 'laws.FnExactAllpassFor', WHERE WHAT IT READS IS OF BULK AT MOST 1048576: true; the input reads as it did. -/
def fnExactAllpassForUptoRow : OpenClaim := { program := "ytpfdegimnjbehab", sum := "ae8ca8f93cb83ab0e8b79386fbad9168c632ccb71010bd9ec944b10664f23097", func := "loop.example/g01173/laws.FnExactAllpassFor", spec := "fnExactAllpassFor", apart := false, narrowed := true }
def FnExactAllpassForUptoSaid : Prop := fnExactAllpassForUptoRow.holds Try.pinned (OpenSpec.upto fnExactAllpassForSpec)

/-- 'laws.FnExactTwoPole', WHERE WHAT IT READS IS OF BULK AT MOST 1048576: true; the input reads as it did. -/
def fnExactTwoPoleUptoRow : OpenClaim := { program := "ytpfdegimnjbehab", sum := "ae8ca8f93cb83ab0e8b79386fbad9168c632ccb71010bd9ec944b10664f23097", func := "loop.example/g01173/laws.FnExactTwoPole", spec := "fnExactTwoPole", inPlace := ["math.Float64frombits", "math.archFloor", "math.Float64bits", "math.archTrunc", "math.Float32frombits"], unfollowed := true, recurses := true, apart := false, narrowed := true }
def FnExactTwoPoleUptoSaid : Prop := fnExactTwoPoleUptoRow.holds Try.pinned (OpenSpec.upto fnExactTwoPoleSpec)

end Rows
end Go.Proofs.Ytpfdegimnjbehab
