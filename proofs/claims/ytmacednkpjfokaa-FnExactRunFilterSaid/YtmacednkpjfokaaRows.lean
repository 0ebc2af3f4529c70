/-
  No cell of these rows narrows 'for every input' (looked for: loops, veiled, ifaces, maps, wideKeys, modest, calm, conditions, laid).
  DERIVED. THE GIVEN ROWS OF THIS SEAT. 10 by the template 'for every input the law returns true; each argument reads behind the call as it read before'; 0 by the template 'total and deterministic' (their statements: YtmacednkpjfokaaTotals.lean).
  GIVEN WITH THE SEED: the statements are not yours to turn. If you find one false, say at which input.
  Laid BY PROGRAM, IN A SANDBOX (cutbox-rows.mjs): the forced cells as the released guide's own fill.sh prints them over the translation d34d92fd455e2b42… (all of the seat's roots in one cut). By AI agents, Wed Nov 11 2026. No macro, syntax, notation, axiom, sorry.
-/
import Derived.Test.YtmacednkpjfokaaChecked
import GoSem.Claim
import GoSem.ClaimJoined
import GoSem.ClaimMapViews
import Derived.JoinedTies
import Derived.KernelRfl
namespace Go.Proofs.Ytmacednkpjfokaa
/- THE CELL 'sum', in the pinned program and in every row, IS THE sha256 OF THE DUMP (.gsa) THAT YtmacednkpjfokaaProg.lean LOADS. Nothing in Lean hashes anything: it is a label: what it is worth is what the hold of that sum in a sandbox is worth. -/
noncomputable def Try.pinned : Pinned := { name := "ytmacednkpjfokaa", sum := "d34d92fd455e2b42fcad85d3a39adf821447f7b650fa3ea1187649bd7e1f6c42", checked := Try.checked }
namespace Rows
def none {H : Type} : Left H := { results := [], args := [] }

/-- 'laws.FnExactRunFilter': WHATEVER THE INPUT: true; the input reads as it did. -/
def fnExactRunFilterSpec : ChangeSpec := { name := "fnExactRunFilter", fn := fun _ => fun
  | [d1, d2] => { results := [.lit (.bool true)], args := [d1, d2] }
  | _ => none }
def fnExactRunFilterRow : OpenClaim := { program := "ytmacednkpjfokaa", sum := "d34d92fd455e2b42fcad85d3a39adf821447f7b650fa3ea1187649bd7e1f6c42", func := "loop.example/g01173/laws.FnExactRunFilter", spec := "fnExactRunFilter", inPlace := ["math.Float32bits", "math.Float32frombits"], unfollowed := true, recurses := true, apart := false }
def FnExactRunFilterSaid : Prop := fnExactRunFilterRow.holds Try.pinned (OpenSpec.ofChange fnExactRunFilterSpec)

/-- ITS FALSE NEIGHBOUR: 'it returns false'. Refute it at one input. -/
def fnExactRunFilterWrong : ChangeSpec := { name := "fnExactRunFilter", fn := fun _ => fun
  | [d1, d2] => { results := [.lit (.bool false)], args := [d1, d2] }
  | _ => none }
def FnExactRunFilterWrongFalsely : Prop := fnExactRunFilterRow.holds Try.pinned (OpenSpec.ofChange fnExactRunFilterWrong)

/-- 'laws.FnExactStepsToStill': WHATEVER THE INPUT: true; the input reads as it did. -/
def fnExactStepsToStillSpec : ChangeSpec := { name := "fnExactStepsToStill", fn := fun _ => fun
  | [d1, d2] => { results := [.lit (.bool true)], args := [d1, d2] }
  | _ => none }
def fnExactStepsToStillRow : OpenClaim := { program := "ytmacednkpjfokaa", sum := "d34d92fd455e2b42fcad85d3a39adf821447f7b650fa3ea1187649bd7e1f6c42", func := "loop.example/g01173/laws.FnExactStepsToStill", spec := "fnExactStepsToStill", inPlace := ["math.Float32bits", "math.Float32frombits"], unfollowed := true, recurses := true, apart := false }
def FnExactStepsToStillSaid : Prop := fnExactStepsToStillRow.holds Try.pinned (OpenSpec.ofChange fnExactStepsToStillSpec)

/-- ITS FALSE NEIGHBOUR: 'it returns false'. Refute it at one input. -/
def fnExactStepsToStillWrong : ChangeSpec := { name := "fnExactStepsToStill", fn := fun _ => fun
  | [d1, d2] => { results := [.lit (.bool false)], args := [d1, d2] }
  | _ => none }
def FnExactStepsToStillWrongFalsely : Prop := fnExactStepsToStillRow.holds Try.pinned (OpenSpec.ofChange fnExactStepsToStillWrong)

/-- 'laws.FnExactPluckString': WHATEVER THE INPUT: true; the input reads as it did. -/
def fnExactPluckStringSpec : ChangeSpec := { name := "fnExactPluckString", fn := fun _ => fun
  | [d1, d2, d3] => { results := [.lit (.bool true)], args := [d1, d2, d3] }
  | _ => none }
def fnExactPluckStringRow : OpenClaim := { program := "ytmacednkpjfokaa", sum := "d34d92fd455e2b42fcad85d3a39adf821447f7b650fa3ea1187649bd7e1f6c42", func := "loop.example/g01173/laws.FnExactPluckString", spec := "fnExactPluckString", inPlace := ["math.Float32bits"], unfollowed := true, recurses := true, apart := false }
def FnExactPluckStringSaid : Prop := fnExactPluckStringRow.holds Try.pinned (OpenSpec.ofChange fnExactPluckStringSpec)

/-- ITS FALSE NEIGHBOUR: 'it returns false'. Refute it at one input. -/
def fnExactPluckStringWrong : ChangeSpec := { name := "fnExactPluckString", fn := fun _ => fun
  | [d1, d2, d3] => { results := [.lit (.bool false)], args := [d1, d2, d3] }
  | _ => none }
def FnExactPluckStringWrongFalsely : Prop := fnExactPluckStringRow.holds Try.pinned (OpenSpec.ofChange fnExactPluckStringWrong)

/-- 'laws.FnExactStrikeString': WHATEVER THE INPUT: true; the input reads as it did. -/
def fnExactStrikeStringSpec : ChangeSpec := { name := "fnExactStrikeString", fn := fun _ => fun
  | [d1, d2, d3] => { results := [.lit (.bool true)], args := [d1, d2, d3] }
  | _ => none }
def fnExactStrikeStringRow : OpenClaim := { program := "ytmacednkpjfokaa", sum := "d34d92fd455e2b42fcad85d3a39adf821447f7b650fa3ea1187649bd7e1f6c42", func := "loop.example/g01173/laws.FnExactStrikeString", spec := "fnExactStrikeString", inPlace := ["math.Float32bits"], unfollowed := true, recurses := true, apart := false }
def FnExactStrikeStringSaid : Prop := fnExactStrikeStringRow.holds Try.pinned (OpenSpec.ofChange fnExactStrikeStringSpec)

/-- ITS FALSE NEIGHBOUR: 'it returns false'. Refute it at one input. -/
def fnExactStrikeStringWrong : ChangeSpec := { name := "fnExactStrikeString", fn := fun _ => fun
  | [d1, d2, d3] => { results := [.lit (.bool false)], args := [d1, d2, d3] }
  | _ => none }
def FnExactStrikeStringWrongFalsely : Prop := fnExactStrikeStringRow.holds Try.pinned (OpenSpec.ofChange fnExactStrikeStringWrong)

/-- 'laws.FnExactStepString': WHATEVER THE INPUT: true; the input reads as it did. -/
def fnExactStepStringSpec : ChangeSpec := { name := "fnExactStepString", fn := fun _ => fun
  | [d1, d2] => { results := [.lit (.bool true)], args := [d1, d2] }
  | _ => none }
def fnExactStepStringRow : OpenClaim := { program := "ytmacednkpjfokaa", sum := "d34d92fd455e2b42fcad85d3a39adf821447f7b650fa3ea1187649bd7e1f6c42", func := "loop.example/g01173/laws.FnExactStepString", spec := "fnExactStepString", inPlace := ["math.Float32bits", "math.Float32frombits"], unfollowed := true, recurses := true, apart := false }
def FnExactStepStringSaid : Prop := fnExactStepStringRow.holds Try.pinned (OpenSpec.ofChange fnExactStepStringSpec)

/-- ITS FALSE NEIGHBOUR: 'it returns false'. Refute it at one input. -/
def fnExactStepStringWrong : ChangeSpec := { name := "fnExactStepString", fn := fun _ => fun
  | [d1, d2] => { results := [.lit (.bool false)], args := [d1, d2] }
  | _ => none }
def FnExactStepStringWrongFalsely : Prop := fnExactStepStringRow.holds Try.pinned (OpenSpec.ofChange fnExactStepStringWrong)

/-- 'laws.FnExactPlayString': WHATEVER THE INPUT: true; the input reads as it did. -/
def fnExactPlayStringSpec : ChangeSpec := { name := "fnExactPlayString", fn := fun _ => fun
  | [d1, d2] => { results := [.lit (.bool true)], args := [d1, d2] }
  | _ => none }
def fnExactPlayStringRow : OpenClaim := { program := "ytmacednkpjfokaa", sum := "d34d92fd455e2b42fcad85d3a39adf821447f7b650fa3ea1187649bd7e1f6c42", func := "loop.example/g01173/laws.FnExactPlayString", spec := "fnExactPlayString", inPlace := ["math.Float32bits", "math.Float32frombits"], unfollowed := true, recurses := true, apart := false }
def FnExactPlayStringSaid : Prop := fnExactPlayStringRow.holds Try.pinned (OpenSpec.ofChange fnExactPlayStringSpec)

/-- ITS FALSE NEIGHBOUR: 'it returns false'. Refute it at one input. -/
def fnExactPlayStringWrong : ChangeSpec := { name := "fnExactPlayString", fn := fun _ => fun
  | [d1, d2] => { results := [.lit (.bool false)], args := [d1, d2] }
  | _ => none }
def FnExactPlayStringWrongFalsely : Prop := fnExactPlayStringRow.holds Try.pinned (OpenSpec.ofChange fnExactPlayStringWrong)

/-- 'laws.FnExactBlockOfString': WHATEVER THE INPUT: true; the input reads as it did. -/
def fnExactBlockOfStringSpec : ChangeSpec := { name := "fnExactBlockOfString", fn := fun _ => fun
  | [d1, d2] => { results := [.lit (.bool true)], args := [d1, d2] }
  | _ => none }
def fnExactBlockOfStringRow : OpenClaim := { program := "ytmacednkpjfokaa", sum := "d34d92fd455e2b42fcad85d3a39adf821447f7b650fa3ea1187649bd7e1f6c42", func := "loop.example/g01173/laws.FnExactBlockOfString", spec := "fnExactBlockOfString", inPlace := ["math.Float32bits", "math.Float32frombits"], unfollowed := true, recurses := true, apart := false }
def FnExactBlockOfStringSaid : Prop := fnExactBlockOfStringRow.holds Try.pinned (OpenSpec.ofChange fnExactBlockOfStringSpec)

/-- ITS FALSE NEIGHBOUR: 'it returns false'. Refute it at one input. -/
def fnExactBlockOfStringWrong : ChangeSpec := { name := "fnExactBlockOfString", fn := fun _ => fun
  | [d1, d2] => { results := [.lit (.bool false)], args := [d1, d2] }
  | _ => none }
def FnExactBlockOfStringWrongFalsely : Prop := fnExactBlockOfStringRow.holds Try.pinned (OpenSpec.ofChange fnExactBlockOfStringWrong)

/-- 'laws.FnExactMuteString': WHATEVER THE INPUT: true; the input reads as it did. -/
def fnExactMuteStringSpec : ChangeSpec := { name := "fnExactMuteString", fn := fun _ => fun
  | [d] => { results := [.lit (.bool true)], args := [d] }
  | _ => none }
def fnExactMuteStringRow : OpenClaim := { program := "ytmacednkpjfokaa", sum := "d34d92fd455e2b42fcad85d3a39adf821447f7b650fa3ea1187649bd7e1f6c42", func := "loop.example/g01173/laws.FnExactMuteString", spec := "fnExactMuteString", inPlace := ["math.Float32bits"], apart := false }
def FnExactMuteStringSaid : Prop := fnExactMuteStringRow.holds Try.pinned (OpenSpec.ofChange fnExactMuteStringSpec)

/-- ITS FALSE NEIGHBOUR: 'it returns false'. Refute it at one input. -/
def fnExactMuteStringWrong : ChangeSpec := { name := "fnExactMuteString", fn := fun _ => fun
  | [d] => { results := [.lit (.bool false)], args := [d] }
  | _ => none }
def FnExactMuteStringWrongFalsely : Prop := fnExactMuteStringRow.holds Try.pinned (OpenSpec.ofChange fnExactMuteStringWrong)

/-- 'laws.FnExactIsSilentString': WHATEVER THE INPUT: true; the input reads as it did. -/
def fnExactIsSilentStringSpec : ChangeSpec := { name := "fnExactIsSilentString", fn := fun _ => fun
  | [d] => { results := [.lit (.bool true)], args := [d] }
  | _ => none }
def fnExactIsSilentStringRow : OpenClaim := { program := "ytmacednkpjfokaa", sum := "d34d92fd455e2b42fcad85d3a39adf821447f7b650fa3ea1187649bd7e1f6c42", func := "loop.example/g01173/laws.FnExactIsSilentString", spec := "fnExactIsSilentString", inPlace := ["math.Float32bits"], apart := false }
def FnExactIsSilentStringSaid : Prop := fnExactIsSilentStringRow.holds Try.pinned (OpenSpec.ofChange fnExactIsSilentStringSpec)

/-- ITS FALSE NEIGHBOUR: 'it returns false'. Refute it at one input. -/
def fnExactIsSilentStringWrong : ChangeSpec := { name := "fnExactIsSilentString", fn := fun _ => fun
  | [d] => { results := [.lit (.bool false)], args := [d] }
  | _ => none }
def FnExactIsSilentStringWrongFalsely : Prop := fnExactIsSilentStringRow.holds Try.pinned (OpenSpec.ofChange fnExactIsSilentStringWrong)

/-- 'laws.FnExactStepsToSilence': WHATEVER THE INPUT: true; the input reads as it did. -/
def fnExactStepsToSilenceSpec : ChangeSpec := { name := "fnExactStepsToSilence", fn := fun _ => fun
  | [d1, d2] => { results := [.lit (.bool true)], args := [d1, d2] }
  | _ => none }
def fnExactStepsToSilenceRow : OpenClaim := { program := "ytmacednkpjfokaa", sum := "d34d92fd455e2b42fcad85d3a39adf821447f7b650fa3ea1187649bd7e1f6c42", func := "loop.example/g01173/laws.FnExactStepsToSilence", spec := "fnExactStepsToSilence", inPlace := ["math.Float32bits", "math.Float32frombits"], unfollowed := true, recurses := true, apart := false }
def FnExactStepsToSilenceSaid : Prop := fnExactStepsToSilenceRow.holds Try.pinned (OpenSpec.ofChange fnExactStepsToSilenceSpec)

/-- ITS FALSE NEIGHBOUR: 'it returns false'. Refute it at one input. -/
def fnExactStepsToSilenceWrong : ChangeSpec := { name := "fnExactStepsToSilence", fn := fun _ => fun
  | [d1, d2] => { results := [.lit (.bool false)], args := [d1, d2] }
  | _ => none }
def FnExactStepsToSilenceWrongFalsely : Prop := fnExactStepsToSilenceRow.holds Try.pinned (OpenSpec.ofChange fnExactStepsToSilenceWrong)

/- THE SECOND FORM. 'bulk': how many values and letters a reading holds, each counted each time it is reached (what is shared counts as often as it is met; a slice's spare places count too). A statement '..UptoSaid' is the law's where the arguments, and the package variables that the reading takes, are together of bulk at most 1048576: NARROWER than '..Said'. Prove '..Said' where nothing that the law and all that it calls make is longer than what came in: it says more and counts as full. Else prove '..UptoSaid'. A law counts once. -/
mutual
def uptoBulk {H : Type} : DataW H → Nat
  | .lit (.string bytes) => bytes.length + 1
  | .lit _ => 1
  | .nil => 1
  | .ptr d => uptoBulk d + 1
  | .slice elems spare => uptoBulkAll elems + uptoBulkAll spare + 1
  | .agg parts => uptoBulkAll parts + 1
  | .iface _ d => uptoBulk d + 1
  | .map entries => uptoBulkEntries entries + 1
  | .held _ => 1
def uptoBulkAll {H : Type} : List (DataW H) → Nat
  | [] => 0
  | d :: r => uptoBulk d + uptoBulkAll r
def uptoBulkEntries {H : Type} : List (Lit × DataW H) → Nat
  | [] => 0
  | x :: r => uptoBulkEntry x + uptoBulkEntries r
def uptoBulkEntry {H : Type} : Lit × DataW H → Nat
  | (.string bytes, d) => bytes.length + uptoBulk d + 1
  | (_, d) => uptoBulk d + 1
 end
def uptoSmall : (H : Type) → List (DataW H) → Bool := fun _ ds => decide (uptoBulkAll ds ≤ 1048576)
def OpenSpec.upto (s : _root_.Go.ChangeSpec) : _root_.Go.OpenSpec := { _root_.Go.OpenSpec.ofChange s with cond := some uptoSmall }

/-- 'laws.FnExactRunFilter', WHERE WHAT IT READS IS OF BULK AT MOST 1048576: true; the input reads as it did. -/
def fnExactRunFilterUptoRow : OpenClaim := { program := "ytmacednkpjfokaa", sum := "d34d92fd455e2b42fcad85d3a39adf821447f7b650fa3ea1187649bd7e1f6c42", func := "loop.example/g01173/laws.FnExactRunFilter", spec := "fnExactRunFilter", inPlace := ["math.Float32bits", "math.Float32frombits"], unfollowed := true, recurses := true, apart := false, narrowed := true }
def FnExactRunFilterUptoSaid : Prop := fnExactRunFilterUptoRow.holds Try.pinned (OpenSpec.upto fnExactRunFilterSpec)

/-- 'laws.FnExactStepsToStill', WHERE WHAT IT READS IS OF BULK AT MOST 1048576: true; the input reads as it did. -/
def fnExactStepsToStillUptoRow : OpenClaim := { program := "ytmacednkpjfokaa", sum := "d34d92fd455e2b42fcad85d3a39adf821447f7b650fa3ea1187649bd7e1f6c42", func := "loop.example/g01173/laws.FnExactStepsToStill", spec := "fnExactStepsToStill", inPlace := ["math.Float32bits", "math.Float32frombits"], unfollowed := true, recurses := true, apart := false, narrowed := true }
def FnExactStepsToStillUptoSaid : Prop := fnExactStepsToStillUptoRow.holds Try.pinned (OpenSpec.upto fnExactStepsToStillSpec)

/-- 'laws.FnExactPluckString', WHERE WHAT IT READS IS OF BULK AT MOST 1048576: true; the input reads as it did. -/
def fnExactPluckStringUptoRow : OpenClaim := { program := "ytmacednkpjfokaa", sum := "d34d92fd455e2b42fcad85d3a39adf821447f7b650fa3ea1187649bd7e1f6c42", func := "loop.example/g01173/laws.FnExactPluckString", spec := "fnExactPluckString", inPlace := ["math.Float32bits"], unfollowed := true, recurses := true, apart := false, narrowed := true }
def FnExactPluckStringUptoSaid : Prop := fnExactPluckStringUptoRow.holds Try.pinned (OpenSpec.upto fnExactPluckStringSpec)

/-- 'laws.FnExactStrikeString', WHERE WHAT IT READS IS OF BULK AT MOST 1048576: true; the input reads as it did. -/
def fnExactStrikeStringUptoRow : OpenClaim := { program := "ytmacednkpjfokaa", sum := "d34d92fd455e2b42fcad85d3a39adf821447f7b650fa3ea1187649bd7e1f6c42", func := "loop.example/g01173/laws.FnExactStrikeString", spec := "fnExactStrikeString", inPlace := ["math.Float32bits"], unfollowed := true, recurses := true, apart := false, narrowed := true }
def FnExactStrikeStringUptoSaid : Prop := fnExactStrikeStringUptoRow.holds Try.pinned (OpenSpec.upto fnExactStrikeStringSpec)

/-- 'laws.FnExactStepString', WHERE WHAT IT READS IS OF BULK AT MOST 1048576: true; the input reads as it did. -/
def fnExactStepStringUptoRow : OpenClaim := { program := "ytmacednkpjfokaa", sum := "d34d92fd455e2b42fcad85d3a39adf821447f7b650fa3ea1187649bd7e1f6c42", func := "loop.example/g01173/laws.FnExactStepString", spec := "fnExactStepString", inPlace := ["math.Float32bits", "math.Float32frombits"], unfollowed := true, recurses := true, apart := false, narrowed := true }
def FnExactStepStringUptoSaid : Prop := fnExactStepStringUptoRow.holds Try.pinned (OpenSpec.upto fnExactStepStringSpec)

/-- 'laws.FnExactPlayString', WHERE WHAT IT READS IS OF BULK AT MOST 1048576: true; the input reads as it did. -/
def fnExactPlayStringUptoRow : OpenClaim := { program := "ytmacednkpjfokaa", sum := "d34d92fd455e2b42fcad85d3a39adf821447f7b650fa3ea1187649bd7e1f6c42", func := "loop.example/g01173/laws.FnExactPlayString", spec := "fnExactPlayString", inPlace := ["math.Float32bits", "math.Float32frombits"], unfollowed := true, recurses := true, apart := false, narrowed := true }
def FnExactPlayStringUptoSaid : Prop := fnExactPlayStringUptoRow.holds Try.pinned (OpenSpec.upto fnExactPlayStringSpec)

/-- 'laws.FnExactBlockOfString', WHERE WHAT IT READS IS OF BULK AT MOST 1048576: true; the input reads as it did. -/
def fnExactBlockOfStringUptoRow : OpenClaim := { program := "ytmacednkpjfokaa", sum := "d34d92fd455e2b42fcad85d3a39adf821447f7b650fa3ea1187649bd7e1f6c42", func := "loop.example/g01173/laws.FnExactBlockOfString", spec := "fnExactBlockOfString", inPlace := ["math.Float32bits", "math.Float32frombits"], unfollowed := true, recurses := true, apart := false, narrowed := true }
def FnExactBlockOfStringUptoSaid : Prop := fnExactBlockOfStringUptoRow.holds Try.pinned (OpenSpec.upto fnExactBlockOfStringSpec)

/-- 'laws.FnExactMuteString', WHERE WHAT IT READS IS OF BULK AT MOST 1048576: true; the input reads as it did. -/
def fnExactMuteStringUptoRow : OpenClaim := { program := "ytmacednkpjfokaa", sum := "d34d92fd455e2b42fcad85d3a39adf821447f7b650fa3ea1187649bd7e1f6c42", func := "loop.example/g01173/laws.FnExactMuteString", spec := "fnExactMuteString", inPlace := ["math.Float32bits"], apart := false, narrowed := true }
def FnExactMuteStringUptoSaid : Prop := fnExactMuteStringUptoRow.holds Try.pinned (OpenSpec.upto fnExactMuteStringSpec)

/-- 'laws.FnExactIsSilentString', WHERE WHAT IT READS IS OF BULK AT MOST 1048576: true; the input reads as it did. -/
def fnExactIsSilentStringUptoRow : OpenClaim := { program := "ytmacednkpjfokaa", sum := "d34d92fd455e2b42fcad85d3a39adf821447f7b650fa3ea1187649bd7e1f6c42", func := "loop.example/g01173/laws.FnExactIsSilentString", spec := "fnExactIsSilentString", inPlace := ["math.Float32bits"], apart := false, narrowed := true }
def FnExactIsSilentStringUptoSaid : Prop := fnExactIsSilentStringUptoRow.holds Try.pinned (OpenSpec.upto fnExactIsSilentStringSpec)

/-- 'laws.FnExactStepsToSilence', WHERE WHAT IT READS IS OF BULK AT MOST 1048576: true; the input reads as it did. -/
def fnExactStepsToSilenceUptoRow : OpenClaim := { program := "ytmacednkpjfokaa", sum := "d34d92fd455e2b42fcad85d3a39adf821447f7b650fa3ea1187649bd7e1f6c42", func := "loop.example/g01173/laws.FnExactStepsToSilence", spec := "fnExactStepsToSilence", inPlace := ["math.Float32bits", "math.Float32frombits"], unfollowed := true, recurses := true, apart := false, narrowed := true }
def FnExactStepsToSilenceUptoSaid : Prop := fnExactStepsToSilenceUptoRow.holds Try.pinned (OpenSpec.upto fnExactStepsToSilenceSpec)

end Rows
end Go.Proofs.Ytmacednkpjfokaa
