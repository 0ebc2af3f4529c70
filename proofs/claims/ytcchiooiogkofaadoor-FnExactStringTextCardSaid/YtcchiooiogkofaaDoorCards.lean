/-
  DERIVED. GIVEN WITH THE SEED: THE CARDS: each row of YtcchiooiogkofaaDoorRows.lean that lists a variable, with what it lists TIED to the program's text (the seventh form; the later family's looks); each row that meets fmt, with fmt's text TOLD by the authors' own Lean function (tested against real Go, not proved from fmt's source: count such statements apart). THE CARD IS WHAT COUNTS. Prove the row's statement (the work); the ties are given (YtcchiooiogkofaaDoorTie.lean); close each card by the builder's one call (the guide's Derived/Test/ToyasCard.lean, 'card_holds'). Laid BY PROGRAM, IN A SANDBOX (cutbox-door.mjs). By AI agents, Wed Nov 11 2026. No macro, syntax, notation, axiom, sorry.
-/
import Derived.Test.YtcchiooiogkofaaDoorRows
import GoSem.ClaimSeven
namespace Go.Proofs.YtcchiooiogkofaaDoor
namespace Rows

/-- THE TIED CARD OF 'laws.FnExactFilterText'. -/
def fnExactFilterTextCard : Claim7 := { stood := { row := fnExactFilterTextRow, standIns := [], harness := (true, "20fa54197826053aceb1ae11da54f0df443f1111c326aa57ed0ea7e57770d918"), looks := true }, kinds := [], alts := [], laidByText := true, laidKinds := [.data, .data, .data], laidTests := true, laidLooks := .later }
def FnExactFilterTextCardSaid : Prop := Claim7.holds Tryd.pinned (.plain (OpenSpec.ofChange fnExactFilterTextSpec)) fnExactFilterTextCard

/-- THE TIED CARD OF 'laws.FnExactStringText'. -/
def fnExactStringTextCard : Claim7 := { stood := { row := fnExactStringTextRow, standIns := [], harness := (true, "20fa54197826053aceb1ae11da54f0df443f1111c326aa57ed0ea7e57770d918"), looks := true }, kinds := [], alts := [], laidByText := true, laidKinds := [.data, .data, .data], laidTests := true, laidLooks := .later }
def FnExactStringTextCardSaid : Prop := Claim7.holds Tryd.pinned (.plain (OpenSpec.ofChange fnExactStringTextSpec)) fnExactStringTextCard

/-- THE SECOND FORM's CARD OF 'laws.FnExactFilterText'. -/
def fnExactFilterTextUptoCard : Claim7 := { stood := { row := fnExactFilterTextUptoRow, standIns := [], harness := (true, "20fa54197826053aceb1ae11da54f0df443f1111c326aa57ed0ea7e57770d918"), looks := true }, kinds := [], alts := [], laidByText := true, laidKinds := [.data, .data, .data], laidTests := true, laidLooks := .later }
def FnExactFilterTextUptoCardSaid : Prop := Claim7.holds Tryd.pinned (.plain (OpenSpec.upto fnExactFilterTextSpec)) fnExactFilterTextUptoCard

/-- THE SECOND FORM's CARD OF 'laws.FnExactStringText'. -/
def fnExactStringTextUptoCard : Claim7 := { stood := { row := fnExactStringTextUptoRow, standIns := [], harness := (true, "20fa54197826053aceb1ae11da54f0df443f1111c326aa57ed0ea7e57770d918"), looks := true }, kinds := [], alts := [], laidByText := true, laidKinds := [.data, .data, .data], laidTests := true, laidLooks := .later }
def FnExactStringTextUptoCardSaid : Prop := Claim7.holds Tryd.pinned (.plain (OpenSpec.upto fnExactStringTextSpec)) fnExactStringTextUptoCard
end Rows
end Go.Proofs.YtcchiooiogkofaaDoor
