/-
  DERIVED. GIVEN WITH THE SEED: THE CARDS: each row of YtkodenmpadehjaaDoorRows.lean that lists a variable, with what it lists TIED to the program's text (the seventh form; the later family's looks); each row that meets fmt, with fmt's text TOLD by the authors' own Lean function (tested against real Go, not proved from fmt's source: count such statements apart). THE CARD IS WHAT COUNTS. Prove the row's statement (the work); the ties are given (YtkodenmpadehjaaDoorTie.lean); close each card by the builder's one call (the guide's Derived/Test/ToyasCard.lean, 'card_holds'). Laid BY PROGRAM, IN A SANDBOX (cutbox-door.mjs). By AI agents, Wed Nov 11 2026. No macro, syntax, notation, axiom, sorry.
-/
import Derived.Test.YtkodenmpadehjaaDoorRows
import GoSem.ClaimSeven
namespace Go.Proofs.YtkodenmpadehjaaDoor
namespace Rows

/-- THE TIED CARD OF 'laws.FnOnce'. -/
def fnOnceCard : Claim7 := { stood := { row := fnOnceRow, standIns := [], harness := (true, "c0fe0f66f312895a4c702949930d2957bab271f47129081e44385ee83c36b9ee"), looks := true }, kinds := [], alts := [], laidByText := true, laidKinds := [.handle, .sentinel], laidTests := true, laidLooks := .later }
def FnOnceCardSaid : Prop := Claim7.holds Tryd.pinned (.plain (OpenSpec.ofChange fnOnceSpec)) fnOnceCard

/-- THE TIED CARD OF 'laws.FnExactAppendOnce'. -/
def fnExactAppendOnceCard : Claim7 := { stood := { row := fnExactAppendOnceRow, standIns := [], harness := (true, "c0fe0f66f312895a4c702949930d2957bab271f47129081e44385ee83c36b9ee"), looks := true }, kinds := [], alts := [], laidByText := true, laidKinds := [.handle, .sentinel], laidTests := true, laidLooks := .later }
def FnExactAppendOnceCardSaid : Prop := Claim7.holds Tryd.pinned (.plain (OpenSpec.ofChange fnExactAppendOnceSpec)) fnExactAppendOnceCard

/-- THE SECOND FORM's CARD OF 'laws.FnOnce'. -/
def fnOnceUptoCard : Claim7 := { stood := { row := fnOnceUptoRow, standIns := [], harness := (true, "c0fe0f66f312895a4c702949930d2957bab271f47129081e44385ee83c36b9ee"), looks := true }, kinds := [], alts := [], laidByText := true, laidKinds := [.handle, .sentinel], laidTests := true, laidLooks := .later }
def FnOnceUptoCardSaid : Prop := Claim7.holds Tryd.pinned (.plain (OpenSpec.upto fnOnceSpec)) fnOnceUptoCard

/-- THE SECOND FORM's CARD OF 'laws.FnExactAppendOnce'. -/
def fnExactAppendOnceUptoCard : Claim7 := { stood := { row := fnExactAppendOnceUptoRow, standIns := [], harness := (true, "c0fe0f66f312895a4c702949930d2957bab271f47129081e44385ee83c36b9ee"), looks := true }, kinds := [], alts := [], laidByText := true, laidKinds := [.handle, .sentinel], laidTests := true, laidLooks := .later }
def FnExactAppendOnceUptoCardSaid : Prop := Claim7.holds Tryd.pinned (.plain (OpenSpec.upto fnExactAppendOnceSpec)) fnExactAppendOnceUptoCard
end Rows
end Go.Proofs.YtkodenmpadehjaaDoor
