/-
  DERIVED. GIVEN WITH THE SEED: THE CARDS: each row of YtgbhhaobioafaaaDoorRows.lean that lists a variable, with what it lists TIED to the program's text (the seventh form; the later family's looks); each row that meets fmt, with fmt's text TOLD by the authors' own Lean function (tested against real Go, not proved from fmt's source: count such statements apart). THE CARD IS WHAT COUNTS. Prove the row's statement (the work); the ties are given (YtgbhhaobioafaaaDoorTie.lean); close each card by the builder's one call (the guide's Derived/Test/ToyasCard.lean, 'card_holds'). Laid BY PROGRAM, IN A SANDBOX (cutbox-door.mjs). By AI agents, Wed Nov 11 2026. No macro, syntax, notation, axiom, sorry.
-/
import Derived.Test.YtgbhhaobioafaaaDoorRows
import GoSem.ClaimSeven
namespace Go.Proofs.YtgbhhaobioafaaaDoor
namespace Rows

/-- THE TIED CARD OF 'laws.FnVecs'. -/
def fnVecsCard : Claim7 := { stood := { row := fnVecsRow, standIns := [], harness := (true, "6f84ecaf5e767f398a2124179c9b2e51fe5536c491b0c5644af09c5162372495"), looks := false }, kinds := [], alts := [], laidByText := true, laidKinds := [.data, .data, .data], laidTests := true, laidLooks := .later }
def FnVecsCardSaid : Prop := Claim7.holds Tryd.pinned (.plain (OpenSpec.ofChange fnVecsSpec)) fnVecsCard

/-- THE SECOND FORM's CARD OF 'laws.FnVecs'. -/
def fnVecsUptoCard : Claim7 := { stood := { row := fnVecsUptoRow, standIns := [], harness := (true, "6f84ecaf5e767f398a2124179c9b2e51fe5536c491b0c5644af09c5162372495"), looks := false }, kinds := [], alts := [], laidByText := true, laidKinds := [.data, .data, .data], laidTests := true, laidLooks := .later }
def FnVecsUptoCardSaid : Prop := Claim7.holds Tryd.pinned (.plain (OpenSpec.upto fnVecsSpec)) fnVecsUptoCard
end Rows
end Go.Proofs.YtgbhhaobioafaaaDoor
