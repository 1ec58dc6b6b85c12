/-
  DERIVED. GIVEN WITH THE SEED: THE CARDS: each row of YtbogjepkdcknfaaDoorRows.lean that lists a variable, with what it lists TIED to the program's text (the seventh form; the later family's looks); each row that meets fmt, with fmt's text TOLD by the authors' own Lean function (tested against real Go, not proved from fmt's source: count such statements apart). THE CARD IS WHAT COUNTS. Prove the row's statement (the work); the ties are given (YtbogjepkdcknfaaDoorTie.lean); close each card by the builder's one call (the guide's Derived/Test/ToyasCard.lean, 'card_holds'). Laid BY PROGRAM, IN A SANDBOX (cutbox-door.mjs). By AI agents, Wed Nov 11 2026. No macro, syntax, notation, axiom, sorry.
-/
import Derived.Test.YtbogjepkdcknfaaDoorRows
import GoSem.ClaimSeven
namespace Go.Proofs.YtbogjepkdcknfaaDoor
namespace Rows

/-- THE TIED CARD OF 'laws.FnExactTakeWrite'. -/
def fnExactTakeWriteCard : Claim7 := { stood := { row := fnExactTakeWriteRow, standIns := [], harness := (true, "f639550d537f0c2213add41fb1357824b553cec09d852ef2aad70db209fa6248"), looks := true }, kinds := [], alts := [], laidByText := true, laidKinds := [.handle, .sentinel], laidTests := true, laidLooks := .later }
def FnExactTakeWriteCardSaid : Prop := Claim7.holds Tryd.pinned (.plain (OpenSpec.ofChange fnExactTakeWriteSpec)) fnExactTakeWriteCard

/-- THE SECOND FORM's CARD OF 'laws.FnExactTakeWrite'. -/
def fnExactTakeWriteUptoCard : Claim7 := { stood := { row := fnExactTakeWriteUptoRow, standIns := [], harness := (true, "f639550d537f0c2213add41fb1357824b553cec09d852ef2aad70db209fa6248"), looks := true }, kinds := [], alts := [], laidByText := true, laidKinds := [.handle, .sentinel], laidTests := true, laidLooks := .later }
def FnExactTakeWriteUptoCardSaid : Prop := Claim7.holds Tryd.pinned (.plain (OpenSpec.upto fnExactTakeWriteSpec)) fnExactTakeWriteUptoCard
end Rows
end Go.Proofs.YtbogjepkdcknfaaDoor
