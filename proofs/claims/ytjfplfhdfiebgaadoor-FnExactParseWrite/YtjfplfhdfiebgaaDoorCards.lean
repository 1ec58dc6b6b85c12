/-
  DERIVED. GIVEN WITH THE SEED: THE CARDS: each row of YtjfplfhdfiebgaaDoorRows.lean that lists a variable, with what it lists TIED to the program's text (the seventh form; the later family's looks); each row that meets fmt, with fmt's text TOLD by the authors' own Lean function (tested against real Go, not proved from fmt's source: count such statements apart). THE CARD IS WHAT COUNTS. Prove the row's statement (the work); the ties are given (YtjfplfhdfiebgaaDoorTie.lean); close each card by the builder's one call (the guide's Derived/Test/ToyasCard.lean, 'card_holds'). Laid BY PROGRAM, IN A SANDBOX (cutbox-door.mjs). By AI agents, Wed Nov 11 2026. No macro, syntax, notation, axiom, sorry.
-/
import Derived.Test.YtjfplfhdfiebgaaDoorRows
import GoSem.ClaimSeven
namespace Go.Proofs.YtjfplfhdfiebgaaDoor
namespace Rows

/-- THE TIED CARD OF 'laws.FnExactWriteText'. -/
def fnExactWriteTextCard : Claim7 := { stood := { row := fnExactWriteTextRow, standIns := [], harness := (true, "260e250deacc251c382707a9cb35993e7ecc577f70f1c042a280bdb4bf1a9cf7"), looks := true }, kinds := [], alts := [], laidByText := true, laidKinds := [.data, .data, .data], laidTests := true, laidLooks := .later }
def FnExactWriteTextCardSaid : Prop := Claim7.holds Tryd.pinned (.plain (OpenSpec.ofChange fnExactWriteTextSpec)) fnExactWriteTextCard

/-- THE TIED CARD OF 'laws.FnExactParseWrite'. -/
def fnExactParseWriteCard : Claim7 := { stood := { row := fnExactParseWriteRow, standIns := [], harness := (true, "260e250deacc251c382707a9cb35993e7ecc577f70f1c042a280bdb4bf1a9cf7"), looks := true }, kinds := [], alts := [], laidByText := true, laidKinds := [.data, .pinned], laidTests := true, laidLooks := .later }
def FnExactParseWriteCardSaid : Prop := Claim7.holds Tryd.pinned (.plain (OpenSpec.ofChange fnExactParseWriteSpec)) fnExactParseWriteCard

/-- THE SECOND FORM's CARD OF 'laws.FnExactWriteText'. -/
def fnExactWriteTextUptoCard : Claim7 := { stood := { row := fnExactWriteTextUptoRow, standIns := [], harness := (true, "260e250deacc251c382707a9cb35993e7ecc577f70f1c042a280bdb4bf1a9cf7"), looks := true }, kinds := [], alts := [], laidByText := true, laidKinds := [.data, .data, .data], laidTests := true, laidLooks := .later }
def FnExactWriteTextUptoCardSaid : Prop := Claim7.holds Tryd.pinned (.plain (OpenSpec.upto fnExactWriteTextSpec)) fnExactWriteTextUptoCard

/-- THE SECOND FORM's CARD OF 'laws.FnExactParseWrite'. -/
def fnExactParseWriteUptoCard : Claim7 := { stood := { row := fnExactParseWriteUptoRow, standIns := [], harness := (true, "260e250deacc251c382707a9cb35993e7ecc577f70f1c042a280bdb4bf1a9cf7"), looks := true }, kinds := [], alts := [], laidByText := true, laidKinds := [.data, .pinned], laidTests := true, laidLooks := .later }
def FnExactParseWriteUptoCardSaid : Prop := Claim7.holds Tryd.pinned (.plain (OpenSpec.upto fnExactParseWriteSpec)) fnExactParseWriteUptoCard
end Rows
end Go.Proofs.YtjfplfhdfiebgaaDoor
