/-
  DERIVED. GIVEN WITH THE SEED: THE CARDS: each row of YtomphbenbnnfgaaGreatDoorRows.lean that lists a variable, with what it lists TIED to the program's text (the seventh form; the later family's looks); each row that meets fmt, with fmt's text TOLD by the authors' own Lean function (tested against real Go, not proved from fmt's source: count such statements apart). THE CARD IS WHAT COUNTS. Prove the row's statement (the work); the ties are given (YtomphbenbnnfgaaGreatDoorTie.lean); close each card by the builder's one call (the guide's Derived/Test/ToyasCard.lean, 'card_holds'). Laid BY PROGRAM, IN A SANDBOX (cutbox-door.mjs). By AI agents, Wed Nov 11 2026. No macro, syntax, notation, axiom, sorry.
-/
import Derived.Test.YtomphbenbnnfgaaGreatDoorRows
import GoSem.ClaimSeven
namespace Go.Proofs.YtomphbenbnnfgaaGreatDoor
namespace Rows

/-- THE TIED CARD OF 'laws.FnExactAskWorld'. -/
def fnExactAskWorldCard : Claim7 := { stood := { row := fnExactAskWorldRow, standIns := [], harness := (true, "d2760f3152ed4645641a0ab4a0432371c3f646b2db4bf002026fdb18aea7df91"), looks := true }, kinds := [], alts := [], laidByText := true, laidKinds := [.handle, .sentinel], laidTests := true, laidLooks := .later }
def FnExactAskWorldCardSaid : Prop := Claim7.holds Tryz.pinned (.plain (OpenSpec.ofChange fnExactAskWorldSpec)) fnExactAskWorldCard

/-- THE TIED CARD OF 'laws.FnExactHearWorld'. -/
def fnExactHearWorldCard : Claim7 := { stood := { row := fnExactHearWorldRow, standIns := [], harness := (true, "d2760f3152ed4645641a0ab4a0432371c3f646b2db4bf002026fdb18aea7df91"), looks := true }, kinds := [], alts := [], laidByText := true, laidKinds := [.handle, .sentinel], laidTests := true, laidLooks := .later }
def FnExactHearWorldCardSaid : Prop := Claim7.holds Tryz.pinned (.plain (OpenSpec.ofChange fnExactHearWorldSpec)) fnExactHearWorldCard

/-- THE TIED CARD OF 'laws.FnHears'. -/
def fnHearsCard : Claim7 := { stood := { row := fnHearsRow, standIns := [], harness := (true, "d2760f3152ed4645641a0ab4a0432371c3f646b2db4bf002026fdb18aea7df91"), looks := true }, kinds := [], alts := [], laidByText := true, laidKinds := [.handle, .sentinel], laidTests := true, laidLooks := .later }
def FnHearsCardSaid : Prop := Claim7.holds Tryz.pinned (.plain (OpenSpec.ofChange fnHearsSpec)) fnHearsCard

/-- THE TIED CARD OF 'laws.FnAsked'. -/
def fnAskedCard : Claim7 := { stood := { row := fnAskedRow, standIns := [], harness := (true, "d2760f3152ed4645641a0ab4a0432371c3f646b2db4bf002026fdb18aea7df91"), looks := true }, kinds := [], alts := [], laidByText := true, laidKinds := [.handle, .sentinel], laidTests := true, laidLooks := .later }
def FnAskedCardSaid : Prop := Claim7.holds Tryz.pinned (.plain (OpenSpec.ofChange fnAskedSpec)) fnAskedCard

/-- THE SECOND FORM's CARD OF 'laws.FnExactAskWorld'. -/
def fnExactAskWorldUptoCard : Claim7 := { stood := { row := fnExactAskWorldUptoRow, standIns := [], harness := (true, "d2760f3152ed4645641a0ab4a0432371c3f646b2db4bf002026fdb18aea7df91"), looks := true }, kinds := [], alts := [], laidByText := true, laidKinds := [.handle, .sentinel], laidTests := true, laidLooks := .later }
def FnExactAskWorldUptoCardSaid : Prop := Claim7.holds Tryz.pinned (.plain (OpenSpec.upto fnExactAskWorldSpec)) fnExactAskWorldUptoCard

/-- THE SECOND FORM's CARD OF 'laws.FnExactHearWorld'. -/
def fnExactHearWorldUptoCard : Claim7 := { stood := { row := fnExactHearWorldUptoRow, standIns := [], harness := (true, "d2760f3152ed4645641a0ab4a0432371c3f646b2db4bf002026fdb18aea7df91"), looks := true }, kinds := [], alts := [], laidByText := true, laidKinds := [.handle, .sentinel], laidTests := true, laidLooks := .later }
def FnExactHearWorldUptoCardSaid : Prop := Claim7.holds Tryz.pinned (.plain (OpenSpec.upto fnExactHearWorldSpec)) fnExactHearWorldUptoCard

/-- THE SECOND FORM's CARD OF 'laws.FnHears'. -/
def fnHearsUptoCard : Claim7 := { stood := { row := fnHearsUptoRow, standIns := [], harness := (true, "d2760f3152ed4645641a0ab4a0432371c3f646b2db4bf002026fdb18aea7df91"), looks := true }, kinds := [], alts := [], laidByText := true, laidKinds := [.handle, .sentinel], laidTests := true, laidLooks := .later }
def FnHearsUptoCardSaid : Prop := Claim7.holds Tryz.pinned (.plain (OpenSpec.upto fnHearsSpec)) fnHearsUptoCard

/-- THE SECOND FORM's CARD OF 'laws.FnAsked'. -/
def fnAskedUptoCard : Claim7 := { stood := { row := fnAskedUptoRow, standIns := [], harness := (true, "d2760f3152ed4645641a0ab4a0432371c3f646b2db4bf002026fdb18aea7df91"), looks := true }, kinds := [], alts := [], laidByText := true, laidKinds := [.handle, .sentinel], laidTests := true, laidLooks := .later }
def FnAskedUptoCardSaid : Prop := Claim7.holds Tryz.pinned (.plain (OpenSpec.upto fnAskedSpec)) fnAskedUptoCard
end Rows
end Go.Proofs.YtomphbenbnnfgaaGreatDoor
