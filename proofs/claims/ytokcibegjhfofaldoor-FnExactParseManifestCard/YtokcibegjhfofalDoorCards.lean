/-
  DERIVED. GIVEN WITH THE SEED: THE CARDS: each row of YtokcibegjhfofalDoorRows.lean that lists a variable, with what it lists TIED to the program's text (the seventh form; the later family's looks); each row that meets fmt, with fmt's text TOLD by the authors' own Lean function (tested against real Go, not proved from fmt's source: count such statements apart). THE CARD IS WHAT COUNTS. Prove the row's statement (the work); the ties are given (YtokcibegjhfofalDoorTie.lean); close each card by the builder's one call (the guide's Derived/Test/ToyasCard.lean, 'card_holds'). Laid BY PROGRAM, IN A SANDBOX (cutbox-door.mjs). By AI agents, Wed Nov 11 2026. No macro, syntax, notation, axiom, sorry.
-/
import Derived.Test.YtokcibegjhfofalDoorRows
import GoSem.ClaimSeven
namespace Go.Proofs.YtokcibegjhfofalDoor
namespace Rows

/-- THE TIED CARD OF 'laws.FnExactParseManifest'. -/
def fnExactParseManifestCard : Claim7 := { stood := { row := fnExactParseManifestRow, standIns := [], harness := (true, "b73004b02dc5e3aa9f0696cff8d1fba7e041a131b709e0becd4648058b5af026"), looks := false }, kinds := [], alts := [], laidByText := true, laidKinds := [.sentinel], laidTests := true, laidLooks := .later }
def FnExactParseManifestCardSaid : Prop := Claim7.holds Tryd.pinned (.plain (OpenSpec.ofChange fnExactParseManifestSpec)) fnExactParseManifestCard

/-- THE SECOND FORM's CARD OF 'laws.FnExactParseManifest'. -/
def fnExactParseManifestUptoCard : Claim7 := { stood := { row := fnExactParseManifestUptoRow, standIns := [], harness := (true, "b73004b02dc5e3aa9f0696cff8d1fba7e041a131b709e0becd4648058b5af026"), looks := false }, kinds := [], alts := [], laidByText := true, laidKinds := [.sentinel], laidTests := true, laidLooks := .later }
def FnExactParseManifestUptoCardSaid : Prop := Claim7.holds Tryd.pinned (.plain (OpenSpec.upto fnExactParseManifestSpec)) fnExactParseManifestUptoCard
end Rows
end Go.Proofs.YtokcibegjhfofalDoor
