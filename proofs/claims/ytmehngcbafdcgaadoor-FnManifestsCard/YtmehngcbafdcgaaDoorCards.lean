/-
  DERIVED. GIVEN WITH THE SEED: THE CARDS: each row of YtmehngcbafdcgaaDoorRows.lean that lists a variable, with what it lists TIED to the program's text (the seventh form; the later family's looks); each row that meets fmt, with fmt's text TOLD by the authors' own Lean function (tested against real Go, not proved from fmt's source: count such statements apart). THE CARD IS WHAT COUNTS. Prove the row's statement (the work); the ties are given (YtmehngcbafdcgaaDoorTie.lean); close each card by the builder's one call (the guide's Derived/Test/ToyasCard.lean, 'card_holds'). Laid BY PROGRAM, IN A SANDBOX (cutbox-door.mjs). By AI agents, Wed Nov 11 2026. No macro, syntax, notation, axiom, sorry.
-/
import Derived.Test.YtmehngcbafdcgaaDoorRows
import GoSem.ClaimSeven
namespace Go.Proofs.YtmehngcbafdcgaaDoor
namespace Rows

/-- THE TIED CARD OF 'laws.FnManifests'. -/
def fnManifestsCard : Claim7 := { stood := { row := fnManifestsRow, standIns := [], harness := (true, "77a2584470c7d40640df7b3cdfce91b574cf9aa9977c75f1355d230a95248823"), looks := false }, kinds := [], alts := [], laidByText := true, laidKinds := [.sentinel], laidTests := true, laidLooks := .later }
def FnManifestsCardSaid : Prop := Claim7.holds Tryd.pinned (.plain (OpenSpec.ofChange fnManifestsSpec)) fnManifestsCard

/-- THE SECOND FORM's CARD OF 'laws.FnManifests'. -/
def fnManifestsUptoCard : Claim7 := { stood := { row := fnManifestsUptoRow, standIns := [], harness := (true, "77a2584470c7d40640df7b3cdfce91b574cf9aa9977c75f1355d230a95248823"), looks := false }, kinds := [], alts := [], laidByText := true, laidKinds := [.sentinel], laidTests := true, laidLooks := .later }
def FnManifestsUptoCardSaid : Prop := Claim7.holds Tryd.pinned (.plain (OpenSpec.upto fnManifestsSpec)) fnManifestsUptoCard
end Rows
end Go.Proofs.YtmehngcbafdcgaaDoor
