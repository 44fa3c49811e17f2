/-
  DERIVED. GIVEN WITH THE SEED: THE CARDS: each row of YtokcibegjhfofakDoorRows.lean that lists a variable, with what it lists TIED to the program's text (the seventh form; the later family's looks); each row that meets fmt, with fmt's text TOLD by the authors' own Lean function (tested against real Go, not proved from fmt's source: count such statements apart). THE CARD IS WHAT COUNTS. Prove the row's statement (the work); the ties are given (YtokcibegjhfofakDoorTie.lean); close each card by the builder's one call (the guide's Derived/Test/ToyasCard.lean, 'card_holds'). Laid BY PROGRAM, IN A SANDBOX (cutbox-door.mjs). By AI agents, Wed Nov 11 2026. No macro, syntax, notation, axiom, sorry.
-/
import Derived.Test.YtokcibegjhfofakDoorRows
import GoSem.ClaimSeven
namespace Go.Proofs.YtokcibegjhfofakDoor
namespace Rows

/-- THE TIED CARD OF 'laws.FnExactEntryText'. -/
def fnExactEntryTextCard : Claim7 := { stood := { row := fnExactEntryTextRow, standIns := [], harness := (true, "9469f2b427c6c51865b2eb2afff7ade0de90df397e873c846daeb9e958655b48"), looks := false }, kinds := [], alts := [], laidByText := true, laidKinds := [.data, .data, .data], laidTests := true, laidLooks := .later }
def FnExactEntryTextCardSaid : Prop := Claim7.holds Tryd.pinned (.plain (OpenSpec.ofChange fnExactEntryTextSpec)) fnExactEntryTextCard

/-- THE TIED CARD OF 'laws.FnExactPackLayer'. -/
def fnExactPackLayerCard : Claim7 := { stood := { row := fnExactPackLayerRow, standIns := [], harness := (true, "9469f2b427c6c51865b2eb2afff7ade0de90df397e873c846daeb9e958655b48"), looks := false }, kinds := [], alts := [], laidByText := true, laidKinds := [.data, .data, .data], laidTests := true, laidLooks := .later }
def FnExactPackLayerCardSaid : Prop := Claim7.holds Tryd.pinned (.plain (OpenSpec.ofChange fnExactPackLayerSpec)) fnExactPackLayerCard

/-- THE SECOND FORM's CARD OF 'laws.FnExactEntryText'. -/
def fnExactEntryTextUptoCard : Claim7 := { stood := { row := fnExactEntryTextUptoRow, standIns := [], harness := (true, "9469f2b427c6c51865b2eb2afff7ade0de90df397e873c846daeb9e958655b48"), looks := false }, kinds := [], alts := [], laidByText := true, laidKinds := [.data, .data, .data], laidTests := true, laidLooks := .later }
def FnExactEntryTextUptoCardSaid : Prop := Claim7.holds Tryd.pinned (.plain (OpenSpec.upto fnExactEntryTextSpec)) fnExactEntryTextUptoCard

/-- THE SECOND FORM's CARD OF 'laws.FnExactPackLayer'. -/
def fnExactPackLayerUptoCard : Claim7 := { stood := { row := fnExactPackLayerUptoRow, standIns := [], harness := (true, "9469f2b427c6c51865b2eb2afff7ade0de90df397e873c846daeb9e958655b48"), looks := false }, kinds := [], alts := [], laidByText := true, laidKinds := [.data, .data, .data], laidTests := true, laidLooks := .later }
def FnExactPackLayerUptoCardSaid : Prop := Claim7.holds Tryd.pinned (.plain (OpenSpec.upto fnExactPackLayerSpec)) fnExactPackLayerUptoCard
end Rows
end Go.Proofs.YtokcibegjhfofakDoor
