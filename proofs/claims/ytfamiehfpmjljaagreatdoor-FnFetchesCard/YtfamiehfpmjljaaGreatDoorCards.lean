/-
  DERIVED. GIVEN WITH THE SEED: THE CARDS: each row of YtfamiehfpmjljaaGreatDoorRows.lean that lists a variable, with what it lists TIED to the program's text (the seventh form; the later family's looks); each row that meets fmt, with fmt's text TOLD by the authors' own Lean function (tested against real Go, not proved from fmt's source: count such statements apart). THE CARD IS WHAT COUNTS. Prove the row's statement (the work); the ties are given (YtfamiehfpmjljaaGreatDoorTie.lean); close each card by the builder's one call (the guide's Derived/Test/ToyasCard.lean, 'card_holds'). Laid BY PROGRAM, IN A SANDBOX (cutbox-door.mjs). By AI agents, Wed Nov 11 2026. No macro, syntax, notation, axiom, sorry.
-/
import Derived.Test.YtfamiehfpmjljaaGreatDoorRows
import GoSem.ClaimSeven
namespace Go.Proofs.YtfamiehfpmjljaaGreatDoor
namespace Rows

/-- THE TIED CARD OF 'laws.FnFetches'. -/
def fnFetchesCard : Claim7 := { stood := { row := fnFetchesRow, standIns := [], harness := (true, "cf2cb451c673513ff2a688e9636d451659a2fa732e06a9d36d6964096a6800c7"), looks := true }, kinds := [], alts := [], laidByText := true, laidKinds := [.handle, .sentinel, .sentinel], laidTests := true, laidLooks := .later }
def FnFetchesCardSaid : Prop := Claim7.holds Tryz.pinned (.plain (OpenSpec.ofChange fnFetchesSpec)) fnFetchesCard

/-- THE TIED CARD OF 'laws.FnAsks'. -/
def fnAsksCard : Claim7 := { stood := { row := fnAsksRow, standIns := [], harness := (true, "cf2cb451c673513ff2a688e9636d451659a2fa732e06a9d36d6964096a6800c7"), looks := true }, kinds := [], alts := [], laidByText := true, laidKinds := [.handle, .sentinel, .sentinel], laidTests := true, laidLooks := .later }
def FnAsksCardSaid : Prop := Claim7.holds Tryz.pinned (.plain (OpenSpec.ofChange fnAsksSpec)) fnAsksCard

/-- THE TIED CARD OF 'laws.FnExactAskFetch'. -/
def fnExactAskFetchCard : Claim7 := { stood := { row := fnExactAskFetchRow, standIns := [], harness := (true, "cf2cb451c673513ff2a688e9636d451659a2fa732e06a9d36d6964096a6800c7"), looks := true }, kinds := [], alts := [], laidByText := true, laidKinds := [.handle, .sentinel, .sentinel], laidTests := true, laidLooks := .later }
def FnExactAskFetchCardSaid : Prop := Claim7.holds Tryz.pinned (.plain (OpenSpec.ofChange fnExactAskFetchSpec)) fnExactAskFetchCard

/-- THE TIED CARD OF 'laws.FnExactHearFetch'. -/
def fnExactHearFetchCard : Claim7 := { stood := { row := fnExactHearFetchRow, standIns := [], harness := (true, "cf2cb451c673513ff2a688e9636d451659a2fa732e06a9d36d6964096a6800c7"), looks := true }, kinds := [], alts := [], laidByText := true, laidKinds := [.handle, .sentinel, .sentinel], laidTests := true, laidLooks := .later }
def FnExactHearFetchCardSaid : Prop := Claim7.holds Tryz.pinned (.plain (OpenSpec.ofChange fnExactHearFetchSpec)) fnExactHearFetchCard

/-- THE TIED CARD OF 'laws.FnExactLoseFetch'. -/
def fnExactLoseFetchCard : Claim7 := { stood := { row := fnExactLoseFetchRow, standIns := [], harness := (true, "cf2cb451c673513ff2a688e9636d451659a2fa732e06a9d36d6964096a6800c7"), looks := true }, kinds := [], alts := [], laidByText := true, laidKinds := [.handle, .sentinel, .sentinel], laidTests := true, laidLooks := .later }
def FnExactLoseFetchCardSaid : Prop := Claim7.holds Tryz.pinned (.plain (OpenSpec.ofChange fnExactLoseFetchSpec)) fnExactLoseFetchCard

/-- THE TIED CARD OF 'laws.FnExactForgetFailed'. -/
def fnExactForgetFailedCard : Claim7 := { stood := { row := fnExactForgetFailedRow, standIns := [], harness := (true, "cf2cb451c673513ff2a688e9636d451659a2fa732e06a9d36d6964096a6800c7"), looks := true }, kinds := [], alts := [], laidByText := true, laidKinds := [.handle, .sentinel], laidTests := true, laidLooks := .later }
def FnExactForgetFailedCardSaid : Prop := Claim7.holds Tryz.pinned (.plain (OpenSpec.ofChange fnExactForgetFailedSpec)) fnExactForgetFailedCard

/-- THE SECOND FORM's CARD OF 'laws.FnFetches'. -/
def fnFetchesUptoCard : Claim7 := { stood := { row := fnFetchesUptoRow, standIns := [], harness := (true, "cf2cb451c673513ff2a688e9636d451659a2fa732e06a9d36d6964096a6800c7"), looks := true }, kinds := [], alts := [], laidByText := true, laidKinds := [.handle, .sentinel, .sentinel], laidTests := true, laidLooks := .later }
def FnFetchesUptoCardSaid : Prop := Claim7.holds Tryz.pinned (.plain (OpenSpec.upto fnFetchesSpec)) fnFetchesUptoCard

/-- THE SECOND FORM's CARD OF 'laws.FnAsks'. -/
def fnAsksUptoCard : Claim7 := { stood := { row := fnAsksUptoRow, standIns := [], harness := (true, "cf2cb451c673513ff2a688e9636d451659a2fa732e06a9d36d6964096a6800c7"), looks := true }, kinds := [], alts := [], laidByText := true, laidKinds := [.handle, .sentinel, .sentinel], laidTests := true, laidLooks := .later }
def FnAsksUptoCardSaid : Prop := Claim7.holds Tryz.pinned (.plain (OpenSpec.upto fnAsksSpec)) fnAsksUptoCard

/-- THE SECOND FORM's CARD OF 'laws.FnExactAskFetch'. -/
def fnExactAskFetchUptoCard : Claim7 := { stood := { row := fnExactAskFetchUptoRow, standIns := [], harness := (true, "cf2cb451c673513ff2a688e9636d451659a2fa732e06a9d36d6964096a6800c7"), looks := true }, kinds := [], alts := [], laidByText := true, laidKinds := [.handle, .sentinel, .sentinel], laidTests := true, laidLooks := .later }
def FnExactAskFetchUptoCardSaid : Prop := Claim7.holds Tryz.pinned (.plain (OpenSpec.upto fnExactAskFetchSpec)) fnExactAskFetchUptoCard

/-- THE SECOND FORM's CARD OF 'laws.FnExactHearFetch'. -/
def fnExactHearFetchUptoCard : Claim7 := { stood := { row := fnExactHearFetchUptoRow, standIns := [], harness := (true, "cf2cb451c673513ff2a688e9636d451659a2fa732e06a9d36d6964096a6800c7"), looks := true }, kinds := [], alts := [], laidByText := true, laidKinds := [.handle, .sentinel, .sentinel], laidTests := true, laidLooks := .later }
def FnExactHearFetchUptoCardSaid : Prop := Claim7.holds Tryz.pinned (.plain (OpenSpec.upto fnExactHearFetchSpec)) fnExactHearFetchUptoCard

/-- THE SECOND FORM's CARD OF 'laws.FnExactLoseFetch'. -/
def fnExactLoseFetchUptoCard : Claim7 := { stood := { row := fnExactLoseFetchUptoRow, standIns := [], harness := (true, "cf2cb451c673513ff2a688e9636d451659a2fa732e06a9d36d6964096a6800c7"), looks := true }, kinds := [], alts := [], laidByText := true, laidKinds := [.handle, .sentinel, .sentinel], laidTests := true, laidLooks := .later }
def FnExactLoseFetchUptoCardSaid : Prop := Claim7.holds Tryz.pinned (.plain (OpenSpec.upto fnExactLoseFetchSpec)) fnExactLoseFetchUptoCard

/-- THE SECOND FORM's CARD OF 'laws.FnExactForgetFailed'. -/
def fnExactForgetFailedUptoCard : Claim7 := { stood := { row := fnExactForgetFailedUptoRow, standIns := [], harness := (true, "cf2cb451c673513ff2a688e9636d451659a2fa732e06a9d36d6964096a6800c7"), looks := true }, kinds := [], alts := [], laidByText := true, laidKinds := [.handle, .sentinel], laidTests := true, laidLooks := .later }
def FnExactForgetFailedUptoCardSaid : Prop := Claim7.holds Tryz.pinned (.plain (OpenSpec.upto fnExactForgetFailedSpec)) fnExactForgetFailedUptoCard
end Rows
end Go.Proofs.YtfamiehfpmjljaaGreatDoor
