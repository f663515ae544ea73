/-
  DERIVED. GIVEN WITH THE SEED: THE CARDS: each row of YtjieojfcmigcdaaGreatDoorRows.lean that lists a variable, with what it lists TIED to the program's text (the seventh form; the later family's looks); each row that meets fmt, with fmt's text TOLD by the authors' own Lean function (tested against real Go, not proved from fmt's source: count such statements apart). THE CARD IS WHAT COUNTS. Prove the row's statement (the work); the ties are given (YtjieojfcmigcdaaGreatDoorTie.lean); close each card by the builder's one call (the guide's Derived/Test/ToyasCard.lean, 'card_holds'). Laid BY PROGRAM, IN A SANDBOX (cutbox-door.mjs). By AI agents, Wed Nov 11 2026. No macro, syntax, notation, axiom, sorry.
-/
import Derived.Test.YtjieojfcmigcdaaGreatDoorRows
import GoSem.ClaimSeven
namespace Go.Proofs.YtjieojfcmigcdaaGreatDoor
namespace Rows

/-- THE TIED CARD OF 'laws.FnExactShowStore'. -/
def fnExactShowStoreCard : Claim7 := { stood := { row := fnExactShowStoreRow, standIns := [], harness := (true, "ca257c8c4309615a788fe1be0ad37a2389f4c2c1eb188ba00b7ba62152d6726c"), looks := false }, kinds := [], alts := [], laidByText := true, laidKinds := [.data, .data, .data], laidTests := true, laidLooks := .later }
def FnExactShowStoreCardSaid : Prop := Claim7.holds Tryz.pinned (.plain (OpenSpec.ofChange fnExactShowStoreSpec)) fnExactShowStoreCard

/-- THE TIED CARD OF 'laws.FnExactShowWorld'. -/
def fnExactShowWorldCard : Claim7 := { stood := { row := fnExactShowWorldRow, standIns := [], harness := (true, "ca257c8c4309615a788fe1be0ad37a2389f4c2c1eb188ba00b7ba62152d6726c"), looks := false }, kinds := [], alts := [], laidByText := true, laidKinds := [.data, .data, .data], laidTests := true, laidLooks := .later }
def FnExactShowWorldCardSaid : Prop := Claim7.holds Tryz.pinned (.plain (OpenSpec.ofChange fnExactShowWorldSpec)) fnExactShowWorldCard

/-- THE SECOND FORM's CARD OF 'laws.FnExactShowStore'. -/
def fnExactShowStoreUptoCard : Claim7 := { stood := { row := fnExactShowStoreUptoRow, standIns := [], harness := (true, "ca257c8c4309615a788fe1be0ad37a2389f4c2c1eb188ba00b7ba62152d6726c"), looks := false }, kinds := [], alts := [], laidByText := true, laidKinds := [.data, .data, .data], laidTests := true, laidLooks := .later }
def FnExactShowStoreUptoCardSaid : Prop := Claim7.holds Tryz.pinned (.plain (OpenSpec.upto fnExactShowStoreSpec)) fnExactShowStoreUptoCard

/-- THE SECOND FORM's CARD OF 'laws.FnExactShowWorld'. -/
def fnExactShowWorldUptoCard : Claim7 := { stood := { row := fnExactShowWorldUptoRow, standIns := [], harness := (true, "ca257c8c4309615a788fe1be0ad37a2389f4c2c1eb188ba00b7ba62152d6726c"), looks := false }, kinds := [], alts := [], laidByText := true, laidKinds := [.data, .data, .data], laidTests := true, laidLooks := .later }
def FnExactShowWorldUptoCardSaid : Prop := Claim7.holds Tryz.pinned (.plain (OpenSpec.upto fnExactShowWorldSpec)) fnExactShowWorldUptoCard
end Rows
end Go.Proofs.YtjieojfcmigcdaaGreatDoor
