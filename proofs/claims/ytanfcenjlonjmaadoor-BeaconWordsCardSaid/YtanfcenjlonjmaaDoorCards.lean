/-
  DERIVED. GIVEN WITH THE SEED: THE CARDS: each row of YtanfcenjlonjmaaDoorRows.lean that lists a variable, with what it lists TIED to the program's text (the seventh form; the later family's looks); each row that meets fmt, with fmt's text TOLD by the authors' own Lean function (tested against real Go, not proved from fmt's source: count such statements apart). THE CARD IS WHAT COUNTS. Prove the row's statement (the work); the ties are given (YtanfcenjlonjmaaDoorTie.lean); close each card by the builder's one call (the guide's Derived/Test/ToyasCard.lean, 'card_holds'). Laid BY PROGRAM, IN A SANDBOX (cutbox-door.mjs). By AI agents, Wed Nov 11 2026. No macro, syntax, notation, axiom, sorry.
-/
import Derived.Test.YtanfcenjlonjmaaDoorRows
import GoSem.ClaimSeven
namespace Go.Proofs.YtanfcenjlonjmaaDoor
namespace Rows

/-- THE TIED CARD OF 'courierbaglaw12.BeaconDraws'. -/
def beaconDrawsCard : Claim7 := { stood := { row := beaconDrawsRow, standIns := [], harness := (true, "9cbbf720283e3551089559a883e666214af781629e753a28fa1e2ea4d24edb4c"), looks := false }, kinds := [], alts := [], laidByText := true, laidKinds := [.data], laidTests := true, laidLooks := .later }
def BeaconDrawsCardSaid : Prop := Claim7.holds Tryd.pinned (.plain (OpenSpec.ofChange beaconDrawsSpec)) beaconDrawsCard

/-- THE TIED CARD OF 'courierbaglaw12.BeaconWords'. -/
def beaconWordsCard : Claim7 := { stood := { row := beaconWordsRow, standIns := [], harness := (true, "9cbbf720283e3551089559a883e666214af781629e753a28fa1e2ea4d24edb4c"), looks := false }, kinds := [], alts := [], laidByText := true, laidKinds := [.data], laidTests := true, laidLooks := .later }
def BeaconWordsCardSaid : Prop := Claim7.holds Tryd.pinned (.plain (OpenSpec.ofChange beaconWordsSpec)) beaconWordsCard

/-- THE TIED CARD OF 'courierbaglaw12.BeaconPowers'. -/
def beaconPowersCard : Claim7 := { stood := { row := beaconPowersRow, standIns := [], harness := (true, "9cbbf720283e3551089559a883e666214af781629e753a28fa1e2ea4d24edb4c"), looks := false }, kinds := [], alts := [], laidByText := true, laidKinds := [.data], laidTests := true, laidLooks := .later }
def BeaconPowersCardSaid : Prop := Claim7.holds Tryd.pinned (.plain (OpenSpec.ofChange beaconPowersSpec)) beaconPowersCard

/-- THE TIED CARD OF 'courierbaglaw12.BeaconApart'. -/
def beaconApartCard : Claim7 := { stood := { row := beaconApartRow, standIns := [], harness := (true, "9cbbf720283e3551089559a883e666214af781629e753a28fa1e2ea4d24edb4c"), looks := false }, kinds := [], alts := [], laidByText := true, laidKinds := [.data], laidTests := true, laidLooks := .later }
def BeaconApartCardSaid : Prop := Claim7.holds Tryd.pinned (.plain (OpenSpec.ofChange beaconApartSpec)) beaconApartCard

/-- THE SECOND FORM's CARD OF 'courierbaglaw12.BeaconDraws'. -/
def beaconDrawsUptoCard : Claim7 := { stood := { row := beaconDrawsUptoRow, standIns := [], harness := (true, "9cbbf720283e3551089559a883e666214af781629e753a28fa1e2ea4d24edb4c"), looks := false }, kinds := [], alts := [], laidByText := true, laidKinds := [.data], laidTests := true, laidLooks := .later }
def BeaconDrawsUptoCardSaid : Prop := Claim7.holds Tryd.pinned (.plain (OpenSpec.upto beaconDrawsSpec)) beaconDrawsUptoCard

/-- THE SECOND FORM's CARD OF 'courierbaglaw12.BeaconWords'. -/
def beaconWordsUptoCard : Claim7 := { stood := { row := beaconWordsUptoRow, standIns := [], harness := (true, "9cbbf720283e3551089559a883e666214af781629e753a28fa1e2ea4d24edb4c"), looks := false }, kinds := [], alts := [], laidByText := true, laidKinds := [.data], laidTests := true, laidLooks := .later }
def BeaconWordsUptoCardSaid : Prop := Claim7.holds Tryd.pinned (.plain (OpenSpec.upto beaconWordsSpec)) beaconWordsUptoCard

/-- THE SECOND FORM's CARD OF 'courierbaglaw12.BeaconPowers'. -/
def beaconPowersUptoCard : Claim7 := { stood := { row := beaconPowersUptoRow, standIns := [], harness := (true, "9cbbf720283e3551089559a883e666214af781629e753a28fa1e2ea4d24edb4c"), looks := false }, kinds := [], alts := [], laidByText := true, laidKinds := [.data], laidTests := true, laidLooks := .later }
def BeaconPowersUptoCardSaid : Prop := Claim7.holds Tryd.pinned (.plain (OpenSpec.upto beaconPowersSpec)) beaconPowersUptoCard

/-- THE SECOND FORM's CARD OF 'courierbaglaw12.BeaconApart'. -/
def beaconApartUptoCard : Claim7 := { stood := { row := beaconApartUptoRow, standIns := [], harness := (true, "9cbbf720283e3551089559a883e666214af781629e753a28fa1e2ea4d24edb4c"), looks := false }, kinds := [], alts := [], laidByText := true, laidKinds := [.data], laidTests := true, laidLooks := .later }
def BeaconApartUptoCardSaid : Prop := Claim7.holds Tryd.pinned (.plain (OpenSpec.upto beaconApartSpec)) beaconApartUptoCard
end Rows
end Go.Proofs.YtanfcenjlonjmaaDoor
