/-
  DERIVED. GIVEN WITH THE SEED: THE CARDS: each row of YtcdoeiccdmmfkaaDoorRows.lean that lists a variable, with what it lists TIED to the program's text (the seventh form; the later family's looks); each row that meets fmt, with fmt's text TOLD by the authors' own Lean function (tested against real Go, not proved from fmt's source: count such statements apart). THE CARD IS WHAT COUNTS. Prove the row's statement (the work); the ties are given (YtcdoeiccdmmfkaaDoorTie.lean); close each card by the builder's one call (the guide's Derived/Test/ToyasCard.lean, 'card_holds'). Laid BY PROGRAM, IN A SANDBOX (cutbox-door.mjs). By AI agents, Wed Nov 11 2026. No macro, syntax, notation, axiom, sorry.
-/
import Derived.Test.YtcdoeiccdmmfkaaDoorRows
import GoSem.ClaimSeven
namespace Go.Proofs.YtcdoeiccdmmfkaaDoor
namespace Rows

/-- THE TIED CARD OF 'courierbaglaw10.SignSigns'. -/
def signSignsCard : Claim7 := { stood := { row := signSignsRow, standIns := [], harness := (true, "c5e54c4e82a5ac572a0c5646db262ef1dea7dd9ee2c30bcbc8566f61bdd7ad7d"), looks := false }, kinds := [], alts := [], laidByText := true, laidKinds := [.data], laidTests := true, laidLooks := .later }
def SignSignsCardSaid : Prop := Claim7.holds Tryd.pinned (.plain (OpenSpec.ofChange signSignsSpec)) signSignsCard

/-- THE TIED CARD OF 'courierbaglaw10.SignChecks'. -/
def signChecksCard : Claim7 := { stood := { row := signChecksRow, standIns := [], harness := (true, "c5e54c4e82a5ac572a0c5646db262ef1dea7dd9ee2c30bcbc8566f61bdd7ad7d"), looks := false }, kinds := [], alts := [], laidByText := true, laidKinds := [.data], laidTests := true, laidLooks := .later }
def SignChecksCardSaid : Prop := Claim7.holds Tryd.pinned (.plain (OpenSpec.ofChange signChecksSpec)) signChecksCard

/-- THE TIED CARD OF 'courierbaglaw10.SignTurned'. -/
def signTurnedCard : Claim7 := { stood := { row := signTurnedRow, standIns := [], harness := (true, "c5e54c4e82a5ac572a0c5646db262ef1dea7dd9ee2c30bcbc8566f61bdd7ad7d"), looks := false }, kinds := [], alts := [], laidByText := true, laidKinds := [.data], laidTests := true, laidLooks := .later }
def SignTurnedCardSaid : Prop := Claim7.holds Tryd.pinned (.plain (OpenSpec.ofChange signTurnedSpec)) signTurnedCard

/-- THE TIED CARD OF 'courierbaglaw10.SignAgain'. -/
def signAgainCard : Claim7 := { stood := { row := signAgainRow, standIns := [], harness := (true, "c5e54c4e82a5ac572a0c5646db262ef1dea7dd9ee2c30bcbc8566f61bdd7ad7d"), looks := false }, kinds := [], alts := [], laidByText := true, laidKinds := [.data], laidTests := true, laidLooks := .later }
def SignAgainCardSaid : Prop := Claim7.holds Tryd.pinned (.plain (OpenSpec.ofChange signAgainSpec)) signAgainCard

/-- THE SECOND FORM's CARD OF 'courierbaglaw10.SignSigns'. -/
def signSignsUptoCard : Claim7 := { stood := { row := signSignsUptoRow, standIns := [], harness := (true, "c5e54c4e82a5ac572a0c5646db262ef1dea7dd9ee2c30bcbc8566f61bdd7ad7d"), looks := false }, kinds := [], alts := [], laidByText := true, laidKinds := [.data], laidTests := true, laidLooks := .later }
def SignSignsUptoCardSaid : Prop := Claim7.holds Tryd.pinned (.plain (OpenSpec.upto signSignsSpec)) signSignsUptoCard

/-- THE SECOND FORM's CARD OF 'courierbaglaw10.SignChecks'. -/
def signChecksUptoCard : Claim7 := { stood := { row := signChecksUptoRow, standIns := [], harness := (true, "c5e54c4e82a5ac572a0c5646db262ef1dea7dd9ee2c30bcbc8566f61bdd7ad7d"), looks := false }, kinds := [], alts := [], laidByText := true, laidKinds := [.data], laidTests := true, laidLooks := .later }
def SignChecksUptoCardSaid : Prop := Claim7.holds Tryd.pinned (.plain (OpenSpec.upto signChecksSpec)) signChecksUptoCard

/-- THE SECOND FORM's CARD OF 'courierbaglaw10.SignTurned'. -/
def signTurnedUptoCard : Claim7 := { stood := { row := signTurnedUptoRow, standIns := [], harness := (true, "c5e54c4e82a5ac572a0c5646db262ef1dea7dd9ee2c30bcbc8566f61bdd7ad7d"), looks := false }, kinds := [], alts := [], laidByText := true, laidKinds := [.data], laidTests := true, laidLooks := .later }
def SignTurnedUptoCardSaid : Prop := Claim7.holds Tryd.pinned (.plain (OpenSpec.upto signTurnedSpec)) signTurnedUptoCard

/-- THE SECOND FORM's CARD OF 'courierbaglaw10.SignAgain'. -/
def signAgainUptoCard : Claim7 := { stood := { row := signAgainUptoRow, standIns := [], harness := (true, "c5e54c4e82a5ac572a0c5646db262ef1dea7dd9ee2c30bcbc8566f61bdd7ad7d"), looks := false }, kinds := [], alts := [], laidByText := true, laidKinds := [.data], laidTests := true, laidLooks := .later }
def SignAgainUptoCardSaid : Prop := Claim7.holds Tryd.pinned (.plain (OpenSpec.upto signAgainSpec)) signAgainUptoCard
end Rows
end Go.Proofs.YtcdoeiccdmmfkaaDoor
