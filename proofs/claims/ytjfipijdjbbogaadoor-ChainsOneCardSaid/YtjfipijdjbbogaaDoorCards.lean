/-
  DERIVED. GIVEN WITH THE SEED: THE CARDS: each row of YtjfipijdjbbogaaDoorRows.lean that lists a variable, with what it lists TIED to the program's text (the seventh form; the later family's looks); each row that meets fmt, with fmt's text TOLD by the authors' own Lean function (tested against real Go, not proved from fmt's source: count such statements apart). THE CARD IS WHAT COUNTS. Prove the row's statement (the work); the ties are given (YtjfipijdjbbogaaDoorTie.lean); close each card by the builder's one call (the guide's Derived/Test/ToyasCard.lean, 'card_holds'). Laid BY PROGRAM, IN A SANDBOX (cutbox-door.mjs). By AI agents, Wed Nov 11 2026. No macro, syntax, notation, axiom, sorry.
-/
import Derived.Test.YtjfipijdjbbogaaDoorRows
import GoSem.ClaimSeven
namespace Go.Proofs.YtjfipijdjbbogaaDoor
namespace Rows

/-- THE TIED CARD OF 'courierbaglaw14.ChainsForm'. -/
def chainsFormCard : Claim7 := { stood := { row := chainsFormRow, standIns := [], harness := (true, "35145662e6c97d039acd762bac6fb932daf5ea0aad238d620575934a12c6c0f4"), looks := false }, kinds := [], alts := [], laidByText := true, laidKinds := [.data, .data, .data, .data], laidTests := true, laidLooks := .later }
def ChainsFormCardSaid : Prop := Claim7.holds Tryd.pinned (.plain (OpenSpec.ofChange chainsFormSpec)) chainsFormCard

/-- THE TIED CARD OF 'courierbaglaw14.ChainsOne'. -/
def chainsOneCard : Claim7 := { stood := { row := chainsOneRow, standIns := [], harness := (true, "35145662e6c97d039acd762bac6fb932daf5ea0aad238d620575934a12c6c0f4"), looks := false }, kinds := [], alts := [], laidByText := true, laidKinds := [.data, .data, .data, .data], laidTests := true, laidLooks := .later }
def ChainsOneCardSaid : Prop := Claim7.holds Tryd.pinned (.plain (OpenSpec.ofChange chainsOneSpec)) chainsOneCard

/-- THE TIED CARD OF 'courierbaglaw14.ChainsPart'. -/
def chainsPartCard : Claim7 := { stood := { row := chainsPartRow, standIns := [], harness := (true, "35145662e6c97d039acd762bac6fb932daf5ea0aad238d620575934a12c6c0f4"), looks := false }, kinds := [], alts := [], laidByText := true, laidKinds := [.data, .data, .data, .data], laidTests := true, laidLooks := .later }
def ChainsPartCardSaid : Prop := Claim7.holds Tryd.pinned (.plain (OpenSpec.ofChange chainsPartSpec)) chainsPartCard

/-- THE SECOND FORM's CARD OF 'courierbaglaw14.ChainsForm'. -/
def chainsFormUptoCard : Claim7 := { stood := { row := chainsFormUptoRow, standIns := [], harness := (true, "35145662e6c97d039acd762bac6fb932daf5ea0aad238d620575934a12c6c0f4"), looks := false }, kinds := [], alts := [], laidByText := true, laidKinds := [.data, .data, .data, .data], laidTests := true, laidLooks := .later }
def ChainsFormUptoCardSaid : Prop := Claim7.holds Tryd.pinned (.plain (OpenSpec.upto chainsFormSpec)) chainsFormUptoCard

/-- THE SECOND FORM's CARD OF 'courierbaglaw14.ChainsOne'. -/
def chainsOneUptoCard : Claim7 := { stood := { row := chainsOneUptoRow, standIns := [], harness := (true, "35145662e6c97d039acd762bac6fb932daf5ea0aad238d620575934a12c6c0f4"), looks := false }, kinds := [], alts := [], laidByText := true, laidKinds := [.data, .data, .data, .data], laidTests := true, laidLooks := .later }
def ChainsOneUptoCardSaid : Prop := Claim7.holds Tryd.pinned (.plain (OpenSpec.upto chainsOneSpec)) chainsOneUptoCard

/-- THE SECOND FORM's CARD OF 'courierbaglaw14.ChainsPart'. -/
def chainsPartUptoCard : Claim7 := { stood := { row := chainsPartUptoRow, standIns := [], harness := (true, "35145662e6c97d039acd762bac6fb932daf5ea0aad238d620575934a12c6c0f4"), looks := false }, kinds := [], alts := [], laidByText := true, laidKinds := [.data, .data, .data, .data], laidTests := true, laidLooks := .later }
def ChainsPartUptoCardSaid : Prop := Claim7.holds Tryd.pinned (.plain (OpenSpec.upto chainsPartSpec)) chainsPartUptoCard
end Rows
end Go.Proofs.YtjfipijdjbbogaaDoor
