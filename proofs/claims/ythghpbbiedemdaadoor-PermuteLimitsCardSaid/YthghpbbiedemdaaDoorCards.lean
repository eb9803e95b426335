/-
  DERIVED. GIVEN WITH THE SEED: THE CARDS: each row of YthghpbbiedemdaaDoorRows.lean that lists a variable, with what it lists TIED to the program's text (the seventh form; the later family's looks); each row that meets fmt, with fmt's text TOLD by the authors' own Lean function (tested against real Go, not proved from fmt's source: count such statements apart). THE CARD IS WHAT COUNTS. Prove the row's statement (the work); the ties are given (YthghpbbiedemdaaDoorTie.lean); close each card by the builder's one call (the guide's Derived/Test/ToyasCard.lean, 'card_holds'). Laid BY PROGRAM, IN A SANDBOX (cutbox-door.mjs). By AI agents, Wed Nov 11 2026. No macro, syntax, notation, axiom, sorry.
-/
import Derived.Test.YthghpbbiedemdaaDoorRows
import GoSem.ClaimSeven
namespace Go.Proofs.YthghpbbiedemdaaDoor
namespace Rows

/-- THE TIED CARD OF 'courierbaglaw13.PermuteOf'. -/
def permuteOfCard : Claim7 := { stood := { row := permuteOfRow, standIns := [], harness := (true, "c0ace0ba961b63f2d44d7f119309a6a9a6e7aceba5dfc16328782eed21eb5cc9"), looks := false }, kinds := [], alts := [], laidByText := true, laidKinds := [.data], laidTests := true, laidLooks := .later }
def PermuteOfCardSaid : Prop := Claim7.holds Tryd.pinned (.plain (OpenSpec.ofChange permuteOfSpec)) permuteOfCard

/-- THE TIED CARD OF 'courierbaglaw13.PermuteRight'. -/
def permuteRightCard : Claim7 := { stood := { row := permuteRightRow, standIns := [], harness := (true, "c0ace0ba961b63f2d44d7f119309a6a9a6e7aceba5dfc16328782eed21eb5cc9"), looks := false }, kinds := [], alts := [], laidByText := true, laidKinds := [.data], laidTests := true, laidLooks := .later }
def PermuteRightCardSaid : Prop := Claim7.holds Tryd.pinned (.plain (OpenSpec.ofChange permuteRightSpec)) permuteRightCard

/-- THE TIED CARD OF 'courierbaglaw13.PermuteBack'. -/
def permuteBackCard : Claim7 := { stood := { row := permuteBackRow, standIns := [], harness := (true, "c0ace0ba961b63f2d44d7f119309a6a9a6e7aceba5dfc16328782eed21eb5cc9"), looks := false }, kinds := [], alts := [], laidByText := true, laidKinds := [.data], laidTests := true, laidLooks := .later }
def PermuteBackCardSaid : Prop := Claim7.holds Tryd.pinned (.plain (OpenSpec.ofChange permuteBackSpec)) permuteBackCard

/-- THE TIED CARD OF 'courierbaglaw13.PermuteLimits'. -/
def permuteLimitsCard : Claim7 := { stood := { row := permuteLimitsRow, standIns := [], harness := (true, "c0ace0ba961b63f2d44d7f119309a6a9a6e7aceba5dfc16328782eed21eb5cc9"), looks := false }, kinds := [], alts := [], laidByText := true, laidKinds := [.data], laidTests := true, laidLooks := .later }
def PermuteLimitsCardSaid : Prop := Claim7.holds Tryd.pinned (.plain (OpenSpec.ofChange permuteLimitsSpec)) permuteLimitsCard

/-- THE TIED CARD OF 'courierbaglaw13.PermuteSwaps'. -/
def permuteSwapsCard : Claim7 := { stood := { row := permuteSwapsRow, standIns := [], harness := (true, "c0ace0ba961b63f2d44d7f119309a6a9a6e7aceba5dfc16328782eed21eb5cc9"), looks := false }, kinds := [], alts := [], laidByText := true, laidKinds := [.data], laidTests := true, laidLooks := .later }
def PermuteSwapsCardSaid : Prop := Claim7.holds Tryd.pinned (.plain (OpenSpec.ofChange permuteSwapsSpec)) permuteSwapsCard

/-- THE SECOND FORM's CARD OF 'courierbaglaw13.PermuteOf'. -/
def permuteOfUptoCard : Claim7 := { stood := { row := permuteOfUptoRow, standIns := [], harness := (true, "c0ace0ba961b63f2d44d7f119309a6a9a6e7aceba5dfc16328782eed21eb5cc9"), looks := false }, kinds := [], alts := [], laidByText := true, laidKinds := [.data], laidTests := true, laidLooks := .later }
def PermuteOfUptoCardSaid : Prop := Claim7.holds Tryd.pinned (.plain (OpenSpec.upto permuteOfSpec)) permuteOfUptoCard

/-- THE SECOND FORM's CARD OF 'courierbaglaw13.PermuteRight'. -/
def permuteRightUptoCard : Claim7 := { stood := { row := permuteRightUptoRow, standIns := [], harness := (true, "c0ace0ba961b63f2d44d7f119309a6a9a6e7aceba5dfc16328782eed21eb5cc9"), looks := false }, kinds := [], alts := [], laidByText := true, laidKinds := [.data], laidTests := true, laidLooks := .later }
def PermuteRightUptoCardSaid : Prop := Claim7.holds Tryd.pinned (.plain (OpenSpec.upto permuteRightSpec)) permuteRightUptoCard

/-- THE SECOND FORM's CARD OF 'courierbaglaw13.PermuteBack'. -/
def permuteBackUptoCard : Claim7 := { stood := { row := permuteBackUptoRow, standIns := [], harness := (true, "c0ace0ba961b63f2d44d7f119309a6a9a6e7aceba5dfc16328782eed21eb5cc9"), looks := false }, kinds := [], alts := [], laidByText := true, laidKinds := [.data], laidTests := true, laidLooks := .later }
def PermuteBackUptoCardSaid : Prop := Claim7.holds Tryd.pinned (.plain (OpenSpec.upto permuteBackSpec)) permuteBackUptoCard

/-- THE SECOND FORM's CARD OF 'courierbaglaw13.PermuteLimits'. -/
def permuteLimitsUptoCard : Claim7 := { stood := { row := permuteLimitsUptoRow, standIns := [], harness := (true, "c0ace0ba961b63f2d44d7f119309a6a9a6e7aceba5dfc16328782eed21eb5cc9"), looks := false }, kinds := [], alts := [], laidByText := true, laidKinds := [.data], laidTests := true, laidLooks := .later }
def PermuteLimitsUptoCardSaid : Prop := Claim7.holds Tryd.pinned (.plain (OpenSpec.upto permuteLimitsSpec)) permuteLimitsUptoCard

/-- THE SECOND FORM's CARD OF 'courierbaglaw13.PermuteSwaps'. -/
def permuteSwapsUptoCard : Claim7 := { stood := { row := permuteSwapsUptoRow, standIns := [], harness := (true, "c0ace0ba961b63f2d44d7f119309a6a9a6e7aceba5dfc16328782eed21eb5cc9"), looks := false }, kinds := [], alts := [], laidByText := true, laidKinds := [.data], laidTests := true, laidLooks := .later }
def PermuteSwapsUptoCardSaid : Prop := Claim7.holds Tryd.pinned (.plain (OpenSpec.upto permuteSwapsSpec)) permuteSwapsUptoCard
end Rows
end Go.Proofs.YthghpbbiedemdaaDoor
