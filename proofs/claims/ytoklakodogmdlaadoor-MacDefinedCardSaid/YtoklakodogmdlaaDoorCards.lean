/-
  DERIVED. GIVEN WITH THE SEED: THE CARDS: each row of YtoklakodogmdlaaDoorRows.lean that lists a variable, with what it lists TIED to the program's text (the seventh form; the later family's looks); each row that meets fmt, with fmt's text TOLD by the authors' own Lean function (tested against real Go, not proved from fmt's source: count such statements apart). THE CARD IS WHAT COUNTS. Prove the row's statement (the work); the ties are given (YtoklakodogmdlaaDoorTie.lean); close each card by the builder's one call (the guide's Derived/Test/ToyasCard.lean, 'card_holds'). Laid BY PROGRAM, IN A SANDBOX (cutbox-door.mjs). By AI agents, Wed Nov 11 2026. No macro, syntax, notation, axiom, sorry.
-/
import Derived.Test.YtoklakodogmdlaaDoorRows
import GoSem.ClaimSeven
namespace Go.Proofs.YtoklakodogmdlaaDoor
namespace Rows

/-- THE TIED CARD OF 'courierbaglaw3.MacSums'. -/
def macSumsCard : Claim7 := { stood := { row := macSumsRow, standIns := [], harness := (true, "58567482e01bba8910a779807755f0acf5868446d84788c2f3443f3691a5ab32"), looks := false }, kinds := [], alts := [], laidByText := true, laidKinds := [.data], laidTests := true, laidLooks := .later }
def MacSumsCardSaid : Prop := Claim7.holds Tryd.pinned (.plain (OpenSpec.ofChange macSumsSpec)) macSumsCard

/-- THE TIED CARD OF 'courierbaglaw3.MacKeys'. -/
def macKeysCard : Claim7 := { stood := { row := macKeysRow, standIns := [], harness := (true, "58567482e01bba8910a779807755f0acf5868446d84788c2f3443f3691a5ab32"), looks := false }, kinds := [], alts := [], laidByText := true, laidKinds := [.data], laidTests := true, laidLooks := .later }
def MacKeysCardSaid : Prop := Claim7.holds Tryd.pinned (.plain (OpenSpec.ofChange macKeysSpec)) macKeysCard

/-- THE TIED CARD OF 'courierbaglaw3.MacDefined'. -/
def macDefinedCard : Claim7 := { stood := { row := macDefinedRow, standIns := [], harness := (true, "58567482e01bba8910a779807755f0acf5868446d84788c2f3443f3691a5ab32"), looks := false }, kinds := [], alts := [], laidByText := true, laidKinds := [.data], laidTests := true, laidLooks := .later }
def MacDefinedCardSaid : Prop := Claim7.holds Tryd.pinned (.plain (OpenSpec.ofChange macDefinedSpec)) macDefinedCard

/-- THE SECOND FORM's CARD OF 'courierbaglaw3.MacSums'. -/
def macSumsUptoCard : Claim7 := { stood := { row := macSumsUptoRow, standIns := [], harness := (true, "58567482e01bba8910a779807755f0acf5868446d84788c2f3443f3691a5ab32"), looks := false }, kinds := [], alts := [], laidByText := true, laidKinds := [.data], laidTests := true, laidLooks := .later }
def MacSumsUptoCardSaid : Prop := Claim7.holds Tryd.pinned (.plain (OpenSpec.upto macSumsSpec)) macSumsUptoCard

/-- THE SECOND FORM's CARD OF 'courierbaglaw3.MacKeys'. -/
def macKeysUptoCard : Claim7 := { stood := { row := macKeysUptoRow, standIns := [], harness := (true, "58567482e01bba8910a779807755f0acf5868446d84788c2f3443f3691a5ab32"), looks := false }, kinds := [], alts := [], laidByText := true, laidKinds := [.data], laidTests := true, laidLooks := .later }
def MacKeysUptoCardSaid : Prop := Claim7.holds Tryd.pinned (.plain (OpenSpec.upto macKeysSpec)) macKeysUptoCard

/-- THE SECOND FORM's CARD OF 'courierbaglaw3.MacDefined'. -/
def macDefinedUptoCard : Claim7 := { stood := { row := macDefinedUptoRow, standIns := [], harness := (true, "58567482e01bba8910a779807755f0acf5868446d84788c2f3443f3691a5ab32"), looks := false }, kinds := [], alts := [], laidByText := true, laidKinds := [.data], laidTests := true, laidLooks := .later }
def MacDefinedUptoCardSaid : Prop := Claim7.holds Tryd.pinned (.plain (OpenSpec.upto macDefinedSpec)) macDefinedUptoCard
end Rows
end Go.Proofs.YtoklakodogmdlaaDoor
