/-
  No cell of these rows narrows 'for every input' (looked for: loops, veiled, ifaces, maps, wideKeys, modest, calm, conditions, laid).
  DERIVED. THE GIVEN ROWS OF THIS SEAT. 5 by the template 'for every input the law returns true; each argument reads behind the call as it read before'; 0 by the template 'total and deterministic' (their statements: YtdmmddndepgoaaaTotals.lean).
  GIVEN WITH THE SEED: the statements are not yours to turn. If you find one false, say at which input.
  Laid BY PROGRAM, IN A SANDBOX (cutbox-rows.mjs): the forced cells as the released guide's own fill.sh prints them over the translation f854ca7a19eed761… (all of the seat's roots in one cut). By AI agents, Wed Nov 11 2026. No macro, syntax, notation, axiom, sorry.
-/
import Derived.Test.YtdmmddndepgoaaaChecked
import GoSem.Claim
import GoSem.ClaimJoined
import GoSem.ClaimMapViews
import Derived.JoinedTies
import Derived.KernelRfl
namespace Go.Proofs.Ytdmmddndepgoaaa
/- THE CELL 'sum', in the pinned program and in every row, IS THE sha256 OF THE DUMP (.gsa) THAT YtdmmddndepgoaaaProg.lean LOADS. Nothing in Lean hashes anything: it is a label: what it is worth is what the hold of that sum in a sandbox is worth. -/
noncomputable def Try.pinned : Pinned := { name := "ytdmmddndepgoaaa", sum := "f854ca7a19eed761e67ae95e79c51a658d27d64454f611aa68a198941873c27a", checked := Try.checked }
namespace Rows
def none {H : Type} : Left H := { results := [], args := [] }

/-- 'courierbaglaw6.ModpReckons': WHATEVER THE INPUT: true; the input reads as it did. -/
def modpReckonsSpec : ChangeSpec := { name := "modpReckons", fn := fun _ => fun
  | [d1, d2] => { results := [.lit (.bool true)], args := [d1, d2] }
  | _ => none }
def modpReckonsRow : OpenClaim := { program := "ytdmmddndepgoaaa", sum := "f854ca7a19eed761e67ae95e79c51a658d27d64454f611aa68a198941873c27a", func := "courierbag/courierbaglaw6.ModpReckons", spec := "modpReckons", apart := false }
def ModpReckonsSaid : Prop := modpReckonsRow.holds Try.pinned (OpenSpec.ofChange modpReckonsSpec)

/-- ITS FALSE NEIGHBOUR: 'it returns false'. Refute it at one input. -/
def modpReckonsWrong : ChangeSpec := { name := "modpReckons", fn := fun _ => fun
  | [d1, d2] => { results := [.lit (.bool false)], args := [d1, d2] }
  | _ => none }
def ModpReckonsWrongFalsely : Prop := modpReckonsRow.holds Try.pinned (OpenSpec.ofChange modpReckonsWrong)

/-- 'courierbaglaw6.ModpLaws': WHATEVER THE INPUT: true; the input reads as it did. -/
def modpLawsSpec : ChangeSpec := { name := "modpLaws", fn := fun _ => fun
  | [d1, d2, d3] => { results := [.lit (.bool true)], args := [d1, d2, d3] }
  | _ => none }
def modpLawsRow : OpenClaim := { program := "ytdmmddndepgoaaa", sum := "f854ca7a19eed761e67ae95e79c51a658d27d64454f611aa68a198941873c27a", func := "courierbag/courierbaglaw6.ModpLaws", spec := "modpLaws", apart := false }
def ModpLawsSaid : Prop := modpLawsRow.holds Try.pinned (OpenSpec.ofChange modpLawsSpec)

/-- ITS FALSE NEIGHBOUR: 'it returns false'. Refute it at one input. -/
def modpLawsWrong : ChangeSpec := { name := "modpLaws", fn := fun _ => fun
  | [d1, d2, d3] => { results := [.lit (.bool false)], args := [d1, d2, d3] }
  | _ => none }
def ModpLawsWrongFalsely : Prop := modpLawsRow.holds Try.pinned (OpenSpec.ofChange modpLawsWrong)

/-- 'courierbaglaw6.ModpPowers': WHATEVER THE INPUT: true; the input reads as it did. -/
def modpPowersSpec : ChangeSpec := { name := "modpPowers", fn := fun _ => fun
  | [d1, d2, d3] => { results := [.lit (.bool true)], args := [d1, d2, d3] }
  | _ => none }
def modpPowersRow : OpenClaim := { program := "ytdmmddndepgoaaa", sum := "f854ca7a19eed761e67ae95e79c51a658d27d64454f611aa68a198941873c27a", func := "courierbag/courierbaglaw6.ModpPowers", spec := "modpPowers", apart := false }
def ModpPowersSaid : Prop := modpPowersRow.holds Try.pinned (OpenSpec.ofChange modpPowersSpec)

/-- ITS FALSE NEIGHBOUR: 'it returns false'. Refute it at one input. -/
def modpPowersWrong : ChangeSpec := { name := "modpPowers", fn := fun _ => fun
  | [d1, d2, d3] => { results := [.lit (.bool false)], args := [d1, d2, d3] }
  | _ => none }
def ModpPowersWrongFalsely : Prop := modpPowersRow.holds Try.pinned (OpenSpec.ofChange modpPowersWrong)

/-- 'courierbaglaw6.ModpShifts': WHATEVER THE INPUT: true; the input reads as it did. -/
def modpShiftsSpec : ChangeSpec := { name := "modpShifts", fn := fun _ => fun
  | [d1, d2] => { results := [.lit (.bool true)], args := [d1, d2] }
  | _ => none }
def modpShiftsRow : OpenClaim := { program := "ytdmmddndepgoaaa", sum := "f854ca7a19eed761e67ae95e79c51a658d27d64454f611aa68a198941873c27a", func := "courierbag/courierbaglaw6.ModpShifts", spec := "modpShifts", apart := false }
def ModpShiftsSaid : Prop := modpShiftsRow.holds Try.pinned (OpenSpec.ofChange modpShiftsSpec)

/-- ITS FALSE NEIGHBOUR: 'it returns false'. Refute it at one input. -/
def modpShiftsWrong : ChangeSpec := { name := "modpShifts", fn := fun _ => fun
  | [d1, d2] => { results := [.lit (.bool false)], args := [d1, d2] }
  | _ => none }
def ModpShiftsWrongFalsely : Prop := modpShiftsRow.holds Try.pinned (OpenSpec.ofChange modpShiftsWrong)

/-- 'courierbaglaw6.ModpSquares': WHATEVER THE INPUT: true; the input reads as it did. -/
def modpSquaresSpec : ChangeSpec := { name := "modpSquares", fn := fun _ => fun
  | [d] => { results := [.lit (.bool true)], args := [d] }
  | _ => none }
def modpSquaresRow : OpenClaim := { program := "ytdmmddndepgoaaa", sum := "f854ca7a19eed761e67ae95e79c51a658d27d64454f611aa68a198941873c27a", func := "courierbag/courierbaglaw6.ModpSquares", spec := "modpSquares", apart := false }
def ModpSquaresSaid : Prop := modpSquaresRow.holds Try.pinned (OpenSpec.ofChange modpSquaresSpec)

/-- ITS FALSE NEIGHBOUR: 'it returns false'. Refute it at one input. -/
def modpSquaresWrong : ChangeSpec := { name := "modpSquares", fn := fun _ => fun
  | [d] => { results := [.lit (.bool false)], args := [d] }
  | _ => none }
def ModpSquaresWrongFalsely : Prop := modpSquaresRow.holds Try.pinned (OpenSpec.ofChange modpSquaresWrong)

/- THE SECOND FORM. 'bulk': how many values and letters a reading holds, each counted each time it is reached (what is shared counts as often as it is met; a slice's spare places count too). A statement '..UptoSaid' is the law's where the arguments, and the package variables that the reading takes, are together of bulk at most 1048576: NARROWER than '..Said'. Prove '..Said' where nothing that the law and all that it calls make is longer than what came in: it says more and counts as full. Else prove '..UptoSaid'. A law counts once. -/
mutual
def uptoBulk {H : Type} : DataW H → Nat
  | .lit (.string bytes) => bytes.length + 1
  | .lit _ => 1
  | .nil => 1
  | .ptr d => uptoBulk d + 1
  | .slice elems spare => uptoBulkAll elems + uptoBulkAll spare + 1
  | .agg parts => uptoBulkAll parts + 1
  | .iface _ d => uptoBulk d + 1
  | .map entries => uptoBulkEntries entries + 1
  | .held _ => 1
def uptoBulkAll {H : Type} : List (DataW H) → Nat
  | [] => 0
  | d :: r => uptoBulk d + uptoBulkAll r
def uptoBulkEntries {H : Type} : List (Lit × DataW H) → Nat
  | [] => 0
  | x :: r => uptoBulkEntry x + uptoBulkEntries r
def uptoBulkEntry {H : Type} : Lit × DataW H → Nat
  | (.string bytes, d) => bytes.length + uptoBulk d + 1
  | (_, d) => uptoBulk d + 1
 end
def uptoSmall : (H : Type) → List (DataW H) → Bool := fun _ ds => decide (uptoBulkAll ds ≤ 1048576)
def OpenSpec.upto (s : _root_.Go.ChangeSpec) : _root_.Go.OpenSpec := { _root_.Go.OpenSpec.ofChange s with cond := some uptoSmall }

/-- 'courierbaglaw6.ModpReckons', WHERE WHAT IT READS IS OF BULK AT MOST 1048576: true; the input reads as it did. -/
def modpReckonsUptoRow : OpenClaim := { program := "ytdmmddndepgoaaa", sum := "f854ca7a19eed761e67ae95e79c51a658d27d64454f611aa68a198941873c27a", func := "courierbag/courierbaglaw6.ModpReckons", spec := "modpReckons", apart := false, narrowed := true }
def ModpReckonsUptoSaid : Prop := modpReckonsUptoRow.holds Try.pinned (OpenSpec.upto modpReckonsSpec)

/-- 'courierbaglaw6.ModpLaws', WHERE WHAT IT READS IS OF BULK AT MOST 1048576: true; the input reads as it did. -/
def modpLawsUptoRow : OpenClaim := { program := "ytdmmddndepgoaaa", sum := "f854ca7a19eed761e67ae95e79c51a658d27d64454f611aa68a198941873c27a", func := "courierbag/courierbaglaw6.ModpLaws", spec := "modpLaws", apart := false, narrowed := true }
def ModpLawsUptoSaid : Prop := modpLawsUptoRow.holds Try.pinned (OpenSpec.upto modpLawsSpec)

/-- 'courierbaglaw6.ModpPowers', WHERE WHAT IT READS IS OF BULK AT MOST 1048576: true; the input reads as it did. -/
def modpPowersUptoRow : OpenClaim := { program := "ytdmmddndepgoaaa", sum := "f854ca7a19eed761e67ae95e79c51a658d27d64454f611aa68a198941873c27a", func := "courierbag/courierbaglaw6.ModpPowers", spec := "modpPowers", apart := false, narrowed := true }
def ModpPowersUptoSaid : Prop := modpPowersUptoRow.holds Try.pinned (OpenSpec.upto modpPowersSpec)

/-- 'courierbaglaw6.ModpShifts', WHERE WHAT IT READS IS OF BULK AT MOST 1048576: true; the input reads as it did. -/
def modpShiftsUptoRow : OpenClaim := { program := "ytdmmddndepgoaaa", sum := "f854ca7a19eed761e67ae95e79c51a658d27d64454f611aa68a198941873c27a", func := "courierbag/courierbaglaw6.ModpShifts", spec := "modpShifts", apart := false, narrowed := true }
def ModpShiftsUptoSaid : Prop := modpShiftsUptoRow.holds Try.pinned (OpenSpec.upto modpShiftsSpec)

/-- 'courierbaglaw6.ModpSquares', WHERE WHAT IT READS IS OF BULK AT MOST 1048576: true; the input reads as it did. -/
def modpSquaresUptoRow : OpenClaim := { program := "ytdmmddndepgoaaa", sum := "f854ca7a19eed761e67ae95e79c51a658d27d64454f611aa68a198941873c27a", func := "courierbag/courierbaglaw6.ModpSquares", spec := "modpSquares", apart := false, narrowed := true }
def ModpSquaresUptoSaid : Prop := modpSquaresUptoRow.holds Try.pinned (OpenSpec.upto modpSquaresSpec)

end Rows
end Go.Proofs.Ytdmmddndepgoaaa
