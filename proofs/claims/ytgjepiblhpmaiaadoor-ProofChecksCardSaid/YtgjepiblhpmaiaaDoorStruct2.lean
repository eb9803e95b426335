/-
  What is known of a struct of two integers that came in.
-/
import Derived.Test.YtgjepiblhpmaiaaDoorBase
import Derived.ChangeSame
namespace Go.Proofs.YtgjepiblhpmaiaaDoor
open Go.ChangeShapes Go.WideShapes Go.ChangeAt Go.RowKit
set_option linter.unusedVariables false
set_option linter.unusedSimpArgs false

section
variable {H : Type} {enc : TypeId × Value → H} {P : Program} {t : TypeId} {f0 f1 : Field} {k0 k1 : IntKind} {W : World} {base : Nat} {sp : Nat → Bool} {held : Bool}
theorem open_two (hu : P.underlying t = some (.struct #[f0, f1])) (h0 : P.underlying f0.type = some (.int k0)) (h1 : P.underlying f1.type = some (.int k1)) (o0 : f0.offset = 0) (o1 : f1.offset = 1) (c0 : P.cellsOf f0.type = 1) (c1 : P.cellsOf f1.type = 1) (size : P.cellsOf t = 2)
    {r : Reach} {b0 : Nat} {v : Value} {d : DataW H} {ps : List MemPlace} (hval : Value.okWide P W r b0 t v) (hd : DataW.Trod enc P W base sp held t v d ps) :
    ∃ a b : Int, v = .agg #[.int k0 a, .int k1 b] ∧ (Lit.int k0 a).wf = true ∧ (Lit.int k1 b).wf = true := by
  obtain ⟨cs, rfl, hn⟩ := okWide_struct hu hval
  rw [size] at hn
  obtain ⟨fuel, hf⟩ := hd
  obtain ⟨y0, y1, n, _, _, e0, e1⟩ := trod_struct2 hu hf
  obtain ⟨a, ea, _, wa⟩ := DataW.trod_int h0 e0
  obtain ⟨b, eb, _, wb⟩ := DataW.trod_int h1 e1
  rw [o0, c0] at ea
  rw [o1, c1] at eb
  refine ⟨a, b, ?_, wa, wb⟩
  obtain ⟨l⟩ := cs
  simp only [Value.cells, List.size_toArray] at ea eb hn
  match l, hn with
  | [x, y], _ =>
    simp at ea eb
    rw [ea, eb]
end
end Go.Proofs.YtgjepiblhpmaiaaDoor
