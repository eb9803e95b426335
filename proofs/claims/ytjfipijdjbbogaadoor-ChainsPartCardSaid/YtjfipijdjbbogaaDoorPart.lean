/-
  A part of a block is written.
-/
import Derived.Test.YtjfipijdjbbogaaDoorLow
import Derived.Deep.MidRow
namespace Go.Proofs.YtjfipijdjbbogaaDoor
open Go.ChangeShapes Go.WideShapes Go.ChangeAt Go.RowKit
set_option linter.unusedVariables false
set_option linter.unusedSimpArgs false

/-- A part of a block is written. -/
theorem wpList_store_part {P : Program} {w : World} {ops : Array Oper} {rest : List Oper} {o : Oper} {a : Act} {Q : Exit → Act → World → Prop} (hgd : o.guard = none) (ty : TypeId) (x y : Operand) (ho : o.op = .store ty x y) (g off : Nat) (hx : a.eval x = .pointer (some ⟨g, off, none⟩)) (vs : List Value) (hy : a.eval y = .agg vs.toArray)
    (t : TypeId) (cur : List Value) (H : Has w g t cur) (hi : (P.info? ty).map (·.size) = some vs.length) (hle : off + vs.length ≤ cur.length) (h1 : ∀ u ∈ vs, u.oneCell' = true)
    (h : ∀ w', Only g w w' → Has w' g t (splice cur off vs) → wpList P ops Q rest (a.put o.dst undef) w') : wpList P ops Q (o :: rest) a w :=
  wpList_store_mid hgd ty x y ho g off vs.toArray hx hy (by simpa using H.there off vs.length hle) (by simpa using hi) (all_oneCell_toArray h1) (h _ (by simpa using Only.setCells g vs off w) (by simpa using Has.setCells vs off w cur H hle))
end Go.Proofs.YtjfipijdjbbogaaDoor
