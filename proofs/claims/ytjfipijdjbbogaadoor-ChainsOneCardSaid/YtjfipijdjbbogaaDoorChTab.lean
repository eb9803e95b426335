/-
  The tables that the package's chains read: sha's, and strconv's powers of ten.
-/
import Derived.Test.YtjfipijdjbbogaaDoorShaComp
import Derived.Test.YtjfipijdjbbogaaDoorLow
import Derived.Lib.SmallJoins
import Derived.Lib.ItoaMem
namespace Go.Proofs.YtjfipijdjbbogaaDoor
open Go.ChangeShapes Go.WideShapes Go.ChangeAt Go.RowKit
set_option linter.unusedVariables false
set_option linter.unusedSimpArgs false

/-- strconv's powers of ten lie as laid. -/
def Pow (w : World) : Prop := Lib.TabIs Tryd.prog w "internal/strconv.uint64pow10" .u64 Lib.pow10Tab
theorem Pow.keep {w w' : World} (h : Pow w) (hb : Below w.heap.size w w') : Pow w' := Go.Joins.tab_stays (g := 0) (by kernel_rfl) h hb (Nat.le_refl _)
/-- Both. -/
def TabC (w : World) : Prop := Tab w ∧ Pow w
theorem TabC.keep {w w' : World} (h : TabC w) (hb : Below w.heap.size w w') : TabC w' := ⟨h.1.keep hb, h.2.keep hb⟩
end Go.Proofs.YtjfipijdjbbogaaDoor
