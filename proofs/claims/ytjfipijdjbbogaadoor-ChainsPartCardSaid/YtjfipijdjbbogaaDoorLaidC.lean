/-
  The rows' condition on the tables that chapter 14 reads gives the walks' facts.
-/
import Derived.Test.YtjfipijdjbbogaaDoorChTab
import Derived.Test.YtjfipijdjbbogaaDoorShaB
namespace Go.Proofs.YtjfipijdjbbogaaDoor
open Go.ChangeShapes Go.WideShapes Go.ChangeAt Go.RowKit
set_option linter.unusedVariables false
set_option linter.unusedSimpArgs false

/-- What stands behind the first of a list of tables is met as well. -/
theorem laidMet_tail {P : Program} {x : String × DataW Unit} {rest : List (String × DataW Unit)} {W : World} (h : laidMet P (x :: rest) W) : laidMet P rest W := by
  obtain ⟨ps, ⟨g', t', cs, fuel, p, q, hg', ht', hvar, hd, h1, h2⟩, hnd, hfa⟩ := h
  subst h2
  exact ⟨q, h1, (List.nodup_append.1 hnd).2.1, fun b off hb => hfa b off (List.mem_append_right _ hb)⟩
theorem Tab.of_head {w : World} {rest : List (String × DataW Unit)} (h : laidMet Tryd.prog (("courierbag/sha.roundWords", Lib.tabData .u32 (kN.map Int.ofNat)) :: rest) w) : Tab w := by
  have hT := Lib.tabIs_of_head (show Tryd.prog.globalNamed "courierbag/sha.roundWords" = some 3 by kernel_rfl) (show (Tryd.prog.globals[3]?).map (·.type) = some 101 by kernel_rfl) Tryd.underlying101 Tryd.underlying80 (by kernel_rfl) (by kernel_rfl) h
  intro i hi
  have hc := hT.cell (show Tryd.prog.globalNamed "courierbag/sha.roundWords" = some 3 by kernel_rfl) i (by rw [List.length_map]; exact hi)
  rw [hc]
  have hi' : i < kN.length := hi
  simp [hi']
theorem Pow.of_head {w : World} {rest : List (String × DataW Unit)} (h : laidMet Tryd.prog (("internal/strconv.uint64pow10", Lib.tabData .u64 Lib.pow10Tab) :: rest) w) : Pow w :=
  Lib.tabIs_of_head (show Tryd.prog.globalNamed "internal/strconv.uint64pow10" = some 0 by kernel_rfl) (show (Tryd.prog.globals[0]?).map (·.type) = some 79 by kernel_rfl) Tryd.underlying79 Tryd.underlying53 (by kernel_rfl) (by kernel_rfl) h
theorem TabC.of_laid {w : World} (h : laidMetH Tryd.prog [("courierbag/sha.roundWords", Rows.laid_courierbag_sha_roundWords), ("math/bits.deBruijn32tab", Rows.laid_math_bits_deBruijn32tab), ("math/bits.deBruijn64tab", Rows.laid_math_bits_deBruijn64tab), ("internal/strconv.uint64pow10", Rows.laid_internal_strconv_uint64pow10)] w) : TabC w := by
  rw [MakeChecks.laidMetH_plain _ _ _ (by kernel_rfl)] at h
  exact ⟨Tab.of_head h, Pow.of_head (laidMet_tail (laidMet_tail (laidMet_tail h)))⟩
end Go.Proofs.YtjfipijdjbbogaaDoor
