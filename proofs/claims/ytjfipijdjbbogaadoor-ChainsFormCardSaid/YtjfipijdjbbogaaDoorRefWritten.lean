/-
  Contract of the reference's Written.
-/
import Derived.Test.YtjfipijdjbbogaaDoorShaA
import Derived.BigRegion
namespace Go.Proofs.YtjfipijdjbbogaaDoor
open Go.ChangeShapes Go.WideShapes Go.ChangeAt Go.RowKit
set_option linter.unusedVariables false
set_option linter.unusedSimpArgs false

namespace refSha
set_option maxRecDepth 10000 in
set_option maxHeartbeats 800000 in
theorem written (w : World) : Calls Tryd.prog 58 #[] w fun e w' => ∃ g, e = .returned (.tuple #[.slice (some ⟨g, 0, none⟩) 64 64, .agg (h0N.list.map uv).toArray]) ∧ Has w' g 80 (kN.map uv) ∧ Below w.heap.size w w' := by
  go_enter Tryd.func58, Tryd.ntmps58
  go_wp2
  go_region
  go_wp2
  refine ret_tmp_has Tryd.results58 (.slice (some ⟨w.heap.size + 1 + 1, 0, none⟩) 64 64) rfl w.heap.size rfl 90 (h0N.list.map uv) ?_ _ Tryd.underlying90 rfl (by kernel_rfl) rfl ⟨w.heap.size + 1 + 1, rfl, ?_, ?_⟩
  · exact ((Has.new w 90 (h0N.list.map uv)).alloc (.cells (h0N.list.map uv).toArray 90)).alloc (.cells (kN.map uv).toArray 80)
  · exact (Has.new ((w.alloc (.cells (h0N.list.map uv).toArray 90)).alloc (.cells (h0N.list.map uv).toArray 90)) 80 (kN.map uv)).at_ (by simp)
  · exact ((((Below.refl w.heap.size w).alloc (Nat.le_refl _) (.cells (h0N.list.map uv).toArray 90)).alloc (by simp) (.cells (h0N.list.map uv).toArray 90)).alloc (by simp; omega) (.cells (kN.map uv).toArray 80)).drew

end refSha
end Go.Proofs.YtjfipijdjbbogaaDoor
