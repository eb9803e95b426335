/-
  Contracts of derive's two helpers.
-/
import Derived.Test.YtcnpbgmdmifhaaaDoorExp
import Derived.Test.YtcnpbgmdmifhaaaDoorStr
namespace Go.Proofs.YtcnpbgmdmifhaaaDoor
open Go.ChangeShapes Go.WideShapes Go.ChangeAt Go.RowKit
set_option linter.unusedVariables false
set_option linter.unusedSimpArgs false

theorem noughts_bv' (m : Nat) : noughts m = (List.replicate m 0 : List UInt8).map bv := by simp [noughts, bv]

namespace derive
set_option maxHeartbeats 400000 in
theorem frame (l : List UInt8) (n : Nat) (hn : l.length = n) (hb : n ≤ 70368744177600) (w : World) :
    Calls Tryd.prog 12 #[.string (str l)] w fun e w' => e = .returned (.slice (some ⟨w.heap.size, 0, none⟩) (n + 33) (n + 33)) ∧ Has w' w.heap.size 5 ((List.replicate 32 0 ++ l ++ [0]).map bv) ∧ Below w.heap.size w w' := by
  have hsz : (str l).size = n := by rw [str_size, hn]
  have hmk := fun u => run_make8 (n + 33) (n + 33) (Nat.le_refl _) (by omega) u
  rw [show ((n + 33 : Nat) : Int) = 32 + (n : Int) + 1 by omega] at hmk
  have e1 : 32 + (n : Int) + 1 ≤ 9223372036854775807 := by omega
  have H0 := Has.new w 5 (noughts (n + 33))
  have hb1 := (Below.refl w.heap.size w).alloc (Nat.le_refl _) (.cells (noughts (n + 33)).toArray 5)
  have C1 := Lib.hid (show l.length ≤ n + 1 by omega)
  have C2 := Lib.hid (show 32 + l.length ≤ (noughts (n + 33)).length by rw [noughts_len]; omega)
  have E := Lib.hid (show splice (noughts (n + 33)) 32 (l.map bv) = (List.replicate 32 0 ++ l ++ [0]).map bv by
    rw [splice, noughts_bv', List.length_map, ← List.map_take, ← List.map_drop, ← List.map_append, ← List.map_append, List.take_replicate, List.drop_replicate, show min 32 (n + 33) = 32 by omega, show n + 33 - (32 + l.length) = 1 by omega]
    rfl)
  go_enter Tryd.func12, Tryd.ntmps12
  go_wp2_with ((with_reducible refine wpList_copy_str rfl (.tmp 10) (.tmp 11) rfl w.heap.size 32 (n + 1) (n + 1) rfl l rfl 5 (noughts (n + 33)) H0 C1.out C2.out ?_); intro w2 o2 H2)
  go_ret
  exact ⟨rfl, by rw [← E.out]; exact H2, o2.below hb1 (Nat.le_refl _)⟩
theorem fromHead (g n : Nat) (hn : n ≤ 70368744177600) (w : World) :
    Calls Tryd.prog 13 #[.slice (some ⟨g, 0, none⟩) (n + 33) (n + 33), .int .i64 0] w fun e w' => e = .returned (.slice (some ⟨g, 32, none⟩) (n + 1) (n + 1)) ∧ w' = w := by
  go_enter Tryd.func13, Tryd.ntmps13
  go_wp2
  go_ret
  exact ⟨rfl, rfl⟩
theorem fromAll (g n : Nat) (hn : n ≤ 70368744177600) (p : Nat) (hp : 0 < p) (w : World) :
    Calls Tryd.prog 13 #[.slice (some ⟨g, 0, none⟩) (n + 33) (n + 33), .int .i64 (p : Int)] w fun e w' => e = .returned (.slice (some ⟨g, 0, none⟩) (n + 33) (n + 33)) ∧ w' = w := by
  have h1 : ¬ (p : Int) = 0 := by omega
  go_enter Tryd.func13, Tryd.ntmps13
  go_wp2
  go_ret
  exact ⟨rfl, rfl⟩
end derive
end Go.Proofs.YtcnpbgmdmifhaaaDoor
