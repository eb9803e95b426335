/-
  What the laws of chapter 14 share: num, alive.
-/
import Derived.Test.YtjfipijdjbbogaaDoorChainsForm
namespace Go.Proofs.YtjfipijdjbbogaaDoor
open Go.ChangeShapes Go.WideShapes Go.ChangeAt Go.RowKit
set_option linter.unusedVariables false
set_option linter.unusedSimpArgs false

theorem num14 (k : Int) (w : World) (hk : 0 ≤ k ∧ k < 100) :
    Calls Tryd.prog 10 #[.int .i64 k] w fun e w' => e = .returned (.int .i64 k) ∧ w = w' := by
  have h1 : 0 ≤ k := hk.1
  have h2 : k ≤ 9223372036854775807 := by omega
  go_enter Tryd.func10, Tryd.ntmps10
  go_wp2_with fail
  go_ret
  exact ⟨rfl, rfl⟩
theorem oneB_one (seed : List UInt8) : oneB seed 1 0 1 = ([0], 0) := by
  rw [oneB_hit (p := [0]) (j := 0) (by unfold badC; omega) (orderB_one 0)]
  rfl
set_option maxHeartbeats 1000000 in
set_option maxRecDepth 10000 in
theorem alive14 (w : World) (hT : TabC w) :
    Calls Tryd.prog 6 #[] w fun e w' => e = .returned (.bool true) ∧ Below w.heap.size w w' := by
  obtain ⟨z, hz⟩ : ∃ z : List UInt8, List.replicate 32 0 = z := ⟨_, rfl⟩
  have hzl : z.length = 32 := by rw [← hz, List.length_replicate]
  have K1 := Lib.hid (show Calls Tryd.prog 11 #[.agg #[.int .u8 0, .int .u8 0, .int .u8 0, .int .u8 0, .int .u8 0, .int .u8 0, .int .u8 0, .int .u8 0, .int .u8 0, .int .u8 0, .int .u8 0, .int .u8 0, .int .u8 0, .int .u8 0, .int .u8 0, .int .u8 0, .int .u8 0, .int .u8 0, .int .u8 0, .int .u8 0, .int .u8 0, .int .u8 0, .int .u8 0, .int .u8 0, .int .u8 0, .int .u8 0, .int .u8 0, .int .u8 0, .int .u8 0, .int .u8 0, .int .u8 0, .int .u8 0], .int .i64 1, .int .i64 0, .int .i64 1] w fun e' w' => ∃ A c, e' = .returned (.tuple #[.slice A 1 c, .int .i64 0]) ∧ LI w' ⟨A, 1, c, [0]⟩ ∧ Below w.heap.size w w' by
    have := chOne z hzl 1 0 1 (by omega) (by omega) [0] 0 (oneB_one z) w hT
    rw [← hz] at this
    exact this)
  have KN := Lib.hid (fun u => num14 0 u (by omega))
  clear hz hzl hT
  go_enter Tryd.func6, Tryd.ntmps6
  go_wp2_with fail
  refine (K1.out).mono ?_
  rintro e w2 ⟨A, c, rfl, H2, hb2⟩
  obtain ⟨b, off, rfl, hbl, hc⟩ := (show Ints w2 A 1 c [0] from H2.1).at_ (by omega)
  have c0 : w2.cell? ⟨b, off, none⟩ = some (.int .i64 0) := hc 0 (by omega)
  have HB := Lib.hid hb2
  clear hc H2 hbl hb2
  go_wp2_with (go_at_call 10; with_reducible refine (KN.out _).mono ?_; rintro e w' ⟨rfl, rfl⟩)
  go_ret
  exact ⟨rfl, HB.out⟩
end Go.Proofs.YtjfipijdjbbogaaDoor
