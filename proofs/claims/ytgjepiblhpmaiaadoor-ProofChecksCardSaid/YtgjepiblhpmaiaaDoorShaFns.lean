/-
  Contracts of the small functions of package sha, and of the reference's turn.
-/
import Derived.Test.YtgjepiblhpmaiaaDoorShaSpec
import Derived.BigQuiet
import Derived.Deep.QuietTactic
namespace Go.Proofs.YtgjepiblhpmaiaaDoor
open Go.ChangeShapes Go.WideShapes Go.ChangeAt Go.RowKit
set_option linter.unusedVariables false
set_option linter.unusedSimpArgs false

theorem xor_lt {a b : Nat} (ha : a < 4294967296) (hb : b < 4294967296) : a ^^^ b < 4294967296 := Nat.xor_lt_two_pow (n := 32) ha hb
theorem and_lt {a : Nat} (b : Nat) (ha : a < 4294967296) : a &&& b < 4294967296 := Nat.lt_of_le_of_lt Nat.and_le_left ha
theorem bsig0_lt {x : Nat} (h : x < 4294967296) : bsig0 x < 4294967296 := xor_lt (xor_lt (rotN_lt _ _ h) (rotN_lt _ _ h)) (rotN_lt _ _ h)
theorem bsig1_lt {x : Nat} (h : x < 4294967296) : bsig1 x < 4294967296 := xor_lt (xor_lt (rotN_lt _ _ h) (rotN_lt _ _ h)) (rotN_lt _ _ h)
theorem ssig0_lt {x : Nat} (h : x < 4294967296) : ssig0 x < 4294967296 := xor_lt (xor_lt (rotN_lt _ _ h) (rotN_lt _ _ h)) (by omega)
theorem ssig1_lt {x : Nat} (h : x < 4294967296) : ssig1 x < 4294967296 := xor_lt (xor_lt (rotN_lt _ _ h) (rotN_lt _ _ h)) (by omega)
theorem chN_lt {x y z : Nat} (h : x < 4294967296) : chN x y z < 4294967296 := xor_lt (and_lt _ h) (and_lt _ (xor_lt (by omega) h))
theorem majN_lt {x y z : Nat} (h : x < 4294967296) (hy : y < 4294967296) : majN x y z < 4294967296 := xor_lt (xor_lt (and_lt _ h) (and_lt _ h)) (and_lt _ hy)

theorem ch_int (x y z : Nat) (hx : x < 4294967296) (hy : y < 4294967296) (hz : z < 4294967296) :
    bits .xor .u32 (bits .and .u32 (x : Int) (y : Int)) (bits .and .u32 (bits .xor .u32 IntKind.u32.max (x : Int)) (z : Int)) = ((chN x y z : Nat) : Int) := by
  have e := u32_xor_nat 4294967295 x (by omega) hx
  rw [show IntKind.u32.max = ((4294967295 : Nat) : Int) from rfl, e, u32_and_nat _ _ hx hy, u32_and_nat _ _ (xor_lt (by omega) hx) hz, u32_xor_nat _ _ (and_lt _ hx) (and_lt _ (xor_lt (by omega) hx))]
  rfl
theorem maj_int (x y z : Nat) (hx : x < 4294967296) (hy : y < 4294967296) (hz : z < 4294967296) :
    bits .xor .u32 (bits .xor .u32 (bits .and .u32 (x : Int) (y : Int)) (bits .and .u32 (x : Int) (z : Int))) (bits .and .u32 (y : Int) (z : Int)) = ((majN x y z : Nat) : Int) := by
  rw [u32_and_nat _ _ hx hy, u32_and_nat _ _ hx hz, u32_and_nat _ _ hy hz, u32_xor_nat _ _ (and_lt _ hx) (and_lt _ hx), u32_xor_nat _ _ (xor_lt (and_lt _ hx) (and_lt _ hx)) (and_lt _ hy)]
  rfl
theorem xor3_int (a b c : Nat) (ha : a < 4294967296) (hb : b < 4294967296) (hc : c < 4294967296) : bits .xor .u32 (bits .xor .u32 (a : Int) (b : Int)) (c : Int) = ((a ^^^ b ^^^ c : Nat) : Int) := by
  rw [u32_xor_nat _ _ ha hb, u32_xor_nat _ _ (xor_lt ha hb) hc]
theorem bsig0_int (x : Nat) (h : x < 4294967296) : bits .xor .u32 (bits .xor .u32 ((rotN x 2 : Nat) : Int) ((rotN x 13 : Nat) : Int)) ((rotN x 22 : Nat) : Int) = ((bsig0 x : Nat) : Int) := xor3_int _ _ _ (rotN_lt _ _ h) (rotN_lt _ _ h) (rotN_lt _ _ h)
theorem bsig1_int (x : Nat) (h : x < 4294967296) : bits .xor .u32 (bits .xor .u32 ((rotN x 6 : Nat) : Int) ((rotN x 11 : Nat) : Int)) ((rotN x 25 : Nat) : Int) = ((bsig1 x : Nat) : Int) := xor3_int _ _ _ (rotN_lt _ _ h) (rotN_lt _ _ h) (rotN_lt _ _ h)
theorem ssig0_int (x : Nat) (h : x < 4294967296) : bits .xor .u32 (bits .xor .u32 ((rotN x 7 : Nat) : Int) ((rotN x 18 : Nat) : Int)) ((x : Int) / 8) = ((ssig0 x : Nat) : Int) := xor3_int _ _ (x / 8) (rotN_lt _ _ h) (rotN_lt _ _ h) (by omega)
theorem ssig1_int (x : Nat) (h : x < 4294967296) : bits .xor .u32 (bits .xor .u32 ((rotN x 17 : Nat) : Int) ((rotN x 19 : Nat) : Int)) ((x : Int) / 1024) = ((ssig1 x : Nat) : Int) := xor3_int _ _ (x / 1024) (rotN_lt _ _ h) (rotN_lt _ _ h) (by omega)

namespace sha
theorem choose (x y z : Nat) (w : World) (hx : x < 4294967296) (hy : y < 4294967296) (hz : z < 4294967296) :
    Calls Tryd.prog 67 #[.int .u32 (x : Int), .int .u32 (y : Int), .int .u32 (z : Int)] w fun e w' => e = .returned (.int .u32 ((chN x y z : Nat) : Int)) ∧ w = w' := by
  go_enter Tryd.func67, Tryd.ntmps67
  go_wp2
  go_ret
  exact ⟨ret_int (ch_int x y z hx hy hz), rfl⟩
theorem majority (x y z : Nat) (w : World) (hx : x < 4294967296) (hy : y < 4294967296) (hz : z < 4294967296) :
    Calls Tryd.prog 69 #[.int .u32 (x : Int), .int .u32 (y : Int), .int .u32 (z : Int)] w fun e w' => e = .returned (.int .u32 ((majN x y z : Nat) : Int)) ∧ w = w' := by
  go_enter Tryd.func69, Tryd.ntmps69
  go_wp2
  go_ret
  exact ⟨ret_int (maj_int x y z hx hy hz), rfl⟩
theorem bigSigma0 (x : Nat) (w : World) (hx : x < 4294967296) :
    Calls Tryd.prog 68 #[.int .u32 (x : Int)] w fun e w' => e = .returned (.int .u32 ((bsig0 x : Nat) : Int)) ∧ ∃ k, w' = w.drewN k := by
  go_enter Tryd.func68, Tryd.ntmps68
  go_wp2_with (go_at_call 75; refine (wordsRot _ _ _ hx).mono ?_; rintro e w' ⟨rfl, ⟨k, rfl⟩⟩)
  go_ret
  exact ⟨ret_int (bsig0_int x hx), _, rfl⟩
theorem bigSigma1 (x : Nat) (w : World) (hx : x < 4294967296) :
    Calls Tryd.prog 66 #[.int .u32 (x : Int)] w fun e w' => e = .returned (.int .u32 ((bsig1 x : Nat) : Int)) ∧ ∃ k, w' = w.drewN k := by
  go_enter Tryd.func66, Tryd.ntmps66
  go_wp2_with (go_at_call 75; refine (wordsRot _ _ _ hx).mono ?_; rintro e w' ⟨rfl, ⟨k, rfl⟩⟩)
  go_ret
  exact ⟨ret_int (bsig1_int x hx), _, rfl⟩
theorem smallSigma0 (x : Nat) (w : World) (hx : x < 4294967296) :
    Calls Tryd.prog 74 #[.int .u32 (x : Int)] w fun e w' => e = .returned (.int .u32 ((ssig0 x : Nat) : Int)) ∧ ∃ k, w' = w.drewN k := by
  go_enter Tryd.func74, Tryd.ntmps74
  go_wp2_with (go_at_call 75; refine (wordsRot _ _ _ hx).mono ?_; rintro e w' ⟨rfl, ⟨k, rfl⟩⟩)
  go_ret
  exact ⟨ret_int (ssig0_int x hx), _, rfl⟩
theorem smallSigma1 (x : Nat) (w : World) (hx : x < 4294967296) :
    Calls Tryd.prog 73 #[.int .u32 (x : Int)] w fun e w' => e = .returned (.int .u32 ((ssig1 x : Nat) : Int)) ∧ ∃ k, w' = w.drewN k := by
  go_enter Tryd.func73, Tryd.ntmps73
  go_wp2_with (go_at_call 75; refine (wordsRot _ _ _ hx).mono ?_; rintro e w' ⟨rfl, ⟨k, rfl⟩⟩)
  go_ret
  exact ⟨ret_int (ssig1_int x hx), _, rfl⟩
end sha
theorem refTurn (x : Nat) (n : Int) (w : World) (hx : x < 4294967296) :
    Calls Tryd.prog 71 #[.int .u32 (x : Int), .int .i64 n] w fun e w' => e = .returned (.int .u32 ((rotN x (n % 32).toNat : Nat) : Int)) ∧ w = w' := by
  go_enter Tryd.func71, Tryd.ntmps71
  go_wp2_with (go_at_call 76; refine (refRot _ _ _ hx).mono ?_; rintro e w' ⟨rfl, rfl⟩)
  go_ret
  exact ⟨rfl, rfl⟩
end Go.Proofs.YtgjepiblhpmaiaaDoor
