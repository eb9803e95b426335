/-
  Contracts of the reference's AddN, SubN, MulN.
-/
import Derived.Test.YtgjepiblhpmaiaaDoorRefWide
import Derived.Test.YtgjepiblhpmaiaaDoorMul64
import Derived.Test.YtgjepiblhpmaiaaDoorScalN
namespace Go.Proofs.YtgjepiblhpmaiaaDoor
open Go.ChangeShapes Go.WideShapes Go.ChangeAt Go.RowKit
set_option linter.unusedVariables false
set_option linter.unusedSimpArgs false

theorem tmodS {a r : Nat} (h : a % 2305843009213693950 = r) : (a : Int).tmod 2305843009213693950 = (r : Int) := by
  rw [Int.tmod_eq_emod_of_nonneg (by omega)]
  omega
theorem refAddN (a b : Nat) (w : World) (ha : a < 18446744073709551616) (hb : b < 18446744073709551616) :
    Calls Tryd.prog 22 #[.int .u64 (a : Int), .int .u64 (b : Int)] w fun e w' => e = .returned (.int .u64 ((addS a b : Nat) : Int)) ∧ w = w' := by
  obtain ⟨r, hr⟩ : ∃ t, a % 2305843009213693950 = t := ⟨_, rfl⟩
  obtain ⟨s, hs⟩ : ∃ t, b % 2305843009213693950 = t := ⟨_, rfl⟩
  obtain ⟨q, hq⟩ : ∃ t, addS a b = t := ⟨_, rfl⟩
  have t1 := tmodS hr
  have t2 := tmodS hs
  have br : r < 2305843009213693950 := by omega
  have bs : s < 2305843009213693950 := by omega
  have e1 : (r + s) % 2305843009213693950 = q := by rw [← hq, addS, ← hr, ← hs, ← Nat.add_mod]
  have t3 := tmodS e1
  rw [Int.natCast_add] at t3
  have u1 : (a : Int) % 2305843009213693950 = (r : Int) := by omega
  have u2 : (b : Int) % 2305843009213693950 = (s : Int) := by omega
  have u3 : ((r : Int) + (s : Int)) % 2305843009213693950 = (q : Int) := by omega
  rw [hq]
  clear hr hs hq e1
  go_enter Tryd.func22, Tryd.ntmps22
  go_wp2_with fail
  go_ret
  exact ⟨rfl, rfl⟩
/-- The same, the answer under a name. -/
theorem refAddN' {a b c : Nat} (h : addS a b = c) (ha : a < 18446744073709551616) (hb : b < 18446744073709551616) {x y : Int} (hx : (a : Int) = x) (hy : (b : Int) = y) (w : World) :
    Calls Tryd.prog 22 #[.int .u64 x, .int .u64 y] w fun e w' => e = .returned (.int .u64 (c : Int)) ∧ w = w' := by
  subst h hx hy
  exact refAddN a b w ha hb
theorem refSubN (a b : Nat) (w : World) (ha : a < 18446744073709551616) (hb : b < 18446744073709551616) :
    Calls Tryd.prog 52 #[.int .u64 (a : Int), .int .u64 (b : Int)] w fun e w' => e = .returned (.int .u64 ((subS a b : Nat) : Int)) ∧ w = w' := by
  obtain ⟨r, hr⟩ : ∃ t, a % 2305843009213693950 = t := ⟨_, rfl⟩
  obtain ⟨s, hs⟩ : ∃ t, b % 2305843009213693950 = t := ⟨_, rfl⟩
  obtain ⟨q, hq⟩ : ∃ t, subS a b = t := ⟨_, rfl⟩
  have t1 := tmodS hr
  have t2 := tmodS hs
  have br : r < 2305843009213693950 := by omega
  have bs : s < 2305843009213693950 := by omega
  have e1 : (r + 2305843009213693950 - s) % 2305843009213693950 = q := by rw [← hq, subS, ← hr, ← hs]
  have t3 := tmodS e1
  rw [show ((r + 2305843009213693950 - s : Nat) : Int) = (r : Int) + 2305843009213693950 - (s : Int) by omega] at t3
  have u1 : (a : Int) % 2305843009213693950 = (r : Int) := by omega
  have u2 : (b : Int) % 2305843009213693950 = (s : Int) := by omega
  have u3 : ((r : Int) + 2305843009213693950 - (s : Int)) % 2305843009213693950 = (q : Int) := by omega
  rw [hq]
  clear hr hs hq e1
  go_enter Tryd.func52, Tryd.ntmps52
  go_wp2_with fail
  go_ret
  exact ⟨rfl, rfl⟩
theorem refSubN' {a b c : Nat} (h : subS a b = c) (ha : a < 18446744073709551616) (hb : b < 18446744073709551616) {x y : Int} (hx : (a : Int) = x) (hy : (b : Int) = y) (w : World) :
    Calls Tryd.prog 52 #[.int .u64 x, .int .u64 y] w fun e w' => e = .returned (.int .u64 (c : Int)) ∧ w = w' := by
  subst h hx hy
  exact refSubN a b w ha hb
theorem refMulN (a b : Nat) (w : World) (ha : a < 18446744073709551616) (hb : b < 18446744073709551616) :
    Calls Tryd.prog 49 #[.int .u64 (a : Int), .int .u64 (b : Int)] w fun e w' => e = .returned (.int .u64 ((mulS a b : Nat) : Int)) ∧ w = w' := by
  have hn := mod_mul_ltS a b
  obtain ⟨r, hr⟩ : ∃ t, a % 2305843009213693950 = t := ⟨_, rfl⟩
  obtain ⟨s, hs⟩ : ∃ t, b % 2305843009213693950 = t := ⟨_, rfl⟩
  obtain ⟨q, hq⟩ : ∃ t, mulS a b = t := ⟨_, rfl⟩
  rw [hr, hs] at hn
  have br : r < 2305843009213693950 := by omega
  have bs : s < 2305843009213693950 := by omega
  have t1 := tmodS hr
  have t2 := tmodS hs
  have u1 : (a : Int) % 2305843009213693950 = (r : Int) := by omega
  have u2 : (b : Int) % 2305843009213693950 = (s : Int) := by omega
  have C3 := fun w => refWide.wide r s w (by omega) (by omega)
  have e1 : r * s % 2305843009213693950 = q := by rw [← hq, mulS, ← hr, ← hs, ← Nat.mul_mod]
  have e2 := wide_mul r s (by omega) (by omega)
  rw [hq]
  generalize r * s = n at *
  generalize hiN r s = hi at *
  generalize loN r s = lo at *
  obtain ⟨lh, hlh⟩ : ∃ t, lo / 2305843009213693952 = t := ⟨_, rfl⟩
  have ql : (lo : Int) / 2305843009213693952 = (lh : Int) := by omega
  have ml := mask61 lo (by omega)
  obtain ⟨ll, hll⟩ : ∃ t, lo % 2305843009213693952 = t := ⟨_, rfl⟩
  rw [hll] at ml
  have mo := or_join3 hi lh (by omega) (by omega)
  obtain ⟨ab, hab⟩ : ∃ t, hi * 8 + lh = t := ⟨_, rfl⟩
  rw [hab] at mo
  have b1 : hi < 288230376151711744 := by omega
  have b2 : ll < 2305843009213693952 := by omega
  have b3 : ab < 2305843009213693952 := by omega
  have b4 : lo < 18446744073709551616 := by omega
  have e3 : (2 * ab + ll) % 2305843009213693950 = q := by omega
  have t3 := tmodS e3
  rw [show ((2 * ab + ll : Nat) : Int) = 2 * (ab : Int) + (ll : Int) by omega] at t3
  have u3 : (2 * (ab : Int) + (ll : Int)) % 2305843009213693950 = (q : Int) := by omega
  have C3' := Lib.hid C3
  clear hn hr hs hq C3 e1 e2 e3 hlh hll hab
  go_enter Tryd.func49, Tryd.ntmps49
  go_wp2_with fail
  refine (C3'.out _).mono ?_
  rintro e w' ⟨rfl, rfl⟩
  go_wp2_with fail
  go_ret
  exact ⟨rfl, rfl⟩
/-- The same, the answer under a name. -/
theorem refMulN' {a b c : Nat} (h : mulS a b = c) (ha : a < 18446744073709551616) (hb : b < 18446744073709551616) {x y : Int} (hx : (a : Int) = x) (hy : (b : Int) = y) (w : World) :
    Calls Tryd.prog 49 #[.int .u64 x, .int .u64 y] w fun e w' => e = .returned (.int .u64 (c : Int)) ∧ w = w' := by
  subst h hx hy
  exact refMulN a b w ha hb
end Go.Proofs.YtgjepiblhpmaiaaDoor
