/-
  Contracts of scalar.Reduce, Add, Sub, Mul.
-/
import Derived.Test.YtgjepiblhpmaiaaDoorMul64
import Derived.Test.YtgjepiblhpmaiaaDoorScalN
namespace Go.Proofs.YtgjepiblhpmaiaaDoor
open Go.ChangeShapes Go.WideShapes Go.ChangeAt Go.RowKit
set_option linter.unusedVariables false
set_option linter.unusedSimpArgs false

/-- 2^61 is 2 modulo N: what stands above is added twice. -/
theorem scalarFold' {a b c : Nat} (h : 2 * a + b = c) (ha : a < 2305843009213693952) (hb : b < 2305843009213693952) (w : World) :
    Calls Tryd.prog 59 #[.int .u64 (a : Int), .int .u64 (b : Int)] w fun e w' => e = .returned (.int .u64 (c : Int)) ∧ w = w' := by
  have HC := Lib.hid h
  clear h
  go_enter Tryd.func59, Tryd.ntmps59
  go_wp2
  go_ret
  have := HC.out
  exact ⟨ret_int (by omega), rfl⟩
theorem scalarReduce (x : Nat) (w : World) (hx : x < 18446744073709551616) :
    Calls Tryd.prog 57 #[.int .u64 (x : Int)] w fun e w' => e = .returned (.int .u64 ((x % 2305843009213693950 : Nat) : Int)) ∧ w = w' := by
  have ma := mask61 x hx
  obtain ⟨l, hl⟩ : ∃ t, t = x % 2305843009213693952 := ⟨_, rfl⟩
  obtain ⟨h, hh⟩ : ∃ t, t = x / 2305843009213693952 := ⟨_, rfl⟩
  rw [← hl] at ma
  have qa : (x : Int) / 2305843009213693952 = (h : Int) := by omega
  have bl : l < 2305843009213693952 := by omega
  have bh : h < 8 := by omega
  obtain ⟨m, hm⟩ : ∃ t, 2 * h + l = t := ⟨_, rfl⟩
  have bm : m < 4611686018427387904 := by omega
  have F := Lib.hid (fun w => scalarFold' hm (by omega) bl w)
  have HS := Lib.hid (And.intro hl (And.intro hh hm))
  clear hl hh hm
  by_cases hc : (2305843009213693950 : Int) ≤ (m : Int)
  · go_enter Tryd.func57, Tryd.ntmps57
    go_wp2_with fail
    refine (F.out _).mono ?_
    rintro e w' ⟨rfl, rfl⟩
    go_wp2_with fail
    go_ret
    obtain ⟨hl, hh, hm⟩ := HS.out
    exact ⟨ret_int (by omega), rfl⟩
  · have hc' : decide ((2305843009213693950 : Int) ≤ (m : Int)) = false := decide_eq_false hc
    have hm1 := Lib.hid hc
    clear hc
    go_enter Tryd.func57, Tryd.ntmps57
    go_wp2_with fail
    refine (F.out _).mono ?_
    rintro e w' ⟨rfl, rfl⟩
    go_wp2_with fail
    go_ret
    obtain ⟨hl, hh, hm⟩ := HS.out
    have := hm1.out
    exact ⟨ret_int (by omega), rfl⟩
/-- The same, the answer under a name. -/
theorem scalarReduce' {x r : Nat} (h : x % 2305843009213693950 = r) (hx : x < 18446744073709551616) {y : Int} (hy : (x : Int) = y) (w : World) :
    Calls Tryd.prog 57 #[.int .u64 y] w fun e w' => e = .returned (.int .u64 (r : Int)) ∧ w = w' := by
  subst h hy
  exact scalarReduce x w hx
theorem scalarAdd (a b : Nat) (w : World) (ha : a < 18446744073709551616) (hb : b < 18446744073709551616) :
    Calls Tryd.prog 45 #[.int .u64 (a : Int), .int .u64 (b : Int)] w fun e w' => e = .returned (.int .u64 ((addS a b : Nat) : Int)) ∧ w = w' := by
  obtain ⟨r, hr⟩ : ∃ t, a % 2305843009213693950 = t := ⟨_, rfl⟩
  obtain ⟨s, hs⟩ : ∃ t, b % 2305843009213693950 = t := ⟨_, rfl⟩
  obtain ⟨q, hq⟩ : ∃ t, addS a b = t := ⟨_, rfl⟩
  have br : r < 2305843009213693950 := by omega
  have bs : s < 2305843009213693950 := by omega
  have e1 : (r + s) % 2305843009213693950 = q := by rw [← hq, addS, ← hr, ← hs, ← Nat.add_mod]
  have C1 := Lib.hid (fun w => scalarReduce' hr ha rfl w)
  have C2 := Lib.hid (fun w => scalarReduce' hs hb rfl w)
  have C3 := Lib.hid (fun w => scalarReduce' e1 (by omega) (Int.natCast_add r s) w)
  rw [hq]
  clear hr hs hq e1
  go_enter Tryd.func45, Tryd.ntmps45
  go_wp2_with fail
  refine (C1.out _).mono ?_
  rintro e w' ⟨rfl, rfl⟩
  go_wp2_with fail
  refine (C2.out _).mono ?_
  rintro e w' ⟨rfl, rfl⟩
  go_wp2_with fail
  refine (C3.out _).mono ?_
  rintro e w' ⟨rfl, rfl⟩
  go_wp2_with fail
  go_ret
  exact ⟨rfl, rfl⟩
/-- The same, the answer under a name. -/
theorem scalarAdd' {a b c : Nat} (h : addS a b = c) (ha : a < 18446744073709551616) (hb : b < 18446744073709551616) {x y : Int} (hx : (a : Int) = x) (hy : (b : Int) = y) (w : World) :
    Calls Tryd.prog 45 #[.int .u64 x, .int .u64 y] w fun e w' => e = .returned (.int .u64 (c : Int)) ∧ w = w' := by
  subst h hx hy
  exact scalarAdd a b w ha hb
theorem scalarSub (a b : Nat) (w : World) (ha : a < 18446744073709551616) (hb : b < 18446744073709551616) :
    Calls Tryd.prog 50 #[.int .u64 (a : Int), .int .u64 (b : Int)] w fun e w' => e = .returned (.int .u64 ((subS a b : Nat) : Int)) ∧ w = w' := by
  obtain ⟨r, hr⟩ : ∃ t, a % 2305843009213693950 = t := ⟨_, rfl⟩
  obtain ⟨s, hs⟩ : ∃ t, b % 2305843009213693950 = t := ⟨_, rfl⟩
  obtain ⟨q, hq⟩ : ∃ t, subS a b = t := ⟨_, rfl⟩
  have br : r < 2305843009213693950 := by omega
  have bs : s < 2305843009213693950 := by omega
  have e1 : (r + 2305843009213693950 - s) % 2305843009213693950 = q := by rw [← hq, subS, ← hr, ← hs]
  have C1 := Lib.hid (fun w => scalarReduce' hr ha rfl w)
  have C2 := Lib.hid (fun w => scalarReduce' hs hb rfl w)
  have C3 := Lib.hid (fun w => scalarReduce' e1 (by omega) (show ((r + 2305843009213693950 - s : Nat) : Int) = (r : Int) + 2305843009213693950 - (s : Int) by omega) w)
  rw [hq]
  clear hr hs hq e1
  go_enter Tryd.func50, Tryd.ntmps50
  go_wp2_with fail
  refine (C1.out _).mono ?_
  rintro e w' ⟨rfl, rfl⟩
  go_wp2_with fail
  refine (C2.out _).mono ?_
  rintro e w' ⟨rfl, rfl⟩
  go_wp2_with fail
  refine (C3.out _).mono ?_
  rintro e w' ⟨rfl, rfl⟩
  go_wp2_with fail
  go_ret
  exact ⟨rfl, rfl⟩
/-- The same, the answer under a name. -/
theorem scalarSub' {a b c : Nat} (h : subS a b = c) (ha : a < 18446744073709551616) (hb : b < 18446744073709551616) {x y : Int} (hx : (a : Int) = x) (hy : (b : Int) = y) (w : World) :
    Calls Tryd.prog 50 #[.int .u64 x, .int .u64 y] w fun e w' => e = .returned (.int .u64 (c : Int)) ∧ w = w' := by
  subst h hx hy
  exact scalarSub a b w ha hb
theorem scalarMul (a b : Nat) (w : World) (ha : a < 18446744073709551616) (hb : b < 18446744073709551616) :
    Calls Tryd.prog 46 #[.int .u64 (a : Int), .int .u64 (b : Int)] w fun e w' => e = .returned (.int .u64 ((mulS a b : Nat) : Int)) ∧ w = w' := by
  have hn := mod_mul_ltS a b
  obtain ⟨r, hr⟩ : ∃ t, a % 2305843009213693950 = t := ⟨_, rfl⟩
  obtain ⟨s, hs⟩ : ∃ t, b % 2305843009213693950 = t := ⟨_, rfl⟩
  obtain ⟨q, hq⟩ : ∃ t, mulS a b = t := ⟨_, rfl⟩
  rw [hr, hs] at hn
  have br : r < 2305843009213693950 := by omega
  have bs : s < 2305843009213693950 := by omega
  have C1 := Lib.hid (fun w => scalarReduce' hr ha rfl w)
  have C2 := Lib.hid (fun w => scalarReduce' hs hb rfl w)
  have C3 := bitsMul64 r s
  have e1 : r * s % 2305843009213693950 = q := by rw [← hq, mulS, ← hr, ← hs, ← Nat.mul_mod]
  rw [hq]
  generalize r * s = n at *
  obtain ⟨hi, hhi⟩ : ∃ t, n / 18446744073709551616 = t := ⟨_, rfl⟩
  obtain ⟨lo, hlo⟩ : ∃ t, n % 18446744073709551616 = t := ⟨_, rfl⟩
  rw [hhi, hlo] at C3
  obtain ⟨lh, hlh⟩ : ∃ t, lo / 2305843009213693952 = t := ⟨_, rfl⟩
  have ql : (lo : Int) / 2305843009213693952 = (lh : Int) := by omega
  have ml := mask61 lo (by omega)
  obtain ⟨ll, hll⟩ : ∃ t, lo % 2305843009213693952 = t := ⟨_, rfl⟩
  rw [hll] at ml
  have mo := or_join3 hi lh (by omega) (by omega)
  obtain ⟨ab, hab⟩ : ∃ t, hi * 8 + lh = t := ⟨_, rfl⟩
  rw [hab] at mo
  have b1 : hi < 288230376151711744 := by omega
  have b2 : ll < 2305843009213693952 := by omega
  have b3 : ab < 2305843009213693952 := by omega
  have b4 : lo < 18446744073709551616 := by omega
  have C3' := Lib.hid (fun w => C3 w (by omega) (by omega))
  obtain ⟨m, hm⟩ : ∃ t, 2 * ab + ll = t := ⟨_, rfl⟩
  have C4 := Lib.hid (fun w => scalarFold' hm b3 b2 w)
  have C5 := Lib.hid (fun w => scalarReduce' (x := m) (r := q) (by omega) (by omega) rfl w)
  clear hn hr hs hq C3 e1 hhi hlo hlh hll hab hm
  go_enter Tryd.func46, Tryd.ntmps46
  go_wp2_with fail
  refine (C1.out _).mono ?_
  rintro e w' ⟨rfl, rfl⟩
  go_wp2_with fail
  refine (C2.out _).mono ?_
  rintro e w' ⟨rfl, rfl⟩
  go_wp2_with fail
  refine (C3'.out _).mono ?_
  rintro e w' ⟨rfl, rfl⟩
  go_wp2_with fail
  refine (C4.out _).mono ?_
  rintro e w' ⟨rfl, rfl⟩
  go_wp2_with fail
  refine (C5.out _).mono ?_
  rintro e w' ⟨rfl, rfl⟩
  go_wp2_with fail
  go_ret
  exact ⟨rfl, rfl⟩
/-- The same, the answer under a name. -/
theorem scalarMul' {a b c : Nat} (h : mulS a b = c) (ha : a < 18446744073709551616) (hb : b < 18446744073709551616) {x y : Int} (hx : (a : Int) = x) (hy : (b : Int) = y) (w : World) :
    Calls Tryd.prog 46 #[.int .u64 x, .int .u64 y] w fun e w' => e = .returned (.int .u64 (c : Int)) ∧ w = w' := by
  subst h hx hy
  exact scalarMul a b w ha hb
end Go.Proofs.YtgjepiblhpmaiaaDoor
