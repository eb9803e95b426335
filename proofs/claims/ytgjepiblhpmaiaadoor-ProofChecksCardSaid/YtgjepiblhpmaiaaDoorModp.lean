/-
  Contracts of modp.Reduce, Add, Sub, Mul.
-/
import Derived.Test.YtgjepiblhpmaiaaDoorMul64
namespace Go.Proofs.YtgjepiblhpmaiaaDoor
open Go.ChangeShapes Go.WideShapes Go.ChangeAt Go.RowKit
set_option linter.unusedVariables false
set_option linter.unusedSimpArgs false

/-! ### What they answer, on natural numbers -/
def addM (a b : Nat) : Nat := (a + b) % 2305843009213693951
def subN (a b : Nat) : Nat := (a % 2305843009213693951 + 2305843009213693951 - b % 2305843009213693951) % 2305843009213693951
def mulN (a b : Nat) : Nat := a * b % 2305843009213693951
theorem addM_lt (a b : Nat) : addM a b < 2305843009213693951 := Nat.mod_lt _ (by decide)
theorem subN_lt (a b : Nat) : subN a b < 2305843009213693951 := Nat.mod_lt _ (by decide)
theorem mulN_lt (a b : Nat) : mulN a b < 2305843009213693951 := Nat.mod_lt _ (by decide)
/-- What is above 2^61 is added below. -/
theorem fold61 (n : Nat) : (n / 2305843009213693952 + n % 2305843009213693952) % 2305843009213693951 = n % 2305843009213693951 := by omega

theorem modpReduce (x : Nat) (w : World) (hx : x < 18446744073709551616) :
    Calls Tryd.prog 72 #[.int .u64 (x : Int)] w fun e w' => e = .returned (.int .u64 ((x % 2305843009213693951 : Nat) : Int)) ∧ w = w' := by
  have ma := mask61 x hx
  obtain ⟨l, hl⟩ : ∃ t, t = x % 2305843009213693952 := ⟨_, rfl⟩
  obtain ⟨h, hh⟩ : ∃ t, t = x / 2305843009213693952 := ⟨_, rfl⟩
  rw [← hl] at ma
  have qa : (x : Int) / 2305843009213693952 = (h : Int) := by omega
  have bl : l < 2305843009213693952 := by omega
  have bh : h < 8 := by omega
  obtain ⟨m, hm⟩ : ∃ t, t = l + h := ⟨_, rfl⟩
  have qm : (l : Int) + (h : Int) = (m : Int) := by omega
  have bm : m < 4611686018427387904 := by omega
  have HS := Lib.hid (And.intro hl (And.intro hh hm))
  clear hl hh hm
  by_cases hc : (2305843009213693951 : Int) ≤ (m : Int)
  · go_enter Tryd.func72, Tryd.ntmps72
    go_wp2
    go_ret
    obtain ⟨hl, hh, hm⟩ := HS.out
    exact ⟨ret_int (by omega), rfl⟩
  · have hc' : decide ((2305843009213693951 : Int) ≤ (m : Int)) = false := decide_eq_false hc
    have hm1 := Lib.hid hc
    clear hc
    go_enter Tryd.func72, Tryd.ntmps72
    go_wp2
    go_ret
    obtain ⟨hl, hh, hm⟩ := HS.out
    have := hm1.out
    exact ⟨ret_int (by omega), rfl⟩
/-- The same, the answer under a name. -/
theorem modpReduce' {x r : Nat} (h : x % 2305843009213693951 = r) (hx : x < 18446744073709551616) {y : Int} (hy : (x : Int) = y) (w : World) :
    Calls Tryd.prog 72 #[.int .u64 y] w fun e w' => e = .returned (.int .u64 (r : Int)) ∧ w = w' := by
  subst h hy
  exact modpReduce x w hx
theorem mod_mul_lt (a b : Nat) : (a % 2305843009213693951) * (b % 2305843009213693951) < 5316911983139663487003542222693990401 := by
  have h := Nat.mul_le_mul (show a % 2305843009213693951 ≤ 2305843009213693950 by omega) (show b % 2305843009213693951 ≤ 2305843009213693950 by omega)
  omega
theorem modpMul (a b : Nat) (w : World) (ha : a < 18446744073709551616) (hb : b < 18446744073709551616) :
    Calls Tryd.prog 64 #[.int .u64 (a : Int), .int .u64 (b : Int)] w fun e w' => e = .returned (.int .u64 ((mulN a b : Nat) : Int)) ∧ w = w' := by
  have hn := mod_mul_lt a b
  obtain ⟨r, hr⟩ : ∃ t, a % 2305843009213693951 = t := ⟨_, rfl⟩
  obtain ⟨s, hs⟩ : ∃ t, b % 2305843009213693951 = t := ⟨_, rfl⟩
  obtain ⟨q, hq⟩ : ∃ t, mulN a b = t := ⟨_, rfl⟩
  rw [hr, hs] at hn
  have br : r < 2305843009213693951 := by omega
  have bs : s < 2305843009213693951 := by omega
  have C1 := Lib.hid (fun w => modpReduce' hr ha rfl w)
  have C2 := Lib.hid (fun w => modpReduce' hs hb rfl w)
  have C3 := bitsMul64 r s
  have e1 : r * s % 2305843009213693951 = q := by rw [← hq, mulN, ← hr, ← hs, ← Nat.mul_mod]
  rw [hq]
  generalize r * s = n at *
  obtain ⟨hi, hhi⟩ : ∃ t, n / 18446744073709551616 = t := ⟨_, rfl⟩
  obtain ⟨lo, hlo⟩ : ∃ t, n % 18446744073709551616 = t := ⟨_, rfl⟩
  rw [hhi, hlo] at C3
  obtain ⟨lh, hlh⟩ : ∃ t, lo / 2305843009213693952 = t := ⟨_, rfl⟩
  have ql : (lo : Int) / 2305843009213693952 = (lh : Int) := by omega
  have ml := mask61 lo (by omega)
  obtain ⟨ll, hll⟩ : ∃ t, lo % 2305843009213693952 = t := ⟨_, rfl⟩
  rw [hll] at ml
  have mo := or_join3 hi lh (by omega) (by omega)
  obtain ⟨ab, hab⟩ : ∃ t, hi * 8 + lh = t := ⟨_, rfl⟩
  rw [hab] at mo
  have b1 : hi < 288230376151711744 := by omega
  have b2 : ll < 2305843009213693952 := by omega
  have b3 : ab < 2305843009213693952 := by omega
  have b4 : lo < 18446744073709551616 := by omega
  have C3' := Lib.hid (fun w => C3 w (by omega) (by omega))
  have C4 := Lib.hid (fun w => modpReduce' (x := ll + ab) (r := q) (by omega) (by omega) (Int.natCast_add ll ab) w)
  clear hn hr hs hq C3 e1 hhi hlo hlh hll hab
  go_enter Tryd.func64, Tryd.ntmps64
  go_wp2_with fail
  refine (C1.out _).mono ?_
  rintro e w' ⟨rfl, rfl⟩
  go_wp2_with fail
  refine (C2.out _).mono ?_
  rintro e w' ⟨rfl, rfl⟩
  go_wp2_with fail
  refine (C3'.out _).mono ?_
  rintro e w' ⟨rfl, rfl⟩
  go_wp2_with fail
  refine (C4.out _).mono ?_
  rintro e w' ⟨rfl, rfl⟩
  go_wp2_with fail
  go_ret
  exact ⟨rfl, rfl⟩
/-- The same, the answer under a name. -/
theorem modpMul' {a b c : Nat} (h : mulN a b = c) (ha : a < 18446744073709551616) (hb : b < 18446744073709551616) {x y : Int} (hx : (a : Int) = x) (hy : (b : Int) = y) (w : World) :
    Calls Tryd.prog 64 #[.int .u64 x, .int .u64 y] w fun e w' => e = .returned (.int .u64 (c : Int)) ∧ w = w' := by
  subst h hx hy
  exact modpMul a b w ha hb
end Go.Proofs.YtgjepiblhpmaiaaDoor
