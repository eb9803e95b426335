/-
  Numbers modulo N = P - 1, of no program: what chapter 7's functions answer, on natural numbers.
-/
import Derived.Test.YtgjepiblhpmaiaaDoorBase
import Derived.Test.YtgjepiblhpmaiaaDoorNum
namespace Go.Proofs.YtgjepiblhpmaiaaDoor
set_option linter.unusedVariables false
set_option linter.unusedSimpArgs false

def addS (a b : Nat) : Nat := (a + b) % 2305843009213693950
def subS (a b : Nat) : Nat := (a % 2305843009213693950 + 2305843009213693950 - b % 2305843009213693950) % 2305843009213693950
def mulS (a b : Nat) : Nat := a * b % 2305843009213693950
theorem addS_lt (a b : Nat) : addS a b < 2305843009213693950 := Nat.mod_lt _ (by decide)
theorem subS_lt (a b : Nat) : subS a b < 2305843009213693950 := Nat.mod_lt _ (by decide)
theorem mulS_lt (a b : Nat) : mulS a b < 2305843009213693950 := Nat.mod_lt _ (by decide)
theorem mulS_comm (a b : Nat) : mulS b a = mulS a b := by rw [mulS, mulS, Nat.mul_comm]
theorem addS_comm (a b : Nat) : addS b a = addS a b := by rw [addS, addS, Nat.add_comm]
theorem addS_assoc (a b c : Nat) : addS a (addS b c) = addS (addS a b) c := by unfold addS; omega
theorem mulS_assoc (a b c : Nat) : mulS a (mulS b c) = mulS (mulS a b) c := by unfold mulS; rw [Nat.mul_mod_mod, Nat.mod_mul_mod, Nat.mul_assoc]
theorem mulS_addS (a b c : Nat) : addS (mulS a b) (mulS a c) = mulS a (addS b c) := by unfold addS mulS; rw [← Nat.add_mod, Nat.mul_mod_mod, Nat.mul_add]
theorem subS_addS (a b : Nat) : subS (addS a b) b = a % 2305843009213693950 := by unfold subS addS; omega
theorem addS_subS (a b : Nat) : addS (subS a b) b = a % 2305843009213693950 := by unfold subS addS; omega
theorem subS_subS (a : Nat) : subS 0 (subS 0 a) = a % 2305843009213693950 := by unfold subS; omega
/-- 2^61 is 2: what is above it is added twice. -/
theorem fold61S (n : Nat) : (2 * (n / 2305843009213693952) + n % 2305843009213693952) % 2305843009213693950 = n % 2305843009213693950 := by omega
theorem mod_mul_ltS (a b : Nat) : (a % 2305843009213693950) * (b % 2305843009213693950) < 5316911983139663484697699213479301121 + 1 := by
  have h := Nat.mul_le_mul (show a % 2305843009213693950 ≤ 2305843009213693949 by omega) (show b % 2305843009213693950 ≤ 2305843009213693949 by omega)
  omega
/-- One step of a product by doubling, from the highest bit on. -/
theorem mul_stepS (r x i s : Nat) (h : s % 2305843009213693950 = (r / 2 ^ (i + 1)) * x % 2305843009213693950) :
    (r / 2 ^ i % 2 = 1 → ((s + s) % 2305843009213693950 + x) % 2305843009213693950 = (r / 2 ^ i) * x % 2305843009213693950) ∧ (r / 2 ^ i % 2 = 0 → (s + s) % 2305843009213693950 = (r / 2 ^ i) * x % 2305843009213693950) := by
  have hs := half_step r i
  generalize r / 2 ^ (i + 1) = q at *
  generalize r / 2 ^ i = p at *
  refine ⟨fun h1 => ?_, fun h1 => ?_⟩
  · have e : p * x = q * x + q * x + x := by rw [show p = q + q + 1 by omega, Nat.add_mul, Nat.add_mul, Nat.one_mul]
    rw [e]
    generalize q * x = Q at *
    omega
  · have e : p * x = q * x + q * x := by rw [show p = q + q by omega, Nat.add_mul]
    rw [e]
    generalize q * x = Q at *
    omega

/-! ### Bytes as a number modulo N -/
def ofS (l : List UInt8) : Nat := be l % 2305843009213693950
theorem ofS_nil : ofS [] = 0 := by decide
theorem ofS_lt (l : List UInt8) : ofS l < 2305843009213693950 := Nat.mod_lt _ (by decide)
theorem ofS_snoc (l : List UInt8) (c : UInt8) : ofS (l ++ [c]) = addS (mulS (ofS l) 256) c.toNat := by
  unfold ofS addS mulS
  rw [be_snoc]
  omega
theorem ofS_zero (l : List UInt8) : ofS ([0] ++ l) = ofS l := rfl

end Go.Proofs.YtgjepiblhpmaiaaDoor
