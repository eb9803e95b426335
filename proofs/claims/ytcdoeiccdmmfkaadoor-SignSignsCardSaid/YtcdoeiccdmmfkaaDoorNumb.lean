/-
  Several texts in one.
-/
import Derived.Test.YtcdoeiccdmmfkaaDoorLow
import Derived.Lib.Mul64
import Derived.Deep.QuietTactic
/-
  Number theory, of no program: powers modulo a number, a generator of the residues, Fermat's theorem; 37 generates the residues of 2^61 - 1.
-/
namespace Go.Proofs.YtcdoeiccdmmfkaaDoor
/-- A map of the numbers below n into themselves that hits none twice hits all. -/
theorem inj_surj : ∀ (n : Nat) (f : Nat → Nat), (∀ i, i < n → f i < n) → (∀ i j, i < n → j < n → f i = f j → i = j) → ∀ y, y < n → ∃ i, i < n ∧ f i = y
  | 0, _, _, _, y, hy => absurd hy (by omega)
  | n + 1, f, hf, hi, y, hy => by
    by_cases hv : f n = y
    · exact ⟨n, by omega, hv⟩
    have hfn := hf n (by omega)
    have h1 : ∀ i, i < n → (if f i = n then f n else f i) < n := by
      intro i hin
      have := hf i (by omega)
      split
      · next h =>
        have : f n ≠ n := fun e => by have := hi i n (by omega) (by omega) (by rw [h, e]); omega
        omega
      · next h => omega
    have h2 : ∀ i j, i < n → j < n → (if f i = n then f n else f i) = (if f j = n then f n else f j) → i = j := by
      intro i j hi' hj' e
      split at e <;> split at e
      · next a b => exact hi i j (by omega) (by omega) (a.trans b.symm)
      · next a b => have := hi n j (by omega) (by omega) e; omega
      · next a b => have := hi i n (by omega) (by omega) e; omega
      · exact hi i j (by omega) (by omega) e
    by_cases hyn : y = n
    · obtain ⟨i, hin, e⟩ := inj_surj n (fun i => if f i = n then f n else f i) h1 h2 (f n) (by omega)
      split at e
      · next a => exact ⟨i, by omega, by omega⟩
      · have := hi i n (by omega) (by omega) e; omega
    · obtain ⟨i, hin, e⟩ := inj_surj n (fun i => if f i = n then f n else f i) h1 h2 y (by omega)
      split at e
      · exact absurd e hv
      · exact ⟨i, by omega, e⟩

/-- A power modulo m, by squares. -/
def powm (m : Nat) : Nat → Nat → Nat → Nat
  | 0, _, _ => 1 % m
  | f + 1, a, e => if e % 2 = 1 then a * powm m f (a * a % m) (e / 2) % m else powm m f (a * a % m) (e / 2)
theorem powm_eq (m : Nat) : ∀ f a e, e < 2 ^ f → powm m f a e = a ^ e % m
  | 0, a, e, h => by
    obtain rfl : e = 0 := by simpa using h
    rfl
  | f + 1, a, e, h => by
    have h2 : e / 2 < 2 ^ f := by rw [Nat.pow_succ] at h; omega
    have ih := powm_eq m f (a * a % m) (e / 2) h2
    have e2 : (a * a % m) ^ (e / 2) % m = a ^ (2 * (e / 2)) % m := by rw [← Nat.pow_mod, Nat.pow_mul, Nat.pow_two]
    rw [powm, ih, e2]
    split
    · next h1 => rw [Nat.mul_mod_mod, Nat.mul_comm, ← Nat.pow_succ, show Nat.succ (2 * (e / 2)) = e by omega]
    · next h1 => rw [show 2 * (e / 2) = e by omega]

/-! ### A generator -/
section
variable {P g : Nat}
theorem pow_zero_of {a i : Nat} (hi : a ^ i % P = 0) (j : Nat) (h : i ≤ j) : a ^ j % P = 0 := by
  rw [show j = i + (j - i) by omega, Nat.pow_add, Nat.mul_mod, hi, Nat.zero_mul, Nat.zero_mod]
theorem one_pow_mod (hP : 1 < P) {a i : Nat} (hi : a ^ i % P = 1) (j : Nat) : a ^ (i * j) % P = 1 := by
  rw [Nat.pow_mul, Nat.pow_mod, hi, Nat.one_pow, Nat.mod_eq_of_lt hP]
/-- What two exponents give 1, their greatest common divisor gives 1. -/
theorem gcd_one (hP : 1 < P) (a m n : Nat) : a ^ m % P = 1 → a ^ n % P = 1 → a ^ (Nat.gcd m n) % P = 1 := by
  induction m, n using Nat.gcd.induction with
  | H0 n => intro _ h; rw [Nat.gcd_zero_left]; exact h
  | H1 m n hm ih =>
    intro h1 h2
    rw [Nat.gcd_rec]
    refine ih ?_ h1
    have e : a ^ n % P = a ^ (n % m) % P := by
      conv => lhs; rw [← Nat.div_add_mod n m, Nat.pow_add, Nat.mul_mod, one_pow_mod hP h1, Nat.one_mul, Nat.mod_mod]
    rw [← e]
    exact h2
/-- g gives every residue but 0: P - 1 is the least exponent that gives 1. -/
structure Gen (P g : Nat) : Prop where
  big : 2 < P
  one : g ^ (P - 1) % P = 1
  least : ∀ i, 0 < i → i < P - 1 → g ^ i % P ≠ 1
theorem Gen.pos (h : Gen P g) (i : Nat) (hi : i ≤ P - 1) : g ^ i % P ≠ 0 := fun e => by
  have := pow_zero_of e (P - 1) hi
  rw [h.one] at this
  exact absurd this (by decide)
theorem Gen.inj (h : Gen P g) (i j : Nat) (hij : i < j) (hj : j < P - 1) : g ^ i % P ≠ g ^ j % P := fun e => by
  have hP := h.big
  refine h.least (j - i) (by omega) (by omega) ?_
  have h1 : g ^ (P - 1) % P = g ^ (P - 1 + (j - i)) % P := by
    have e1 : g ^ (P - 1) = g ^ i * g ^ (P - 1 - i) := by rw [← Nat.pow_add]; congr 1; omega
    have e2 : g ^ (P - 1 + (j - i)) = g ^ j * g ^ (P - 1 - i) := by rw [← Nat.pow_add]; congr 1; omega
    rw [e1, e2, Nat.mul_mod, e, ← Nat.mul_mod]
  rw [Nat.pow_add, Nat.mul_mod, h.one, Nat.one_mul, Nat.mod_mod] at h1
  exact h1.symm
theorem Gen.all (h : Gen P g) (a : Nat) (h0 : 0 < a) (h1 : a < P) : ∃ i, i < P - 1 ∧ g ^ i % P = a := by
  have hP := h.big
  obtain ⟨i, hi, e⟩ := inj_surj (P - 1) (fun i => g ^ i % P - 1)
    (fun i hi => by have := Nat.mod_lt (g ^ i) (show 0 < P by omega); have := h.pos i (by omega); show g ^ i % P - 1 < P - 1; omega)
    (fun i j hi hj e => by
      have a1 := h.pos i (by omega)
      have a2 := h.pos j (by omega)
      have e' : g ^ i % P = g ^ j % P := by have : g ^ i % P - 1 = g ^ j % P - 1 := e; omega
      rcases Nat.lt_trichotomy i j with hl | hl | hl
      · exact absurd e' (h.inj i j hl hj)
      · exact hl
      · exact absurd e'.symm (h.inj j i hl hi))
    (a - 1) (by omega)
  have a1 := h.pos i (by omega)
  have e' : g ^ i % P - 1 = a - 1 := e
  exact ⟨i, hi, by omega⟩
/-- Fermat's. -/
theorem Gen.fermat (h : Gen P g) (a : Nat) (ha : a % P ≠ 0) : a ^ (P - 1) % P = 1 := by
  have hP := h.big
  obtain ⟨i, _, e⟩ := h.all (a % P) (by omega) (Nat.mod_lt _ (by omega))
  rw [Nat.pow_mod, ← e, ← Nat.pow_mod, ← Nat.pow_mul, Nat.mul_comm]
  exact one_pow_mod (by omega) h.one i
theorem Gen.mul_ne (h : Gen P g) (a b : Nat) (ha : a % P ≠ 0) (hb : b % P ≠ 0) : a * b % P ≠ 0 := fun e => by
  have hP := h.big
  have h1 : (a * b) ^ (P - 1) % P = 1 := by rw [Nat.mul_pow, Nat.mul_mod, h.fermat a ha, h.fermat b hb, Nat.one_mul, Nat.mod_eq_of_lt (by omega)]
  have h2 : (a * b) ^ (P - 1) % P = 0 := by
    rw [Nat.pow_mod, e, Nat.zero_pow (by omega), Nat.zero_mod]
  omega
theorem Gen.inv (h : Gen P g) (a : Nat) (ha : a % P ≠ 0) : a * a ^ (P - 2) % P = 1 := by
  have hP := h.big
  rw [Nat.mul_comm, ← Nat.pow_succ, show Nat.succ (P - 2) = P - 1 by omega]
  exact h.fermat a ha
/-- What undoes a, is one number. -/
theorem inv_one {a x y : Nat} (hx : x * a % P = 1) (hy : y * a % P = 1) : x % P = y % P := by
  have h1 : x * (a * y) % P = x % P := by rw [Nat.mul_mod, Nat.mul_comm a y, hy, Nat.mul_one, Nat.mod_mod]
  have h2 : x * (a * y) % P = y % P := by rw [← Nat.mul_assoc, Nat.mul_mod, hx, Nat.one_mul, Nat.mod_mod]
  rw [← h1, h2]
theorem Gen.cancel (h : Gen P g) (a b c : Nat) (ha : a % P ≠ 0) (e : a * b % P = a * c % P) : b % P = c % P := by
  have hP := h.big
  have hi := h.inv a ha
  have h1 : ∀ b, a ^ (P - 2) * (a * b) % P = b % P := fun b => by
    rw [← Nat.mul_assoc, Nat.mul_comm (a ^ (P - 2)) a, Nat.mul_mod, hi, Nat.one_mul, Nat.mod_mod]
  rw [← h1 b, ← h1 c, Nat.mul_mod, e, ← Nat.mul_mod]
/-- Exponents go by what they leave of P - 1. -/
theorem Gen.exp_mod (h : Gen P g) (a e : Nat) (ha : a % P ≠ 0) : a ^ e % P = a ^ (e % (P - 1)) % P := by
  have hP := h.big
  conv => lhs; rw [← Nat.div_add_mod e (P - 1), Nat.pow_add, Nat.mul_mod, one_pow_mod (by omega) (h.fermat a ha), Nat.one_mul, Nat.mod_mod]
theorem Gen.pow_ne (h : Gen P g) (a e : Nat) (ha : a % P ≠ 0) : a ^ e % P ≠ 0 := by
  have hP := h.big
  induction e with
  | zero => rw [Nat.pow_zero, Nat.mod_eq_of_lt (by omega)]; decide
  | succ e ih => rw [Nat.pow_succ]; exact h.mul_ne _ _ ih ha
end

/-! ### 37 gives every residue of 2^61 - 1 -/
def pP : Nat := 2305843009213693951
def fP : List Nat := [2, 3, 5, 7, 11, 13, 31, 41, 61, 151, 331, 1321]
theorem small_prime : ∀ q ∈ fP, ∀ d, d < q + 1 → q % d = 0 → d = 1 ∨ d = q := by decide +kernel
theorem pow_tests : ∀ q ∈ fP, powm pP 61 37 ((pP - 1) / q) ≠ 1 := by decide +kernel
theorem pow_all : powm pP 61 37 (pP - 1) = 1 := by decide +kernel
theorem prod_P : pP - 1 = 2 * (3 * (3 * (5 * (5 * (7 * (11 * (13 * (31 * (41 * (61 * (151 * (331 * 1321)))))))))))) := by decide +kernel
theorem lt_fuel (k : Nat) (h : k ≤ pP) : k < 2 ^ 61 := Nat.lt_of_le_of_lt h (by decide +kernel)
/-- A divisor of P - 1 other than 1 has one of the primes in it. -/
theorem div_prime (m : Nat) (hm : m ∣ pP - 1) (h1 : m ≠ 1) : ∃ q ∈ fP, q ∣ m := by
  refine Classical.byContradiction fun hno => h1 ?_
  have hc : ∀ q ∈ fP, Nat.Coprime q m := fun q hq => by
    have h0 : 0 < q := by
      have : ∀ q ∈ fP, 0 < q := by decide
      exact this q hq
    have hd : Nat.gcd q m ∣ q := Nat.gcd_dvd_left q m
    have hle := Nat.le_of_dvd h0 hd
    rcases small_prime q hq (Nat.gcd q m) (by omega) (Nat.mod_eq_zero_of_dvd hd) with h | h
    · exact h
    · exact absurd ⟨q, hq, h ▸ Nat.gcd_dvd_right q m⟩ hno
  have hall : Nat.Coprime (pP - 1) m := by
    rw [prod_P]
    have c : ∀ q ∈ fP, ∀ r, Nat.Coprime r m → Nat.Coprime (q * r) m := fun q hq r hr => Nat.Coprime.mul_left (hc q hq) hr
    refine c 2 (by decide) _ (c 3 (by decide) _ (c 3 (by decide) _ (c 5 (by decide) _ (c 5 (by decide) _ (c 7 (by decide) _ (c 11 (by decide) _ (c 13 (by decide) _ (c 31 (by decide) _ (c 41 (by decide) _ (c 61 (by decide) _ (c 151 (by decide) _ (c 331 (by decide) _ (hc 1321 (by decide))))))))))))))
  have e : Nat.gcd (pP - 1) m = m := Nat.gcd_eq_right hm
  rw [← e]
  exact hall
theorem gen37 : Gen pP 37 where
  big := by decide +kernel
  one := by rw [← powm_eq pP 61 37 (pP - 1) (lt_fuel _ (Nat.sub_le _ _))]; exact pow_all
  least := fun i h0 hi e => by
    have hP : 1 < pP := by decide +kernel
    have hone : 37 ^ (pP - 1) % pP = 1 := by rw [← powm_eq pP 61 37 (pP - 1) (lt_fuel _ (Nat.sub_le _ _))]; exact pow_all
    have hg := gcd_one hP 37 i (pP - 1) e hone
    have hgd : Nat.gcd i (pP - 1) ∣ pP - 1 := Nat.gcd_dvd_right _ _
    have hgi : Nat.gcd i (pP - 1) ∣ i := Nat.gcd_dvd_left _ _
    have hgl := Nat.le_of_dvd h0 hgi
    obtain ⟨m, hm⟩ := hgd
    have hm1 : m ≠ 1 := fun e => by rw [e, Nat.mul_one] at hm; omega
    obtain ⟨q, hq, r, hr⟩ := div_prime m ⟨Nat.gcd i (pP - 1), by rw [Nat.mul_comm]; exact hm⟩ hm1
    have h0q : 0 < q := by
      have : ∀ q ∈ fP, 0 < q := by decide
      exact this q hq
    have hdiv : (pP - 1) / q = Nat.gcd i (pP - 1) * r :=
      Nat.div_eq_of_eq_mul_right h0q (hm.trans (by rw [hr, ← Nat.mul_assoc, Nat.mul_comm _ q, Nat.mul_assoc]))
    refine pow_tests q hq ?_
    rw [powm_eq pP 61 37 _ (lt_fuel _ (Nat.le_trans (Nat.div_le_self _ _) (Nat.sub_le _ _))), hdiv]
    exact one_pow_mod hP hg r

/-! ### Bit by bit -/
theorem half_step (e i : Nat) : e / 2 ^ i = 2 * (e / 2 ^ (i + 1)) + e / 2 ^ i % 2 := by
  rw [Nat.pow_succ, ← Nat.div_div_eq_div_mul]
  omega
/-- One step of a power from the highest bit on. -/
theorem pow_step (P a e i x : Nat) (hx : x % P = a ^ (e / 2 ^ (i + 1)) % P) :
    (e / 2 ^ i % 2 = 1 → x * x % P * (a % P) % P = a ^ (e / 2 ^ i) % P) ∧ (e / 2 ^ i % 2 ≠ 1 → x * x % P = a ^ (e / 2 ^ i) % P) := by
  have hs := half_step e i
  have h2 : x * x % P = a ^ (2 * (e / 2 ^ (i + 1))) % P := by
    rw [Nat.mul_mod, hx, ← Nat.mul_mod, ← Nat.pow_add]
    congr 2
    omega
  refine ⟨fun h => ?_, fun h => ?_⟩
  · rw [h2, ← Nat.mul_mod, ← Nat.pow_succ]
    congr 2
    omega
  · rw [h2]
    congr 2
    omega
/-- A number's bits turned round: what is shifted out above comes back below. -/
theorem shift_or (x k : Nat) (hk : k ≤ 60) (hx : x < 2 ^ 61) : (x * 2 ^ k % 2 ^ 61) ||| (x / 2 ^ (61 - k)) = x * 2 ^ k % 2 ^ 61 + x / 2 ^ (61 - k) := by
  have e61 : (2 : Nat) ^ 61 = 2 ^ (61 - k) * 2 ^ k := by rw [← Nat.pow_add]; congr 1; omega
  have e1 : x * 2 ^ k % 2 ^ 61 = 2 ^ k * (x % 2 ^ (61 - k)) := by rw [e61, Nat.mul_mod_mul_right, Nat.mul_comm]
  have h2 : x / 2 ^ (61 - k) < 2 ^ k := by
    rw [Nat.div_lt_iff_lt_mul (Nat.two_pow_pos _), Nat.mul_comm, ← e61]
    exact hx
  rw [e1, ← Nat.two_pow_add_eq_or_of_lt h2]
theorem shift_div (x k : Nat) (hk : k ≤ 60) : x * 2 ^ k / 2 ^ 61 = x / 2 ^ (61 - k) := by
  have e61 : (2 : Nat) ^ 61 = 2 ^ (61 - k) * 2 ^ k := by rw [← Nat.pow_add]; congr 1; omega
  rw [e61, Nat.mul_div_mul_right _ _ (Nat.two_pow_pos _)]
end Go.Proofs.YtcdoeiccdmmfkaaDoor
/-
  Numbers modulo N = P - 1, of no program: what chapter 7's functions answer, on natural numbers.
-/
namespace Go.Proofs.YtcdoeiccdmmfkaaDoor
set_option linter.unusedVariables false
set_option linter.unusedSimpArgs false

def addS (a b : Nat) : Nat := (a + b) % 2305843009213693950
def subS (a b : Nat) : Nat := (a % 2305843009213693950 + 2305843009213693950 - b % 2305843009213693950) % 2305843009213693950
def mulS (a b : Nat) : Nat := a * b % 2305843009213693950
theorem addS_lt (a b : Nat) : addS a b < 2305843009213693950 := Nat.mod_lt _ (by decide)
theorem subS_lt (a b : Nat) : subS a b < 2305843009213693950 := Nat.mod_lt _ (by decide)
theorem mulS_lt (a b : Nat) : mulS a b < 2305843009213693950 := Nat.mod_lt _ (by decide)
theorem mulS_comm (a b : Nat) : mulS b a = mulS a b := by rw [mulS, mulS, Nat.mul_comm]
theorem addS_comm (a b : Nat) : addS b a = addS a b := by rw [addS, addS, Nat.add_comm]
theorem addS_assoc (a b c : Nat) : addS a (addS b c) = addS (addS a b) c := by unfold addS; omega
theorem mulS_assoc (a b c : Nat) : mulS a (mulS b c) = mulS (mulS a b) c := by unfold mulS; rw [Nat.mul_mod_mod, Nat.mod_mul_mod, Nat.mul_assoc]
theorem mulS_addS (a b c : Nat) : addS (mulS a b) (mulS a c) = mulS a (addS b c) := by unfold addS mulS; rw [← Nat.add_mod, Nat.mul_mod_mod, Nat.mul_add]
theorem subS_addS (a b : Nat) : subS (addS a b) b = a % 2305843009213693950 := by unfold subS addS; omega
theorem addS_subS (a b : Nat) : addS (subS a b) b = a % 2305843009213693950 := by unfold subS addS; omega
theorem subS_subS (a : Nat) : subS 0 (subS 0 a) = a % 2305843009213693950 := by unfold subS; omega
/-- 2^61 is 2: what is above it is added twice. -/
theorem fold61S (n : Nat) : (2 * (n / 2305843009213693952) + n % 2305843009213693952) % 2305843009213693950 = n % 2305843009213693950 := by omega
theorem mod_mul_ltS (a b : Nat) : (a % 2305843009213693950) * (b % 2305843009213693950) < 5316911983139663484697699213479301121 + 1 := by
  have h := Nat.mul_le_mul (show a % 2305843009213693950 ≤ 2305843009213693949 by omega) (show b % 2305843009213693950 ≤ 2305843009213693949 by omega)
  omega
/-- One step of a product by doubling, from the highest bit on. -/
theorem mul_stepS (r x i s : Nat) (h : s % 2305843009213693950 = (r / 2 ^ (i + 1)) * x % 2305843009213693950) :
    (r / 2 ^ i % 2 = 1 → ((s + s) % 2305843009213693950 + x) % 2305843009213693950 = (r / 2 ^ i) * x % 2305843009213693950) ∧ (r / 2 ^ i % 2 = 0 → (s + s) % 2305843009213693950 = (r / 2 ^ i) * x % 2305843009213693950) := by
  have hs := half_step r i
  generalize r / 2 ^ (i + 1) = q at *
  generalize r / 2 ^ i = p at *
  refine ⟨fun h1 => ?_, fun h1 => ?_⟩
  · have e : p * x = q * x + q * x + x := by rw [show p = q + q + 1 by omega, Nat.add_mul, Nat.add_mul, Nat.one_mul]
    rw [e]
    generalize q * x = Q at *
    omega
  · have e : p * x = q * x + q * x := by rw [show p = q + q by omega, Nat.add_mul]
    rw [e]
    generalize q * x = Q at *
    omega

/-! ### Bytes as a number modulo N -/
def ofS (l : List UInt8) : Nat := be l % 2305843009213693950
theorem ofS_nil : ofS [] = 0 := by decide
theorem ofS_lt (l : List UInt8) : ofS l < 2305843009213693950 := Nat.mod_lt _ (by decide)
theorem ofS_snoc (l : List UInt8) (c : UInt8) : ofS (l ++ [c]) = addS (mulS (ofS l) 256) c.toNat := by
  unfold ofS addS mulS
  rw [be_snoc]
  omega
theorem ofS_zero (l : List UInt8) : ofS ([0] ++ l) = ofS l := rfl

end Go.Proofs.YtcdoeiccdmmfkaaDoor
/-
  Numbers of 128 bits: the contract of math/bits.Mul64; 61 bits below, 3 bits beside.
-/
namespace Go.Proofs.YtcdoeiccdmmfkaaDoor
open Go.ChangeShapes Go.WideShapes Go.ChangeAt Go.RowKit
set_option linter.unusedVariables false
set_option linter.unusedSimpArgs false

theorem mask61 (x : Nat) (h : x < 18446744073709551616) : bits .and .u64 (x : Int) 2305843009213693951 = ((x % 2305843009213693952 : Nat) : Int) := by
  have e := u64_and_nat x 2305843009213693951 h (by omega)
  rw [show x &&& 2305843009213693951 = x % 2305843009213693952 from Nat.and_two_pow_sub_one_eq_mod x 61] at e
  exact e
theorem and1 (k : Nat) (h : k < 18446744073709551616) : bits .and .u64 (k : Int) 1 = ((k % 2 : Nat) : Int) := by
  have e := u64_and_nat k 1 h (by omega)
  rw [show k &&& 1 = k % 2 from Nat.and_two_pow_sub_one_eq_mod k 1] at e
  exact e
theorem or_join3 (x c : Nat) (hx : x < 2305843009213693952) (hc : c < 8) : bits .or .u64 ((x : Int) * 8) (c : Int) = ((x * 8 + c : Nat) : Int) := by
  have h := u64_or_nat (x * 8) c (by omega) (by omega)
  rw [nat_join 3 (x * 8) c (by omega) (by omega)] at h
  rw [← h]; rfl
/-- The library's own text, walked: the two halves of the product. -/
theorem bitsMul64 (a b : Nat) (w : World) (ha : a < 18446744073709551616) (hb : b < 18446744073709551616) :
    Calls Tryd.prog 42 #[.int .u64 (a : Int), .int .u64 (b : Int)] w fun e w' => e = .returned (.tuple #[.int .u64 ((a * b / 18446744073709551616 : Nat) : Int), .int .u64 ((a * b % 18446744073709551616 : Nat) : Int)]) ∧ w = w' := by
  obtain ⟨b1, b2, b3, b4⟩ := Lib.mul64_hi a b ha hb
  have m32 : ∀ x : Nat, x < 18446744073709551616 → bits .and .u64 (x : Int) 4294967295 = ((x % 4294967296 : Nat) : Int) := fun x h => by
    have e := u64_and_nat x 4294967295 h (by omega)
    rw [nat_mask32] at e
    exact e
  have ma := m32 a ha
  have mb := m32 b hb
  have hh := Lib.half_mul_le (a := a / 4294967296) (b := b / 4294967296) (by omega) (by omega)
  have hc := Lib.half_mul_le (a := a / 4294967296) (b := b % 4294967296) (by omega) (by omega)
  have hd := Lib.half_mul_le (a := a % 4294967296) (b := b / 4294967296) (by omega) (by omega)
  obtain ⟨al, hal⟩ : ∃ x, x = a % 4294967296 := ⟨_, rfl⟩
  obtain ⟨bl, hbl⟩ : ∃ x, x = b % 4294967296 := ⟨_, rfl⟩
  obtain ⟨ah, hah⟩ : ∃ x, x = a / 4294967296 := ⟨_, rfl⟩
  obtain ⟨bh, hbh⟩ : ∃ x, x = b / 4294967296 := ⟨_, rfl⟩
  have qa : (a : Int) / 4294967296 = (ah : Int) := by omega
  have qb : (b : Int) / 4294967296 = (bh : Int) := by omega
  rw [← hal] at ma b1 b2 b3 b4 hd
  rw [← hbl] at mb b1 b2 b3 b4 hc
  rw [← hah] at b2 b3 b4 hh hc
  rw [← hbh] at b3 b4 hh hd
  obtain ⟨x, hx⟩ : ∃ x, x = al * bl := ⟨_, rfl⟩
  obtain ⟨y, hy⟩ : ∃ x, x = ah * bl := ⟨_, rfl⟩
  obtain ⟨z, hz⟩ : ∃ x, x = al * bh := ⟨_, rfl⟩
  obtain ⟨t, ht⟩ : ∃ x, x = ah * bh := ⟨_, rfl⟩
  rw [← hx] at b1 b2 b3 b4
  rw [← hy] at b2 b3 b4 hc
  rw [← hz] at b3 b4 hd
  rw [← ht] at b4 hh
  obtain ⟨hi, hhi⟩ : ∃ x, x = a * b / 18446744073709551616 := ⟨_, rfl⟩
  obtain ⟨lo, hlo⟩ : ∃ x, x = a * b % 18446744073709551616 := ⟨_, rfl⟩
  rw [← hhi] at b4
  obtain ⟨u, hu⟩ : ∃ u, u = y + x / 4294967296 := ⟨_, rfl⟩
  rw [← hu] at b2 b3 b4
  obtain ⟨v, hv⟩ : ∃ v, v = u % 4294967296 + z := ⟨_, rfl⟩
  rw [← hv] at b3 b4
  obtain ⟨ul, hul⟩ : ∃ v, v = u % 4294967296 := ⟨_, rfl⟩
  rw [← hul] at hv
  have px : IntKind.u64.wrap ((al : Int) * (bl : Int)) = (x : Int) := by rw [← Int.natCast_mul, ← hx]; simp only [IntKind.wrap_u64]; omega
  have py : IntKind.u64.wrap ((ah : Int) * (bl : Int)) = (y : Int) := by rw [← Int.natCast_mul, ← hy]; simp only [IntKind.wrap_u64]; omega
  have pz : IntKind.u64.wrap ((al : Int) * (bh : Int)) = (z : Int) := by rw [← Int.natCast_mul, ← hz]; simp only [IntKind.wrap_u64]; omega
  have pt : IntKind.u64.wrap ((ah : Int) * (bh : Int)) = (t : Int) := by rw [← Int.natCast_mul, ← ht]; simp only [IntKind.wrap_u64]; omega
  have pl : IntKind.u64.wrap ((a : Int) * (b : Int)) = (lo : Int) := by rw [← Int.natCast_mul, hlo]; simp only [IntKind.wrap_u64]; omega
  have pu : IntKind.u64.wrap ((y : Int) + (x : Int) / 4294967296) = (u : Int) := by simp only [IntKind.wrap_u64]; omega
  have mu := m32 u b2
  rw [← hul] at mu
  have pv : IntKind.u64.wrap ((ul : Int) + (z : Int)) = (v : Int) := by simp only [IntKind.wrap_u64]; omega
  have ph : IntKind.u64.wrap (IntKind.u64.wrap ((t : Int) + (u : Int) / 4294967296) + (v : Int) / 4294967296) = (hi : Int) := by simp only [IntKind.wrap_u64]; omega
  rw [← hhi, ← hlo]
  have bx : (x : Int) / 4294967296 = ((x / 4294967296 : Nat) : Int) := by omega
  clear hal hbl hah hbh hx hy hz ht hhi hlo hu hv hul m32 b1 b2 b3 b4 hh hc hd bx
  go_enter Tryd.func42, Tryd.ntmps42
  go_wp2
  go_ret2
  exact ⟨rfl, rfl⟩
end Go.Proofs.YtcdoeiccdmmfkaaDoor
/-
  Contract of the reference's wide.
-/
namespace Go.Proofs.YtcdoeiccdmmfkaaDoor
open Go.ChangeShapes Go.WideShapes Go.ChangeAt Go.RowKit
set_option linter.unusedVariables false
set_option linter.unusedSimpArgs false

def wideX (a b : Nat) : Nat := (a % 4294967296) * (b % 4294967296)
def wideY (a b : Nat) : Nat := (a / 4294967296) * (b % 4294967296)
def wideZ (a b : Nat) : Nat := (a % 4294967296) * (b / 4294967296)
def wideM (a b : Nat) : Nat := wideX a b / 4294967296 + wideY a b % 4294967296 + wideZ a b % 4294967296
def hiN (a b : Nat) : Nat := ((a / 4294967296) * (b / 4294967296) + wideY a b / 4294967296 + wideZ a b / 4294967296 + wideM a b / 4294967296) % 18446744073709551616
def loN (a b : Nat) : Nat := wideM a b * 4294967296 % 18446744073709551616 ||| wideX a b % 4294967296
theorem mul_lt64 {a b : Nat} (ha : a < 4294967296) (hb : b < 4294967296) : a * b < 18446744073709551616 := by
  have h := Nat.mul_le_mul (Nat.le_of_lt_succ (show a < 4294967295 + 1 by omega)) (Nat.le_of_lt_succ (show b < 4294967295 + 1 by omega))
  omega
theorem mask32 (x : Nat) (h : x < 18446744073709551616) : bits .and .u64 (x : Int) 4294967295 = ((x % 4294967296 : Nat) : Int) := by
  have e := u64_and_nat x 4294967295 h (by omega)
  rw [nat_mask32] at e
  exact e

theorem ret_pair {k k' : IntKind} {a b c d : Int} (h : a = b) (h' : c = d) : Ending.returned (.tuple #[.int k a, .int k' c]) = .returned (.tuple #[.int k b, .int k' d]) := by rw [h, h']
namespace refWide
set_option maxHeartbeats 400000 in
theorem wide (a b : Nat) (w : World) (ha : a < 18446744073709551616) (hb : b < 18446744073709551616) :
    Calls Tryd.prog 63 #[.int .u64 (a : Int), .int .u64 (b : Int)] w fun e w' => e = .returned (.tuple #[.int .u64 ((hiN a b : Nat) : Int), .int .u64 ((loN a b : Nat) : Int)]) ∧ w = w' := by
  have ma := mask32 a ha
  have mb := mask32 b hb
  obtain ⟨al, hal⟩ : ∃ x, x = a % 4294967296 := ⟨_, rfl⟩
  obtain ⟨bl, hbl⟩ : ∃ x, x = b % 4294967296 := ⟨_, rfl⟩
  obtain ⟨ah, hah⟩ : ∃ x, x = a / 4294967296 := ⟨_, rfl⟩
  obtain ⟨bh, hbh⟩ : ∃ x, x = b / 4294967296 := ⟨_, rfl⟩
  have qa : (a : Int) / 4294967296 = (ah : Int) := by omega
  have qb : (b : Int) / 4294967296 = (bh : Int) := by omega
  rw [← hal] at ma
  rw [← hbl] at mb
  obtain ⟨x, hx⟩ : ∃ x, x = al * bl := ⟨_, rfl⟩
  obtain ⟨y, hy⟩ : ∃ x, x = ah * bl := ⟨_, rfl⟩
  obtain ⟨z, hz⟩ : ∃ x, x = al * bh := ⟨_, rfl⟩
  obtain ⟨t, ht⟩ : ∃ x, x = ah * bh := ⟨_, rfl⟩
  have wx : x < 18446744073709551616 := hx ▸ mul_lt64 (by omega) (by omega)
  have wy : y < 18446744073709551616 := hy ▸ mul_lt64 (by omega) (by omega)
  have wz : z < 18446744073709551616 := hz ▸ mul_lt64 (by omega) (by omega)
  have wt : t < 18446744073709551616 := ht ▸ mul_lt64 (by omega) (by omega)
  have px : IntKind.u64.wrap ((al : Int) * (bl : Int)) = (x : Int) := by rw [← Int.natCast_mul, ← hx]; simp only [IntKind.wrap_u64]; omega
  have py : IntKind.u64.wrap ((ah : Int) * (bl : Int)) = (y : Int) := by rw [← Int.natCast_mul, ← hy]; simp only [IntKind.wrap_u64]; omega
  have pz : IntKind.u64.wrap ((al : Int) * (bh : Int)) = (z : Int) := by rw [← Int.natCast_mul, ← hz]; simp only [IntKind.wrap_u64]; omega
  have pt : IntKind.u64.wrap ((ah : Int) * (bh : Int)) = (t : Int) := by rw [← Int.natCast_mul, ← ht]; simp only [IntKind.wrap_u64]; omega
  have my := mask32 y wy
  have mz := mask32 z wz
  have mx := mask32 x wx
  have HS := Lib.hid (And.intro hal (And.intro hbl (And.intro hah (And.intro hbh (And.intro hx (And.intro hy (And.intro hz (And.intro ht (And.intro wx (And.intro wy (And.intro wz wt)))))))))))
  clear hal hbl hah hbh hx hy hz ht
  go_enter Tryd.func63, Tryd.ntmps63
  go_wp2
  go_ret2
  obtain ⟨hal, hbl, hah, hbh, hx, hy, hz, ht, wx, wy, wz, wt⟩ := HS.out
  have eX : wideX a b = x := by rw [hx, hal, hbl]; rfl
  have eY : wideY a b = y := by rw [hy, hah, hbl]; rfl
  have eZ : wideZ a b = z := by rw [hz, hal, hbh]; rfl
  have eM : wideM a b = x / 4294967296 + y % 4294967296 + z % 4294967296 := by rw [wideM, eX, eY, eZ]
  have eH : hiN a b = (t + y / 4294967296 + z / 4294967296 + (x / 4294967296 + y % 4294967296 + z % 4294967296) / 4294967296) % 18446744073709551616 := by rw [hiN, eY, eZ, eM, ht, hah, hbh]
  have eL : loN a b = (x / 4294967296 + y % 4294967296 + z % 4294967296) * 4294967296 % 18446744073709551616 ||| x % 4294967296 := by rw [loN, eM, eX]
  refine ⟨ret_pair ?_ ?_, rfl⟩
  · rw [eH]
    simp only [IntKind.wrap_u64]
    omega
  · rw [eL, ← u64_or_nat _ _ (Nat.mod_lt _ (by decide)) (by omega)]
    simp only [IntKind.wrap_u64]
    congr 1
end refWide
/-! ### What the halves come to -/
theorem mul_le64 {a b : Nat} (ha : a < 4294967296) (hb : b < 4294967296) : a * b ≤ 4294967295 * 4294967295 := Nat.mul_le_mul (by omega) (by omega)
theorem or_low (a b : Nat) (h : b < 4294967296) : a * 4294967296 ||| b = a * 4294967296 + b := by
  have := Nat.two_pow_add_eq_or_of_lt (i := 32) (by simpa using h) a
  rw [Nat.mul_comm a, show (4294967296 : Nat) = 2 ^ 32 from rfl, this]
/-- The two halves make the product. -/
theorem wide_mul (a b : Nat) (ha : a < 18446744073709551616) (hb : b < 18446744073709551616) : hiN a b * 18446744073709551616 + loN a b = a * b ∧ loN a b < 18446744073709551616 := by
  obtain ⟨al, hal⟩ : ∃ x, x = a % 4294967296 := ⟨_, rfl⟩
  obtain ⟨bl, hbl⟩ : ∃ x, x = b % 4294967296 := ⟨_, rfl⟩
  obtain ⟨ah, hah⟩ : ∃ x, x = a / 4294967296 := ⟨_, rfl⟩
  obtain ⟨bh, hbh⟩ : ∃ x, x = b / 4294967296 := ⟨_, rfl⟩
  have ea : a = ah * 4294967296 + al := by omega
  have eb : b = bh * 4294967296 + bl := by omega
  have hab : a * b = ah * bh * 18446744073709551616 + (ah * bl + al * bh) * 4294967296 + al * bl := by
    rw [ea, eb, Nat.add_mul, Nat.mul_add, Nat.mul_add]
    have e1 : ah * 4294967296 * (bh * 4294967296) = ah * bh * 18446744073709551616 := by
      rw [Nat.mul_assoc, Nat.mul_left_comm 4294967296, ← Nat.mul_assoc]
    have e2 : ah * 4294967296 * bl = ah * bl * 4294967296 := by rw [Nat.mul_assoc, Nat.mul_comm 4294967296, ← Nat.mul_assoc]
    have e3 : al * (bh * 4294967296) = al * bh * 4294967296 := by rw [← Nat.mul_assoc]
    rw [e1, e2, e3]
    omega
  have hx := mul_le64 (a := al) (b := bl) (by omega) (by omega)
  have hy := mul_le64 (a := ah) (b := bl) (by omega) (by omega)
  have hz := mul_le64 (a := al) (b := bh) (by omega) (by omega)
  have ht := mul_le64 (a := ah) (b := bh) (by omega) (by omega)
  have eM : wideM a b = al * bl / 4294967296 + ah * bl % 4294967296 + al * bh % 4294967296 := by rw [wideM, wideX, wideY, wideZ, ← hal, ← hbl, ← hah, ← hbh]
  have eH : hiN a b = (ah * bh + ah * bl / 4294967296 + al * bh / 4294967296 + wideM a b / 4294967296) % 18446744073709551616 := by rw [hiN, wideY, wideZ, ← hal, ← hbl, ← hah, ← hbh]
  have eL : loN a b = (wideM a b % 4294967296) * 4294967296 + al * bl % 4294967296 := by
    rw [loN, wideX, ← hal, ← hbl, ← or_low _ _ (Nat.mod_lt _ (by decide))]
    congr 1
    omega
  rw [hab, eH, eL, eM]
  generalize al * bl = x at *
  generalize ah * bl = y at *
  generalize al * bh = z at *
  generalize ah * bh = t at *
  omega

end Go.Proofs.YtcdoeiccdmmfkaaDoor
/-
  Contracts of modp.Reduce, Add, Sub, Mul.
-/
namespace Go.Proofs.YtcdoeiccdmmfkaaDoor
open Go.ChangeShapes Go.WideShapes Go.ChangeAt Go.RowKit
set_option linter.unusedVariables false
set_option linter.unusedSimpArgs false

/-! ### What they answer, on natural numbers -/
def addM (a b : Nat) : Nat := (a + b) % 2305843009213693951
def subN (a b : Nat) : Nat := (a % 2305843009213693951 + 2305843009213693951 - b % 2305843009213693951) % 2305843009213693951
def mulN (a b : Nat) : Nat := a * b % 2305843009213693951
theorem addM_lt (a b : Nat) : addM a b < 2305843009213693951 := Nat.mod_lt _ (by decide)
theorem subN_lt (a b : Nat) : subN a b < 2305843009213693951 := Nat.mod_lt _ (by decide)
theorem mulN_lt (a b : Nat) : mulN a b < 2305843009213693951 := Nat.mod_lt _ (by decide)
/-- What is above 2^61 is added below. -/
theorem fold61 (n : Nat) : (n / 2305843009213693952 + n % 2305843009213693952) % 2305843009213693951 = n % 2305843009213693951 := by omega

theorem modpReduce (x : Nat) (w : World) (hx : x < 18446744073709551616) :
    Calls Tryd.prog 68 #[.int .u64 (x : Int)] w fun e w' => e = .returned (.int .u64 ((x % 2305843009213693951 : Nat) : Int)) ∧ w = w' := by
  have ma := mask61 x hx
  obtain ⟨l, hl⟩ : ∃ t, t = x % 2305843009213693952 := ⟨_, rfl⟩
  obtain ⟨h, hh⟩ : ∃ t, t = x / 2305843009213693952 := ⟨_, rfl⟩
  rw [← hl] at ma
  have qa : (x : Int) / 2305843009213693952 = (h : Int) := by omega
  have bl : l < 2305843009213693952 := by omega
  have bh : h < 8 := by omega
  obtain ⟨m, hm⟩ : ∃ t, t = l + h := ⟨_, rfl⟩
  have qm : (l : Int) + (h : Int) = (m : Int) := by omega
  have bm : m < 4611686018427387904 := by omega
  have HS := Lib.hid (And.intro hl (And.intro hh hm))
  clear hl hh hm
  by_cases hc : (2305843009213693951 : Int) ≤ (m : Int)
  · go_enter Tryd.func68, Tryd.ntmps68
    go_wp2
    go_ret
    obtain ⟨hl, hh, hm⟩ := HS.out
    exact ⟨ret_int (by omega), rfl⟩
  · have hc' : decide ((2305843009213693951 : Int) ≤ (m : Int)) = false := decide_eq_false hc
    have hm1 := Lib.hid hc
    clear hc
    go_enter Tryd.func68, Tryd.ntmps68
    go_wp2
    go_ret
    obtain ⟨hl, hh, hm⟩ := HS.out
    have := hm1.out
    exact ⟨ret_int (by omega), rfl⟩
/-- The same, the answer under a name. -/
theorem modpReduce' {x r : Nat} (h : x % 2305843009213693951 = r) (hx : x < 18446744073709551616) {y : Int} (hy : (x : Int) = y) (w : World) :
    Calls Tryd.prog 68 #[.int .u64 y] w fun e w' => e = .returned (.int .u64 (r : Int)) ∧ w = w' := by
  subst h hy
  exact modpReduce x w hx
theorem mod_mul_lt (a b : Nat) : (a % 2305843009213693951) * (b % 2305843009213693951) < 5316911983139663487003542222693990401 := by
  have h := Nat.mul_le_mul (show a % 2305843009213693951 ≤ 2305843009213693950 by omega) (show b % 2305843009213693951 ≤ 2305843009213693950 by omega)
  omega
theorem modpMul (a b : Nat) (w : World) (ha : a < 18446744073709551616) (hb : b < 18446744073709551616) :
    Calls Tryd.prog 56 #[.int .u64 (a : Int), .int .u64 (b : Int)] w fun e w' => e = .returned (.int .u64 ((mulN a b : Nat) : Int)) ∧ w = w' := by
  have hn := mod_mul_lt a b
  obtain ⟨r, hr⟩ : ∃ t, a % 2305843009213693951 = t := ⟨_, rfl⟩
  obtain ⟨s, hs⟩ : ∃ t, b % 2305843009213693951 = t := ⟨_, rfl⟩
  obtain ⟨q, hq⟩ : ∃ t, mulN a b = t := ⟨_, rfl⟩
  rw [hr, hs] at hn
  have br : r < 2305843009213693951 := by omega
  have bs : s < 2305843009213693951 := by omega
  have C1 := Lib.hid (fun w => modpReduce' hr ha rfl w)
  have C2 := Lib.hid (fun w => modpReduce' hs hb rfl w)
  have C3 := bitsMul64 r s
  have e1 : r * s % 2305843009213693951 = q := by rw [← hq, mulN, ← hr, ← hs, ← Nat.mul_mod]
  rw [hq]
  generalize r * s = n at *
  obtain ⟨hi, hhi⟩ : ∃ t, n / 18446744073709551616 = t := ⟨_, rfl⟩
  obtain ⟨lo, hlo⟩ : ∃ t, n % 18446744073709551616 = t := ⟨_, rfl⟩
  rw [hhi, hlo] at C3
  obtain ⟨lh, hlh⟩ : ∃ t, lo / 2305843009213693952 = t := ⟨_, rfl⟩
  have ql : (lo : Int) / 2305843009213693952 = (lh : Int) := by omega
  have ml := mask61 lo (by omega)
  obtain ⟨ll, hll⟩ : ∃ t, lo % 2305843009213693952 = t := ⟨_, rfl⟩
  rw [hll] at ml
  have mo := or_join3 hi lh (by omega) (by omega)
  obtain ⟨ab, hab⟩ : ∃ t, hi * 8 + lh = t := ⟨_, rfl⟩
  rw [hab] at mo
  have b1 : hi < 288230376151711744 := by omega
  have b2 : ll < 2305843009213693952 := by omega
  have b3 : ab < 2305843009213693952 := by omega
  have b4 : lo < 18446744073709551616 := by omega
  have C3' := Lib.hid (fun w => C3 w (by omega) (by omega))
  have C4 := Lib.hid (fun w => modpReduce' (x := ll + ab) (r := q) (by omega) (by omega) (Int.natCast_add ll ab) w)
  clear hn hr hs hq C3 e1 hhi hlo hlh hll hab
  go_enter Tryd.func56, Tryd.ntmps56
  go_wp2_with fail
  refine (C1.out _).mono ?_
  rintro e w' ⟨rfl, rfl⟩
  go_wp2_with fail
  refine (C2.out _).mono ?_
  rintro e w' ⟨rfl, rfl⟩
  go_wp2_with fail
  refine (C3'.out _).mono ?_
  rintro e w' ⟨rfl, rfl⟩
  go_wp2_with fail
  refine (C4.out _).mono ?_
  rintro e w' ⟨rfl, rfl⟩
  go_wp2_with fail
  go_ret
  exact ⟨rfl, rfl⟩
/-- The same, the answer under a name. -/
theorem modpMul' {a b c : Nat} (h : mulN a b = c) (ha : a < 18446744073709551616) (hb : b < 18446744073709551616) {x y : Int} (hx : (a : Int) = x) (hy : (b : Int) = y) (w : World) :
    Calls Tryd.prog 56 #[.int .u64 x, .int .u64 y] w fun e w' => e = .returned (.int .u64 (c : Int)) ∧ w = w' := by
  subst h hx hy
  exact modpMul a b w ha hb
end Go.Proofs.YtcdoeiccdmmfkaaDoor
/-
  Contracts of modp.Pow and modp.Inv.
-/
namespace Go.Proofs.YtcdoeiccdmmfkaaDoor
open Go.ChangeShapes Go.WideShapes Go.ChangeAt Go.RowKit
set_option linter.unusedVariables false
set_option linter.unusedSimpArgs false

/-- a to the power e modulo P (by a recursion that nothing unfolds by itself). -/
def powN (a e : Nat) : Nat := if e = 0 then 1 else powN a (e - 1) * a % 2305843009213693951
termination_by e
theorem powN_eq (a e : Nat) : powN a e = a ^ e % 2305843009213693951 := by
  induction e with
  | zero => rw [powN]; simp
  | succ e ih =>
    rw [powN, if_neg (by omega), Nat.add_sub_cancel, ih, Nat.pow_succ, Nat.mod_mul_mod]
theorem powN_lt (a e : Nat) : powN a e < 2305843009213693951 := by rw [powN_eq]; exact Nat.mod_lt _ (by decide)
/-- One step of a power from the lowest bit on. -/
theorem pow_low (x y k q P : Nat) (h : x * y ^ k % P = q) : (k % 2 = 1 → (x * y % P) * (y * y % P) ^ (k / 2) % P = q) ∧ (k % 2 = 0 → x * (y * y % P) ^ (k / 2) % P = q) := by
  have e2 : (y * y % P) ^ (k / 2) % P = y ^ (2 * (k / 2)) % P := by rw [← Nat.pow_mod, Nat.pow_mul, Nat.pow_two]
  refine ⟨fun h1 => ?_, fun h1 => ?_⟩
  · rw [Nat.mul_mod, e2, Nat.mod_mod, ← Nat.mul_mod, Nat.mul_assoc, Nat.mul_comm y, ← Nat.pow_succ, show Nat.succ (2 * (k / 2)) = k by omega]
    exact h
  · rw [Nat.mul_mod, e2, ← Nat.mul_mod, show 2 * (k / 2) = k by omega]
    exact h
set_option maxHeartbeats 400000 in
theorem modpPow (a n : Nat) (w : World) (ha : a < 18446744073709551616) (he : n < 18446744073709551616) :
    Calls Tryd.prog 57 #[.int .u64 (a : Int), .int .u64 (n : Int)] w fun e w' => e = .returned (.int .u64 ((powN a n : Nat) : Int)) ∧ w = w' := by
  obtain ⟨q, hq⟩ : ∃ t, powN a n = t := ⟨_, rfl⟩
  have HQ := Lib.hid (show a ^ n % 2305843009213693951 = q by rw [← powN_eq, hq])
  rw [hq]
  clear hq
  go_enter Tryd.func57, Tryd.ntmps57
  go_wp2_with fail
  go_loop [1, 5, 6] (fun u p s => ∃ k x y : Nat, u = .int .u64 k ∧ p = .int .u64 x ∧ s = .int .u64 y ∧ k < 18446744073709551616 ∧ x < 2305843009213693951 ∧ y < 18446744073709551616 ∧ Hid (x * y ^ k % 2305843009213693951 = q)) (fun u _ _ => (intOf u).toNat)
  case atStart => exact ⟨n, 1, a, rfl, rfl, rfl, he, by decide, ha, Lib.hid (by rw [Nat.one_mul]; exact HQ.out)⟩
  case round =>
    obtain ⟨k, x, y, rfl, rfl, rfl, hk, hx, hy, HI⟩ := hrel
    by_cases h0 : k = 0
    · have h1 : (k : Int) ≤ 0 := by omega
      have HK := Lib.hid h0
      clear h0
      go_wp2
      go_ret
      have h2 := HI.out
      rw [HK.out, Nat.pow_zero, Nat.mul_one, Nat.mod_eq_of_lt hx] at h2
      exact ⟨ret_int (by rw [h2]), rfl⟩
    · have hpos : 0 < k := by omega
      clear h0
      have ma := and1 k hk
      obtain ⟨k2, hk2⟩ : ∃ t, k / 2 = t := ⟨_, rfl⟩
      have qk : (k : Int) / 2 = (k2 : Int) := by omega
      have b2 : k2 < 18446744073709551616 := by omega
      have hlt : k2 < k := by omega
      obtain ⟨z, hz⟩ : ∃ t, mulN y y = t := ⟨_, rfl⟩
      have bz : z < 2305843009213693951 := by rw [← hz]; exact mulN_lt _ _
      have C2 := Lib.hid (fun w => modpMul' hz hy hy rfl rfl w)
      by_cases hodd : k % 2 = 1
      · rw [hodd] at ma
        obtain ⟨v, hv⟩ : ∃ t, mulN x y = t := ⟨_, rfl⟩
        have bv : v < 2305843009213693951 := by rw [← hv]; exact mulN_lt _ _
        have C1 := Lib.hid (fun w => modpMul' hv (by omega) hy rfl rfl w)
        have HN := Lib.hid (show v * z ^ k2 % 2305843009213693951 = q by rw [← hv, ← hz, ← hk2]; exact (pow_low x y k q _ HI.out).1 hodd)
        clear hv hz hk2 hodd
        go_wp2_with fail
        refine (C1.out _).mono ?_
        rintro e w' ⟨rfl, rfl⟩
        go_wp2_with fail
        refine (C2.out _).mono ?_
        rintro e w' ⟨rfl, rfl⟩
        go_wp2_with fail
        exact ⟨⟨k2, v, z, rfl, rfl, rfl, b2, bv, by omega, HN⟩, by simp [intOf]; omega⟩
      · have he2 : k % 2 = 0 := by omega
        rw [he2] at ma
        have HN := Lib.hid (show x * z ^ k2 % 2305843009213693951 = q by rw [← hz, ← hk2]; exact (pow_low x y k q _ HI.out).2 he2)
        clear hz hk2 hodd he2
        go_wp2_with fail
        refine (C2.out _).mono ?_
        rintro e w' ⟨rfl, rfl⟩
        go_wp2_with fail
        exact ⟨⟨k2, x, z, rfl, rfl, rfl, b2, hx, by omega, HN⟩, by simp [intOf]; omega⟩
/-- The same, the answer under a name. -/
theorem modpPow' {a b c : Nat} (h : powN a b = c) (ha : a < 18446744073709551616) (hb : b < 18446744073709551616) {y : Int} (hy : (b : Int) = y) (w : World) :
    Calls Tryd.prog 57 #[.int .u64 (a : Int), .int .u64 y] w fun e w' => e = .returned (.int .u64 (c : Int)) ∧ w = w' := by
  subst h hy
  exact modpPow a b w ha hb
end Go.Proofs.YtcdoeiccdmmfkaaDoor
/-
  Contracts of the reference's AddP, SubP, MulP, PowP, InvP.
-/
namespace Go.Proofs.YtcdoeiccdmmfkaaDoor
open Go.ChangeShapes Go.WideShapes Go.ChangeAt Go.RowKit
set_option linter.unusedVariables false
set_option linter.unusedSimpArgs false

theorem tmodP {a r : Nat} (h : a % 2305843009213693951 = r) : (a : Int).tmod 2305843009213693951 = (r : Int) := by
  rw [Int.tmod_eq_emod_of_nonneg (by omega)]
  omega
theorem refMulP (a b : Nat) (w : World) (ha : a < 18446744073709551616) (hb : b < 18446744073709551616) :
    Calls Tryd.prog 58 #[.int .u64 (a : Int), .int .u64 (b : Int)] w fun e w' => e = .returned (.int .u64 ((mulN a b : Nat) : Int)) ∧ w = w' := by
  have hn := mod_mul_lt a b
  obtain ⟨r, hr⟩ : ∃ t, a % 2305843009213693951 = t := ⟨_, rfl⟩
  obtain ⟨s, hs⟩ : ∃ t, b % 2305843009213693951 = t := ⟨_, rfl⟩
  obtain ⟨q, hq⟩ : ∃ t, mulN a b = t := ⟨_, rfl⟩
  rw [hr, hs] at hn
  have br : r < 2305843009213693951 := by omega
  have bs : s < 2305843009213693951 := by omega
  have t1 := tmodP hr
  have t2 := tmodP hs
  have u1 : (a : Int) % 2305843009213693951 = (r : Int) := by omega
  have u2 : (b : Int) % 2305843009213693951 = (s : Int) := by omega
  have C3 := fun w => refWide.wide r s w (by omega) (by omega)
  have e1 : r * s % 2305843009213693951 = q := by rw [← hq, mulN, ← hr, ← hs, ← Nat.mul_mod]
  have e2 := wide_mul r s (by omega) (by omega)
  rw [hq]
  generalize r * s = n at *
  generalize hiN r s = hi at *
  generalize loN r s = lo at *
  obtain ⟨lh, hlh⟩ : ∃ t, lo / 2305843009213693952 = t := ⟨_, rfl⟩
  have ql : (lo : Int) / 2305843009213693952 = (lh : Int) := by omega
  have ml := mask61 lo (by omega)
  obtain ⟨ll, hll⟩ : ∃ t, lo % 2305843009213693952 = t := ⟨_, rfl⟩
  rw [hll] at ml
  have mo := or_join3 hi lh (by omega) (by omega)
  obtain ⟨ab, hab⟩ : ∃ t, hi * 8 + lh = t := ⟨_, rfl⟩
  rw [hab] at mo
  have b1 : hi < 288230376151711744 := by omega
  have b2 : ll < 2305843009213693952 := by omega
  have b3 : ab < 2305843009213693952 := by omega
  have b4 : lo < 18446744073709551616 := by omega
  have e3 : (ab + ll) % 2305843009213693951 = q := by omega
  have t3 := tmodP e3
  rw [Int.natCast_add] at t3
  have u3 : ((ab : Int) + (ll : Int)) % 2305843009213693951 = (q : Int) := by omega
  have C3' := Lib.hid C3
  clear hn hr hs hq C3 e1 e2 e3 hlh hll hab
  go_enter Tryd.func58, Tryd.ntmps58
  go_wp2_with fail
  refine (C3'.out _).mono ?_
  rintro e w' ⟨rfl, rfl⟩
  go_wp2_with fail
  go_ret
  exact ⟨rfl, rfl⟩
/-- The same, the answer under a name. -/
theorem refMulP' {a b c : Nat} (h : mulN a b = c) (ha : a < 18446744073709551616) (hb : b < 18446744073709551616) (w : World) :
    Calls Tryd.prog 58 #[.int .u64 (a : Int), .int .u64 (b : Int)] w fun e w' => e = .returned (.int .u64 (c : Int)) ∧ w = w' := by
  subst h
  exact refMulP a b w ha hb
set_option maxHeartbeats 400000 in
theorem refPowP (a n : Nat) (w : World) (ha : a < 18446744073709551616) (he : n < 18446744073709551616) :
    Calls Tryd.prog 49 #[.int .u64 (a : Int), .int .u64 (n : Int)] w fun e w' => e = .returned (.int .u64 ((powN a n : Nat) : Int)) ∧ w = w' := by
  obtain ⟨q, hq⟩ : ∃ t, powN a n = t := ⟨_, rfl⟩
  have HQ := Lib.hid (show a ^ n % 2305843009213693951 = q by rw [← powN_eq, hq])
  rw [hq]
  clear hq
  obtain ⟨r, hr⟩ : ∃ t, a % 2305843009213693951 = t := ⟨_, rfl⟩
  have t1 := tmodP hr
  have u1 : (a : Int) % 2305843009213693951 = (r : Int) := by omega
  have br : r < 2305843009213693951 := by omega
  have HR := Lib.hid hr
  clear hr
  go_enter Tryd.func49, Tryd.ntmps49
  go_wp2_with fail
  go_loop [5, 6] (fun p i => ∃ x j : Nat, p = .int .u64 x ∧ i = .int .i64 ((j : Int) - 1) ∧ j ≤ 64 ∧ x < 2305843009213693951 ∧ Hid (x % 2305843009213693951 = a ^ (n / 2 ^ j) % 2305843009213693951)) (fun _ i => (intOf i + 1).toNat)
  case atStart => exact ⟨1, 64, rfl, rfl, by decide, by decide, Lib.hid (by rw [Nat.div_eq_of_lt (by omega)]; rfl)⟩
  case round =>
    obtain ⟨x, j, rfl, rfl, hj, hx, HI⟩ := hrel
    by_cases h0 : j = 0
    · have h1 : (j : Int) - 1 < 0 := by omega
      have HK := Lib.hid h0
      have HX := Lib.hid hx
      clear h0
      go_wp2
      go_ret
      have h2 := HI.out
      have h3 := HQ.out
      rw [HK.out, Nat.pow_zero, Nat.div_one, h3, Nat.mod_eq_of_lt HX.out] at h2
      exact ⟨ret_int (by rw [h2]), rfl⟩
    · obtain ⟨i, rfl⟩ : ∃ i, j = i + 1 := ⟨j - 1, by omega⟩
      have hi : i < 64 := by omega
      have HP := Lib.hid (pow_step 2305843009213693951 a n i x HI.out)
      clear h0 hj
      rw [show (((i + 1 : Nat) : Int) - 1) = (i : Int) by omega]
      obtain ⟨m, hm⟩ : ∃ t, n / 2 ^ i = t := ⟨_, rfl⟩
      have qm : (n : Int) / 2 ^ i = (m : Int) := by rw [← hm]; simp
      have bm : m < 18446744073709551616 := by rw [← hm]; exact Nat.lt_of_le_of_lt (Nat.div_le_self _ _) he
      have m1 := and1 m bm
      obtain ⟨v, hv⟩ : ∃ t, mulN x x = t := ⟨_, rfl⟩
      have bv : v < 2305843009213693951 := by rw [← hv]; exact mulN_lt _ _
      have C1 := Lib.hid (fun w => refMulP' hv (by omega) (by omega) w)
      by_cases hodd : m % 2 = 1
      · rw [hodd] at m1
        obtain ⟨z, hz⟩ : ∃ t, mulN v r = t := ⟨_, rfl⟩
        have bz : z < 2305843009213693951 := by rw [← hz]; exact mulN_lt _ _
        have C2 := Lib.hid (fun w => refMulP' hz (by omega) (by omega) w)
        have HN := Lib.hid (show z % 2305843009213693951 = a ^ (n / 2 ^ i) % 2305843009213693951 by
          rw [← hz, ← hv, ← HR.out, mulN, Nat.mod_mod, mulN]; exact HP.out.1 (by rw [hm]; exact hodd))
        clear hv hz hm hodd
        go_wp2_with fail
        refine (C1.out _).mono ?_
        rintro e w' ⟨rfl, rfl⟩
        go_wp2_with fail
        refine (C2.out _).mono ?_
        rintro e w' ⟨rfl, rfl⟩
        go_wp2_with fail
        exact ⟨⟨z, i, rfl, rfl, by omega, bz, HN⟩, by simp [intOf]⟩
      · have h2 : m % 2 = 0 := by omega
        have HN := Lib.hid (show v % 2305843009213693951 = a ^ (n / 2 ^ i) % 2305843009213693951 by
          rw [← hv, mulN, Nat.mod_mod]; exact HP.out.2 (by rw [hm]; exact hodd))
        rw [h2] at m1
        clear hv hm hodd h2
        go_wp2_with fail
        refine (C1.out _).mono ?_
        rintro e w' ⟨rfl, rfl⟩
        go_wp2_with fail
        exact ⟨⟨v, i, rfl, rfl, by omega, bv, HN⟩, by simp [intOf]⟩
/-- The same, the answer under a name. -/
theorem refPowP' {a b c : Nat} (h : powN a b = c) (ha : a < 18446744073709551616) (hb : b < 18446744073709551616) {y : Int} (hy : (b : Int) = y) (w : World) :
    Calls Tryd.prog 49 #[.int .u64 (a : Int), .int .u64 y] w fun e w' => e = .returned (.int .u64 (c : Int)) ∧ w = w' := by
  subst h hy
  exact refPowP a b w ha hb
end Go.Proofs.YtcdoeiccdmmfkaaDoor
/-
  Contracts of the reference's AddN, SubN, MulN.
-/
namespace Go.Proofs.YtcdoeiccdmmfkaaDoor
open Go.ChangeShapes Go.WideShapes Go.ChangeAt Go.RowKit
set_option linter.unusedVariables false
set_option linter.unusedSimpArgs false

theorem tmodS {a r : Nat} (h : a % 2305843009213693950 = r) : (a : Int).tmod 2305843009213693950 = (r : Int) := by
  rw [Int.tmod_eq_emod_of_nonneg (by omega)]
  omega
theorem refAddN (a b : Nat) (w : World) (ha : a < 18446744073709551616) (hb : b < 18446744073709551616) :
    Calls Tryd.prog 45 #[.int .u64 (a : Int), .int .u64 (b : Int)] w fun e w' => e = .returned (.int .u64 ((addS a b : Nat) : Int)) ∧ w = w' := by
  obtain ⟨r, hr⟩ : ∃ t, a % 2305843009213693950 = t := ⟨_, rfl⟩
  obtain ⟨s, hs⟩ : ∃ t, b % 2305843009213693950 = t := ⟨_, rfl⟩
  obtain ⟨q, hq⟩ : ∃ t, addS a b = t := ⟨_, rfl⟩
  have t1 := tmodS hr
  have t2 := tmodS hs
  have br : r < 2305843009213693950 := by omega
  have bs : s < 2305843009213693950 := by omega
  have e1 : (r + s) % 2305843009213693950 = q := by rw [← hq, addS, ← hr, ← hs, ← Nat.add_mod]
  have t3 := tmodS e1
  rw [Int.natCast_add] at t3
  have u1 : (a : Int) % 2305843009213693950 = (r : Int) := by omega
  have u2 : (b : Int) % 2305843009213693950 = (s : Int) := by omega
  have u3 : ((r : Int) + (s : Int)) % 2305843009213693950 = (q : Int) := by omega
  rw [hq]
  clear hr hs hq e1
  go_enter Tryd.func45, Tryd.ntmps45
  go_wp2_with fail
  go_ret
  exact ⟨rfl, rfl⟩
/-- The same, the answer under a name. -/
theorem refAddN' {a b c : Nat} (h : addS a b = c) (ha : a < 18446744073709551616) (hb : b < 18446744073709551616) {x y : Int} (hx : (a : Int) = x) (hy : (b : Int) = y) (w : World) :
    Calls Tryd.prog 45 #[.int .u64 x, .int .u64 y] w fun e w' => e = .returned (.int .u64 (c : Int)) ∧ w = w' := by
  subst h hx hy
  exact refAddN a b w ha hb
theorem refSubN (a b : Nat) (w : World) (ha : a < 18446744073709551616) (hb : b < 18446744073709551616) :
    Calls Tryd.prog 48 #[.int .u64 (a : Int), .int .u64 (b : Int)] w fun e w' => e = .returned (.int .u64 ((subS a b : Nat) : Int)) ∧ w = w' := by
  obtain ⟨r, hr⟩ : ∃ t, a % 2305843009213693950 = t := ⟨_, rfl⟩
  obtain ⟨s, hs⟩ : ∃ t, b % 2305843009213693950 = t := ⟨_, rfl⟩
  obtain ⟨q, hq⟩ : ∃ t, subS a b = t := ⟨_, rfl⟩
  have t1 := tmodS hr
  have t2 := tmodS hs
  have br : r < 2305843009213693950 := by omega
  have bs : s < 2305843009213693950 := by omega
  have e1 : (r + 2305843009213693950 - s) % 2305843009213693950 = q := by rw [← hq, subS, ← hr, ← hs]
  have t3 := tmodS e1
  rw [show ((r + 2305843009213693950 - s : Nat) : Int) = (r : Int) + 2305843009213693950 - (s : Int) by omega] at t3
  have u1 : (a : Int) % 2305843009213693950 = (r : Int) := by omega
  have u2 : (b : Int) % 2305843009213693950 = (s : Int) := by omega
  have u3 : ((r : Int) + 2305843009213693950 - (s : Int)) % 2305843009213693950 = (q : Int) := by omega
  rw [hq]
  clear hr hs hq e1
  go_enter Tryd.func48, Tryd.ntmps48
  go_wp2_with fail
  go_ret
  exact ⟨rfl, rfl⟩
theorem refSubN' {a b c : Nat} (h : subS a b = c) (ha : a < 18446744073709551616) (hb : b < 18446744073709551616) {x y : Int} (hx : (a : Int) = x) (hy : (b : Int) = y) (w : World) :
    Calls Tryd.prog 48 #[.int .u64 x, .int .u64 y] w fun e w' => e = .returned (.int .u64 (c : Int)) ∧ w = w' := by
  subst h hx hy
  exact refSubN a b w ha hb
theorem refMulN (a b : Nat) (w : World) (ha : a < 18446744073709551616) (hb : b < 18446744073709551616) :
    Calls Tryd.prog 46 #[.int .u64 (a : Int), .int .u64 (b : Int)] w fun e w' => e = .returned (.int .u64 ((mulS a b : Nat) : Int)) ∧ w = w' := by
  have hn := mod_mul_ltS a b
  obtain ⟨r, hr⟩ : ∃ t, a % 2305843009213693950 = t := ⟨_, rfl⟩
  obtain ⟨s, hs⟩ : ∃ t, b % 2305843009213693950 = t := ⟨_, rfl⟩
  obtain ⟨q, hq⟩ : ∃ t, mulS a b = t := ⟨_, rfl⟩
  rw [hr, hs] at hn
  have br : r < 2305843009213693950 := by omega
  have bs : s < 2305843009213693950 := by omega
  have t1 := tmodS hr
  have t2 := tmodS hs
  have u1 : (a : Int) % 2305843009213693950 = (r : Int) := by omega
  have u2 : (b : Int) % 2305843009213693950 = (s : Int) := by omega
  have C3 := fun w => refWide.wide r s w (by omega) (by omega)
  have e1 : r * s % 2305843009213693950 = q := by rw [← hq, mulS, ← hr, ← hs, ← Nat.mul_mod]
  have e2 := wide_mul r s (by omega) (by omega)
  rw [hq]
  generalize r * s = n at *
  generalize hiN r s = hi at *
  generalize loN r s = lo at *
  obtain ⟨lh, hlh⟩ : ∃ t, lo / 2305843009213693952 = t := ⟨_, rfl⟩
  have ql : (lo : Int) / 2305843009213693952 = (lh : Int) := by omega
  have ml := mask61 lo (by omega)
  obtain ⟨ll, hll⟩ : ∃ t, lo % 2305843009213693952 = t := ⟨_, rfl⟩
  rw [hll] at ml
  have mo := or_join3 hi lh (by omega) (by omega)
  obtain ⟨ab, hab⟩ : ∃ t, hi * 8 + lh = t := ⟨_, rfl⟩
  rw [hab] at mo
  have b1 : hi < 288230376151711744 := by omega
  have b2 : ll < 2305843009213693952 := by omega
  have b3 : ab < 2305843009213693952 := by omega
  have b4 : lo < 18446744073709551616 := by omega
  have e3 : (2 * ab + ll) % 2305843009213693950 = q := by omega
  have t3 := tmodS e3
  rw [show ((2 * ab + ll : Nat) : Int) = 2 * (ab : Int) + (ll : Int) by omega] at t3
  have u3 : (2 * (ab : Int) + (ll : Int)) % 2305843009213693950 = (q : Int) := by omega
  have C3' := Lib.hid C3
  clear hn hr hs hq C3 e1 e2 e3 hlh hll hab
  go_enter Tryd.func46, Tryd.ntmps46
  go_wp2_with fail
  refine (C3'.out _).mono ?_
  rintro e w' ⟨rfl, rfl⟩
  go_wp2_with fail
  go_ret
  exact ⟨rfl, rfl⟩
/-- The same, the answer under a name. -/
theorem refMulN' {a b c : Nat} (h : mulS a b = c) (ha : a < 18446744073709551616) (hb : b < 18446744073709551616) {x y : Int} (hx : (a : Int) = x) (hy : (b : Int) = y) (w : World) :
    Calls Tryd.prog 46 #[.int .u64 x, .int .u64 y] w fun e w' => e = .returned (.int .u64 (c : Int)) ∧ w = w' := by
  subst h hx hy
  exact refMulN a b w ha hb
end Go.Proofs.YtcdoeiccdmmfkaaDoor
/-
  Numbers modulo N as exponents, of no program: powers of powers; what a proof of chapter 9 comes back to; products of elements.
-/
namespace Go.Proofs.YtcdoeiccdmmfkaaDoor
set_option linter.unusedVariables false
set_option linter.unusedSimpArgs false

/-! ### Powers -/
theorem powN_mul (a e f : Nat) : powN (powN a e) f = powN a (e * f) := by
  rw [powN_eq, powN_eq, powN_eq, ← Nat.pow_mod, ← Nat.pow_mul]
theorem powN_mod (a e : Nat) (h : a % pP ≠ 0) : powN a (e % 2305843009213693950) = powN a e := by
  rw [powN_eq, powN_eq]
  exact (gen37.exp_mod a e h).symm
theorem powN_mulS (a e f : Nat) (h : a % pP ≠ 0) : powN (powN a e) f = powN a (mulS e f) := by
  rw [powN_mul, mulS, powN_mod _ _ h]
theorem powN_mulN (a e f : Nat) : mulN (powN a e) (powN a f) = powN a (e + f) := by
  rw [mulN, powN_eq, powN_eq, powN_eq, ← Nat.mul_mod, ← Nat.pow_add]
theorem powN_addS (a e f : Nat) (h : a % pP ≠ 0) : mulN (powN a e) (powN a f) = powN a (addS e f) := by
  rw [powN_mulN, addS, powN_mod _ _ h]
/-- g to S, times (g to the secret) to C, is g to the draw, if S is the draw less C times the secret. -/
theorem proof_back (g s d c : Nat) (h : g % pP ≠ 0) : mulN (powN g (subS d (mulS c s))) (powN (powN g s) c) = powN g d := by
  rw [powN_mulS _ _ _ h, powN_addS _ _ _ h, mulS_comm c s, addS_subS, powN_mod _ _ h]

/-! ### Elements -/
/-- x is an element of the group. -/
def rightN (x : Nat) : Prop := 1 ≤ x ∧ x < 2305843009213693951
instance (x : Nat) : Decidable (rightN x) := inferInstanceAs (Decidable (_ ∧ _))
theorem rightN_ne {x : Nat} (h : rightN x) : x % pP ≠ 0 := by
  have e : x % pP = x := Nat.mod_eq_of_lt h.2
  rw [e]
  exact Nat.pos_iff_ne_zero.1 h.1
theorem rightN_pow {x : Nat} (h : rightN x) (e : Nat) : rightN (powN x e) := by
  have h1 : powN x e % pP ≠ 0 := by
    rw [powN_eq]
    show x ^ e % pP % pP ≠ 0
    rw [Nat.mod_mod]
    exact gen37.pow_ne x e (rightN_ne h)
  have h2 := powN_lt x e
  have h3 : powN x e ≠ 0 := fun h0 => h1 (by rw [h0]; rfl)
  exact ⟨by omega, h2⟩
theorem rightN_mul {x y : Nat} (hx : rightN x) (hy : rightN y) : rightN (mulN x y) := by
  have h1 : x * y % pP ≠ 0 := gen37.mul_ne x y (rightN_ne hx) (rightN_ne hy)
  have h2 := mulN_lt x y
  have h3 : mulN x y ≠ 0 := h1
  exact ⟨by omega, h2⟩
/-- x to the power e, or 0 if x is no element. -/
def timesN (x e : Nat) : Nat := if rightN x then powN x e else 0
theorem timesN_lt (x e : Nat) : timesN x e < 2305843009213693951 := by
  unfold timesN
  split
  · exact powN_lt x e
  · decide
theorem timesN_right {x : Nat} (h : rightN x) (e : Nat) : timesN x e = powN x e := if_pos h
theorem timesN_not {x : Nat} (h : ¬ rightN x) (e : Nat) : timesN x e = 0 := if_neg h
theorem rightN_times {x : Nat} (h : rightN x) (e : Nat) : rightN (timesN x e) := by rw [timesN_right h]; exact rightN_pow h e
theorem timesN_times {x : Nat} (h : rightN x) (a b : Nat) : timesN (timesN x a) b = timesN x (mulS a b) := by
  rw [timesN_right (rightN_times h a), timesN_right h, timesN_right h, powN_mulS _ _ _ (rightN_ne h)]
theorem timesN_addS {x : Nat} (h : rightN x) (a b : Nat) : mulN (timesN x a) (timesN x b) = timesN x (addS a b) := by
  rw [timesN_right h, timesN_right h, timesN_right h, powN_addS _ _ _ (rightN_ne h)]
theorem timesN_full {x : Nat} (h : rightN x) (n : Nat) (hn : n = pP - 1) : timesN x n = 1 := by
  rw [timesN_right h, powN_eq, hn]
  exact gen37.fermat x (rightN_ne h)
/-- What a proof of a secret comes back to. -/
theorem timesN_back {g : Nat} (h : rightN g) (s d c : Nat) : mulN (timesN g (subS d (mulS c s))) (timesN (timesN g s) c) = timesN g d := by
  rw [timesN_times h, timesN_addS h, mulS_comm c s, addS_subS, timesN_right h, timesN_right h, powN_mod _ _ (rightN_ne h)]

/-- The product of all, or 0 if one is no element: x is what stands so far. -/
def prodN : Nat → List Nat → Nat
  | x, [] => x
  | x, y :: l => if rightN y then prodN (mulN x y) l else 0
theorem prodN_lt : ∀ (l : List Nat) (x : Nat), x < 2305843009213693951 → prodN x l < 2305843009213693951
  | [], x, h => h
  | y :: l, x, h => by
    unfold prodN
    split
    · exact prodN_lt l _ (mulN_lt x y)
    · decide
/-- The product so far, of the first ones, if all of these are elements. -/
theorem prodN_snoc : ∀ (l : List Nat) (x y : Nat), (∀ z ∈ l, rightN z) → rightN y → prodN x (l ++ [y]) = mulN (prodN x l) y
  | [], x, y, _, hy => by simp [prodN, hy]
  | z :: l, x, y, hl, hy => by
    have hz := hl z (by simp)
    simp only [List.cons_append, prodN, if_pos hz]
    exact prodN_snoc l _ y (fun u hu => hl u (by simp [hu])) hy
theorem prodN_not : ∀ (l l' : List Nat) (x y : Nat), ¬ rightN y → prodN x (l ++ y :: l') = 0
  | [], l', x, y, hy => by simp [prodN, hy]
  | z :: l, l', x, y, hy => by
    simp only [List.cons_append, prodN]
    split
    · exact prodN_not l l' _ y hy
    · rfl
end Go.Proofs.YtcdoeiccdmmfkaaDoor
/-
  Contracts of scalar.Reduce, Add, Sub, Mul.
-/
namespace Go.Proofs.YtcdoeiccdmmfkaaDoor
open Go.ChangeShapes Go.WideShapes Go.ChangeAt Go.RowKit
set_option linter.unusedVariables false
set_option linter.unusedSimpArgs false

/-- 2^61 is 2 modulo N: what stands above is added twice. -/
theorem scalarFold' {a b c : Nat} (h : 2 * a + b = c) (ha : a < 2305843009213693952) (hb : b < 2305843009213693952) (w : World) :
    Calls Tryd.prog 43 #[.int .u64 (a : Int), .int .u64 (b : Int)] w fun e w' => e = .returned (.int .u64 (c : Int)) ∧ w = w' := by
  have HC := Lib.hid h
  clear h
  go_enter Tryd.func43, Tryd.ntmps43
  go_wp2
  go_ret
  have := HC.out
  exact ⟨ret_int (by omega), rfl⟩
theorem scalarReduce (x : Nat) (w : World) (hx : x < 18446744073709551616) :
    Calls Tryd.prog 41 #[.int .u64 (x : Int)] w fun e w' => e = .returned (.int .u64 ((x % 2305843009213693950 : Nat) : Int)) ∧ w = w' := by
  have ma := mask61 x hx
  obtain ⟨l, hl⟩ : ∃ t, t = x % 2305843009213693952 := ⟨_, rfl⟩
  obtain ⟨h, hh⟩ : ∃ t, t = x / 2305843009213693952 := ⟨_, rfl⟩
  rw [← hl] at ma
  have qa : (x : Int) / 2305843009213693952 = (h : Int) := by omega
  have bl : l < 2305843009213693952 := by omega
  have bh : h < 8 := by omega
  obtain ⟨m, hm⟩ : ∃ t, 2 * h + l = t := ⟨_, rfl⟩
  have bm : m < 4611686018427387904 := by omega
  have F := Lib.hid (fun w => scalarFold' hm (by omega) bl w)
  have HS := Lib.hid (And.intro hl (And.intro hh hm))
  clear hl hh hm
  by_cases hc : (2305843009213693950 : Int) ≤ (m : Int)
  · go_enter Tryd.func41, Tryd.ntmps41
    go_wp2_with fail
    refine (F.out _).mono ?_
    rintro e w' ⟨rfl, rfl⟩
    go_wp2_with fail
    go_ret
    obtain ⟨hl, hh, hm⟩ := HS.out
    exact ⟨ret_int (by omega), rfl⟩
  · have hc' : decide ((2305843009213693950 : Int) ≤ (m : Int)) = false := decide_eq_false hc
    have hm1 := Lib.hid hc
    clear hc
    go_enter Tryd.func41, Tryd.ntmps41
    go_wp2_with fail
    refine (F.out _).mono ?_
    rintro e w' ⟨rfl, rfl⟩
    go_wp2_with fail
    go_ret
    obtain ⟨hl, hh, hm⟩ := HS.out
    have := hm1.out
    exact ⟨ret_int (by omega), rfl⟩
/-- The same, the answer under a name. -/
theorem scalarReduce' {x r : Nat} (h : x % 2305843009213693950 = r) (hx : x < 18446744073709551616) {y : Int} (hy : (x : Int) = y) (w : World) :
    Calls Tryd.prog 41 #[.int .u64 y] w fun e w' => e = .returned (.int .u64 (r : Int)) ∧ w = w' := by
  subst h hy
  exact scalarReduce x w hx
theorem scalarAdd (a b : Nat) (w : World) (ha : a < 18446744073709551616) (hb : b < 18446744073709551616) :
    Calls Tryd.prog 62 #[.int .u64 (a : Int), .int .u64 (b : Int)] w fun e w' => e = .returned (.int .u64 ((addS a b : Nat) : Int)) ∧ w = w' := by
  obtain ⟨r, hr⟩ : ∃ t, a % 2305843009213693950 = t := ⟨_, rfl⟩
  obtain ⟨s, hs⟩ : ∃ t, b % 2305843009213693950 = t := ⟨_, rfl⟩
  obtain ⟨q, hq⟩ : ∃ t, addS a b = t := ⟨_, rfl⟩
  have br : r < 2305843009213693950 := by omega
  have bs : s < 2305843009213693950 := by omega
  have e1 : (r + s) % 2305843009213693950 = q := by rw [← hq, addS, ← hr, ← hs, ← Nat.add_mod]
  have C1 := Lib.hid (fun w => scalarReduce' hr ha rfl w)
  have C2 := Lib.hid (fun w => scalarReduce' hs hb rfl w)
  have C3 := Lib.hid (fun w => scalarReduce' e1 (by omega) (Int.natCast_add r s) w)
  rw [hq]
  clear hr hs hq e1
  go_enter Tryd.func62, Tryd.ntmps62
  go_wp2_with fail
  refine (C1.out _).mono ?_
  rintro e w' ⟨rfl, rfl⟩
  go_wp2_with fail
  refine (C2.out _).mono ?_
  rintro e w' ⟨rfl, rfl⟩
  go_wp2_with fail
  refine (C3.out _).mono ?_
  rintro e w' ⟨rfl, rfl⟩
  go_wp2_with fail
  go_ret
  exact ⟨rfl, rfl⟩
/-- The same, the answer under a name. -/
theorem scalarAdd' {a b c : Nat} (h : addS a b = c) (ha : a < 18446744073709551616) (hb : b < 18446744073709551616) {x y : Int} (hx : (a : Int) = x) (hy : (b : Int) = y) (w : World) :
    Calls Tryd.prog 62 #[.int .u64 x, .int .u64 y] w fun e w' => e = .returned (.int .u64 (c : Int)) ∧ w = w' := by
  subst h hx hy
  exact scalarAdd a b w ha hb
theorem scalarSub (a b : Nat) (w : World) (ha : a < 18446744073709551616) (hb : b < 18446744073709551616) :
    Calls Tryd.prog 19 #[.int .u64 (a : Int), .int .u64 (b : Int)] w fun e w' => e = .returned (.int .u64 ((subS a b : Nat) : Int)) ∧ w = w' := by
  obtain ⟨r, hr⟩ : ∃ t, a % 2305843009213693950 = t := ⟨_, rfl⟩
  obtain ⟨s, hs⟩ : ∃ t, b % 2305843009213693950 = t := ⟨_, rfl⟩
  obtain ⟨q, hq⟩ : ∃ t, subS a b = t := ⟨_, rfl⟩
  have br : r < 2305843009213693950 := by omega
  have bs : s < 2305843009213693950 := by omega
  have e1 : (r + 2305843009213693950 - s) % 2305843009213693950 = q := by rw [← hq, subS, ← hr, ← hs]
  have C1 := Lib.hid (fun w => scalarReduce' hr ha rfl w)
  have C2 := Lib.hid (fun w => scalarReduce' hs hb rfl w)
  have C3 := Lib.hid (fun w => scalarReduce' e1 (by omega) (show ((r + 2305843009213693950 - s : Nat) : Int) = (r : Int) + 2305843009213693950 - (s : Int) by omega) w)
  rw [hq]
  clear hr hs hq e1
  go_enter Tryd.func19, Tryd.ntmps19
  go_wp2_with fail
  refine (C1.out _).mono ?_
  rintro e w' ⟨rfl, rfl⟩
  go_wp2_with fail
  refine (C2.out _).mono ?_
  rintro e w' ⟨rfl, rfl⟩
  go_wp2_with fail
  refine (C3.out _).mono ?_
  rintro e w' ⟨rfl, rfl⟩
  go_wp2_with fail
  go_ret
  exact ⟨rfl, rfl⟩
/-- The same, the answer under a name. -/
theorem scalarSub' {a b c : Nat} (h : subS a b = c) (ha : a < 18446744073709551616) (hb : b < 18446744073709551616) {x y : Int} (hx : (a : Int) = x) (hy : (b : Int) = y) (w : World) :
    Calls Tryd.prog 19 #[.int .u64 x, .int .u64 y] w fun e w' => e = .returned (.int .u64 (c : Int)) ∧ w = w' := by
  subst h hx hy
  exact scalarSub a b w ha hb
theorem scalarMul (a b : Nat) (w : World) (ha : a < 18446744073709551616) (hb : b < 18446744073709551616) :
    Calls Tryd.prog 20 #[.int .u64 (a : Int), .int .u64 (b : Int)] w fun e w' => e = .returned (.int .u64 ((mulS a b : Nat) : Int)) ∧ w = w' := by
  have hn := mod_mul_ltS a b
  obtain ⟨r, hr⟩ : ∃ t, a % 2305843009213693950 = t := ⟨_, rfl⟩
  obtain ⟨s, hs⟩ : ∃ t, b % 2305843009213693950 = t := ⟨_, rfl⟩
  obtain ⟨q, hq⟩ : ∃ t, mulS a b = t := ⟨_, rfl⟩
  rw [hr, hs] at hn
  have br : r < 2305843009213693950 := by omega
  have bs : s < 2305843009213693950 := by omega
  have C1 := Lib.hid (fun w => scalarReduce' hr ha rfl w)
  have C2 := Lib.hid (fun w => scalarReduce' hs hb rfl w)
  have C3 := bitsMul64 r s
  have e1 : r * s % 2305843009213693950 = q := by rw [← hq, mulS, ← hr, ← hs, ← Nat.mul_mod]
  rw [hq]
  generalize r * s = n at *
  obtain ⟨hi, hhi⟩ : ∃ t, n / 18446744073709551616 = t := ⟨_, rfl⟩
  obtain ⟨lo, hlo⟩ : ∃ t, n % 18446744073709551616 = t := ⟨_, rfl⟩
  rw [hhi, hlo] at C3
  obtain ⟨lh, hlh⟩ : ∃ t, lo / 2305843009213693952 = t := ⟨_, rfl⟩
  have ql : (lo : Int) / 2305843009213693952 = (lh : Int) := by omega
  have ml := mask61 lo (by omega)
  obtain ⟨ll, hll⟩ : ∃ t, lo % 2305843009213693952 = t := ⟨_, rfl⟩
  rw [hll] at ml
  have mo := or_join3 hi lh (by omega) (by omega)
  obtain ⟨ab, hab⟩ : ∃ t, hi * 8 + lh = t := ⟨_, rfl⟩
  rw [hab] at mo
  have b1 : hi < 288230376151711744 := by omega
  have b2 : ll < 2305843009213693952 := by omega
  have b3 : ab < 2305843009213693952 := by omega
  have b4 : lo < 18446744073709551616 := by omega
  have C3' := Lib.hid (fun w => C3 w (by omega) (by omega))
  obtain ⟨m, hm⟩ : ∃ t, 2 * ab + ll = t := ⟨_, rfl⟩
  have C4 := Lib.hid (fun w => scalarFold' hm b3 b2 w)
  have C5 := Lib.hid (fun w => scalarReduce' (x := m) (r := q) (by omega) (by omega) rfl w)
  clear hn hr hs hq C3 e1 hhi hlo hlh hll hab hm
  go_enter Tryd.func20, Tryd.ntmps20
  go_wp2_with fail
  refine (C1.out _).mono ?_
  rintro e w' ⟨rfl, rfl⟩
  go_wp2_with fail
  refine (C2.out _).mono ?_
  rintro e w' ⟨rfl, rfl⟩
  go_wp2_with fail
  refine (C3'.out _).mono ?_
  rintro e w' ⟨rfl, rfl⟩
  go_wp2_with fail
  refine (C4.out _).mono ?_
  rintro e w' ⟨rfl, rfl⟩
  go_wp2_with fail
  refine (C5.out _).mono ?_
  rintro e w' ⟨rfl, rfl⟩
  go_wp2_with fail
  go_ret
  exact ⟨rfl, rfl⟩
/-- The same, the answer under a name. -/
theorem scalarMul' {a b c : Nat} (h : mulS a b = c) (ha : a < 18446744073709551616) (hb : b < 18446744073709551616) {x y : Int} (hx : (a : Int) = x) (hy : (b : Int) = y) (w : World) :
    Calls Tryd.prog 20 #[.int .u64 x, .int .u64 y] w fun e w' => e = .returned (.int .u64 (c : Int)) ∧ w = w' := by
  subst h hx hy
  exact scalarMul a b w ha hb
end Go.Proofs.YtcdoeiccdmmfkaaDoor
/-
  Contracts of scalar.Of and of the reference's OfN.
-/
namespace Go.Proofs.YtcdoeiccdmmfkaaDoor
open Go.ChangeShapes Go.WideShapes Go.ChangeAt Go.RowKit
set_option linter.unusedVariables false
set_option linter.unusedSimpArgs false

theorem ofS_take (l : List UInt8) (j : Nat) (h : j < l.length) : addS (mulS (ofS (l.take j)) 256) (l.getD j 0).toNat = ofS (l.take (j + 1)) := by
  rw [← ofS_snoc, List.take_succ_eq_append_getElem h]
  simp [h]

namespace scalarOf
theorem none_ (A : Option Addr) (c : Nat) (w : World) :
    Calls Tryd.prog 39 #[.slice A 0 c] w fun e w' => e = .returned (.int .u64 0) ∧ w = w' := by
  go_enter Tryd.func39, Tryd.ntmps39
  go_wp2
  go_loop [3, 8] (fun x k => k = .int .i64 0 ∧ x = .int .u64 0) (fun _ k => 0)
  case atStart => exact ⟨rfl, rfl⟩
  case round =>
    obtain ⟨rfl, rfl⟩ := hrel
    go_wp2
    go_ret
    exact ⟨rfl, rfl⟩
set_option maxHeartbeats 400000 in
theorem some_ (A : Option Addr) (n c : Nat) (l : List UInt8) (w : World) (hl : Bytes w A n c l) (h0 : 0 < n) :
    Calls Tryd.prog 39 #[.slice A n c] w fun e w' => e = .returned (.int .u64 ((ofS l : Nat) : Int)) ∧ w = w' := by
  obtain ⟨b, off, rfl, hb, hc⟩ := hl.at_ h0
  have hn := hl.le
  have hcap := hl.2.1
  have H := Lib.hid hl.len
  have HC := Lib.hid hc
  clear hc
  go_enter Tryd.func39, Tryd.ntmps39
  go_wp2
  go_loop [3, 8] (fun x k => ∃ j y : Nat, j ≤ n ∧ k = .int .i64 j ∧ x = .int .u64 y ∧ Hid (y = ofS (l.take j))) (fun _ k => n - (intOf k).toNat)
  case atStart => exact ⟨0, 0, Nat.zero_le _, rfl, rfl, Lib.hid rfl⟩
  case round =>
    obtain ⟨j, y, hj, rfl, rfl, HY⟩ := hrel
    have hy : y < 2305843009213693950 := by rw [HY.out]; exact ofS_lt _
    by_cases hlt : j < n
    · have hcj := HC.out j hlt
      obtain ⟨x, hx⟩ : ∃ x, (l.getD j 0).toNat = x := ⟨_, rfl⟩
      have hx8 : x < 256 := by rw [← hx]; exact UInt8.toNat_lt _
      rw [hx] at hcj
      obtain ⟨m, hm⟩ : ∃ m, mulS y 256 = m := ⟨_, rfl⟩
      have hml : m < 2305843009213693950 := by rw [← hm]; exact mulS_lt _ _
      obtain ⟨z, hz⟩ : ∃ z, addS m x = z := ⟨_, rfl⟩
      have C1 := Lib.hid (fun w => scalarMul' (b := 256) hm (by omega) (by omega) rfl (y := 256) rfl w)
      have C2 := Lib.hid (fun w => scalarAdd' hz (by omega) (by omega) rfl rfl w)
      have HZ := Lib.hid (show z = ofS (l.take (j + 1)) by rw [← hz, ← hm, HY.out, ← hx]; exact ofS_take l j (by rw [H.out]; exact hlt))
      clear hx hm hz
      go_wp2_with fail
      refine (C1.out _).mono ?_
      rintro e w' ⟨rfl, rfl⟩
      go_wp2_with fail
      refine (C2.out _).mono ?_
      rintro e w' ⟨rfl, rfl⟩
      go_wp2_with fail
      go_round
      case rel => exact ⟨j + 1, z, by omega, by go_num, rfl, HZ⟩
      case measure => simp [intOf]; omega
    · have hjn : j = n := by omega
      have HE := Lib.hid (show y = ofS l by rw [HY.out, hjn, ← H.out, List.take_length])
      go_wp2
      go_ret
      exact ⟨ret_int (by rw [HE.out]), rfl⟩
end scalarOf
theorem scalarOfB (A : Option Addr) (n c : Nat) (l : List UInt8) (w : World) (hl : Bytes w A n c l) :
    Calls Tryd.prog 39 #[.slice A n c] w fun e w' => e = .returned (.int .u64 ((ofS l : Nat) : Int)) ∧ w = w' := by
  rcases Nat.eq_zero_or_pos n with h0 | h0
  · subst h0
    obtain rfl : l = [] := List.eq_nil_of_length_eq_zero hl.len
    exact scalarOf.none_ A c w
  · exact scalarOf.some_ A n c l w hl h0
namespace refOf
theorem none_ (A : Option Addr) (c : Nat) (w : World) :
    Calls Tryd.prog 23 #[.slice A 0 c] w fun e w' => e = .returned (.int .u64 0) ∧ Below w.heap.size w w' := by
  go_enter Tryd.func23, Tryd.ntmps23
  go_wp2
  go_loop [3, 4] (fun x k => k = .int .i64 0 ∧ x = .int .u64 0) (fun _ k => 0)
  case atStart => exact ⟨rfl, rfl⟩
  case round =>
    obtain ⟨rfl, rfl⟩ := hrel
    go_wp2
    go_ret
    exact ⟨rfl, Below.refl _ _⟩
set_option maxHeartbeats 400000 in
theorem some_ (A : Option Addr) (n c : Nat) (l : List UInt8) (w : World) (hl : Bytes w A n c l) (h0 : 0 < n) :
    Calls Tryd.prog 23 #[.slice A n c] w fun e w' => e = .returned (.int .u64 ((ofS l : Nat) : Int)) ∧ Below w.heap.size w w' := by
  obtain ⟨b, off, rfl, hb0, hc⟩ := hl.at_ h0
  have hn := hl.le
  have hcap := hl.2.1
  have H := Lib.hid hl.len
  have HC := Lib.hid hc
  clear hc
  go_enter Tryd.func23, Tryd.ntmps23
  go_wp2
  go_loopw [3, 4] (fun x k wr => ∃ j y : Nat, j ≤ n ∧ k = .int .i64 j ∧ x = .int .u64 y ∧ Hid (y = ofS (l.take j)) ∧ Below w.heap.size w wr) (fun _ k _ => n - (intOf k).toNat)
  case atStart => exact ⟨0, 0, Nat.zero_le _, rfl, rfl, Lib.hid rfl, Below.refl _ _⟩
  case round =>
    obtain ⟨j, y, hj, rfl, rfl, HY, hb⟩ := hrel
    have hy : y < 2305843009213693950 := by rw [HY.out]; exact ofS_lt _
    by_cases hlt : j < n
    · have hcj := (hb.cell (p := ⟨b, off + j, none⟩) hb0).trans (HC.out j hlt)
      obtain ⟨x, hx⟩ : ∃ x, (l.getD j 0).toNat = x := ⟨_, rfl⟩
      have hx8 : x < 256 := by rw [← hx]; exact UInt8.toNat_lt _
      rw [hx] at hcj
      obtain ⟨m, hm⟩ : ∃ m, mulS y 256 = m := ⟨_, rfl⟩
      have hml : m < 2305843009213693950 := by rw [← hm]; exact mulS_lt _ _
      obtain ⟨z, hz⟩ : ∃ z, addS m x = z := ⟨_, rfl⟩
      have C1 := Lib.hid (fun w => refMulN' (b := 256) hm (by omega) (by omega) rfl (y := 256) rfl w)
      have C2 := Lib.hid (fun w => refAddN' hz (by omega) (by omega) rfl rfl w)
      have HZ := Lib.hid (show z = ofS (l.take (j + 1)) by rw [← hz, ← hm, HY.out, ← hx]; exact ofS_take l j (by rw [H.out]; exact hlt))
      clear hx hm hz
      go_wp2_with fail
      go_quiet (first
        | (go_at_call 46; refine Calls.quiet_of_same ((C1.out _).mono fun _ _ h => ⟨h.1, h.2.symm⟩))
        | (go_at_call 45; refine Calls.quiet_of_same ((C2.out _).mono fun _ _ h => ⟨h.1, h.2.symm⟩)))
      go_wp2_with fail
      go_roundw
      case rel => exact ⟨j + 1, z, by omega, by go_num, rfl, HZ, below_drewN hb _⟩
      case measure => simp [intOf]; omega
    · have hjn : j = n := by omega
      have HE := Lib.hid (show y = ofS l by rw [HY.out, hjn, ← H.out, List.take_length])
      go_wp2
      go_ret
      exact ⟨ret_int (by rw [HE.out]), hb⟩
end refOf
theorem refOfN (A : Option Addr) (n c : Nat) (l : List UInt8) (w : World) (hl : Bytes w A n c l) :
    Calls Tryd.prog 23 #[.slice A n c] w fun e w' => e = .returned (.int .u64 ((ofS l : Nat) : Int)) ∧ Below w.heap.size w w' := by
  rcases Nat.eq_zero_or_pos n with h0 | h0
  · subst h0
    obtain rfl : l = [] := List.eq_nil_of_length_eq_zero hl.len
    exact refOf.none_ A c w
  · exact refOf.some_ A n c l w hl h0
end Go.Proofs.YtcdoeiccdmmfkaaDoor
/-
  Contracts of group.Right, Times, Base, Product, Bytes and of the reference's.
-/
namespace Go.Proofs.YtcdoeiccdmmfkaaDoor
open Go.ChangeShapes Go.WideShapes Go.ChangeAt Go.RowKit
set_option linter.unusedVariables false
set_option linter.unusedSimpArgs false

theorem groupRight (x : Nat) (w : World) (hx : x < 18446744073709551616) :
    Calls Tryd.prog 31 #[.int .u64 (x : Int)] w fun e w' => e = .returned (.bool (decide (rightN x))) ∧ w = w' := by
  by_cases h0 : x = 0
  · have hd : decide (rightN x) = false := decide_eq_false (fun h => by have := h.1; omega)
    have h1 : ¬ (0 : Int) < (x : Int) := by omega
    rw [hd]
    clear h0 hd
    go_enter Tryd.func31, Tryd.ntmps31
    go_wp2_with fail
    go_ret
    exact ⟨rfl, rfl⟩
  · have h1 : 0 < x := by omega
    by_cases h2 : x < 2305843009213693951
    · have hd : decide (rightN x) = true := decide_eq_true ⟨by omega, h2⟩
      have h3 := Lib.hid (show (x : Int) < 2305843009213693951 by omega)
      rw [hd]
      clear h0 hd h2
      go_enter Tryd.func31, Tryd.ntmps31
      go_wp2_with fail
      go_ret
      exact ⟨ret_bool (decide_eq_true h3.out), rfl⟩
    · have hd : decide (rightN x) = false := decide_eq_false (fun h => h2 h.2)
      have h3 := Lib.hid (show ¬ (x : Int) < 2305843009213693951 by omega)
      rw [hd]
      clear h0 hd h2
      go_enter Tryd.func31, Tryd.ntmps31
      go_wp2_with fail
      go_ret
      exact ⟨ret_bool (decide_eq_false (Int.not_lt.2 h3.out)), rfl⟩
/-- The same, the answer under a name. -/
theorem groupRight' {x : Nat} {b : Bool} (hb : decide (rightN x) = b) (hx : x < 18446744073709551616) {y : Int} (hy : (x : Int) = y) (w : World) :
    Calls Tryd.prog 31 #[.int .u64 y] w fun e w' => e = .returned (.bool b) ∧ w = w' := by
  subst hb hy
  exact groupRight x w hx
theorem refRight (x : Nat) (w : World) (hx : x < 18446744073709551616) :
    Calls Tryd.prog 34 #[.int .u64 (x : Int)] w fun e w' => e = .returned (.bool (decide (rightN x))) ∧ w = w' := by
  by_cases h0 : x = 0
  · have hd : decide (rightN x) = false := decide_eq_false (fun h => by have := h.1; omega)
    have h1 : ¬ (1 : Int) ≤ (x : Int) := by omega
    rw [hd]
    clear h0 hd
    go_enter Tryd.func34, Tryd.ntmps34
    go_wp2_with fail
    go_ret
    exact ⟨rfl, rfl⟩
  · have h1 : (1 : Int) ≤ (x : Int) := by omega
    by_cases h2 : x < 2305843009213693951
    · have hd : decide (rightN x) = true := decide_eq_true ⟨by omega, h2⟩
      have h3 := Lib.hid (show (x : Int) < 2305843009213693951 by omega)
      rw [hd]
      clear h0 hd h2
      go_enter Tryd.func34, Tryd.ntmps34
      go_wp2_with fail
      go_ret
      exact ⟨ret_bool (decide_eq_true h3.out), rfl⟩
    · have hd : decide (rightN x) = false := decide_eq_false (fun h => h2 h.2)
      have h3 := Lib.hid (show ¬ (x : Int) < 2305843009213693951 by omega)
      rw [hd]
      clear h0 hd h2
      go_enter Tryd.func34, Tryd.ntmps34
      go_wp2_with fail
      go_ret
      exact ⟨ret_bool (decide_eq_false (Int.not_lt.2 h3.out)), rfl⟩
/-- The same, the answer under a name. -/
theorem refRight' {x : Nat} {b : Bool} (hb : decide (rightN x) = b) (hx : x < 18446744073709551616) {y : Int} (hy : (x : Int) = y) (w : World) :
    Calls Tryd.prog 34 #[.int .u64 y] w fun e w' => e = .returned (.bool b) ∧ w = w' := by
  subst hb hy
  exact refRight x w hx
theorem groupTimes (x n : Nat) (w : World) (hx : x < 18446744073709551616) (he : n < 18446744073709551616) :
    Calls Tryd.prog 33 #[.int .u64 (x : Int), .int .u64 (n : Int)] w fun e w' => e = .returned (.int .u64 ((timesN x n : Nat) : Int)) ∧ w = w' := by
  by_cases h : rightN x
  · have C1 := Lib.hid (fun w => groupRight' (decide_eq_true h) hx rfl w)
    rw [timesN_right h]
    obtain ⟨q, hq⟩ : ∃ t, powN x n = t := ⟨_, rfl⟩
    rw [hq]
    have C2 := Lib.hid (fun w => modpPow' hq hx he rfl w)
    clear hq h
    go_enter Tryd.func33, Tryd.ntmps33
    go_wp2_with fail
    refine (C1.out _).mono ?_
    rintro e w' ⟨rfl, rfl⟩
    go_wp2_with fail
    refine (C2.out _).mono ?_
    rintro e w' ⟨rfl, rfl⟩
    go_wp2_with fail
    go_ret
    exact ⟨rfl, rfl⟩
  · have C1 := Lib.hid (fun w => groupRight' (decide_eq_false h) hx rfl w)
    rw [timesN_not h]
    clear h
    go_enter Tryd.func33, Tryd.ntmps33
    go_wp2_with fail
    refine (C1.out _).mono ?_
    rintro e w' ⟨rfl, rfl⟩
    go_wp2_with fail
    go_ret
    exact ⟨rfl, rfl⟩
/-- The same, the answer under a name. -/
theorem groupTimes' {a b c : Nat} (h : timesN a b = c) (ha : a < 18446744073709551616) (hb : b < 18446744073709551616) {x y : Int} (hx : (a : Int) = x) (hy : (b : Int) = y) (w : World) :
    Calls Tryd.prog 33 #[.int .u64 x, .int .u64 y] w fun e w' => e = .returned (.int .u64 (c : Int)) ∧ w = w' := by
  subst h hx hy
  exact groupTimes a b w ha hb
theorem refTimes (x n : Nat) (w : World) (hx : x < 18446744073709551616) (he : n < 18446744073709551616) :
    Calls Tryd.prog 26 #[.int .u64 (x : Int), .int .u64 (n : Int)] w fun e w' => e = .returned (.int .u64 ((timesN x n : Nat) : Int)) ∧ w = w' := by
  by_cases h : rightN x
  · have C1 := Lib.hid (fun w => refRight' (decide_eq_true h) hx rfl w)
    rw [timesN_right h]
    obtain ⟨q, hq⟩ : ∃ t, powN x n = t := ⟨_, rfl⟩
    rw [hq]
    have C2 := Lib.hid (fun w => refPowP' hq hx he rfl w)
    clear hq h
    go_enter Tryd.func26, Tryd.ntmps26
    go_wp2_with fail
    refine (C1.out _).mono ?_
    rintro e w' ⟨rfl, rfl⟩
    go_wp2_with fail
    refine (C2.out _).mono ?_
    rintro e w' ⟨rfl, rfl⟩
    go_wp2_with fail
    go_ret
    exact ⟨rfl, rfl⟩
  · have C1 := Lib.hid (fun w => refRight' (decide_eq_false h) hx rfl w)
    rw [timesN_not h]
    clear h
    go_enter Tryd.func26, Tryd.ntmps26
    go_wp2_with fail
    refine (C1.out _).mono ?_
    rintro e w' ⟨rfl, rfl⟩
    go_wp2_with fail
    go_ret
    exact ⟨rfl, rfl⟩
/-- The same, the answer under a name. -/
theorem refTimes' {a b c : Nat} (h : timesN a b = c) (ha : a < 18446744073709551616) (hb : b < 18446744073709551616) {x y : Int} (hx : (a : Int) = x) (hy : (b : Int) = y) (w : World) :
    Calls Tryd.prog 26 #[.int .u64 x, .int .u64 y] w fun e w' => e = .returned (.int .u64 (c : Int)) ∧ w = w' := by
  subst h hx hy
  exact refTimes a b w ha hb
theorem groupBase' {b c : Nat} (h : timesN 37 b = c) (hb : b < 18446744073709551616) {y : Int} (hy : (b : Int) = y) (w : World) :
    Calls Tryd.prog 18 #[.int .u64 y] w fun e w' => e = .returned (.int .u64 (c : Int)) ∧ w = w' := by
  subst hy
  have C1 := Lib.hid (fun w => groupTimes' h (by omega) hb (x := 37) rfl rfl w)
  clear h
  go_enter Tryd.func18, Tryd.ntmps18
  go_wp2_with fail
  refine (C1.out _).mono ?_
  rintro e w' ⟨rfl, rfl⟩
  go_wp2_with fail
  go_ret
  exact ⟨rfl, rfl⟩
theorem refBase' {b c : Nat} (h : timesN 37 b = c) (hb : b < 18446744073709551616) {y : Int} (hy : (b : Int) = y) (w : World) :
    Calls Tryd.prog 11 #[.int .u64 y] w fun e w' => e = .returned (.int .u64 (c : Int)) ∧ w = w' := by
  subst hy
  have C1 := Lib.hid (fun w => refTimes' h (by omega) hb (x := 37) rfl rfl w)
  clear h
  go_enter Tryd.func11, Tryd.ntmps11
  go_wp2_with fail
  refine (C1.out _).mono ?_
  rintro e w' ⟨rfl, rfl⟩
  go_wp2_with fail
  go_ret
  exact ⟨rfl, rfl⟩
theorem prodN_step (l : List Nat) (j : Nat) (h : j < l.length) (hr : ∀ z ∈ l.take j, rightN z) (hx : rightN (l.getD j 0)) :
    prodN 1 (l.take (j + 1)) = mulN (prodN 1 (l.take j)) (l.getD j 0) ∧ ∀ z ∈ l.take (j + 1), rightN z := by
  rw [List.take_succ_eq_append_getElem h]
  have e : l.getD j 0 = l[j] := by simp [h]
  rw [e] at hx ⊢
  refine ⟨prodN_snoc _ _ _ hr hx, fun z hz => ?_⟩
  rcases List.mem_append.1 hz with hz | hz
  · exact hr z hz
  · rw [List.mem_singleton.1 hz]
    exact hx
theorem prodN_stop (l : List Nat) (j : Nat) (h : j < l.length) (hx : ¬ rightN (l.getD j 0)) : prodN 1 l = 0 := by
  have e : l.getD j 0 = l[j] := by simp [h]
  rw [e] at hx
  have h1 : l = l.take j ++ l[j] :: l.drop (j + 1) := by simp
  rw [h1]
  exact prodN_not _ _ _ _ hx
namespace groupProduct
theorem none_ (A : Option Addr) (c : Nat) (w : World) :
    Calls Tryd.prog 32 #[.slice A 0 c] w fun e w' => e = .returned (.int .u64 1) ∧ w = w' := by
  go_enter Tryd.func32, Tryd.ntmps32
  go_wp2
  go_loop [3, 8] (fun x k => k = .int .i64 0 ∧ x = .int .u64 1) (fun _ k => 0)
  case atStart => exact ⟨rfl, rfl⟩
  case round =>
    obtain ⟨rfl, rfl⟩ := hrel
    go_wp2
    go_ret
    exact ⟨rfl, rfl⟩
set_option maxHeartbeats 400000 in
theorem some_ (A : Option Addr) (n c : Nat) (l : List Nat) (w : World) (hl : Nums w A n c l) (h0 : 0 < n) :
    Calls Tryd.prog 32 #[.slice A n c] w fun e w' => e = .returned (.int .u64 ((prodN 1 l : Nat) : Int)) ∧ w = w' := by
  obtain ⟨b, off, rfl, hb, hc⟩ := hl.at_ h0
  have hn := hl.le
  have hcap := hl.1.2.1
  have H := Lib.hid hl.len
  have HG := Lib.hid hl.lt
  have HC := Lib.hid hc
  clear hc hl
  go_enter Tryd.func32, Tryd.ntmps32
  go_wp2
  go_loop [3, 8] (fun x k => ∃ j y : Nat, j ≤ n ∧ k = .int .i64 j ∧ x = .int .u64 y ∧ y < 2305843009213693951 ∧ Hid (y = prodN 1 (l.take j)) ∧ Hid (∀ z ∈ l.take j, rightN z)) (fun _ k => n - (intOf k).toNat)
  case atStart => exact ⟨0, 1, Nat.zero_le _, rfl, rfl, by decide, Lib.hid rfl, Lib.hid (fun z hz => by simp at hz)⟩
  case round =>
    obtain ⟨j, y, hj, rfl, rfl, hy, HY, HR⟩ := hrel
    by_cases hlt : j < n
    · have hcj := HC.out j hlt
      obtain ⟨x, hx⟩ : ∃ x, l.getD j 0 = x := ⟨_, rfl⟩
      have hx64 : x < 18446744073709551616 := by rw [← hx]; exact HG.out j
      rw [hx] at hcj
      by_cases hr : rightN x
      · have C1 := Lib.hid (fun w => groupRight' (decide_eq_true hr) hx64 rfl w)
        obtain ⟨m, hm⟩ : ∃ m, mulN y x = m := ⟨_, rfl⟩
        have bm : m < 2305843009213693951 := by rw [← hm]; exact mulN_lt _ _
        have C2 := Lib.hid (fun w => modpMul' hm (by omega) hx64 rfl rfl w)
        have HS := Lib.hid (prodN_step l j (by rw [H.out]; exact hlt) HR.out (by rw [hx]; exact hr))
        have HN := Lib.hid (show m = prodN 1 (l.take (j + 1)) by rw [HS.out.1, hx, ← HY.out, hm])
        have HM := Lib.hid HS.out.2
        clear hx hm hr HS
        go_wp2_with fail
        refine (C1.out _).mono ?_
        rintro e w' ⟨rfl, rfl⟩
        go_wp2_with fail
        refine (C2.out _).mono ?_
        rintro e w' ⟨rfl, rfl⟩
        go_wp2_with fail
        go_round
        case rel => exact ⟨j + 1, m, by omega, by go_num, rfl, bm, HN, HM⟩
        case measure => simp [intOf]; omega
      · have C1 := Lib.hid (fun w => groupRight' (decide_eq_false hr) hx64 rfl w)
        have HP := Lib.hid (prodN_stop l j (by rw [H.out]; exact hlt) (by rw [hx]; exact hr))
        clear hx hr
        go_wp2_with fail
        refine (C1.out _).mono ?_
        rintro e w' ⟨rfl, rfl⟩
        go_wp2_with fail
        go_ret
        exact ⟨ret_int (by rw [HP.out]; rfl), rfl⟩
    · have hjn : j = n := by omega
      have HE := Lib.hid (show y = prodN 1 l by rw [HY.out, hjn, ← H.out, List.take_length])
      go_wp2
      go_ret
      exact ⟨ret_int (by rw [HE.out]), rfl⟩
end groupProduct
theorem groupProductN (A : Option Addr) (n c : Nat) (l : List Nat) (w : World) (hl : Nums w A n c l) :
    Calls Tryd.prog 32 #[.slice A n c] w fun e w' => e = .returned (.int .u64 ((prodN 1 l : Nat) : Int)) ∧ w = w' := by
  rcases Nat.eq_zero_or_pos n with h0 | h0
  · subst h0
    obtain rfl : l = [] := List.eq_nil_of_length_eq_zero hl.len
    exact groupProduct.none_ A c w
  · exact groupProduct.some_ A n c l w hl h0
end Go.Proofs.YtcdoeiccdmmfkaaDoor
/-
  Contracts of group.Bytes and of the reference's.
-/
namespace Go.Proofs.YtcdoeiccdmmfkaaDoor
open Go.ChangeShapes Go.WideShapes Go.ChangeAt Go.RowKit
set_option linter.unusedVariables false
set_option linter.unusedSimpArgs false

theorem groupBytes (x : Nat) (w : World) (hx : x < 18446744073709551616) :
    Calls Tryd.prog 28 #[.int .u64 (x : Int)] w
      fun e w' => ∃ v, e = .returned v ∧ w'.ownsRow w.heap.size 5 1 v 8 ((be64 x).map bv) ∧ Below w.heap.size w w' := by
  go_enter Tryd.func28, Tryd.ntmps28
  go_wp2_with fail
  refine (wordsPut.put64 none 0 0 [] x w (Row.nil w) (by omega)).mono ?_
  rintro e w1 ⟨v1, rfl, hown1, hb1⟩
  go_wp2_with fail
  go_ret
  exact ⟨_, rfl, by simpa using hown1, hb1⟩
theorem refBytes (x : Nat) (w : World) (hx : x < 18446744073709551616) :
    Calls Tryd.prog 30 #[.int .u64 (x : Int)] w
      fun e w' => ∃ v, e = .returned v ∧ w'.ownsRow w.heap.size 5 1 v 8 ((be64 x).map bv) ∧ Below w.heap.size w w' := by
  go_enter Tryd.func30, Tryd.ntmps30
  go_wp2_with fail
  refine (refPut.put64 none 0 0 [] x w (Row.nil w) (by omega) hx).mono ?_
  rintro e w1 ⟨v1, rfl, hown1, hb1⟩
  go_wp2_with fail
  go_ret
  exact ⟨_, rfl, by simpa using hown1, hb1⟩
end Go.Proofs.YtcdoeiccdmmfkaaDoor
