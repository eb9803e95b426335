/-
  Number theory, of no program: powers modulo a number, a generator of the residues, Fermat's theorem; 37 generates the residues of 2^61 - 1.
-/
namespace Go.Proofs.YtgjepiblhpmaiaaDoor
/-- A map of the numbers below n into themselves that hits none twice hits all. -/
theorem inj_surj : ∀ (n : Nat) (f : Nat → Nat), (∀ i, i < n → f i < n) → (∀ i j, i < n → j < n → f i = f j → i = j) → ∀ y, y < n → ∃ i, i < n ∧ f i = y
  | 0, _, _, _, y, hy => absurd hy (by omega)
  | n + 1, f, hf, hi, y, hy => by
    by_cases hv : f n = y
    · exact ⟨n, by omega, hv⟩
    have hfn := hf n (by omega)
    have h1 : ∀ i, i < n → (if f i = n then f n else f i) < n := by
      intro i hin
      have := hf i (by omega)
      split
      · next h =>
        have : f n ≠ n := fun e => by have := hi i n (by omega) (by omega) (by rw [h, e]); omega
        omega
      · next h => omega
    have h2 : ∀ i j, i < n → j < n → (if f i = n then f n else f i) = (if f j = n then f n else f j) → i = j := by
      intro i j hi' hj' e
      split at e <;> split at e
      · next a b => exact hi i j (by omega) (by omega) (a.trans b.symm)
      · next a b => have := hi n j (by omega) (by omega) e; omega
      · next a b => have := hi i n (by omega) (by omega) e; omega
      · exact hi i j (by omega) (by omega) e
    by_cases hyn : y = n
    · obtain ⟨i, hin, e⟩ := inj_surj n (fun i => if f i = n then f n else f i) h1 h2 (f n) (by omega)
      split at e
      · next a => exact ⟨i, by omega, by omega⟩
      · have := hi i n (by omega) (by omega) e; omega
    · obtain ⟨i, hin, e⟩ := inj_surj n (fun i => if f i = n then f n else f i) h1 h2 y (by omega)
      split at e
      · exact absurd e hv
      · exact ⟨i, by omega, e⟩

/-- A power modulo m, by squares. -/
def powm (m : Nat) : Nat → Nat → Nat → Nat
  | 0, _, _ => 1 % m
  | f + 1, a, e => if e % 2 = 1 then a * powm m f (a * a % m) (e / 2) % m else powm m f (a * a % m) (e / 2)
theorem powm_eq (m : Nat) : ∀ f a e, e < 2 ^ f → powm m f a e = a ^ e % m
  | 0, a, e, h => by
    obtain rfl : e = 0 := by simpa using h
    rfl
  | f + 1, a, e, h => by
    have h2 : e / 2 < 2 ^ f := by rw [Nat.pow_succ] at h; omega
    have ih := powm_eq m f (a * a % m) (e / 2) h2
    have e2 : (a * a % m) ^ (e / 2) % m = a ^ (2 * (e / 2)) % m := by rw [← Nat.pow_mod, Nat.pow_mul, Nat.pow_two]
    rw [powm, ih, e2]
    split
    · next h1 => rw [Nat.mul_mod_mod, Nat.mul_comm, ← Nat.pow_succ, show Nat.succ (2 * (e / 2)) = e by omega]
    · next h1 => rw [show 2 * (e / 2) = e by omega]

/-! ### A generator -/
section
variable {P g : Nat}
theorem pow_zero_of {a i : Nat} (hi : a ^ i % P = 0) (j : Nat) (h : i ≤ j) : a ^ j % P = 0 := by
  rw [show j = i + (j - i) by omega, Nat.pow_add, Nat.mul_mod, hi, Nat.zero_mul, Nat.zero_mod]
theorem one_pow_mod (hP : 1 < P) {a i : Nat} (hi : a ^ i % P = 1) (j : Nat) : a ^ (i * j) % P = 1 := by
  rw [Nat.pow_mul, Nat.pow_mod, hi, Nat.one_pow, Nat.mod_eq_of_lt hP]
/-- What two exponents give 1, their greatest common divisor gives 1. -/
theorem gcd_one (hP : 1 < P) (a m n : Nat) : a ^ m % P = 1 → a ^ n % P = 1 → a ^ (Nat.gcd m n) % P = 1 := by
  induction m, n using Nat.gcd.induction with
  | H0 n => intro _ h; rw [Nat.gcd_zero_left]; exact h
  | H1 m n hm ih =>
    intro h1 h2
    rw [Nat.gcd_rec]
    refine ih ?_ h1
    have e : a ^ n % P = a ^ (n % m) % P := by
      conv => lhs; rw [← Nat.div_add_mod n m, Nat.pow_add, Nat.mul_mod, one_pow_mod hP h1, Nat.one_mul, Nat.mod_mod]
    rw [← e]
    exact h2
/-- g gives every residue but 0: P - 1 is the least exponent that gives 1. -/
structure Gen (P g : Nat) : Prop where
  big : 2 < P
  one : g ^ (P - 1) % P = 1
  least : ∀ i, 0 < i → i < P - 1 → g ^ i % P ≠ 1
theorem Gen.pos (h : Gen P g) (i : Nat) (hi : i ≤ P - 1) : g ^ i % P ≠ 0 := fun e => by
  have := pow_zero_of e (P - 1) hi
  rw [h.one] at this
  exact absurd this (by decide)
theorem Gen.inj (h : Gen P g) (i j : Nat) (hij : i < j) (hj : j < P - 1) : g ^ i % P ≠ g ^ j % P := fun e => by
  have hP := h.big
  refine h.least (j - i) (by omega) (by omega) ?_
  have h1 : g ^ (P - 1) % P = g ^ (P - 1 + (j - i)) % P := by
    have e1 : g ^ (P - 1) = g ^ i * g ^ (P - 1 - i) := by rw [← Nat.pow_add]; congr 1; omega
    have e2 : g ^ (P - 1 + (j - i)) = g ^ j * g ^ (P - 1 - i) := by rw [← Nat.pow_add]; congr 1; omega
    rw [e1, e2, Nat.mul_mod, e, ← Nat.mul_mod]
  rw [Nat.pow_add, Nat.mul_mod, h.one, Nat.one_mul, Nat.mod_mod] at h1
  exact h1.symm
theorem Gen.all (h : Gen P g) (a : Nat) (h0 : 0 < a) (h1 : a < P) : ∃ i, i < P - 1 ∧ g ^ i % P = a := by
  have hP := h.big
  obtain ⟨i, hi, e⟩ := inj_surj (P - 1) (fun i => g ^ i % P - 1)
    (fun i hi => by have := Nat.mod_lt (g ^ i) (show 0 < P by omega); have := h.pos i (by omega); show g ^ i % P - 1 < P - 1; omega)
    (fun i j hi hj e => by
      have a1 := h.pos i (by omega)
      have a2 := h.pos j (by omega)
      have e' : g ^ i % P = g ^ j % P := by have : g ^ i % P - 1 = g ^ j % P - 1 := e; omega
      rcases Nat.lt_trichotomy i j with hl | hl | hl
      · exact absurd e' (h.inj i j hl hj)
      · exact hl
      · exact absurd e'.symm (h.inj j i hl hi))
    (a - 1) (by omega)
  have a1 := h.pos i (by omega)
  have e' : g ^ i % P - 1 = a - 1 := e
  exact ⟨i, hi, by omega⟩
/-- Fermat's. -/
theorem Gen.fermat (h : Gen P g) (a : Nat) (ha : a % P ≠ 0) : a ^ (P - 1) % P = 1 := by
  have hP := h.big
  obtain ⟨i, _, e⟩ := h.all (a % P) (by omega) (Nat.mod_lt _ (by omega))
  rw [Nat.pow_mod, ← e, ← Nat.pow_mod, ← Nat.pow_mul, Nat.mul_comm]
  exact one_pow_mod (by omega) h.one i
theorem Gen.mul_ne (h : Gen P g) (a b : Nat) (ha : a % P ≠ 0) (hb : b % P ≠ 0) : a * b % P ≠ 0 := fun e => by
  have hP := h.big
  have h1 : (a * b) ^ (P - 1) % P = 1 := by rw [Nat.mul_pow, Nat.mul_mod, h.fermat a ha, h.fermat b hb, Nat.one_mul, Nat.mod_eq_of_lt (by omega)]
  have h2 : (a * b) ^ (P - 1) % P = 0 := by
    rw [Nat.pow_mod, e, Nat.zero_pow (by omega), Nat.zero_mod]
  omega
theorem Gen.inv (h : Gen P g) (a : Nat) (ha : a % P ≠ 0) : a * a ^ (P - 2) % P = 1 := by
  have hP := h.big
  rw [Nat.mul_comm, ← Nat.pow_succ, show Nat.succ (P - 2) = P - 1 by omega]
  exact h.fermat a ha
/-- What undoes a, is one number. -/
theorem inv_one {a x y : Nat} (hx : x * a % P = 1) (hy : y * a % P = 1) : x % P = y % P := by
  have h1 : x * (a * y) % P = x % P := by rw [Nat.mul_mod, Nat.mul_comm a y, hy, Nat.mul_one, Nat.mod_mod]
  have h2 : x * (a * y) % P = y % P := by rw [← Nat.mul_assoc, Nat.mul_mod, hx, Nat.one_mul, Nat.mod_mod]
  rw [← h1, h2]
theorem Gen.cancel (h : Gen P g) (a b c : Nat) (ha : a % P ≠ 0) (e : a * b % P = a * c % P) : b % P = c % P := by
  have hP := h.big
  have hi := h.inv a ha
  have h1 : ∀ b, a ^ (P - 2) * (a * b) % P = b % P := fun b => by
    rw [← Nat.mul_assoc, Nat.mul_comm (a ^ (P - 2)) a, Nat.mul_mod, hi, Nat.one_mul, Nat.mod_mod]
  rw [← h1 b, ← h1 c, Nat.mul_mod, e, ← Nat.mul_mod]
/-- Exponents go by what they leave of P - 1. -/
theorem Gen.exp_mod (h : Gen P g) (a e : Nat) (ha : a % P ≠ 0) : a ^ e % P = a ^ (e % (P - 1)) % P := by
  have hP := h.big
  conv => lhs; rw [← Nat.div_add_mod e (P - 1), Nat.pow_add, Nat.mul_mod, one_pow_mod (by omega) (h.fermat a ha), Nat.one_mul, Nat.mod_mod]
theorem Gen.pow_ne (h : Gen P g) (a e : Nat) (ha : a % P ≠ 0) : a ^ e % P ≠ 0 := by
  have hP := h.big
  induction e with
  | zero => rw [Nat.pow_zero, Nat.mod_eq_of_lt (by omega)]; decide
  | succ e ih => rw [Nat.pow_succ]; exact h.mul_ne _ _ ih ha
end

/-! ### 37 gives every residue of 2^61 - 1 -/
def pP : Nat := 2305843009213693951
def fP : List Nat := [2, 3, 5, 7, 11, 13, 31, 41, 61, 151, 331, 1321]
theorem small_prime : ∀ q ∈ fP, ∀ d, d < q + 1 → q % d = 0 → d = 1 ∨ d = q := by decide +kernel
theorem pow_tests : ∀ q ∈ fP, powm pP 61 37 ((pP - 1) / q) ≠ 1 := by decide +kernel
theorem pow_all : powm pP 61 37 (pP - 1) = 1 := by decide +kernel
theorem prod_P : pP - 1 = 2 * (3 * (3 * (5 * (5 * (7 * (11 * (13 * (31 * (41 * (61 * (151 * (331 * 1321)))))))))))) := by decide +kernel
theorem lt_fuel (k : Nat) (h : k ≤ pP) : k < 2 ^ 61 := Nat.lt_of_le_of_lt h (by decide +kernel)
/-- A divisor of P - 1 other than 1 has one of the primes in it. -/
theorem div_prime (m : Nat) (hm : m ∣ pP - 1) (h1 : m ≠ 1) : ∃ q ∈ fP, q ∣ m := by
  refine Classical.byContradiction fun hno => h1 ?_
  have hc : ∀ q ∈ fP, Nat.Coprime q m := fun q hq => by
    have h0 : 0 < q := by
      have : ∀ q ∈ fP, 0 < q := by decide
      exact this q hq
    have hd : Nat.gcd q m ∣ q := Nat.gcd_dvd_left q m
    have hle := Nat.le_of_dvd h0 hd
    rcases small_prime q hq (Nat.gcd q m) (by omega) (Nat.mod_eq_zero_of_dvd hd) with h | h
    · exact h
    · exact absurd ⟨q, hq, h ▸ Nat.gcd_dvd_right q m⟩ hno
  have hall : Nat.Coprime (pP - 1) m := by
    rw [prod_P]
    have c : ∀ q ∈ fP, ∀ r, Nat.Coprime r m → Nat.Coprime (q * r) m := fun q hq r hr => Nat.Coprime.mul_left (hc q hq) hr
    refine c 2 (by decide) _ (c 3 (by decide) _ (c 3 (by decide) _ (c 5 (by decide) _ (c 5 (by decide) _ (c 7 (by decide) _ (c 11 (by decide) _ (c 13 (by decide) _ (c 31 (by decide) _ (c 41 (by decide) _ (c 61 (by decide) _ (c 151 (by decide) _ (c 331 (by decide) _ (hc 1321 (by decide))))))))))))))
  have e : Nat.gcd (pP - 1) m = m := Nat.gcd_eq_right hm
  rw [← e]
  exact hall
theorem gen37 : Gen pP 37 where
  big := by decide +kernel
  one := by rw [← powm_eq pP 61 37 (pP - 1) (lt_fuel _ (Nat.sub_le _ _))]; exact pow_all
  least := fun i h0 hi e => by
    have hP : 1 < pP := by decide +kernel
    have hone : 37 ^ (pP - 1) % pP = 1 := by rw [← powm_eq pP 61 37 (pP - 1) (lt_fuel _ (Nat.sub_le _ _))]; exact pow_all
    have hg := gcd_one hP 37 i (pP - 1) e hone
    have hgd : Nat.gcd i (pP - 1) ∣ pP - 1 := Nat.gcd_dvd_right _ _
    have hgi : Nat.gcd i (pP - 1) ∣ i := Nat.gcd_dvd_left _ _
    have hgl := Nat.le_of_dvd h0 hgi
    obtain ⟨m, hm⟩ := hgd
    have hm1 : m ≠ 1 := fun e => by rw [e, Nat.mul_one] at hm; omega
    obtain ⟨q, hq, r, hr⟩ := div_prime m ⟨Nat.gcd i (pP - 1), by rw [Nat.mul_comm]; exact hm⟩ hm1
    have h0q : 0 < q := by
      have : ∀ q ∈ fP, 0 < q := by decide
      exact this q hq
    have hdiv : (pP - 1) / q = Nat.gcd i (pP - 1) * r :=
      Nat.div_eq_of_eq_mul_right h0q (hm.trans (by rw [hr, ← Nat.mul_assoc, Nat.mul_comm _ q, Nat.mul_assoc]))
    refine pow_tests q hq ?_
    rw [powm_eq pP 61 37 _ (lt_fuel _ (Nat.le_trans (Nat.div_le_self _ _) (Nat.sub_le _ _))), hdiv]
    exact one_pow_mod hP hg r

/-! ### Bit by bit -/
theorem half_step (e i : Nat) : e / 2 ^ i = 2 * (e / 2 ^ (i + 1)) + e / 2 ^ i % 2 := by
  rw [Nat.pow_succ, ← Nat.div_div_eq_div_mul]
  omega
/-- One step of a power from the highest bit on. -/
theorem pow_step (P a e i x : Nat) (hx : x % P = a ^ (e / 2 ^ (i + 1)) % P) :
    (e / 2 ^ i % 2 = 1 → x * x % P * (a % P) % P = a ^ (e / 2 ^ i) % P) ∧ (e / 2 ^ i % 2 ≠ 1 → x * x % P = a ^ (e / 2 ^ i) % P) := by
  have hs := half_step e i
  have h2 : x * x % P = a ^ (2 * (e / 2 ^ (i + 1))) % P := by
    rw [Nat.mul_mod, hx, ← Nat.mul_mod, ← Nat.pow_add]
    congr 2
    omega
  refine ⟨fun h => ?_, fun h => ?_⟩
  · rw [h2, ← Nat.mul_mod, ← Nat.pow_succ]
    congr 2
    omega
  · rw [h2]
    congr 2
    omega
/-- A number's bits turned round: what is shifted out above comes back below. -/
theorem shift_or (x k : Nat) (hk : k ≤ 60) (hx : x < 2 ^ 61) : (x * 2 ^ k % 2 ^ 61) ||| (x / 2 ^ (61 - k)) = x * 2 ^ k % 2 ^ 61 + x / 2 ^ (61 - k) := by
  have e61 : (2 : Nat) ^ 61 = 2 ^ (61 - k) * 2 ^ k := by rw [← Nat.pow_add]; congr 1; omega
  have e1 : x * 2 ^ k % 2 ^ 61 = 2 ^ k * (x % 2 ^ (61 - k)) := by rw [e61, Nat.mul_mod_mul_right, Nat.mul_comm]
  have h2 : x / 2 ^ (61 - k) < 2 ^ k := by
    rw [Nat.div_lt_iff_lt_mul (Nat.two_pow_pos _), Nat.mul_comm, ← e61]
    exact hx
  rw [e1, ← Nat.two_pow_add_eq_or_of_lt h2]
theorem shift_div (x k : Nat) (hk : k ≤ 60) : x * 2 ^ k / 2 ^ 61 = x / 2 ^ (61 - k) := by
  have e61 : (2 : Nat) ^ 61 = 2 ^ (61 - k) * 2 ^ k := by rw [← Nat.pow_add]; congr 1; omega
  rw [e61, Nat.mul_div_mul_right _ _ (Nat.two_pow_pos _)]
end Go.Proofs.YtgjepiblhpmaiaaDoor
