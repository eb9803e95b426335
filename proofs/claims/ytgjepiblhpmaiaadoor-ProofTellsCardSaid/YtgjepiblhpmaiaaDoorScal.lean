/-
  Numbers modulo N as exponents, of no program: powers of powers; what a proof of chapter 9 comes back to; products of elements.
-/
import Derived.Test.YtgjepiblhpmaiaaDoorModpPow
import Derived.Test.YtgjepiblhpmaiaaDoorScalN
namespace Go.Proofs.YtgjepiblhpmaiaaDoor
set_option linter.unusedVariables false
set_option linter.unusedSimpArgs false

/-! ### Powers -/
theorem powN_mul (a e f : Nat) : powN (powN a e) f = powN a (e * f) := by
  rw [powN_eq, powN_eq, powN_eq, ← Nat.pow_mod, ← Nat.pow_mul]
theorem powN_mod (a e : Nat) (h : a % pP ≠ 0) : powN a (e % 2305843009213693950) = powN a e := by
  rw [powN_eq, powN_eq]
  exact (gen37.exp_mod a e h).symm
theorem powN_mulS (a e f : Nat) (h : a % pP ≠ 0) : powN (powN a e) f = powN a (mulS e f) := by
  rw [powN_mul, mulS, powN_mod _ _ h]
theorem powN_mulN (a e f : Nat) : mulN (powN a e) (powN a f) = powN a (e + f) := by
  rw [mulN, powN_eq, powN_eq, powN_eq, ← Nat.mul_mod, ← Nat.pow_add]
theorem powN_addS (a e f : Nat) (h : a % pP ≠ 0) : mulN (powN a e) (powN a f) = powN a (addS e f) := by
  rw [powN_mulN, addS, powN_mod _ _ h]
/-- g to S, times (g to the secret) to C, is g to the draw, if S is the draw less C times the secret. -/
theorem proof_back (g s d c : Nat) (h : g % pP ≠ 0) : mulN (powN g (subS d (mulS c s))) (powN (powN g s) c) = powN g d := by
  rw [powN_mulS _ _ _ h, powN_addS _ _ _ h, mulS_comm c s, addS_subS, powN_mod _ _ h]

/-! ### Elements -/
/-- x is an element of the group. -/
def rightN (x : Nat) : Prop := 1 ≤ x ∧ x < 2305843009213693951
instance (x : Nat) : Decidable (rightN x) := inferInstanceAs (Decidable (_ ∧ _))
theorem rightN_ne {x : Nat} (h : rightN x) : x % pP ≠ 0 := by
  have e : x % pP = x := Nat.mod_eq_of_lt h.2
  rw [e]
  exact Nat.pos_iff_ne_zero.1 h.1
theorem rightN_pow {x : Nat} (h : rightN x) (e : Nat) : rightN (powN x e) := by
  have h1 : powN x e % pP ≠ 0 := by
    rw [powN_eq]
    show x ^ e % pP % pP ≠ 0
    rw [Nat.mod_mod]
    exact gen37.pow_ne x e (rightN_ne h)
  have h2 := powN_lt x e
  have h3 : powN x e ≠ 0 := fun h0 => h1 (by rw [h0]; rfl)
  exact ⟨by omega, h2⟩
theorem rightN_mul {x y : Nat} (hx : rightN x) (hy : rightN y) : rightN (mulN x y) := by
  have h1 : x * y % pP ≠ 0 := gen37.mul_ne x y (rightN_ne hx) (rightN_ne hy)
  have h2 := mulN_lt x y
  have h3 : mulN x y ≠ 0 := h1
  exact ⟨by omega, h2⟩
/-- x to the power e, or 0 if x is no element. -/
def timesN (x e : Nat) : Nat := if rightN x then powN x e else 0
theorem timesN_lt (x e : Nat) : timesN x e < 2305843009213693951 := by
  unfold timesN
  split
  · exact powN_lt x e
  · decide
theorem timesN_right {x : Nat} (h : rightN x) (e : Nat) : timesN x e = powN x e := if_pos h
theorem timesN_not {x : Nat} (h : ¬ rightN x) (e : Nat) : timesN x e = 0 := if_neg h
theorem rightN_times {x : Nat} (h : rightN x) (e : Nat) : rightN (timesN x e) := by rw [timesN_right h]; exact rightN_pow h e
theorem timesN_times {x : Nat} (h : rightN x) (a b : Nat) : timesN (timesN x a) b = timesN x (mulS a b) := by
  rw [timesN_right (rightN_times h a), timesN_right h, timesN_right h, powN_mulS _ _ _ (rightN_ne h)]
theorem timesN_addS {x : Nat} (h : rightN x) (a b : Nat) : mulN (timesN x a) (timesN x b) = timesN x (addS a b) := by
  rw [timesN_right h, timesN_right h, timesN_right h, powN_addS _ _ _ (rightN_ne h)]
theorem timesN_full {x : Nat} (h : rightN x) (n : Nat) (hn : n = pP - 1) : timesN x n = 1 := by
  rw [timesN_right h, powN_eq, hn]
  exact gen37.fermat x (rightN_ne h)
/-- What a proof of a secret comes back to. -/
theorem timesN_back {g : Nat} (h : rightN g) (s d c : Nat) : mulN (timesN g (subS d (mulS c s))) (timesN (timesN g s) c) = timesN g d := by
  rw [timesN_times h, timesN_addS h, mulS_comm c s, addS_subS, timesN_right h, timesN_right h, powN_mod _ _ (rightN_ne h)]

/-- The product of all, or 0 if one is no element: x is what stands so far. -/
def prodN : Nat → List Nat → Nat
  | x, [] => x
  | x, y :: l => if rightN y then prodN (mulN x y) l else 0
theorem prodN_lt : ∀ (l : List Nat) (x : Nat), x < 2305843009213693951 → prodN x l < 2305843009213693951
  | [], x, h => h
  | y :: l, x, h => by
    unfold prodN
    split
    · exact prodN_lt l _ (mulN_lt x y)
    · decide
/-- The product so far, of the first ones, if all of these are elements. -/
theorem prodN_snoc : ∀ (l : List Nat) (x y : Nat), (∀ z ∈ l, rightN z) → rightN y → prodN x (l ++ [y]) = mulN (prodN x l) y
  | [], x, y, _, hy => by simp [prodN, hy]
  | z :: l, x, y, hl, hy => by
    have hz := hl z (by simp)
    simp only [List.cons_append, prodN, if_pos hz]
    exact prodN_snoc l _ y (fun u hu => hl u (by simp [hu])) hy
theorem prodN_not : ∀ (l l' : List Nat) (x y : Nat), ¬ rightN y → prodN x (l ++ y :: l') = 0
  | [], l', x, y, hy => by simp [prodN, hy]
  | z :: l, l', x, y, hy => by
    simp only [List.cons_append, prodN]
    split
    · exact prodN_not l l' _ y hy
    · rfl
end Go.Proofs.YtgjepiblhpmaiaaDoor
