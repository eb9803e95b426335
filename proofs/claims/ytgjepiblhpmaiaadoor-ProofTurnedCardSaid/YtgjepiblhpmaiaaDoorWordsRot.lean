/-
  Contracts of words.Rot and of the reference's Rot.
-/
import Derived.Test.YtgjepiblhpmaiaaDoorMem
import Derived.BigQuiet
import Derived.Deep.QuietTactic
namespace Go.Proofs.YtgjepiblhpmaiaaDoor
open Go.ChangeShapes Go.WideShapes Go.ChangeAt Go.RowKit
set_option linter.unusedVariables false
set_option linter.unusedSimpArgs false

/-- x turned right by k, 0 ≤ k < 32 -/
def rotN (x k : Nat) : Nat := x / 2 ^ k ||| x * 2 ^ (32 - k) % 4294967296
theorem rotN_zero (x : Nat) (h : x < 4294967296) : rotN x 0 = x := by
  have e : x * 2 ^ (32 - 0) % 4294967296 = 0 := by omega
  rw [rotN, e]
  simp
theorem rotN_lt (x k : Nat) (h : x < 4294967296) : rotN x k < 4294967296 := by
  have h1 : x / 2 ^ k < 2 ^ 32 := Nat.lt_of_le_of_lt (Nat.div_le_self _ _) h
  exact Nat.or_lt_two_pow (n := 32) h1 (Nat.mod_lt _ (by decide))
theorem and31 (n : Int) : bits .and .i64 n 31 = (((n % 32).toNat : Nat) : Int) := by
  show IntKind.i64.wrap ((BitVec.ofInt 64 n &&& BitVec.ofInt 64 31).toNat : Int) = _
  have e1 : (BitVec.ofInt 64 31).toNat = 2 ^ 5 - 1 := by decide
  rw [BitVec.toNat_and, e1, Nat.and_two_pow_sub_one_eq_mod, BitVec.toNat_ofInt, IntKind.wrap_i64]
  omega
theorem rot_or (x k : Nat) (hx : x < 4294967296) : bits .or .u32 ((x : Int) / 2 ^ k) ((x : Int) * 2 ^ (32 - k) % 4294967296) = ((rotN x k : Nat) : Int) := by
  have h1 : x / 2 ^ k < 4294967296 := Nat.lt_of_le_of_lt (Nat.div_le_self _ _) hx
  have h := u32_or_nat (x / 2 ^ k) (x * 2 ^ (32 - k) % 4294967296) h1 (Nat.mod_lt _ (by decide))
  rw [rotN, ← h]
  congr 1

theorem rotN_bit (x k i : Nat) (hx : x < 4294967296) (hk : k < 32) (hi : i < 32) : (rotN x k).testBit i = x.testBit ((i + k) % 32) := by
  rw [rotN, Nat.testBit_or, Nat.testBit_div_two_pow]
  rw [show 4294967296 = 2 ^ 32 from rfl, Nat.testBit_mod_two_pow, Nat.mul_comm, Nat.testBit_two_pow_mul]
  by_cases h : i + k < 32
  · rw [Nat.mod_eq_of_lt h]
    have h2 : ¬ (i ≥ 32 - k) := by omega
    simp [h2]
  · have h1 : x.testBit (i + k) = false := Nat.testBit_lt_two_pow (Nat.lt_of_lt_of_le hx (Nat.pow_le_pow_right (n := 2) (i := 32) (by omega) (by omega)))
    have h2 : i ≥ 32 - k := by omega
    have h3 : (i + k) % 32 = i - (32 - k) := by omega
    rw [h1, h3]
    simp [hi, h2]
theorem rotN_rotN (x a b c : Nat) (hx : x < 4294967296) (ha : a < 32) (hb : b < 32) (hc : c = (a + b) % 32) : rotN (rotN x a) b = rotN x c := by
  refine Nat.eq_of_testBit_eq fun i => ?_
  have hr := rotN_lt x a hx
  by_cases hi : i < 32
  · rw [rotN_bit _ _ _ hr hb hi, rotN_bit _ _ _ hx ha (Nat.mod_lt _ (by omega)), rotN_bit _ _ _ hx (by omega) hi]
    congr 1
    omega
  · have h2 : ∀ y, y < 4294967296 → y.testBit i = false := fun y hy => Nat.testBit_lt_two_pow (Nat.lt_of_lt_of_le hy (Nat.pow_le_pow_right (n := 2) (i := 32) (by omega) (by omega)))
    rw [h2 _ (rotN_lt _ _ hr), h2 _ (rotN_lt _ _ hx)]
theorem bit1 (x i : Nat) (hx : x < 4294967296) : bits .and .u32 ((x : Int) / 2 ^ i) 1 = ((x / 2 ^ i % 2 : Nat) : Int) := by
  have h1 : x / 2 ^ i < 4294967296 := Nat.lt_of_le_of_lt (Nat.div_le_self _ _) hx
  have h := u32_and_nat (x / 2 ^ i) 1 h1 (by omega)
  rw [nat_mask1] at h
  rw [← h]
  congr 1
theorem bit_eq (x y i j : Nat) (h : x.testBit i = y.testBit j) : x / 2 ^ i % 2 = y / 2 ^ j % 2 := by
  have e : ∀ z k : Nat, z / 2 ^ k % 2 = (z.testBit k).toNat := fun z k => by
    rw [Nat.testBit_eq_decide_div_mod_eq]
    rcases Nat.mod_two_eq_zero_or_one (z / 2 ^ k) with h | h <;> simp [h]
  rw [e, e, h]

theorem tmod_cases (n b : Int) : (0 ≤ n ∧ n.tmod b = n % b) ∨ (n < 0 ∧ n.tmod b = -((-n) % b)) := by
  rcases Int.lt_or_le n 0 with h | h
  · refine .inr ⟨h, ?_⟩
    have e : (-n).tmod b = (-n) % b := Int.tmod_eq_emod_of_nonneg (by omega)
    rw [← e, Int.neg_tmod, Int.neg_neg]
  · exact .inl ⟨h, Int.tmod_eq_emod_of_nonneg h⟩

theorem wordsRot (x : Nat) (n : Int) (w : World) (hx : x < 4294967296) :
    Calls Tryd.prog 75 #[.int .u32 (x : Int), .int .i64 n] w fun e w' => e = .returned (.int .u32 ((rotN x (n % 32).toNat : Nat) : Int)) ∧ ∃ k, w' = w.drewN k := by
  have h31 := and31 n
  have hk : (n % 32).toNat ≤ 31 := by omega
  generalize (n % 32).toNat = k at *
  have hz : (0 : Int) ≤ 32 - (k : Int) := by omega
  go_enter Tryd.func75, Tryd.ntmps75
  go_wp2
  go_quiet (fail)
  go_wp2
  go_ret
  exact ⟨ret_int (rot_or x k hx), _, rfl⟩
theorem refRot (x : Nat) (n : Int) (w : World) (hx : x < 4294967296) :
    Calls Tryd.prog 76 #[.int .u32 (x : Int), .int .i64 n] w fun e w' => e = .returned (.int .u32 ((rotN x (n % 32).toNat : Nat) : Int)) ∧ w = w' := by
  have h1 := tmod_cases n 32
  have h2 : (n.tmod 32 + 32) % 32 = (((n % 32).toNat : Nat) : Int) := by omega
  have h3 : -31 ≤ n.tmod 32 ∧ n.tmod 32 ≤ 31 := by omega
  clear h1
  have hk : (n % 32).toNat ≤ 31 := by omega
  generalize ht : n.tmod 32 = t at *
  generalize (n % 32).toNat = k at *
  by_cases h0 : k = 0
  · subst h0
    rw [rotN_zero x hx]
    go_enter Tryd.func76, Tryd.ntmps76
    go_wp2
    go_ret
    exact ⟨rfl, rfl⟩
  · have h4 : ((k : Int) == 0) = false := by simp [h0]
    go_enter Tryd.func76, Tryd.ntmps76
    go_wp2
    go_ret
    exact ⟨ret_int (rot_or x k hx), rfl⟩
end Go.Proofs.YtgjepiblhpmaiaaDoor
