/-
  Numbers of 128 bits: the contract of math/bits.Mul64; 61 bits below, 3 bits beside.
-/
import Derived.Test.YtgjepiblhpmaiaaDoorBase
import Derived.Lib.Mul64
namespace Go.Proofs.YtgjepiblhpmaiaaDoor
open Go.ChangeShapes Go.WideShapes Go.ChangeAt Go.RowKit
set_option linter.unusedVariables false
set_option linter.unusedSimpArgs false

theorem mask61 (x : Nat) (h : x < 18446744073709551616) : bits .and .u64 (x : Int) 2305843009213693951 = ((x % 2305843009213693952 : Nat) : Int) := by
  have e := u64_and_nat x 2305843009213693951 h (by omega)
  rw [show x &&& 2305843009213693951 = x % 2305843009213693952 from Nat.and_two_pow_sub_one_eq_mod x 61] at e
  exact e
theorem and1 (k : Nat) (h : k < 18446744073709551616) : bits .and .u64 (k : Int) 1 = ((k % 2 : Nat) : Int) := by
  have e := u64_and_nat k 1 h (by omega)
  rw [show k &&& 1 = k % 2 from Nat.and_two_pow_sub_one_eq_mod k 1] at e
  exact e
theorem or_join3 (x c : Nat) (hx : x < 2305843009213693952) (hc : c < 8) : bits .or .u64 ((x : Int) * 8) (c : Int) = ((x * 8 + c : Nat) : Int) := by
  have h := u64_or_nat (x * 8) c (by omega) (by omega)
  rw [nat_join 3 (x * 8) c (by omega) (by omega)] at h
  rw [← h]; rfl
/-- The library's own text, walked: the two halves of the product. -/
theorem bitsMul64 (a b : Nat) (w : World) (ha : a < 18446744073709551616) (hb : b < 18446744073709551616) :
    Calls Tryd.prog 58 #[.int .u64 (a : Int), .int .u64 (b : Int)] w fun e w' => e = .returned (.tuple #[.int .u64 ((a * b / 18446744073709551616 : Nat) : Int), .int .u64 ((a * b % 18446744073709551616 : Nat) : Int)]) ∧ w = w' := by
  obtain ⟨b1, b2, b3, b4⟩ := Lib.mul64_hi a b ha hb
  have m32 : ∀ x : Nat, x < 18446744073709551616 → bits .and .u64 (x : Int) 4294967295 = ((x % 4294967296 : Nat) : Int) := fun x h => by
    have e := u64_and_nat x 4294967295 h (by omega)
    rw [nat_mask32] at e
    exact e
  have ma := m32 a ha
  have mb := m32 b hb
  have hh := Lib.half_mul_le (a := a / 4294967296) (b := b / 4294967296) (by omega) (by omega)
  have hc := Lib.half_mul_le (a := a / 4294967296) (b := b % 4294967296) (by omega) (by omega)
  have hd := Lib.half_mul_le (a := a % 4294967296) (b := b / 4294967296) (by omega) (by omega)
  obtain ⟨al, hal⟩ : ∃ x, x = a % 4294967296 := ⟨_, rfl⟩
  obtain ⟨bl, hbl⟩ : ∃ x, x = b % 4294967296 := ⟨_, rfl⟩
  obtain ⟨ah, hah⟩ : ∃ x, x = a / 4294967296 := ⟨_, rfl⟩
  obtain ⟨bh, hbh⟩ : ∃ x, x = b / 4294967296 := ⟨_, rfl⟩
  have qa : (a : Int) / 4294967296 = (ah : Int) := by omega
  have qb : (b : Int) / 4294967296 = (bh : Int) := by omega
  rw [← hal] at ma b1 b2 b3 b4 hd
  rw [← hbl] at mb b1 b2 b3 b4 hc
  rw [← hah] at b2 b3 b4 hh hc
  rw [← hbh] at b3 b4 hh hd
  obtain ⟨x, hx⟩ : ∃ x, x = al * bl := ⟨_, rfl⟩
  obtain ⟨y, hy⟩ : ∃ x, x = ah * bl := ⟨_, rfl⟩
  obtain ⟨z, hz⟩ : ∃ x, x = al * bh := ⟨_, rfl⟩
  obtain ⟨t, ht⟩ : ∃ x, x = ah * bh := ⟨_, rfl⟩
  rw [← hx] at b1 b2 b3 b4
  rw [← hy] at b2 b3 b4 hc
  rw [← hz] at b3 b4 hd
  rw [← ht] at b4 hh
  obtain ⟨hi, hhi⟩ : ∃ x, x = a * b / 18446744073709551616 := ⟨_, rfl⟩
  obtain ⟨lo, hlo⟩ : ∃ x, x = a * b % 18446744073709551616 := ⟨_, rfl⟩
  rw [← hhi] at b4
  obtain ⟨u, hu⟩ : ∃ u, u = y + x / 4294967296 := ⟨_, rfl⟩
  rw [← hu] at b2 b3 b4
  obtain ⟨v, hv⟩ : ∃ v, v = u % 4294967296 + z := ⟨_, rfl⟩
  rw [← hv] at b3 b4
  obtain ⟨ul, hul⟩ : ∃ v, v = u % 4294967296 := ⟨_, rfl⟩
  rw [← hul] at hv
  have px : IntKind.u64.wrap ((al : Int) * (bl : Int)) = (x : Int) := by rw [← Int.natCast_mul, ← hx]; simp only [IntKind.wrap_u64]; omega
  have py : IntKind.u64.wrap ((ah : Int) * (bl : Int)) = (y : Int) := by rw [← Int.natCast_mul, ← hy]; simp only [IntKind.wrap_u64]; omega
  have pz : IntKind.u64.wrap ((al : Int) * (bh : Int)) = (z : Int) := by rw [← Int.natCast_mul, ← hz]; simp only [IntKind.wrap_u64]; omega
  have pt : IntKind.u64.wrap ((ah : Int) * (bh : Int)) = (t : Int) := by rw [← Int.natCast_mul, ← ht]; simp only [IntKind.wrap_u64]; omega
  have pl : IntKind.u64.wrap ((a : Int) * (b : Int)) = (lo : Int) := by rw [← Int.natCast_mul, hlo]; simp only [IntKind.wrap_u64]; omega
  have pu : IntKind.u64.wrap ((y : Int) + (x : Int) / 4294967296) = (u : Int) := by simp only [IntKind.wrap_u64]; omega
  have mu := m32 u b2
  rw [← hul] at mu
  have pv : IntKind.u64.wrap ((ul : Int) + (z : Int)) = (v : Int) := by simp only [IntKind.wrap_u64]; omega
  have ph : IntKind.u64.wrap (IntKind.u64.wrap ((t : Int) + (u : Int) / 4294967296) + (v : Int) / 4294967296) = (hi : Int) := by simp only [IntKind.wrap_u64]; omega
  rw [← hhi, ← hlo]
  have bx : (x : Int) / 4294967296 = ((x / 4294967296 : Nat) : Int) := by omega
  clear hal hbl hah hbh hx hy hz ht hhi hlo hu hv hul m32 b1 b2 b3 b4 hh hc hd bx
  go_enter Tryd.func58, Tryd.ntmps58
  go_wp2
  go_ret2
  exact ⟨rfl, rfl⟩
end Go.Proofs.YtgjepiblhpmaiaaDoor
