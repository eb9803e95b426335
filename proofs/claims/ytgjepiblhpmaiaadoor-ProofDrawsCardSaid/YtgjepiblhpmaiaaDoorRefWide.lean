/-
  Contract of the reference's wide.
-/
import Derived.Test.YtgjepiblhpmaiaaDoorBase
namespace Go.Proofs.YtgjepiblhpmaiaaDoor
open Go.ChangeShapes Go.WideShapes Go.ChangeAt Go.RowKit
set_option linter.unusedVariables false
set_option linter.unusedSimpArgs false

def wideX (a b : Nat) : Nat := (a % 4294967296) * (b % 4294967296)
def wideY (a b : Nat) : Nat := (a / 4294967296) * (b % 4294967296)
def wideZ (a b : Nat) : Nat := (a % 4294967296) * (b / 4294967296)
def wideM (a b : Nat) : Nat := wideX a b / 4294967296 + wideY a b % 4294967296 + wideZ a b % 4294967296
def hiN (a b : Nat) : Nat := ((a / 4294967296) * (b / 4294967296) + wideY a b / 4294967296 + wideZ a b / 4294967296 + wideM a b / 4294967296) % 18446744073709551616
def loN (a b : Nat) : Nat := wideM a b * 4294967296 % 18446744073709551616 ||| wideX a b % 4294967296
theorem mul_lt64 {a b : Nat} (ha : a < 4294967296) (hb : b < 4294967296) : a * b < 18446744073709551616 := by
  have h := Nat.mul_le_mul (Nat.le_of_lt_succ (show a < 4294967295 + 1 by omega)) (Nat.le_of_lt_succ (show b < 4294967295 + 1 by omega))
  omega
theorem mask32 (x : Nat) (h : x < 18446744073709551616) : bits .and .u64 (x : Int) 4294967295 = ((x % 4294967296 : Nat) : Int) := by
  have e := u64_and_nat x 4294967295 h (by omega)
  rw [nat_mask32] at e
  exact e

theorem ret_pair {k k' : IntKind} {a b c d : Int} (h : a = b) (h' : c = d) : Ending.returned (.tuple #[.int k a, .int k' c]) = .returned (.tuple #[.int k b, .int k' d]) := by rw [h, h']
namespace refWide
set_option maxHeartbeats 400000 in
theorem wide (a b : Nat) (w : World) (ha : a < 18446744073709551616) (hb : b < 18446744073709551616) :
    Calls Tryd.prog 40 #[.int .u64 (a : Int), .int .u64 (b : Int)] w fun e w' => e = .returned (.tuple #[.int .u64 ((hiN a b : Nat) : Int), .int .u64 ((loN a b : Nat) : Int)]) ∧ w = w' := by
  have ma := mask32 a ha
  have mb := mask32 b hb
  obtain ⟨al, hal⟩ : ∃ x, x = a % 4294967296 := ⟨_, rfl⟩
  obtain ⟨bl, hbl⟩ : ∃ x, x = b % 4294967296 := ⟨_, rfl⟩
  obtain ⟨ah, hah⟩ : ∃ x, x = a / 4294967296 := ⟨_, rfl⟩
  obtain ⟨bh, hbh⟩ : ∃ x, x = b / 4294967296 := ⟨_, rfl⟩
  have qa : (a : Int) / 4294967296 = (ah : Int) := by omega
  have qb : (b : Int) / 4294967296 = (bh : Int) := by omega
  rw [← hal] at ma
  rw [← hbl] at mb
  obtain ⟨x, hx⟩ : ∃ x, x = al * bl := ⟨_, rfl⟩
  obtain ⟨y, hy⟩ : ∃ x, x = ah * bl := ⟨_, rfl⟩
  obtain ⟨z, hz⟩ : ∃ x, x = al * bh := ⟨_, rfl⟩
  obtain ⟨t, ht⟩ : ∃ x, x = ah * bh := ⟨_, rfl⟩
  have wx : x < 18446744073709551616 := hx ▸ mul_lt64 (by omega) (by omega)
  have wy : y < 18446744073709551616 := hy ▸ mul_lt64 (by omega) (by omega)
  have wz : z < 18446744073709551616 := hz ▸ mul_lt64 (by omega) (by omega)
  have wt : t < 18446744073709551616 := ht ▸ mul_lt64 (by omega) (by omega)
  have px : IntKind.u64.wrap ((al : Int) * (bl : Int)) = (x : Int) := by rw [← Int.natCast_mul, ← hx]; simp only [IntKind.wrap_u64]; omega
  have py : IntKind.u64.wrap ((ah : Int) * (bl : Int)) = (y : Int) := by rw [← Int.natCast_mul, ← hy]; simp only [IntKind.wrap_u64]; omega
  have pz : IntKind.u64.wrap ((al : Int) * (bh : Int)) = (z : Int) := by rw [← Int.natCast_mul, ← hz]; simp only [IntKind.wrap_u64]; omega
  have pt : IntKind.u64.wrap ((ah : Int) * (bh : Int)) = (t : Int) := by rw [← Int.natCast_mul, ← ht]; simp only [IntKind.wrap_u64]; omega
  have my := mask32 y wy
  have mz := mask32 z wz
  have mx := mask32 x wx
  have HS := Lib.hid (And.intro hal (And.intro hbl (And.intro hah (And.intro hbh (And.intro hx (And.intro hy (And.intro hz (And.intro ht (And.intro wx (And.intro wy (And.intro wz wt)))))))))))
  clear hal hbl hah hbh hx hy hz ht
  go_enter Tryd.func40, Tryd.ntmps40
  go_wp2
  go_ret2
  obtain ⟨hal, hbl, hah, hbh, hx, hy, hz, ht, wx, wy, wz, wt⟩ := HS.out
  have eX : wideX a b = x := by rw [hx, hal, hbl]; rfl
  have eY : wideY a b = y := by rw [hy, hah, hbl]; rfl
  have eZ : wideZ a b = z := by rw [hz, hal, hbh]; rfl
  have eM : wideM a b = x / 4294967296 + y % 4294967296 + z % 4294967296 := by rw [wideM, eX, eY, eZ]
  have eH : hiN a b = (t + y / 4294967296 + z / 4294967296 + (x / 4294967296 + y % 4294967296 + z % 4294967296) / 4294967296) % 18446744073709551616 := by rw [hiN, eY, eZ, eM, ht, hah, hbh]
  have eL : loN a b = (x / 4294967296 + y % 4294967296 + z % 4294967296) * 4294967296 % 18446744073709551616 ||| x % 4294967296 := by rw [loN, eM, eX]
  refine ⟨ret_pair ?_ ?_, rfl⟩
  · rw [eH]
    simp only [IntKind.wrap_u64]
    omega
  · rw [eL, ← u64_or_nat _ _ (Nat.mod_lt _ (by decide)) (by omega)]
    simp only [IntKind.wrap_u64]
    congr 1
end refWide
/-! ### What the halves come to -/
theorem mul_le64 {a b : Nat} (ha : a < 4294967296) (hb : b < 4294967296) : a * b ≤ 4294967295 * 4294967295 := Nat.mul_le_mul (by omega) (by omega)
theorem or_low (a b : Nat) (h : b < 4294967296) : a * 4294967296 ||| b = a * 4294967296 + b := by
  have := Nat.two_pow_add_eq_or_of_lt (i := 32) (by simpa using h) a
  rw [Nat.mul_comm a, show (4294967296 : Nat) = 2 ^ 32 from rfl, this]
/-- The two halves make the product. -/
theorem wide_mul (a b : Nat) (ha : a < 18446744073709551616) (hb : b < 18446744073709551616) : hiN a b * 18446744073709551616 + loN a b = a * b ∧ loN a b < 18446744073709551616 := by
  obtain ⟨al, hal⟩ : ∃ x, x = a % 4294967296 := ⟨_, rfl⟩
  obtain ⟨bl, hbl⟩ : ∃ x, x = b % 4294967296 := ⟨_, rfl⟩
  obtain ⟨ah, hah⟩ : ∃ x, x = a / 4294967296 := ⟨_, rfl⟩
  obtain ⟨bh, hbh⟩ : ∃ x, x = b / 4294967296 := ⟨_, rfl⟩
  have ea : a = ah * 4294967296 + al := by omega
  have eb : b = bh * 4294967296 + bl := by omega
  have hab : a * b = ah * bh * 18446744073709551616 + (ah * bl + al * bh) * 4294967296 + al * bl := by
    rw [ea, eb, Nat.add_mul, Nat.mul_add, Nat.mul_add]
    have e1 : ah * 4294967296 * (bh * 4294967296) = ah * bh * 18446744073709551616 := by
      rw [Nat.mul_assoc, Nat.mul_left_comm 4294967296, ← Nat.mul_assoc]
    have e2 : ah * 4294967296 * bl = ah * bl * 4294967296 := by rw [Nat.mul_assoc, Nat.mul_comm 4294967296, ← Nat.mul_assoc]
    have e3 : al * (bh * 4294967296) = al * bh * 4294967296 := by rw [← Nat.mul_assoc]
    rw [e1, e2, e3]
    omega
  have hx := mul_le64 (a := al) (b := bl) (by omega) (by omega)
  have hy := mul_le64 (a := ah) (b := bl) (by omega) (by omega)
  have hz := mul_le64 (a := al) (b := bh) (by omega) (by omega)
  have ht := mul_le64 (a := ah) (b := bh) (by omega) (by omega)
  have eM : wideM a b = al * bl / 4294967296 + ah * bl % 4294967296 + al * bh % 4294967296 := by rw [wideM, wideX, wideY, wideZ, ← hal, ← hbl, ← hah, ← hbh]
  have eH : hiN a b = (ah * bh + ah * bl / 4294967296 + al * bh / 4294967296 + wideM a b / 4294967296) % 18446744073709551616 := by rw [hiN, wideY, wideZ, ← hal, ← hbl, ← hah, ← hbh]
  have eL : loN a b = (wideM a b % 4294967296) * 4294967296 + al * bl % 4294967296 := by
    rw [loN, wideX, ← hal, ← hbl, ← or_low _ _ (Nat.mod_lt _ (by decide))]
    congr 1
    omega
  rw [hab, eH, eL, eM]
  generalize al * bl = x at *
  generalize ah * bl = y at *
  generalize al * bh = z at *
  generalize ah * bh = t at *
  omega

end Go.Proofs.YtgjepiblhpmaiaaDoor
