/-
  Contracts of modp.Reduce, Add, Sub, Mul and of math/bits.Mul64.
-/
import Derived.Test.YtdmmddndepgoaaaBase
import Derived.Lib.Mul64
namespace Go.Proofs.Ytdmmddndepgoaaa
open Go.ChangeShapes Go.WideShapes Go.ChangeAt Go.RowKit
set_option linter.unusedVariables false
set_option linter.unusedSimpArgs false

/-! ### What they answer, on natural numbers -/
def addN (a b : Nat) : Nat := (a + b) % 2305843009213693951
def subN (a b : Nat) : Nat := (a % 2305843009213693951 + 2305843009213693951 - b % 2305843009213693951) % 2305843009213693951
def mulN (a b : Nat) : Nat := a * b % 2305843009213693951
theorem addN_lt (a b : Nat) : addN a b < 2305843009213693951 := Nat.mod_lt _ (by decide)
theorem subN_lt (a b : Nat) : subN a b < 2305843009213693951 := Nat.mod_lt _ (by decide)
theorem mulN_lt (a b : Nat) : mulN a b < 2305843009213693951 := Nat.mod_lt _ (by decide)
theorem mask61 (x : Nat) (h : x < 18446744073709551616) : bits .and .u64 (x : Int) 2305843009213693951 = ((x % 2305843009213693952 : Nat) : Int) := by
  have e := u64_and_nat x 2305843009213693951 h (by omega)
  rw [show x &&& 2305843009213693951 = x % 2305843009213693952 from Nat.and_two_pow_sub_one_eq_mod x 61] at e
  exact e
/-- What is above 2^61 is added below. -/
theorem fold61 (n : Nat) : (n / 2305843009213693952 + n % 2305843009213693952) % 2305843009213693951 = n % 2305843009213693951 := by omega

theorem modpReduce (x : Nat) (w : World) (hx : x < 18446744073709551616) :
    Calls Try.prog 9 #[.int .u64 (x : Int)] w fun e w' => e = .returned (.int .u64 ((x % 2305843009213693951 : Nat) : Int)) ∧ w = w' := by
  have ma := mask61 x hx
  obtain ⟨l, hl⟩ : ∃ t, t = x % 2305843009213693952 := ⟨_, rfl⟩
  obtain ⟨h, hh⟩ : ∃ t, t = x / 2305843009213693952 := ⟨_, rfl⟩
  rw [← hl] at ma
  have qa : (x : Int) / 2305843009213693952 = (h : Int) := by omega
  have bl : l < 2305843009213693952 := by omega
  have bh : h < 8 := by omega
  obtain ⟨m, hm⟩ : ∃ t, t = l + h := ⟨_, rfl⟩
  have qm : (l : Int) + (h : Int) = (m : Int) := by omega
  have bm : m < 4611686018427387904 := by omega
  have HS := Lib.hid (And.intro hl (And.intro hh hm))
  clear hl hh hm
  by_cases hc : (2305843009213693951 : Int) ≤ (m : Int)
  · go_enter Try.func9, Try.ntmps9
    go_wp2
    go_ret
    obtain ⟨hl, hh, hm⟩ := HS.out
    exact ⟨ret_int (by omega), rfl⟩
  · have hc' : decide ((2305843009213693951 : Int) ≤ (m : Int)) = false := decide_eq_false hc
    have hm1 := Lib.hid hc
    clear hc
    go_enter Try.func9, Try.ntmps9
    go_wp2
    go_ret
    obtain ⟨hl, hh, hm⟩ := HS.out
    have := hm1.out
    exact ⟨ret_int (by omega), rfl⟩
/-- The same, the answer under a name. -/
theorem modpReduce' {x r : Nat} (h : x % 2305843009213693951 = r) (hx : x < 18446744073709551616) {y : Int} (hy : (x : Int) = y) (w : World) :
    Calls Try.prog 9 #[.int .u64 y] w fun e w' => e = .returned (.int .u64 (r : Int)) ∧ w = w' := by
  subst h hy
  exact modpReduce x w hx
theorem modpAdd (a b : Nat) (w : World) (ha : a < 18446744073709551616) (hb : b < 18446744073709551616) :
    Calls Try.prog 10 #[.int .u64 (a : Int), .int .u64 (b : Int)] w fun e w' => e = .returned (.int .u64 ((addN a b : Nat) : Int)) ∧ w = w' := by
  obtain ⟨r, hr⟩ : ∃ t, a % 2305843009213693951 = t := ⟨_, rfl⟩
  obtain ⟨s, hs⟩ : ∃ t, b % 2305843009213693951 = t := ⟨_, rfl⟩
  obtain ⟨q, hq⟩ : ∃ t, addN a b = t := ⟨_, rfl⟩
  have br : r < 2305843009213693951 := by omega
  have bs : s < 2305843009213693951 := by omega
  have e1 : (r + s) % 2305843009213693951 = q := by rw [← hq, addN, ← hr, ← hs, ← Nat.add_mod]
  have C1 := Lib.hid (fun w => modpReduce' hr ha rfl w)
  have C2 := Lib.hid (fun w => modpReduce' hs hb rfl w)
  have C3 := Lib.hid (fun w => modpReduce' e1 (by omega) (Int.natCast_add r s) w)
  rw [hq]
  clear hr hs hq e1
  go_enter Try.func10, Try.ntmps10
  go_wp2_with fail
  refine (C1.out _).mono ?_
  rintro e w' ⟨rfl, rfl⟩
  go_wp2_with fail
  refine (C2.out _).mono ?_
  rintro e w' ⟨rfl, rfl⟩
  go_wp2_with fail
  refine (C3.out _).mono ?_
  rintro e w' ⟨rfl, rfl⟩
  go_wp2_with fail
  go_ret
  exact ⟨rfl, rfl⟩
/-- The same, the answer under a name. -/
theorem modpAdd' {a b c : Nat} (h : addN a b = c) (ha : a < 18446744073709551616) (hb : b < 18446744073709551616) {x y : Int} (hx : (a : Int) = x) (hy : (b : Int) = y) (w : World) :
    Calls Try.prog 10 #[.int .u64 x, .int .u64 y] w fun e w' => e = .returned (.int .u64 (c : Int)) ∧ w = w' := by
  subst h hx hy
  exact modpAdd a b w ha hb
theorem modpSub (a b : Nat) (w : World) (ha : a < 18446744073709551616) (hb : b < 18446744073709551616) :
    Calls Try.prog 12 #[.int .u64 (a : Int), .int .u64 (b : Int)] w fun e w' => e = .returned (.int .u64 ((subN a b : Nat) : Int)) ∧ w = w' := by
  obtain ⟨r, hr⟩ : ∃ t, a % 2305843009213693951 = t := ⟨_, rfl⟩
  obtain ⟨s, hs⟩ : ∃ t, b % 2305843009213693951 = t := ⟨_, rfl⟩
  obtain ⟨q, hq⟩ : ∃ t, subN a b = t := ⟨_, rfl⟩
  have br : r < 2305843009213693951 := by omega
  have bs : s < 2305843009213693951 := by omega
  have e1 : (r + 2305843009213693951 - s) % 2305843009213693951 = q := by rw [← hq, subN, ← hr, ← hs]
  have C1 := Lib.hid (fun w => modpReduce' hr ha rfl w)
  have C2 := Lib.hid (fun w => modpReduce' hs hb rfl w)
  have C3 := Lib.hid (fun w => modpReduce' e1 (by omega) (show ((r + 2305843009213693951 - s : Nat) : Int) = (r : Int) + 2305843009213693951 - (s : Int) by omega) w)
  rw [hq]
  clear hr hs hq e1
  go_enter Try.func12, Try.ntmps12
  go_wp2_with fail
  refine (C1.out _).mono ?_
  rintro e w' ⟨rfl, rfl⟩
  go_wp2_with fail
  refine (C2.out _).mono ?_
  rintro e w' ⟨rfl, rfl⟩
  go_wp2_with fail
  refine (C3.out _).mono ?_
  rintro e w' ⟨rfl, rfl⟩
  go_wp2_with fail
  go_ret
  exact ⟨rfl, rfl⟩
/-- The same, the answer under a name. -/
theorem modpSub' {a b c : Nat} (h : subN a b = c) (ha : a < 18446744073709551616) (hb : b < 18446744073709551616) {x y : Int} (hx : (a : Int) = x) (hy : (b : Int) = y) (w : World) :
    Calls Try.prog 12 #[.int .u64 x, .int .u64 y] w fun e w' => e = .returned (.int .u64 (c : Int)) ∧ w = w' := by
  subst h hx hy
  exact modpSub a b w ha hb
/-- The library's own text, walked: the two halves of the product. -/
theorem bitsMul64 (a b : Nat) (w : World) (ha : a < 18446744073709551616) (hb : b < 18446744073709551616) :
    Calls Try.prog 20 #[.int .u64 (a : Int), .int .u64 (b : Int)] w fun e w' => e = .returned (.tuple #[.int .u64 ((a * b / 18446744073709551616 : Nat) : Int), .int .u64 ((a * b % 18446744073709551616 : Nat) : Int)]) ∧ w = w' := by
  obtain ⟨b1, b2, b3, b4⟩ := Lib.mul64_hi a b ha hb
  have m32 : ∀ x : Nat, x < 18446744073709551616 → bits .and .u64 (x : Int) 4294967295 = ((x % 4294967296 : Nat) : Int) := fun x h => by
    have e := u64_and_nat x 4294967295 h (by omega)
    rw [nat_mask32] at e
    exact e
  have ma := m32 a ha
  have mb := m32 b hb
  have hh := Lib.half_mul_le (a := a / 4294967296) (b := b / 4294967296) (by omega) (by omega)
  have hc := Lib.half_mul_le (a := a / 4294967296) (b := b % 4294967296) (by omega) (by omega)
  have hd := Lib.half_mul_le (a := a % 4294967296) (b := b / 4294967296) (by omega) (by omega)
  obtain ⟨al, hal⟩ : ∃ x, x = a % 4294967296 := ⟨_, rfl⟩
  obtain ⟨bl, hbl⟩ : ∃ x, x = b % 4294967296 := ⟨_, rfl⟩
  obtain ⟨ah, hah⟩ : ∃ x, x = a / 4294967296 := ⟨_, rfl⟩
  obtain ⟨bh, hbh⟩ : ∃ x, x = b / 4294967296 := ⟨_, rfl⟩
  have qa : (a : Int) / 4294967296 = (ah : Int) := by omega
  have qb : (b : Int) / 4294967296 = (bh : Int) := by omega
  rw [← hal] at ma b1 b2 b3 b4 hd
  rw [← hbl] at mb b1 b2 b3 b4 hc
  rw [← hah] at b2 b3 b4 hh hc
  rw [← hbh] at b3 b4 hh hd
  obtain ⟨x, hx⟩ : ∃ x, x = al * bl := ⟨_, rfl⟩
  obtain ⟨y, hy⟩ : ∃ x, x = ah * bl := ⟨_, rfl⟩
  obtain ⟨z, hz⟩ : ∃ x, x = al * bh := ⟨_, rfl⟩
  obtain ⟨t, ht⟩ : ∃ x, x = ah * bh := ⟨_, rfl⟩
  rw [← hx] at b1 b2 b3 b4
  rw [← hy] at b2 b3 b4 hc
  rw [← hz] at b3 b4 hd
  rw [← ht] at b4 hh
  obtain ⟨hi, hhi⟩ : ∃ x, x = a * b / 18446744073709551616 := ⟨_, rfl⟩
  obtain ⟨lo, hlo⟩ : ∃ x, x = a * b % 18446744073709551616 := ⟨_, rfl⟩
  rw [← hhi] at b4
  obtain ⟨u, hu⟩ : ∃ u, u = y + x / 4294967296 := ⟨_, rfl⟩
  rw [← hu] at b2 b3 b4
  obtain ⟨v, hv⟩ : ∃ v, v = u % 4294967296 + z := ⟨_, rfl⟩
  rw [← hv] at b3 b4
  obtain ⟨ul, hul⟩ : ∃ v, v = u % 4294967296 := ⟨_, rfl⟩
  rw [← hul] at hv
  have px : IntKind.u64.wrap ((al : Int) * (bl : Int)) = (x : Int) := by rw [← Int.natCast_mul, ← hx]; simp only [IntKind.wrap_u64]; omega
  have py : IntKind.u64.wrap ((ah : Int) * (bl : Int)) = (y : Int) := by rw [← Int.natCast_mul, ← hy]; simp only [IntKind.wrap_u64]; omega
  have pz : IntKind.u64.wrap ((al : Int) * (bh : Int)) = (z : Int) := by rw [← Int.natCast_mul, ← hz]; simp only [IntKind.wrap_u64]; omega
  have pt : IntKind.u64.wrap ((ah : Int) * (bh : Int)) = (t : Int) := by rw [← Int.natCast_mul, ← ht]; simp only [IntKind.wrap_u64]; omega
  have pl : IntKind.u64.wrap ((a : Int) * (b : Int)) = (lo : Int) := by rw [← Int.natCast_mul, hlo]; simp only [IntKind.wrap_u64]; omega
  have pu : IntKind.u64.wrap ((y : Int) + (x : Int) / 4294967296) = (u : Int) := by simp only [IntKind.wrap_u64]; omega
  have mu := m32 u b2
  rw [← hul] at mu
  have pv : IntKind.u64.wrap ((ul : Int) + (z : Int)) = (v : Int) := by simp only [IntKind.wrap_u64]; omega
  have ph : IntKind.u64.wrap (IntKind.u64.wrap ((t : Int) + (u : Int) / 4294967296) + (v : Int) / 4294967296) = (hi : Int) := by simp only [IntKind.wrap_u64]; omega
  rw [← hhi, ← hlo]
  have bx : (x : Int) / 4294967296 = ((x / 4294967296 : Nat) : Int) := by omega
  clear hal hbl hah hbh hx hy hz ht hhi hlo hu hv hul m32 b1 b2 b3 b4 hh hc hd bx
  go_enter Try.func20, Try.ntmps20
  go_wp2
  go_ret2
  exact ⟨rfl, rfl⟩
theorem or_join3 (x c : Nat) (hx : x < 2305843009213693952) (hc : c < 8) : bits .or .u64 ((x : Int) * 8) (c : Int) = ((x * 8 + c : Nat) : Int) := by
  have h := u64_or_nat (x * 8) c (by omega) (by omega)
  rw [nat_join 3 (x * 8) c (by omega) (by omega)] at h
  rw [← h]; rfl
theorem mod_mul_lt (a b : Nat) : (a % 2305843009213693951) * (b % 2305843009213693951) < 5316911983139663487003542222693990401 := by
  have h := Nat.mul_le_mul (show a % 2305843009213693951 ≤ 2305843009213693950 by omega) (show b % 2305843009213693951 ≤ 2305843009213693950 by omega)
  omega
theorem modpMul (a b : Nat) (w : World) (ha : a < 18446744073709551616) (hb : b < 18446744073709551616) :
    Calls Try.prog 14 #[.int .u64 (a : Int), .int .u64 (b : Int)] w fun e w' => e = .returned (.int .u64 ((mulN a b : Nat) : Int)) ∧ w = w' := by
  have hn := mod_mul_lt a b
  obtain ⟨r, hr⟩ : ∃ t, a % 2305843009213693951 = t := ⟨_, rfl⟩
  obtain ⟨s, hs⟩ : ∃ t, b % 2305843009213693951 = t := ⟨_, rfl⟩
  obtain ⟨q, hq⟩ : ∃ t, mulN a b = t := ⟨_, rfl⟩
  rw [hr, hs] at hn
  have br : r < 2305843009213693951 := by omega
  have bs : s < 2305843009213693951 := by omega
  have C1 := Lib.hid (fun w => modpReduce' hr ha rfl w)
  have C2 := Lib.hid (fun w => modpReduce' hs hb rfl w)
  have C3 := bitsMul64 r s
  have e1 : r * s % 2305843009213693951 = q := by rw [← hq, mulN, ← hr, ← hs, ← Nat.mul_mod]
  rw [hq]
  generalize r * s = n at *
  obtain ⟨hi, hhi⟩ : ∃ t, n / 18446744073709551616 = t := ⟨_, rfl⟩
  obtain ⟨lo, hlo⟩ : ∃ t, n % 18446744073709551616 = t := ⟨_, rfl⟩
  rw [hhi, hlo] at C3
  obtain ⟨lh, hlh⟩ : ∃ t, lo / 2305843009213693952 = t := ⟨_, rfl⟩
  have ql : (lo : Int) / 2305843009213693952 = (lh : Int) := by omega
  have ml := mask61 lo (by omega)
  obtain ⟨ll, hll⟩ : ∃ t, lo % 2305843009213693952 = t := ⟨_, rfl⟩
  rw [hll] at ml
  have mo := or_join3 hi lh (by omega) (by omega)
  obtain ⟨ab, hab⟩ : ∃ t, hi * 8 + lh = t := ⟨_, rfl⟩
  rw [hab] at mo
  have b1 : hi < 288230376151711744 := by omega
  have b2 : ll < 2305843009213693952 := by omega
  have b3 : ab < 2305843009213693952 := by omega
  have b4 : lo < 18446744073709551616 := by omega
  have C3' := Lib.hid (fun w => C3 w (by omega) (by omega))
  have C4 := Lib.hid (fun w => modpReduce' (x := ll + ab) (r := q) (by omega) (by omega) (Int.natCast_add ll ab) w)
  clear hn hr hs hq C3 e1 hhi hlo hlh hll hab
  go_enter Try.func14, Try.ntmps14
  go_wp2_with fail
  refine (C1.out _).mono ?_
  rintro e w' ⟨rfl, rfl⟩
  go_wp2_with fail
  refine (C2.out _).mono ?_
  rintro e w' ⟨rfl, rfl⟩
  go_wp2_with fail
  refine (C3'.out _).mono ?_
  rintro e w' ⟨rfl, rfl⟩
  go_wp2_with fail
  refine (C4.out _).mono ?_
  rintro e w' ⟨rfl, rfl⟩
  go_wp2_with fail
  go_ret
  exact ⟨rfl, rfl⟩
/-- The same, the answer under a name. -/
theorem modpMul' {a b c : Nat} (h : mulN a b = c) (ha : a < 18446744073709551616) (hb : b < 18446744073709551616) {x y : Int} (hx : (a : Int) = x) (hy : (b : Int) = y) (w : World) :
    Calls Try.prog 14 #[.int .u64 x, .int .u64 y] w fun e w' => e = .returned (.int .u64 (c : Int)) ∧ w = w' := by
  subst h hx hy
  exact modpMul a b w ha hb
end Go.Proofs.Ytdmmddndepgoaaa
