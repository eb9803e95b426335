/-
  Contracts of the reference's AddP, SubP, MulP, PowP, InvP.
-/
import Derived.Test.YtgjepiblhpmaiaaDoorRefWide
import Derived.Test.YtgjepiblhpmaiaaDoorModpPow
import Derived.Test.YtgjepiblhpmaiaaDoorNum
namespace Go.Proofs.YtgjepiblhpmaiaaDoor
open Go.ChangeShapes Go.WideShapes Go.ChangeAt Go.RowKit
set_option linter.unusedVariables false
set_option linter.unusedSimpArgs false

theorem tmodP {a r : Nat} (h : a % 2305843009213693951 = r) : (a : Int).tmod 2305843009213693951 = (r : Int) := by
  rw [Int.tmod_eq_emod_of_nonneg (by omega)]
  omega
theorem refMulP (a b : Nat) (w : World) (ha : a < 18446744073709551616) (hb : b < 18446744073709551616) :
    Calls Tryd.prog 21 #[.int .u64 (a : Int), .int .u64 (b : Int)] w fun e w' => e = .returned (.int .u64 ((mulN a b : Nat) : Int)) ∧ w = w' := by
  have hn := mod_mul_lt a b
  obtain ⟨r, hr⟩ : ∃ t, a % 2305843009213693951 = t := ⟨_, rfl⟩
  obtain ⟨s, hs⟩ : ∃ t, b % 2305843009213693951 = t := ⟨_, rfl⟩
  obtain ⟨q, hq⟩ : ∃ t, mulN a b = t := ⟨_, rfl⟩
  rw [hr, hs] at hn
  have br : r < 2305843009213693951 := by omega
  have bs : s < 2305843009213693951 := by omega
  have t1 := tmodP hr
  have t2 := tmodP hs
  have u1 : (a : Int) % 2305843009213693951 = (r : Int) := by omega
  have u2 : (b : Int) % 2305843009213693951 = (s : Int) := by omega
  have C3 := fun w => refWide.wide r s w (by omega) (by omega)
  have e1 : r * s % 2305843009213693951 = q := by rw [← hq, mulN, ← hr, ← hs, ← Nat.mul_mod]
  have e2 := wide_mul r s (by omega) (by omega)
  rw [hq]
  generalize r * s = n at *
  generalize hiN r s = hi at *
  generalize loN r s = lo at *
  obtain ⟨lh, hlh⟩ : ∃ t, lo / 2305843009213693952 = t := ⟨_, rfl⟩
  have ql : (lo : Int) / 2305843009213693952 = (lh : Int) := by omega
  have ml := mask61 lo (by omega)
  obtain ⟨ll, hll⟩ : ∃ t, lo % 2305843009213693952 = t := ⟨_, rfl⟩
  rw [hll] at ml
  have mo := or_join3 hi lh (by omega) (by omega)
  obtain ⟨ab, hab⟩ : ∃ t, hi * 8 + lh = t := ⟨_, rfl⟩
  rw [hab] at mo
  have b1 : hi < 288230376151711744 := by omega
  have b2 : ll < 2305843009213693952 := by omega
  have b3 : ab < 2305843009213693952 := by omega
  have b4 : lo < 18446744073709551616 := by omega
  have e3 : (ab + ll) % 2305843009213693951 = q := by omega
  have t3 := tmodP e3
  rw [Int.natCast_add] at t3
  have u3 : ((ab : Int) + (ll : Int)) % 2305843009213693951 = (q : Int) := by omega
  have C3' := Lib.hid C3
  clear hn hr hs hq C3 e1 e2 e3 hlh hll hab
  go_enter Tryd.func21, Tryd.ntmps21
  go_wp2_with fail
  refine (C3'.out _).mono ?_
  rintro e w' ⟨rfl, rfl⟩
  go_wp2_with fail
  go_ret
  exact ⟨rfl, rfl⟩
/-- The same, the answer under a name. -/
theorem refMulP' {a b c : Nat} (h : mulN a b = c) (ha : a < 18446744073709551616) (hb : b < 18446744073709551616) (w : World) :
    Calls Tryd.prog 21 #[.int .u64 (a : Int), .int .u64 (b : Int)] w fun e w' => e = .returned (.int .u64 (c : Int)) ∧ w = w' := by
  subst h
  exact refMulP a b w ha hb
set_option maxHeartbeats 400000 in
theorem refPowP (a n : Nat) (w : World) (ha : a < 18446744073709551616) (he : n < 18446744073709551616) :
    Calls Tryd.prog 39 #[.int .u64 (a : Int), .int .u64 (n : Int)] w fun e w' => e = .returned (.int .u64 ((powN a n : Nat) : Int)) ∧ w = w' := by
  obtain ⟨q, hq⟩ : ∃ t, powN a n = t := ⟨_, rfl⟩
  have HQ := Lib.hid (show a ^ n % 2305843009213693951 = q by rw [← powN_eq, hq])
  rw [hq]
  clear hq
  obtain ⟨r, hr⟩ : ∃ t, a % 2305843009213693951 = t := ⟨_, rfl⟩
  have t1 := tmodP hr
  have u1 : (a : Int) % 2305843009213693951 = (r : Int) := by omega
  have br : r < 2305843009213693951 := by omega
  have HR := Lib.hid hr
  clear hr
  go_enter Tryd.func39, Tryd.ntmps39
  go_wp2_with fail
  go_loop [5, 6] (fun p i => ∃ x j : Nat, p = .int .u64 x ∧ i = .int .i64 ((j : Int) - 1) ∧ j ≤ 64 ∧ x < 2305843009213693951 ∧ Hid (x % 2305843009213693951 = a ^ (n / 2 ^ j) % 2305843009213693951)) (fun _ i => (intOf i + 1).toNat)
  case atStart => exact ⟨1, 64, rfl, rfl, by decide, by decide, Lib.hid (by rw [Nat.div_eq_of_lt (by omega)]; rfl)⟩
  case round =>
    obtain ⟨x, j, rfl, rfl, hj, hx, HI⟩ := hrel
    by_cases h0 : j = 0
    · have h1 : (j : Int) - 1 < 0 := by omega
      have HK := Lib.hid h0
      have HX := Lib.hid hx
      clear h0
      go_wp2
      go_ret
      have h2 := HI.out
      have h3 := HQ.out
      rw [HK.out, Nat.pow_zero, Nat.div_one, h3, Nat.mod_eq_of_lt HX.out] at h2
      exact ⟨ret_int (by rw [h2]), rfl⟩
    · obtain ⟨i, rfl⟩ : ∃ i, j = i + 1 := ⟨j - 1, by omega⟩
      have hi : i < 64 := by omega
      have HP := Lib.hid (pow_step 2305843009213693951 a n i x HI.out)
      clear h0 hj
      rw [show (((i + 1 : Nat) : Int) - 1) = (i : Int) by omega]
      obtain ⟨m, hm⟩ : ∃ t, n / 2 ^ i = t := ⟨_, rfl⟩
      have qm : (n : Int) / 2 ^ i = (m : Int) := by rw [← hm]; simp
      have bm : m < 18446744073709551616 := by rw [← hm]; exact Nat.lt_of_le_of_lt (Nat.div_le_self _ _) he
      have m1 := and1 m bm
      obtain ⟨v, hv⟩ : ∃ t, mulN x x = t := ⟨_, rfl⟩
      have bv : v < 2305843009213693951 := by rw [← hv]; exact mulN_lt _ _
      have C1 := Lib.hid (fun w => refMulP' hv (by omega) (by omega) w)
      by_cases hodd : m % 2 = 1
      · rw [hodd] at m1
        obtain ⟨z, hz⟩ : ∃ t, mulN v r = t := ⟨_, rfl⟩
        have bz : z < 2305843009213693951 := by rw [← hz]; exact mulN_lt _ _
        have C2 := Lib.hid (fun w => refMulP' hz (by omega) (by omega) w)
        have HN := Lib.hid (show z % 2305843009213693951 = a ^ (n / 2 ^ i) % 2305843009213693951 by
          rw [← hz, ← hv, ← HR.out, mulN, Nat.mod_mod, mulN]; exact HP.out.1 (by rw [hm]; exact hodd))
        clear hv hz hm hodd
        go_wp2_with fail
        refine (C1.out _).mono ?_
        rintro e w' ⟨rfl, rfl⟩
        go_wp2_with fail
        refine (C2.out _).mono ?_
        rintro e w' ⟨rfl, rfl⟩
        go_wp2_with fail
        exact ⟨⟨z, i, rfl, rfl, by omega, bz, HN⟩, by simp [intOf]⟩
      · have h2 : m % 2 = 0 := by omega
        have HN := Lib.hid (show v % 2305843009213693951 = a ^ (n / 2 ^ i) % 2305843009213693951 by
          rw [← hv, mulN, Nat.mod_mod]; exact HP.out.2 (by rw [hm]; exact hodd))
        rw [h2] at m1
        clear hv hm hodd h2
        go_wp2_with fail
        refine (C1.out _).mono ?_
        rintro e w' ⟨rfl, rfl⟩
        go_wp2_with fail
        exact ⟨⟨v, i, rfl, rfl, by omega, bv, HN⟩, by simp [intOf]⟩
/-- The same, the answer under a name. -/
theorem refPowP' {a b c : Nat} (h : powN a b = c) (ha : a < 18446744073709551616) (hb : b < 18446744073709551616) {y : Int} (hy : (b : Int) = y) (w : World) :
    Calls Tryd.prog 39 #[.int .u64 (a : Int), .int .u64 y] w fun e w' => e = .returned (.int .u64 (c : Int)) ∧ w = w' := by
  subst h hy
  exact refPowP a b w ha hb
end Go.Proofs.YtgjepiblhpmaiaaDoor
