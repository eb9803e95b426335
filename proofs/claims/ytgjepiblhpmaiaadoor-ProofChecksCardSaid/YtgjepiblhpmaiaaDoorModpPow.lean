/-
  Contracts of modp.Pow and modp.Inv.
-/
import Derived.Test.YtgjepiblhpmaiaaDoorModp
namespace Go.Proofs.YtgjepiblhpmaiaaDoor
open Go.ChangeShapes Go.WideShapes Go.ChangeAt Go.RowKit
set_option linter.unusedVariables false
set_option linter.unusedSimpArgs false

/-- a to the power e modulo P (by a recursion that nothing unfolds by itself). -/
def powN (a e : Nat) : Nat := if e = 0 then 1 else powN a (e - 1) * a % 2305843009213693951
termination_by e
theorem powN_eq (a e : Nat) : powN a e = a ^ e % 2305843009213693951 := by
  induction e with
  | zero => rw [powN]; simp
  | succ e ih =>
    rw [powN, if_neg (by omega), Nat.add_sub_cancel, ih, Nat.pow_succ, Nat.mod_mul_mod]
theorem powN_lt (a e : Nat) : powN a e < 2305843009213693951 := by rw [powN_eq]; exact Nat.mod_lt _ (by decide)
/-- One step of a power from the lowest bit on. -/
theorem pow_low (x y k q P : Nat) (h : x * y ^ k % P = q) : (k % 2 = 1 → (x * y % P) * (y * y % P) ^ (k / 2) % P = q) ∧ (k % 2 = 0 → x * (y * y % P) ^ (k / 2) % P = q) := by
  have e2 : (y * y % P) ^ (k / 2) % P = y ^ (2 * (k / 2)) % P := by rw [← Nat.pow_mod, Nat.pow_mul, Nat.pow_two]
  refine ⟨fun h1 => ?_, fun h1 => ?_⟩
  · rw [Nat.mul_mod, e2, Nat.mod_mod, ← Nat.mul_mod, Nat.mul_assoc, Nat.mul_comm y, ← Nat.pow_succ, show Nat.succ (2 * (k / 2)) = k by omega]
    exact h
  · rw [Nat.mul_mod, e2, ← Nat.mul_mod, show 2 * (k / 2) = k by omega]
    exact h
set_option maxHeartbeats 400000 in
theorem modpPow (a n : Nat) (w : World) (ha : a < 18446744073709551616) (he : n < 18446744073709551616) :
    Calls Tryd.prog 51 #[.int .u64 (a : Int), .int .u64 (n : Int)] w fun e w' => e = .returned (.int .u64 ((powN a n : Nat) : Int)) ∧ w = w' := by
  obtain ⟨q, hq⟩ : ∃ t, powN a n = t := ⟨_, rfl⟩
  have HQ := Lib.hid (show a ^ n % 2305843009213693951 = q by rw [← powN_eq, hq])
  rw [hq]
  clear hq
  go_enter Tryd.func51, Tryd.ntmps51
  go_wp2_with fail
  go_loop [1, 5, 6] (fun u p s => ∃ k x y : Nat, u = .int .u64 k ∧ p = .int .u64 x ∧ s = .int .u64 y ∧ k < 18446744073709551616 ∧ x < 2305843009213693951 ∧ y < 18446744073709551616 ∧ Hid (x * y ^ k % 2305843009213693951 = q)) (fun u _ _ => (intOf u).toNat)
  case atStart => exact ⟨n, 1, a, rfl, rfl, rfl, he, by decide, ha, Lib.hid (by rw [Nat.one_mul]; exact HQ.out)⟩
  case round =>
    obtain ⟨k, x, y, rfl, rfl, rfl, hk, hx, hy, HI⟩ := hrel
    by_cases h0 : k = 0
    · have h1 : (k : Int) ≤ 0 := by omega
      have HK := Lib.hid h0
      clear h0
      go_wp2
      go_ret
      have h2 := HI.out
      rw [HK.out, Nat.pow_zero, Nat.mul_one, Nat.mod_eq_of_lt hx] at h2
      exact ⟨ret_int (by rw [h2]), rfl⟩
    · have hpos : 0 < k := by omega
      clear h0
      have ma := and1 k hk
      obtain ⟨k2, hk2⟩ : ∃ t, k / 2 = t := ⟨_, rfl⟩
      have qk : (k : Int) / 2 = (k2 : Int) := by omega
      have b2 : k2 < 18446744073709551616 := by omega
      have hlt : k2 < k := by omega
      obtain ⟨z, hz⟩ : ∃ t, mulN y y = t := ⟨_, rfl⟩
      have bz : z < 2305843009213693951 := by rw [← hz]; exact mulN_lt _ _
      have C2 := Lib.hid (fun w => modpMul' hz hy hy rfl rfl w)
      by_cases hodd : k % 2 = 1
      · rw [hodd] at ma
        obtain ⟨v, hv⟩ : ∃ t, mulN x y = t := ⟨_, rfl⟩
        have bv : v < 2305843009213693951 := by rw [← hv]; exact mulN_lt _ _
        have C1 := Lib.hid (fun w => modpMul' hv (by omega) hy rfl rfl w)
        have HN := Lib.hid (show v * z ^ k2 % 2305843009213693951 = q by rw [← hv, ← hz, ← hk2]; exact (pow_low x y k q _ HI.out).1 hodd)
        clear hv hz hk2 hodd
        go_wp2_with fail
        refine (C1.out _).mono ?_
        rintro e w' ⟨rfl, rfl⟩
        go_wp2_with fail
        refine (C2.out _).mono ?_
        rintro e w' ⟨rfl, rfl⟩
        go_wp2_with fail
        exact ⟨⟨k2, v, z, rfl, rfl, rfl, b2, bv, by omega, HN⟩, by simp [intOf]; omega⟩
      · have he2 : k % 2 = 0 := by omega
        rw [he2] at ma
        have HN := Lib.hid (show x * z ^ k2 % 2305843009213693951 = q by rw [← hz, ← hk2]; exact (pow_low x y k q _ HI.out).2 he2)
        clear hz hk2 hodd he2
        go_wp2_with fail
        refine (C2.out _).mono ?_
        rintro e w' ⟨rfl, rfl⟩
        go_wp2_with fail
        exact ⟨⟨k2, x, z, rfl, rfl, rfl, b2, hx, by omega, HN⟩, by simp [intOf]; omega⟩
/-- The same, the answer under a name. -/
theorem modpPow' {a b c : Nat} (h : powN a b = c) (ha : a < 18446744073709551616) (hb : b < 18446744073709551616) {y : Int} (hy : (b : Int) = y) (w : World) :
    Calls Tryd.prog 51 #[.int .u64 (a : Int), .int .u64 y] w fun e w' => e = .returned (.int .u64 (c : Int)) ∧ w = w' := by
  subst h hy
  exact modpPow a b w ha hb
end Go.Proofs.YtgjepiblhpmaiaaDoor
