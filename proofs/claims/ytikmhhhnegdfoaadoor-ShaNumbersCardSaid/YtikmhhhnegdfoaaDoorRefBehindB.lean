/-
  Contract of the reference's behind.
-/
import Derived.Test.YtikmhhhnegdfoaaDoorRefBehind
namespace Go.Proofs.YtikmhhhnegdfoaaDoor
open Go.ChangeShapes Go.WideShapes Go.ChangeAt Go.RowKit
set_option linter.unusedVariables false
set_option linter.unusedSimpArgs false

namespace refWide
def testN (third : Bool) (t p : Nat) : Bool := if third then cubeN t p else squareN t p
/-- What 'behind' has found behind k of its 36 rounds. -/
def behindR (p : Nat) (third : Bool) : Nat → Nat
  | 0 => 0
  | k + 1 => if testN third (behindR p third k ||| 2 ^ (35 - k)) p then behindR p third k ||| 2 ^ (35 - k) else behindR p third k
def behindN (p : Nat) (third : Bool) : Nat := behindR p third 36 % 4294967296
theorem behindR_lt (p : Nat) (third : Bool) (k : Nat) : behindR p third k < 68719476736 := by
  induction k with
  | zero => simp [behindR]
  | succ k ih =>
    have h : behindR p third k ||| 2 ^ (35 - k) < 68719476736 := Nat.or_lt_two_pow (n := 36) ih (Nat.pow_lt_pow_right (by omega) (by omega))
    rw [behindR]
    split
    · exact h
    · exact ih
set_option maxHeartbeats 400000 in
theorem behind_true (p : Nat) (w : World) (hp : p < 4294967296) :
    Calls Tryd.prog 24 #[.int .u64 (p : Int), .bool true] w fun e w' => e = .returned (.int .u32 ((behindN p true : Nat) : Int)) ∧ w = w' := by
  go_enter Tryd.func24, Tryd.ntmps24
  go_wp2
  go_loop [5, 6] (fun r i => ∃ (k : Nat) (q : Int), k ≤ 36 ∧ q = 35 - (k : Int) ∧ i = .int .i64 q ∧ r = .int .u64 ((behindR p true k : Nat) : Int)) (fun _ i => (intOf i + 1).toNat)
  case atStart => exact ⟨0, 35, by omega, by omega, rfl, rfl⟩
  case round =>
    obtain ⟨k, q, hk, hq, rfl, rfl⟩ := hrel
    by_cases hlt : k < 36
    · obtain ⟨i, rfl⟩ := Int.eq_ofNat_of_zero_le (show 0 ≤ q by omega)
      have hi : i ≤ 35 := by omega
      have hik : 35 - k = i := by omega
      obtain ⟨r, hr⟩ : ∃ r, r = behindR p true k := ⟨_, rfl⟩
      have hrl : r < 68719476736 := hr ▸ behindR_lt p true k
      obtain ⟨t, ht⟩ : ∃ t, t = r ||| 2 ^ i := ⟨_, rfl⟩
      have h2i : 2 ^ i < 18446744073709551616 := Nat.lt_of_le_of_lt (Nat.pow_le_pow_right (by omega) hi) (by decide)
      have htl : t < 18446744073709551616 := by rw [ht]; exact Nat.or_lt_two_pow (n := 64) (by omega) h2i
      have eo : bits .or .u64 (r : Int) (IntKind.u64.wrap (2 ^ i)) = (t : Int) := by
        have e : IntKind.u64.wrap (2 ^ i) = ((2 ^ i : Nat) : Int) := by
          have e1 : (2 : Int) ^ i = ((2 ^ i : Nat) : Int) := by simp
          rw [e1]
          obtain ⟨pw, hpw⟩ : ∃ x : Nat, x = 2 ^ i := ⟨_, rfl⟩
          rw [← hpw] at h2i ⊢
          simp only [IntKind.wrap_u64]; omega
        rw [e, u64_or_nat _ _ (by omega) h2i, ht]
      have hstep : behindR p true (k + 1) = if cubeN t p then t else r := by rw [behindR, hik, ← hr, ← ht]; rfl
      obtain ⟨b, hb⟩ : ∃ b, b = cubeN t p := ⟨_, rfl⟩
      have K0 := cube t p w htl hp
      rw [← hb] at K0 hstep
      have K := Lib.hid K0
      have HH := Lib.hid (And.intro hq hstep)
      rw [← hr]
      clear hq hr ht h2i htl hstep hb K0 hik hrl
      cases b
      · go_wp2_with (go_at_call 30; refine (K.out).mono ?_; rintro e w' ⟨rfl, rfl⟩)
        go_round
        case rel => exact ⟨k + 1, (i : Int) - 1, by omega, by have := HH.out.1; omega, rfl, by rw [HH.out.2]; simp⟩
        case measure => simp [intOf]
      · go_wp2_with (go_at_call 30; refine (K.out).mono ?_; rintro e w' ⟨rfl, rfl⟩)
        go_round
        case rel => exact ⟨k + 1, (i : Int) - 1, by omega, by have := HH.out.1; omega, rfl, by rw [HH.out.2]; simp⟩
        case measure => simp [intOf]
    · obtain rfl : k = 36 := by omega
      have hq0 : q < 0 := by omega
      obtain ⟨r, hr⟩ : ∃ r, r = behindR p true 36 := ⟨_, rfl⟩
      have hm := mask32 r (hr ▸ Nat.lt_of_lt_of_le (behindR_lt p true 36) (by omega))
      obtain ⟨f, hf⟩ : ∃ f, f = r % 4294967296 := ⟨_, rfl⟩
      rw [← hf] at hm
      have hfl : f < 4294967296 := by omega
      have hres : f = behindN p true := by rw [hf, hr]; rfl
      have HR := Lib.hid hres
      rw [← hr]
      clear hr hf hq hres
      go_wp2
      go_ret
      exact ⟨ret_int (by rw [HR.out]), rfl⟩
set_option maxHeartbeats 400000 in
theorem behind_false (p : Nat) (w : World) (hp : p < 4294967296) :
    Calls Tryd.prog 24 #[.int .u64 (p : Int), .bool false] w fun e w' => e = .returned (.int .u32 ((behindN p false : Nat) : Int)) ∧ w = w' := by
  go_enter Tryd.func24, Tryd.ntmps24
  go_wp2
  go_loop [5, 6] (fun r i => ∃ (k : Nat) (q : Int), k ≤ 36 ∧ q = 35 - (k : Int) ∧ i = .int .i64 q ∧ r = .int .u64 ((behindR p false k : Nat) : Int)) (fun _ i => (intOf i + 1).toNat)
  case atStart => exact ⟨0, 35, by omega, by omega, rfl, rfl⟩
  case round =>
    obtain ⟨k, q, hk, hq, rfl, rfl⟩ := hrel
    by_cases hlt : k < 36
    · obtain ⟨i, rfl⟩ := Int.eq_ofNat_of_zero_le (show 0 ≤ q by omega)
      have hi : i ≤ 35 := by omega
      have hik : 35 - k = i := by omega
      obtain ⟨r, hr⟩ : ∃ r, r = behindR p false k := ⟨_, rfl⟩
      have hrl : r < 68719476736 := hr ▸ behindR_lt p false k
      obtain ⟨t, ht⟩ : ∃ t, t = r ||| 2 ^ i := ⟨_, rfl⟩
      have h2i : 2 ^ i < 18446744073709551616 := Nat.lt_of_le_of_lt (Nat.pow_le_pow_right (by omega) hi) (by decide)
      have htl : t < 18446744073709551616 := by rw [ht]; exact Nat.or_lt_two_pow (n := 64) (by omega) h2i
      have eo : bits .or .u64 (r : Int) (IntKind.u64.wrap (2 ^ i)) = (t : Int) := by
        have e : IntKind.u64.wrap (2 ^ i) = ((2 ^ i : Nat) : Int) := by
          have e1 : (2 : Int) ^ i = ((2 ^ i : Nat) : Int) := by simp
          rw [e1]
          obtain ⟨pw, hpw⟩ : ∃ x : Nat, x = 2 ^ i := ⟨_, rfl⟩
          rw [← hpw] at h2i ⊢
          simp only [IntKind.wrap_u64]; omega
        rw [e, u64_or_nat _ _ (by omega) h2i, ht]
      have hstep : behindR p false (k + 1) = if squareN t p then t else r := by rw [behindR, hik, ← hr, ← ht]; rfl
      obtain ⟨b, hb⟩ : ∃ b, b = squareN t p := ⟨_, rfl⟩
      have K0 := square t p w htl hp
      rw [← hb] at K0 hstep
      have K := Lib.hid K0
      have HH := Lib.hid (And.intro hq hstep)
      rw [← hr]
      clear hq hr ht h2i htl hstep hb K0 hik hrl
      cases b
      · go_wp2_with (go_at_call 31; refine (K.out).mono ?_; rintro e w' ⟨rfl, rfl⟩)
        go_round
        case rel => exact ⟨k + 1, (i : Int) - 1, by omega, by have := HH.out.1; omega, rfl, by rw [HH.out.2]; simp⟩
        case measure => simp [intOf]
      · go_wp2_with (go_at_call 31; refine (K.out).mono ?_; rintro e w' ⟨rfl, rfl⟩)
        go_round
        case rel => exact ⟨k + 1, (i : Int) - 1, by omega, by have := HH.out.1; omega, rfl, by rw [HH.out.2]; simp⟩
        case measure => simp [intOf]
    · obtain rfl : k = 36 := by omega
      have hq0 : q < 0 := by omega
      obtain ⟨r, hr⟩ : ∃ r, r = behindR p false 36 := ⟨_, rfl⟩
      have hm := mask32 r (hr ▸ Nat.lt_of_lt_of_le (behindR_lt p false 36) (by omega))
      obtain ⟨f, hf⟩ : ∃ f, f = r % 4294967296 := ⟨_, rfl⟩
      rw [← hf] at hm
      have hfl : f < 4294967296 := by omega
      have hres : f = behindN p false := by rw [hf, hr]; rfl
      have HR := Lib.hid hres
      rw [← hr]
      clear hr hf hq hres
      go_wp2
      go_ret
      exact ⟨ret_int (by rw [HR.out]), rfl⟩
end refWide
end Go.Proofs.YtikmhhhnegdfoaaDoor
