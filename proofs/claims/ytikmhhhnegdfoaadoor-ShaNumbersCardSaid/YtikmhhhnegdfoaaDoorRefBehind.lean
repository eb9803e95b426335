/-
  Contracts of the reference's square, cube and behind.
-/
import Derived.Test.YtikmhhhnegdfoaaDoorRefWide
namespace Go.Proofs.YtikmhhhnegdfoaaDoor
open Go.ChangeShapes Go.WideShapes Go.ChangeAt Go.RowKit
set_option linter.unusedVariables false
set_option linter.unusedSimpArgs false

theorem hiN_lt (a b : Nat) : hiN a b < 18446744073709551616 := Nat.mod_lt _ (by decide)
theorem loN_lt (a b : Nat) : loN a b < 18446744073709551616 := Nat.or_lt_two_pow (n := 64) (Nat.mod_lt _ (by decide)) (by omega)
def squareN (x p : Nat) : Bool := decide (hiN x x < p) || (decide (hiN x x = p) && decide (loN x x = 0))
def topN (x : Nat) : Nat := (hiN x x * x + hiN (loN x x) x) % 18446744073709551616
def cubeN (x p : Nat) : Bool := decide (topN x < p * 4294967296) || (decide (topN x = p * 4294967296) && decide (loN (loN x x) x = 0))

namespace refWide
set_option maxHeartbeats 400000 in
theorem square (x p : Nat) (w : World) (hx : x < 18446744073709551616) (hp : p < 4294967296) :
    Calls Tryd.prog 31 #[.int .u64 (x : Int), .int .u64 (p : Int)] w fun e w' => e = .returned (.bool (squareN x p)) ∧ w = w' := by
  obtain ⟨h, hh⟩ : ∃ h, h = hiN x x := ⟨_, rfl⟩
  obtain ⟨l, hl⟩ : ∃ l, l = loN x x := ⟨_, rfl⟩
  have K0 := wide x x w hx hx
  have hs : squareN x p = (decide (h < p) || (decide (h = p) && decide (l = 0))) := by rw [squareN, hh, hl]
  rw [← hh, ← hl] at K0
  rw [hs]
  have K := Lib.hid K0
  clear K0 hs hh hl
  rcases Nat.lt_trichotomy h p with h1 | h1 | h1
  · have h2 : (h : Int) < (p : Int) := by omega
    go_enter Tryd.func31, Tryd.ntmps31
    go_wp2_with (go_at_call 38; refine (K.out).mono ?_; rintro e w' ⟨rfl, rfl⟩)
    go_ret
    exact ⟨ret_bool (by simp [h1]), rfl⟩
  · subst h1
    by_cases h0 : l = 0
    · subst h0
      go_enter Tryd.func31, Tryd.ntmps31
      go_wp2_with (go_at_call 38; refine (K.out).mono ?_; rintro e w' ⟨rfl, rfl⟩)
      go_ret
      exact ⟨ret_bool (by simp), rfl⟩
    · have h0' : ¬ (l : Int) = 0 := by omega
      go_enter Tryd.func31, Tryd.ntmps31
      go_wp2_with (go_at_call 38; refine (K.out).mono ?_; rintro e w' ⟨rfl, rfl⟩)
      go_ret
      exact ⟨ret_bool (by simp [h0]), rfl⟩
  · have h2 : ¬ (h : Int) < (p : Int) := by omega
    have h3 : ¬ (h : Int) = (p : Int) := by omega
    have h4 : ¬ h < p := by omega
    have h5 : ¬ h = p := by omega
    go_enter Tryd.func31, Tryd.ntmps31
    go_wp2_with (go_at_call 38; refine (K.out).mono ?_; rintro e w' ⟨rfl, rfl⟩)
    go_ret
    exact ⟨ret_bool (by simp [h4, h5]), rfl⟩
set_option maxHeartbeats 400000 in
theorem cube (x p : Nat) (w : World) (hx : x < 18446744073709551616) (hp : p < 4294967296) :
    Calls Tryd.prog 30 #[.int .u64 (x : Int), .int .u64 (p : Int)] w fun e w' => e = .returned (.bool (cubeN x p)) ∧ w = w' := by
  obtain ⟨h, hh⟩ : ∃ h, h = hiN x x := ⟨_, rfl⟩
  obtain ⟨l, hl⟩ : ∃ l, l = loN x x := ⟨_, rfl⟩
  obtain ⟨h2, hh2⟩ : ∃ h, h = hiN l x := ⟨_, rfl⟩
  obtain ⟨l2, hl2⟩ : ∃ h, h = loN l x := ⟨_, rfl⟩
  obtain ⟨q, hq⟩ : ∃ q, q = h * x % 18446744073709551616 := ⟨_, rfl⟩
  obtain ⟨t, ht⟩ : ∃ t, t = topN x := ⟨_, rfl⟩
  have K0 := wide x x w hx hx
  have K1 := wide l x w (hl ▸ loN_lt x x) hx
  have hs : cubeN x p = (decide (t < p * 4294967296) || (decide (t = p * 4294967296) && decide (l2 = 0))) := by rw [cubeN, ht, hl2, hl]
  have ht2 : t = (q + h2) % 18446744073709551616 := by rw [ht, topN, hq, hh2, hh, hl, Nat.mod_add_mod]
  rw [← hh, ← hl] at K0
  rw [← hh2, ← hl2] at K1
  rw [hs]
  have e1 : IntKind.u64.wrap ((h : Int) * (x : Int)) = (q : Int) := by rw [← Int.natCast_mul]; simp only [IntKind.wrap_u64]; omega
  have e2 : IntKind.u64.wrap ((q : Int) + (h2 : Int)) = (t : Int) := by simp only [IntKind.wrap_u64]; omega
  obtain ⟨P, hP⟩ : ∃ P, P = p * 4294967296 := ⟨_, rfl⟩
  have eP : (p : Int) * 4294967296 = (P : Int) := by omega
  rw [← hP]
  have K := Lib.hid K0
  have K' := Lib.hid K1
  clear K0 K1 hs hh hl hh2 hl2 hq ht ht2 hP
  rcases Nat.lt_trichotomy t P with h1 | h1 | h1
  · have h2 : (t : Int) < (P : Int) := by omega
    go_enter Tryd.func30, Tryd.ntmps30
    go_wp2_with (go_at_call 38; first | (with_reducible refine (K.out).mono ?_; rintro e w' ⟨rfl, rfl⟩) | (with_reducible refine (K'.out).mono ?_; rintro e w' ⟨rfl, rfl⟩))
    go_ret
    exact ⟨ret_bool (by simp [h1]), rfl⟩
  · subst h1
    by_cases h0 : l2 = 0
    · subst h0
      go_enter Tryd.func30, Tryd.ntmps30
      go_wp2_with (go_at_call 38; first | (with_reducible refine (K.out).mono ?_; rintro e w' ⟨rfl, rfl⟩) | (with_reducible refine (K'.out).mono ?_; rintro e w' ⟨rfl, rfl⟩))
      go_ret
      exact ⟨ret_bool (by simp), rfl⟩
    · have h0' : ¬ (l2 : Int) = 0 := by omega
      go_enter Tryd.func30, Tryd.ntmps30
      go_wp2_with (go_at_call 38; first | (with_reducible refine (K.out).mono ?_; rintro e w' ⟨rfl, rfl⟩) | (with_reducible refine (K'.out).mono ?_; rintro e w' ⟨rfl, rfl⟩))
      go_ret
      exact ⟨ret_bool (by simp [h0]), rfl⟩
  · have h2 : ¬ (t : Int) < (P : Int) := by omega
    have h3 : ¬ (t : Int) = (P : Int) := by omega
    have h4 : ¬ t < P := by omega
    have h5 : ¬ t = P := by omega
    go_enter Tryd.func30, Tryd.ntmps30
    go_wp2_with (go_at_call 38; first | (with_reducible refine (K.out).mono ?_; rintro e w' ⟨rfl, rfl⟩) | (with_reducible refine (K'.out).mono ?_; rintro e w' ⟨rfl, rfl⟩))
    go_ret
    exact ⟨ret_bool (by simp [h4, h5]), rfl⟩
end refWide
end Go.Proofs.YtikmhhhnegdfoaaDoor
