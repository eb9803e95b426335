/-
  The streams of chapter 12 on numbers and lists.
-/
import Derived.Test.YtjfipijdjbbogaaDoorShaA
import Derived.Test.YtjfipijdjbbogaaDoorLow
namespace Go.Proofs.YtjfipijdjbbogaaDoor
open Go.ChangeShapes Go.WideShapes Go.ChangeAt Go.RowKit
set_option linter.unusedVariables false
set_option linter.unusedSimpArgs false

/-- The digest of which word i is a part, and word i. -/
def digB (seed name : List UInt8) (i : Nat) : List UInt8 := shaN ((be64 seed.length ++ seed) ++ ((be64 name.length ++ name) ++ (be64 8 ++ be64 (i / 4))))
def wordB (seed name : List UInt8) (i : Nat) : Nat := be (((digB seed name i).drop (8 * (i % 4))).take 8)
theorem wordB_lt (seed name : List UInt8) (i : Nat) : wordB seed name i < 18446744073709551616 := by
  have h1 := be_lt (((digB seed name i).drop (8 * (i % 4))).take 8)
  have hle : (((digB seed name i).drop (8 * (i % 4))).take 8).length ≤ 8 := by simp; omega
  have h2 : be (((digB seed name i).drop (8 * (i % 4))).take 8) < 256 ^ 8 := Nat.lt_of_lt_of_le h1 (Nat.pow_le_pow_right (by omega) hle)
  exact h2
/-- What 2^64 leaves over by n. -/
def restB (n : Nat) : Nat := 18446744073709551616 % n
/-- k tries: the number, the error, where the stream stands. -/
def drawB (seed name : List UInt8) (n : Nat) : Nat → Nat → Nat × Nat × Nat
  | 0, i => (0, 9, i)
  | k + 1, i => if wordB seed name i + restB n ≤ 18446744073709551615 then (wordB seed name i % n, 0, i + 1) else drawB seed name n k (i + 1)
def nextB (seed name : List UInt8) (n i : Nat) : Nat × Nat × Nat := if n = 0 then (0, 1, i) else drawB seed name n 64 i
section
variable {seed name : List UInt8} {n k i : Nat}
theorem drawB_hit (h : wordB seed name i + restB n ≤ 18446744073709551615) : drawB seed name n (k + 1) i = (wordB seed name i % n, 0, i + 1) := by rw [drawB, if_pos h]
theorem drawB_miss (h : ¬ wordB seed name i + restB n ≤ 18446744073709551615) : drawB seed name n (k + 1) i = drawB seed name n k (i + 1) := by rw [drawB, if_neg h]
theorem drawB_at : ∀ (k i : Nat), i ≤ (drawB seed name n k i).2.2 ∧ (drawB seed name n k i).2.2 ≤ i + k
  | 0, i => ⟨Nat.le_refl _, Nat.le_refl _⟩
  | k + 1, i => by
    rw [drawB]
    split
    · exact ⟨by show i ≤ i + 1; omega, by show i + 1 ≤ i + (k + 1); omega⟩
    · have := drawB_at k (i + 1)
      exact ⟨by omega, by omega⟩
theorem drawB_lt (hn : 0 < n) : ∀ (k i : Nat), (drawB seed name n k i).2.1 = 0 → (drawB seed name n k i).1 < n
  | 0, i => fun h => by cases h
  | k + 1, i => fun h => by
    rw [drawB] at h ⊢
    split
    · exact Nat.mod_lt _ hn
    · next h1 => rw [if_neg h1] at h; exact drawB_lt hn k (i + 1) h
theorem drawB_err : ∀ (k i : Nat), (drawB seed name n k i).2.1 < 10
  | 0, i => by show 9 < 10; omega
  | k + 1, i => by
    rw [drawB]
    split
    · show 0 < 10; omega
    · exact drawB_err k (i + 1)
theorem drawB_num : ∀ (k i : Nat), (drawB seed name n k i).1 < 18446744073709551616
  | 0, i => by show 0 < 18446744073709551616; omega
  | k + 1, i => by
    rw [drawB]
    split
    · exact Nat.lt_of_le_of_lt (Nat.mod_le _ _) (wordB_lt _ _ _)
    · exact drawB_num k (i + 1)
theorem nextB_at : i ≤ (nextB seed name n i).2.2 ∧ (nextB seed name n i).2.2 ≤ i + 64 := by
  unfold nextB
  split
  · exact ⟨Nat.le_refl _, by show i ≤ i + 64; omega⟩
  · exact drawB_at 64 i
theorem nextB_err : (nextB seed name n i).2.1 < 10 := by
  unfold nextB
  split
  · show 1 < 10; omega
  · exact drawB_err 64 i
theorem nextB_num : (nextB seed name n i).1 < 18446744073709551616 := by
  unfold nextB
  split
  · show 0 < 18446744073709551616; omega
  · exact drawB_num 64 i
theorem nextB_lt (h : (nextB seed name n i).2.1 = 0) : (nextB seed name n i).1 < n := by
  unfold nextB at h ⊢
  split
  · next h1 => rw [if_pos h1] at h; cases h
  · next h1 => rw [if_neg h1] at h; exact drawB_lt (by omega) 64 i h
end
/-- A power of two leaves nothing over: the first word serves. -/
theorem restB_pow (k : Nat) (h : k ≤ 63) : restB (2 ^ k) = 0 := by
  unfold restB
  have e : 18446744073709551616 = 2 ^ k * 2 ^ (64 - k) := by rw [← Nat.pow_add, show k + (64 - k) = 64 by omega]
  rw [e, Nat.mul_mod_right]
theorem nextB_pow (seed name : List UInt8) (i k : Nat) (h : k ≤ 63) : nextB seed name (2 ^ k) i = (wordB seed name i % 2 ^ k, 0, i + 1) := by
  have hp : 0 < 2 ^ k := Nat.pow_pos (by omega)
  have hw := wordB_lt seed name i
  rw [nextB, if_neg (by omega), drawB_hit (by rw [restB_pow k h]; omega)]
/-- The example's stream: words 1 and 2 of the zero seed and the name a. -/
theorem wordB_ex : (digB (List.replicate 32 0) [97] 1).take 24 ≠ [] ∧ wordB (List.replicate 32 0) [97] 1 ≠ wordB (List.replicate 32 0) [97] 2 := by decide +kernel
end Go.Proofs.YtjfipijdjbbogaaDoor
