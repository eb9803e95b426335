/-
  What reading means (chapter 11), on lists: a reader that keeps its first error. Of no program.
-/
import Derived.Test.YtiilgkajijnbcaaLow
namespace Go.Proofs.Ytiilgkajijnbcaa
open Go.ChangeShapes Go.WideShapes Go.ChangeAt Go.RowKit
set_option linter.unusedVariables false
set_option linter.unusedSimpArgs false

/-- How far a reader is, and how it failed first. -/
structure St where
  pos : Nat
  e : Nat
def failS (k : Nat) (s : St) : St := if s.e = 0 then ⟨s.pos, k⟩ else s
def takeS (b : List UInt8) (n : Nat) (s : St) : List UInt8 × St := if s.e = 0 then (if b.length < s.pos + n then ([], ⟨s.pos, 4⟩) else ((b.drop s.pos).take n, ⟨s.pos + n, 0⟩)) else ([], s)
def numS (b : List UInt8) (s : St) : Nat × St := (if (takeS b 8 s).2.e = 0 then be (takeS b 8 s).1 else 0, (takeS b 8 s).2)
def mostS (b : List UInt8) (m : Nat) (s : St) : Nat × St := if m < (numS b s).1 then (0, failS 2 (numS b s).2) else numS b s
def elemS (b : List UInt8) (s : St) : Nat × St := ((numS b s).1, if (numS b s).2.e = 0 ∧ ¬ rightN (numS b s).1 then failS 2 (numS b s).2 else (numS b s).2)
def sizeS (b : List UInt8) (n : Nat) (s : St) : Nat × St := ((mostS b 1048576 s).1, if n = 0 ∧ (mostS b 1048576 s).1 ≠ 0 then failS 2 (mostS b 1048576 s).2 else (mostS b 1048576 s).2)
def padL (n : Nat) (l : List UInt8) : List UInt8 := l ++ List.replicate (n - l.length) 0
def keyS (b : List UInt8) (s : St) : List UInt8 × St := (padL 32 (takeS b 32 s).1, (takeS b 32 s).2)
def endS (b : List UInt8) (s : St) : Nat := if s.e = 0 ∧ s.pos ≠ b.length then 2 else s.e
/-- A reader that may be met. -/
def St.ok (b : List UInt8) (s : St) : Prop := s.pos ≤ b.length ∧ s.e < 5
section
variable {b : List UInt8} {s : St}
theorem failS_ok (k : Nat) (hk : k < 5) (h : s.ok b) : (failS k s).ok b := by
  unfold failS
  split
  · exact ⟨h.1, hk⟩
  · exact h
theorem takeS_ok (n : Nat) (h : s.ok b) : (takeS b n s).2.ok b := by
  unfold takeS
  split
  · split
    · exact ⟨h.1, show 4 < 5 by omega⟩
    · exact ⟨by show s.pos + n ≤ b.length; omega, show 0 < 5 by omega⟩
  · exact h
theorem takeS_len (n : Nat) : (takeS b n s).1.length = n ∨ (takeS b n s).1 = [] := by
  unfold takeS
  split
  · split
    · exact .inr rfl
    · next h => exact .inl (by simp; omega)
  · exact .inr rfl
theorem takeS_good (n : Nat) (h : (takeS b n s).2.e = 0) : (takeS b n s).1.length = n := by
  unfold takeS at h ⊢
  split
  · next h1 =>
    rw [if_pos h1] at h
    split
    · next h2 => rw [if_pos h2] at h; cases h
    · next h2 => simp; omega
  · next h1 =>
    rw [if_neg h1] at h
    exact absurd h h1
theorem takeS_bad (n : Nat) (h : (takeS b n s).2.e ≠ 0) : (takeS b n s).1 = [] := by
  unfold takeS at h ⊢
  split
  · next h1 =>
    rw [if_pos h1] at h
    split
    · rfl
    · next h2 => rw [if_neg h2] at h; exact absurd rfl h
  · rfl
theorem numS_ok (h : s.ok b) : (numS b s).2.ok b := takeS_ok 8 h
theorem numS_lt (b : List UInt8) (s : St) : (numS b s).1 < 18446744073709551616 := by
  unfold numS
  split
  · next h =>
    have h1 := be_lt (takeS b 8 s).1
    rw [takeS_good 8 h] at h1
    exact h1
  · omega
theorem mostS_ok (m : Nat) (h : s.ok b) : (mostS b m s).2.ok b := by
  unfold mostS
  split
  · exact failS_ok 2 (by decide) (numS_ok h)
  · exact numS_ok h
theorem mostS_le (b : List UInt8) (m : Nat) (s : St) : (mostS b m s).1 ≤ m := by
  unfold mostS
  split
  · omega
  · omega
theorem elemS_ok (h : s.ok b) : (elemS b s).2.ok b := by
  unfold elemS
  show (if _ then _ else _ : St).ok b
  split
  · exact failS_ok 2 (by decide) (numS_ok h)
  · exact numS_ok h
theorem elemS_lt (b : List UInt8) (s : St) : (elemS b s).1 < 18446744073709551616 := numS_lt b s
theorem sizeS_ok (n : Nat) (h : s.ok b) : (sizeS b n s).2.ok b := by
  unfold sizeS
  show (if _ then _ else _ : St).ok b
  split
  · exact failS_ok 2 (by decide) (mostS_ok _ h)
  · exact mostS_ok _ h
theorem sizeS_le (b : List UInt8) (n : Nat) (s : St) : (sizeS b n s).1 ≤ 1048576 := mostS_le b 1048576 s
theorem keyS_ok (h : s.ok b) : (keyS b s).2.ok b := takeS_ok 32 h
theorem padL_len (n : Nat) (l : List UInt8) (h : l.length ≤ n) : (padL n l).length = n := by simp [padL]; omega
theorem keyS_len (b : List UInt8) (s : St) : (keyS b s).1.length = 32 := by
  refine padL_len 32 _ ?_
  rcases takeS_len (b := b) (s := s) 32 with h | h
  · omega
  · rw [h]; simp
end
end Go.Proofs.Ytiilgkajijnbcaa
