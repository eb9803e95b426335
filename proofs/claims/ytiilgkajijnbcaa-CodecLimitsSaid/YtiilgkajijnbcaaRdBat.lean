/-
  Contract of the reference's ReadBatch.
-/
import Derived.Test.YtiilgkajijnbcaaApiBat
import Derived.Test.YtiilgkajijnbcaaRdKey
import Derived.Test.YtiilgkajijnbcaaRdNote
import Derived.Deep.RegionLaw
namespace Go.Proofs.Ytiilgkajijnbcaa
open Go.ChangeShapes Go.WideShapes Go.ChangeAt Go.RowKit
set_option linter.unusedVariables false
set_option linter.unusedSimpArgs false

def numsS (b : List UInt8) : Nat → St → List Nat × St
  | 0, s => ([], s)
  | k + 1, s => if s.e = 0 then ((numS b s).1 :: (numsS b k (numS b s).2).1, (numsS b k (numS b s).2).2) else ([], s)
def letsS (b : List UInt8) (z : Nat) : Nat → St → List (List UInt8 × List UInt8) × St
  | 0, s => ([], s)
  | k + 1, s => if s.e = 0 then (((keyS b s).1, (takeS b z (keyS b s).2).1) :: (letsS b z k (takeS b z (keyS b s).2).2).1, (letsS b z k (takeS b z (keyS b s).2).2).2) else ([], s)
theorem numsS_step {b : List UInt8} {k x : Nat} {s s1 : St} (h0 : s.e = 0) (h1 : numS b s = (x, s1)) : numsS b (k + 1) s = (x :: (numsS b k s1).1, (numsS b k s1).2) := by
  rw [numsS, if_pos h0, h1]
theorem numsS_stop {b : List UInt8} {k : Nat} {s : St} (h : k = 0 ∨ s.e ≠ 0) : numsS b k s = ([], s) := by
  cases k with
  | zero => rfl
  | succ k => rw [numsS, if_neg (by rcases h with h | h; omega; exact h)]
theorem letsS_step {b : List UInt8} {z k : Nat} {s s1 s2 : St} {u l : List UInt8} (h0 : s.e = 0) (h1 : keyS b s = (u, s1)) (h2 : takeS b z s1 = (l, s2)) : letsS b z (k + 1) s = ((u, l) :: (letsS b z k s2).1, (letsS b z k s2).2) := by
  rw [letsS, if_pos h0, h1]
  simp only []
  rw [h2]
theorem letsS_stop {b : List UInt8} {z k : Nat} {s : St} (h : k = 0 ∨ s.e ≠ 0) : letsS b z k s = ([], s) := by
  cases k with
  | zero => rfl
  | succ k => rw [letsS, if_neg (by rcases h with h | h; omega; exact h)]
/-- How a batch is read. -/
structure BatR (b : List UInt8) where
  r : Nat
  ch : Nat
  n : Nat
  inner : List Nat
  m : Nat
  z : Nat
  ls : List (List UInt8 × List UInt8)
  s1 : St
  s2 : St
  s3 : St
  s4 : St
  s5 : St
  s6 : St
  s7 : St
  h1 : mostS b 9223372036854775807 ⟨0, 0⟩ = (r, s1)
  h2 : mostS b 9223372036854775807 s1 = (ch, s2)
  h3 : mostS b 20 s2 = (n, s3)
  h4 : numsS b n s3 = (inner, s4)
  h5 : mostS b 1000 s4 = (m, s5)
  h6 : sizeS b m s5 = (z, s6)
  h7 : letsS b z m s6 = (ls, s7)
theorem two_of {α β : Type} (p : α × β) : ∃ x y, p = (x, y) := ⟨p.1, p.2, rfl⟩
theorem BatR.there (b : List UInt8) : Nonempty (BatR b) := by
  obtain ⟨r, s1, h1⟩ := two_of (mostS b 9223372036854775807 ⟨0, 0⟩)
  obtain ⟨ch, s2, h2⟩ := two_of (mostS b 9223372036854775807 s1)
  obtain ⟨n, s3, h3⟩ := two_of (mostS b 20 s2)
  obtain ⟨inner, s4, h4⟩ := two_of (numsS b n s3)
  obtain ⟨m, s5, h5⟩ := two_of (mostS b 1000 s4)
  obtain ⟨z, s6, h6⟩ := two_of (sizeS b m s5)
  obtain ⟨ls, s7, h7⟩ := two_of (letsS b z m s6)
  exact ⟨⟨r, ch, n, inner, m, z, ls, s1, s2, s3, s4, s5, s6, s7, h1, h2, h3, h4, h5, h6, h7⟩⟩
noncomputable def batR (b : List UInt8) : BatR b := Classical.choice (BatR.there b)
theorem BatR.same {b : List UInt8} (r q : BatR b) : r.r = q.r ∧ r.ch = q.ch ∧ r.inner = q.inner ∧ r.ls = q.ls ∧ r.s7 = q.s7 := by
  obtain ⟨e1, f1⟩ := Prod.mk.inj (r.h1.symm.trans q.h1)
  obtain ⟨e2, f2⟩ := Prod.mk.inj (r.h2.symm.trans (f1 ▸ q.h2))
  obtain ⟨e3, f3⟩ := Prod.mk.inj (r.h3.symm.trans (f2 ▸ q.h3))
  obtain ⟨e4, f4⟩ := Prod.mk.inj (r.h4.symm.trans (f3 ▸ e3 ▸ q.h4))
  obtain ⟨e5, f5⟩ := Prod.mk.inj (r.h5.symm.trans (f4 ▸ q.h5))
  obtain ⟨e6, f6⟩ := Prod.mk.inj (r.h6.symm.trans (f5 ▸ e5 ▸ q.h6))
  obtain ⟨e7, f7⟩ := Prod.mk.inj (r.h7.symm.trans (f6 ▸ e6 ▸ e5 ▸ q.h7))
  exact ⟨e1, e2, e4, e7, f7⟩
def batZero : BatD := ⟨0, 0, [], []⟩
/-- What bytes are read as, as a batch, with the error. -/
noncomputable def batchS (b : List UInt8) : BatD × Nat := if endS b (batR b).s7 = 0 then (⟨(batR b).r, (batR b).ch, (batR b).inner, (batR b).ls⟩, 0) else (batZero, endS b (batR b).s7)
theorem batchS_eq {b : List UInt8} (r : BatR b) {k : Nat} (h : endS b r.s7 = k) : batchS b = if k = 0 then (⟨r.r, r.ch, r.inner, r.ls⟩, 0) else (batZero, k) := by
  obtain ⟨e1, e2, e3, e4, e5⟩ := BatR.same r (batR b)
  rw [batchS, ← e1, ← e2, ← e3, ← e4, ← e5, h]
theorem numsS_ok {b : List UInt8} : ∀ (k : Nat) (s : St), s.ok b → (numsS b k s).2.ok b
  | 0, s, h => h
  | k + 1, s, h => by
    rw [numsS]
    split
    · exact numsS_ok k _ (numS_ok h)
    · exact h
/-- A literal of one number of 64 bits. -/
theorem litN (w : World) (x : Nat) : RowW (w.alloc (.cells #[.int .u64 (x : Int)] 37)) (some ⟨w.heap.size, 0, none⟩) 1 1 1 [nv x] := litW w 37 1 [nv x] rfl
end Go.Proofs.Ytiilgkajijnbcaa
