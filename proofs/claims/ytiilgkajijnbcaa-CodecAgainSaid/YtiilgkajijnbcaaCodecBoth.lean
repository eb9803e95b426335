/-
  What both packages read out of bytes, with the answer named.
-/
import Derived.Test.YtiilgkajijnbcaaCodecLaw
import Derived.Test.YtiilgkajijnbcaaRpSub
import Derived.Test.YtiilgkajijnbcaaRpEnt
import Derived.Test.YtiilgkajijnbcaaRpBat
import Derived.Test.YtiilgkajijnbcaaRdBatch
import Derived.Test.YtiilgkajijnbcaaBatRt
namespace Go.Proofs.Ytiilgkajijnbcaa
open Go.ChangeShapes Go.WideShapes Go.ChangeAt Go.RowKit
set_option linter.unusedVariables false
set_option linter.unusedSimpArgs false

/-! ### Errors are below 5 -/
section
variable {b : List UInt8}
theorem ends_lt {s : St} (h : s.ok b) : endS b s < 5 := by
  unfold endS
  split
  · omega
  · exact h.2
theorem entS_ok (z : Nat) : ∀ (k : Nat) (s : St), s.ok b → (entS b z k s).2.ok b
  | 0, s, h => h
  | k + 1, s, h => by
    rw [entS]
    split
    · exact entS_ok z k _ (takeS_ok z (elemS_ok h))
    · exact h
theorem letsS_ok (z : Nat) : ∀ (k : Nat) (s : St), s.ok b → (letsS b z k s).2.ok b
  | 0, s, h => h
  | k + 1, s, h => by
    rw [letsS]
    split
    · exact letsS_ok z k _ (takeS_ok z (keyS_ok h))
    · exact h
theorem entriesS_err {E : List (Nat × List UInt8)} {k : Nat} (h : entriesS b = (E, k)) : k < 5 := by
  obtain ⟨N, s1, h1⟩ := two_of (mostS b 1000 ⟨0, 0⟩)
  obtain ⟨z, s2, h2⟩ := two_of (sizeS b N s1)
  obtain ⟨es3, s3, h3⟩ := two_of (entS b z N s2)
  obtain ⟨q, h4⟩ : ∃ q, endS b s3 = q := ⟨_, rfl⟩
  have o1 : s1.ok b := by have := mostS_ok 1000 (St.start b); rw [h1] at this; exact this
  have o2 : s2.ok b := by have := sizeS_ok N o1; rw [h2] at this; exact this
  have o3 : s3.ok b := by have := entS_ok z N s2 o2; rw [h3] at this; exact this
  have h5 := ends_lt o3
  rw [h4] at h5
  rw [entriesS_eq h1 h2 h3 h4] at h
  split at h
  · obtain ⟨_, rfl⟩ := Prod.mk.inj h; omega
  · obtain ⟨_, rfl⟩ := Prod.mk.inj h; exact h5
theorem submissionS_err {D : SubD} {k : Nat} (h : submissionS b = (D, k)) : k < 5 := by
  obtain ⟨r, hr⟩ : ∃ r : SubR b, True := ⟨subR b, trivial⟩
  obtain ⟨q, h9⟩ : ∃ q, endS b r.s8 = q := ⟨_, rfl⟩
  have h5 := ends_lt (b := b) r.ok.2.2.2.2.2.2.2.1
  rw [h9] at h5
  rw [submissionS_eq r h9] at h
  split at h
  · obtain ⟨_, rfl⟩ := Prod.mk.inj h; omega
  · obtain ⟨_, rfl⟩ := Prod.mk.inj h; exact h5
theorem batchS_err {D : BatD} {k : Nat} (h : batchS b = (D, k)) : k < 5 := by
  obtain ⟨r0⟩ := BatR.there b
  obtain ⟨q, h8⟩ : ∃ q, endS b r0.s7 = q := ⟨_, rfl⟩
  have o7 : r0.s7.ok b := by have := letsS_ok r0.z r0.m r0.s6 r0.ok.2.2.2.2.2.1; rw [r0.h7] at this; exact this
  have h5 := ends_lt o7
  rw [h8] at h5
  rw [batchS_eq r0 h8] at h
  split at h
  · obtain ⟨_, rfl⟩ := Prod.mk.inj h; omega
  · obtain ⟨_, rfl⟩ := Prod.mk.inj h; exact h5
theorem noteS_err {D : Nat × Nat × List UInt8} {k : Nat} (h : noteS b = (D, k)) : k < 5 := by
  have o3 : (takeS b 32 (numS b (numS b ⟨0, 0⟩).2).2).2.ok b := takeS_ok 32 (numS_ok (numS_ok (St.start b)))
  have h5 := ends_lt o3
  unfold noteS at h
  split at h
  · obtain ⟨_, rfl⟩ := Prod.mk.inj h; omega
  · obtain ⟨_, rfl⟩ := Prod.mk.inj h; exact h5
theorem noteS_ok {x y : Nat} {l : List UInt8} {k : Nat} (h : noteS b = ((x, y, l), k)) : x < 18446744073709551616 ∧ y < 18446744073709551616 ∧ l.length = 32 := by
  unfold noteS at h
  have h1 := numS_lt b ⟨0, 0⟩
  have h2 := numS_lt b (numS b ⟨0, 0⟩).2
  have h3 := keyS_len b (numS b (numS b ⟨0, 0⟩).2).2
  split at h
  · obtain ⟨e, _⟩ := Prod.mk.inj h
    obtain ⟨e1, e⟩ := Prod.mk.inj e
    obtain ⟨e2, e3⟩ := Prod.mk.inj e
    exact ⟨e1 ▸ h1, e2 ▸ h2, e3 ▸ h3⟩
  · obtain ⟨e, _⟩ := Prod.mk.inj h
    obtain ⟨e1, e⟩ := Prod.mk.inj e
    obtain ⟨e2, e3⟩ := Prod.mk.inj e
    exact ⟨by omega, by omega, by rw [← e3]; rfl⟩
end

/-! ### The answers named -/
section
variable {A : Option Addr} {n c : Nat} {b : List UInt8} {w : World}
theorem progEnt {E : List (Nat × List UInt8)} {k : Nat} (h : entriesS b = (E, k)) (hb : Bytes w A n c b) :
    Calls Try.prog 15 #[.slice A n c] w fun e w' => ∃ A' m c' es, e = .returned (.tuple #[.slice A' m c', .int .i64 (k : Int)]) ∧ es.map Ent.data = E ∧ Entries w' A' m c' es ∧ Below w.heap.size w w' :=
  (progReadEntries' A n c b w hb).mono fun e w' ⟨A', m, c', es, k', he, hs, h1, h2⟩ => by
    rw [h] at hs
    obtain ⟨e1, e2⟩ := Prod.mk.inj hs
    exact ⟨A', m, c', es, by rw [he, e2], e1.symm, h1, h2⟩
theorem refEnt {E : List (Nat × List UInt8)} {k : Nat} (h : entriesS b = (E, k)) (hb : Bytes w A n c b) :
    Calls Try.prog 26 #[.slice A n c] w fun e w' => ∃ A' m c' es, e = .returned (.tuple #[.slice A' m c', .int .i64 (k : Int)]) ∧ es.map Ent.data = E ∧ Entries w' A' m c' es ∧ Below w.heap.size w w' :=
  (refReadEntries' A n c b w hb).mono fun e w' ⟨A', m, c', es, k', he, hs, h1, h2⟩ => by
    rw [h] at hs
    obtain ⟨e1, e2⟩ := Prod.mk.inj hs
    exact ⟨A', m, c', es, by rw [he, e2], e1.symm, h1, h2⟩
theorem progSub {D : SubD} {k : Nat} (h : submissionS b = (D, k)) (hb : Bytes w A n c b) :
    Calls Try.prog 19 #[.slice A n c] w fun e w' => ∃ A' m c', e = .returned (.tuple #[.agg (scells D.u D.x A' m c' D.pc D.ps D.sc D.ss).toArray, .int .i64 (k : Int)]) ∧ Bytes w' A' m c' D.l ∧ D.ok ∧ Below w.heap.size w w' :=
  (progReadSubmission' A n c b w hb).mono fun e w' ⟨d, A', m, c', k', he, hs, h1, h2, h3⟩ => by
    rw [h] at hs
    obtain ⟨e1, e2⟩ := Prod.mk.inj hs
    subst e1 e2
    exact ⟨A', m, c', he, h1, h2, h3⟩
theorem refSub {D : SubD} {k : Nat} (h : submissionS b = (D, k)) (hb : Bytes w A n c b) :
    Calls Try.prog 27 #[.slice A n c] w fun e w' => ∃ A' m c', e = .returned (.tuple #[.agg (scells D.u D.x A' m c' D.pc D.ps D.sc D.ss).toArray, .int .i64 (k : Int)]) ∧ Bytes w' A' m c' D.l ∧ D.ok ∧ Below w.heap.size w w' :=
  (refReadSubmission' A n c b w hb).mono fun e w' ⟨d, A', m, c', k', he, hs, h1, h2, h3⟩ => by
    rw [h] at hs
    obtain ⟨e1, e2⟩ := Prod.mk.inj hs
    subst e1 e2
    exact ⟨A', m, c', he, h1, h2, h3⟩
theorem progBat {D : BatD} {k : Nat} (h : batchS b = (D, k)) (hb : Bytes w A n c b) :
    Calls Try.prog 24 #[.slice A n c] w fun e w' => ∃ Ai ni ci Al nl cl es, e = .returned (.tuple #[.agg (bcells D.r D.ch Ai ni ci Al nl cl).toArray, .int .i64 (k : Int)]) ∧ Nums w' Ai ni ci D.inner ∧ Letters w' Al nl cl es ∧ D.ls = es.map Let.data ∧ D.ok ∧ Below w.heap.size w w' :=
  (progReadBatch' A n c b w hb).mono fun e w' ⟨d, Ai, ni, ci, Al, nl, cl, es, k', he, hs, h1, h2, h3, h4, h5⟩ => by
    rw [h] at hs
    obtain ⟨e1, e2⟩ := Prod.mk.inj hs
    subst e1 e2
    exact ⟨Ai, ni, ci, Al, nl, cl, es, he, h1, h2, h3, h4, h5⟩
theorem refBat {D : BatD} {k : Nat} (h : batchS b = (D, k)) (hb : Bytes w A n c b) :
    Calls Try.prog 28 #[.slice A n c] w fun e w' => ∃ Ai ni ci Al nl cl es, e = .returned (.tuple #[.agg (bcells D.r D.ch Ai ni ci Al nl cl).toArray, .int .i64 (k : Int)]) ∧ Nums w' Ai ni ci D.inner ∧ Letters w' Al nl cl es ∧ D.ls = es.map Let.data ∧ D.ok ∧ Below w.heap.size w w' :=
  (refReadBatch' A n c b w hb).mono fun e w' ⟨d, Ai, ni, ci, Al, nl, cl, es, k', he, hs, h1, h2, h3, h4, h5⟩ => by
    rw [h] at hs
    obtain ⟨e1, e2⟩ := Prod.mk.inj hs
    subst e1 e2
    exact ⟨Ai, ni, ci, Al, nl, cl, es, he, h1, h2, h3, h4, h5⟩
end
end Go.Proofs.Ytiilgkajijnbcaa
