/-
  Reading what was written, and writing what was read (chapter 11), on lists. Of no program.
-/
import Derived.Test.YtiilgkajijnbcaaRdSpec
import Derived.Test.YtiilgkajijnbcaaLow
import Derived.Test.YtiilgkajijnbcaaRdEnt
import Derived.Test.YtiilgkajijnbcaaWrEnt
import Derived.Test.YtiilgkajijnbcaaWrNote
namespace Go.Proofs.Ytiilgkajijnbcaa
set_option linter.unusedVariables false
set_option linter.unusedSimpArgs false

/-- From place p on, b is l. -/
def At (b : List UInt8) (p : Nat) (l : List UInt8) : Prop := p ≤ b.length ∧ b.drop p = l
theorem At.start (b : List UInt8) : At b 0 b := ⟨Nat.zero_le _, rfl⟩
theorem At.take {b l rest : List UInt8} {p n : Nat} (h : At b p (l ++ rest)) (hn : l.length = n) : takeS b n ⟨p, 0⟩ = (l, ⟨p + n, 0⟩) ∧ At b (p + n) rest := by
  obtain ⟨h1, h2⟩ := h
  have h3 : b.length - p = l.length + rest.length := by rw [← List.length_drop, h2, List.length_append]
  unfold takeS
  rw [if_pos rfl, if_neg (by show ¬ b.length < p + n; omega)]
  refine ⟨by rw [h2, ← hn, List.take_left], by omega, ?_⟩
  rw [← List.drop_drop, h2, ← hn, List.drop_left]
theorem At.num {b rest : List UInt8} {p x : Nat} (h : At b p (be64 x ++ rest)) (hx : x < 18446744073709551616) : numS b ⟨p, 0⟩ = (x, ⟨p + 8, 0⟩) ∧ At b (p + 8) rest := by
  obtain ⟨h1, h2⟩ := h.take (be64_len x)
  refine ⟨?_, h2⟩
  rw [numS_good h1 rfl, be_be64 x hx]
theorem At.most {b rest : List UInt8} {p x m : Nat} (h : At b p (be64 x ++ rest)) (hx : x < 18446744073709551616) (hm : x ≤ m) : mostS b m ⟨p, 0⟩ = (x, ⟨p + 8, 0⟩) ∧ At b (p + 8) rest := by
  obtain ⟨h1, h2⟩ := h.num hx
  exact ⟨by rw [mostS_small h1 (by omega)], h2⟩
theorem At.elem {b rest : List UInt8} {p x : Nat} (h : At b p (be64 x ++ rest)) (hx : rightN x) : elemS b ⟨p, 0⟩ = (x, ⟨p + 8, 0⟩) ∧ At b (p + 8) rest := by
  obtain ⟨h1, h2⟩ := h.num (by have := hx.2; omega)
  refine ⟨?_, h2⟩
  rw [elemS, h1]
  simp only []
  rw [if_neg (fun h => h.2 hx)]
theorem At.size {b rest : List UInt8} {p x n : Nat} (h : At b p (be64 x ++ rest)) (hx : x ≤ 1048576) (hn : n = 0 → x = 0) : sizeS b n ⟨p, 0⟩ = (x, ⟨p + 8, 0⟩) ∧ At b (p + 8) rest := by
  obtain ⟨h1, h2⟩ := h.most (m := 1048576) (by omega) hx
  refine ⟨?_, h2⟩
  rw [sizeS, h1]
  simp only []
  rw [if_neg (fun h => h.2 (hn h.1))]
theorem At.done {b : List UInt8} {p : Nat} (h : At b p []) : endS b ⟨p, 0⟩ = 0 := by
  obtain ⟨h1, h2⟩ := h
  have h3 : b.length - p = 0 := by rw [← List.length_drop, h2]; rfl
  rw [endS, if_neg (fun h => h.2 (by show p = b.length; omega))]
theorem padL_full (n : Nat) (l : List UInt8) (h : l.length = n) : padL n l = l := by
  rw [padL, h, Nat.sub_self]
  simp
/-- A note is read as it was written. -/
theorem note_rt (x y : Nat) (l : List UInt8) (hx : x < 18446744073709551616) (hy : y < 18446744073709551616) (hl : l.length = 32) : noteS (wNote x y l) = ((x, y, l), 0) := by
  have a0 : At (wNote x y l) 0 (be64 x ++ (be64 y ++ (l ++ []))) := ⟨Nat.zero_le _, by simp [wNote]⟩
  obtain ⟨h1, a1⟩ := a0.num hx
  obtain ⟨h2, a2⟩ := a1.num hy
  obtain ⟨h3, a3⟩ := a2.take hl
  have h4 := a3.done
  rw [noteS, h1]
  simp only []
  rw [h2]
  simp only []
  rw [h3]
  simp only []
  rw [h4, if_pos rfl, padL_full 32 l hl]
theorem ent_rt (b : List UInt8) (z : Nat) : ∀ (es : List (Nat × List UInt8)) (p : Nat) (rest : List UInt8), (∀ e ∈ es, e.2.length = z ∧ rightN e.1) → At b p (bodyE es ++ rest) → ∃ q, entS b z es.length ⟨p, 0⟩ = (es, ⟨q, 0⟩) ∧ At b q rest
  | [], p, rest, _, h => ⟨p, rfl, h⟩
  | e :: es, p, rest, he, h => by
    have h' : At b p (be64 e.1 ++ (e.2 ++ (bodyE es ++ rest))) := by
      have : bodyE (e :: es) ++ rest = be64 e.1 ++ (e.2 ++ (bodyE es ++ rest)) := by simp [bodyE]
      rw [← this]
      exact h
    obtain ⟨hz, hr⟩ := he e (by simp)
    obtain ⟨h1, a1⟩ := h'.elem hr
    obtain ⟨h2, a2⟩ := a1.take hz
    obtain ⟨q, h3, a3⟩ := ent_rt b z es (p + 8 + z) rest (fun e he' => he e (by simp [he'])) a2
    exact ⟨q, by rw [List.length_cons, entS_step rfl h1 h2, h3], a3⟩
/-- Entries are read as they were written. -/
theorem entries_rt (es : List (Nat × List UInt8)) (l : List UInt8) (h : wEntries es = (l, 0)) : entriesS l = (es, 0) := by
  unfold wEntries at h
  by_cases h1 : 1000 < es.length
  · rw [if_pos h1] at h
    cases h
  rw [if_neg h1] at h
  by_cases h2 : longE es = true
  · rw [if_pos h2] at h
    cases h
  rw [if_neg h2] at h
  by_cases h3 : oddE es = true
  · rw [if_pos h3] at h
    cases h
  rw [if_neg h3] at h
  obtain ⟨rfl, _⟩ := Prod.mk.inj h
  have hlong : ∀ e ∈ es, e.2.length ≤ 1048576 := fun e he => by
    have := List.any_eq_false.1 (Bool.eq_false_iff.2 h2) e he
    simpa using this
  have hodd : ∀ e ∈ es, e.2.length = sizeN es ∧ rightN e.1 := fun e he => by
    have := List.any_eq_false.1 (Bool.eq_false_iff.2 h3) e he
    simpa using this
  have hsz : sizeN es ≤ 1048576 := by
    cases es with
    | nil => simp [sizeN]
    | cons e r => exact hlong e (by simp)
  have a0 : At ((be64 es.length ++ be64 (sizeN es)) ++ bodyE es) 0 (be64 es.length ++ (be64 (sizeN es) ++ (bodyE es ++ []))) := ⟨Nat.zero_le _, by simp⟩
  obtain ⟨g1, a1⟩ := a0.most (m := 1000) (by omega) (by omega)
  obtain ⟨g2, a2⟩ := a1.size (n := es.length) hsz (fun h0 => by rw [List.eq_nil_of_length_eq_zero h0]; rfl)
  obtain ⟨q, g3, a3⟩ := ent_rt _ (sizeN es) es _ [] hodd a2
  rw [entriesS_eq g1 g2 g3 a3.done, if_pos rfl]
end Go.Proofs.Ytiilgkajijnbcaa
