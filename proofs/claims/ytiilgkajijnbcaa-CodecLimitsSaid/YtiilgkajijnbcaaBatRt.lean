/-
  Batches: reading what was written, writing what was read (chapter 11), on lists. Of no program.
-/
import Derived.Test.YtiilgkajijnbcaaCodecInv
import Derived.Test.YtiilgkajijnbcaaRdBat
import Derived.Test.YtiilgkajijnbcaaBatMem
import Derived.Test.YtiilgkajijnbcaaWrBat
namespace Go.Proofs.Ytiilgkajijnbcaa
set_option linter.unusedVariables false
set_option linter.unusedSimpArgs false

theorem nums_rt (b : List UInt8) : ∀ (is : List Nat) (p : Nat) (rest : List UInt8), (∀ x ∈ is, x < 18446744073709551616) → At b p (bodyI is ++ rest) → ∃ q, numsS b is.length ⟨p, 0⟩ = (is, ⟨q, 0⟩) ∧ At b q rest
  | [], p, rest, _, h => ⟨p, rfl, h⟩
  | x :: is, p, rest, hx, h => by
    have h' : At b p (be64 x ++ (bodyI is ++ rest)) := by
      have : bodyI (x :: is) ++ rest = be64 x ++ (bodyI is ++ rest) := by simp [bodyI]
      rw [← this]
      exact h
    obtain ⟨h1, a1⟩ := h'.num (hx x (by simp))
    obtain ⟨q, h3, a3⟩ := nums_rt b is (p + 8) rest (fun e he' => hx e (by simp [he'])) a1
    exact ⟨q, by rw [List.length_cons, numsS_step rfl h1, h3], a3⟩
theorem let_rt (b : List UInt8) (z : Nat) : ∀ (es : List (List UInt8 × List UInt8)) (p : Nat) (rest : List UInt8), (∀ e ∈ es, e.1.length = 32 ∧ e.2.length = z) → At b p (bodyL es ++ rest) → ∃ q, letsS b z es.length ⟨p, 0⟩ = (es, ⟨q, 0⟩) ∧ At b q rest
  | [], p, rest, _, h => ⟨p, rfl, h⟩
  | e :: es, p, rest, he, h => by
    have h' : At b p (e.1 ++ (e.2 ++ (bodyL es ++ rest))) := by
      have : bodyL (e :: es) ++ rest = e.1 ++ (e.2 ++ (bodyL es ++ rest)) := by simp [bodyL]
      rw [← this]
      exact h
    obtain ⟨h32, hz⟩ := he e (by simp)
    obtain ⟨h1, a1⟩ := h'.take h32
    obtain ⟨h2, a2⟩ := a1.take hz
    have k1 : keyS b ⟨p, 0⟩ = (e.1, ⟨p + 32, 0⟩) := by rw [keyS, h1, padL_full 32 e.1 h32]
    obtain ⟨q, h3, a3⟩ := let_rt b z es (p + 32 + z) rest (fun e he' => he e (by simp [he'])) a2
    exact ⟨q, by rw [List.length_cons, letsS_step rfl k1 h2, h3], a3⟩
/-- A batch is read as it was written. -/
theorem batch_rt (d : BatD) (l : List UInt8) (h : wBatch d = (l, 0)) (hi : ∀ x ∈ d.inner, x < 18446744073709551616) (hl : ∀ e ∈ d.ls, e.1.length = 32) (hr : d.r ≤ 9223372036854775807 ∧ d.ch ≤ 9223372036854775807) : batchS l = (d, 0) := by
  obtain ⟨r, ch, inner, es⟩ := d
  simp only [] at hi hl hr
  unfold wBatch at h
  simp only [] at h
  by_cases h1 : 20 < inner.length ∨ 1000 < es.length
  · rw [if_pos h1] at h
    cases h
  rw [if_neg h1] at h
  by_cases h2 : longL es = true
  · rw [if_pos h2] at h
    cases h
  rw [if_neg h2] at h
  by_cases h0 : r < 0 ∨ ch < 0
  · rw [if_pos h0] at h
    cases h
  rw [if_neg h0] at h
  by_cases h3 : oddL es = true
  · rw [if_pos h3] at h
    cases h
  rw [if_neg h3] at h
  obtain ⟨e, _⟩ := Prod.mk.inj h
  obtain ⟨R, rfl⟩ : ∃ R : Nat, r = (R : Int) := ⟨r.toNat, by omega⟩
  obtain ⟨C, rfl⟩ : ∃ C : Nat, ch = (C : Int) := ⟨ch.toNat, by omega⟩
  simp only [headB, Int.toNat_natCast] at e
  have hlong : ∀ e ∈ es, e.2.length ≤ 1048576 := fun e he => by
    have := List.any_eq_false.1 (Bool.eq_false_iff.2 h2) e he
    simpa using this
  have hodd : ∀ e ∈ es, e.1.length = 32 ∧ e.2.length = sizeL es := fun e he => by
    have := List.any_eq_false.1 (Bool.eq_false_iff.2 h3) e he
    exact ⟨hl e he, by simpa using this⟩
  have hsz : sizeL es ≤ 1048576 := by
    cases es with
    | nil => simp [sizeL]
    | cons e' r => exact hlong e' (by simp)
  have a0 : At l 0 (be64 R ++ (be64 C ++ (be64 inner.length ++ (bodyI inner ++ (be64 es.length ++ (be64 (sizeL es) ++ (bodyL es ++ []))))))) := ⟨Nat.zero_le _, by rw [← e]; simp⟩
  have hR : R ≤ 9223372036854775807 := by omega
  have hC : C ≤ 9223372036854775807 := by omega
  clear hr e
  obtain ⟨g1, a1⟩ := a0.most (m := 9223372036854775807) (by omega) hR
  obtain ⟨g2, a2⟩ := a1.most (m := 9223372036854775807) (by omega) hC
  obtain ⟨g3, a3⟩ := a2.most (m := 20) (by omega) (by omega)
  obtain ⟨q4, g4, a4⟩ := nums_rt _ inner _ _ hi a3
  obtain ⟨g5, a5⟩ := a4.most (m := 1000) (by omega) (by omega)
  obtain ⟨g6, a6⟩ := a5.size (n := es.length) hsz (fun h0 => by rw [List.eq_nil_of_length_eq_zero h0]; rfl)
  obtain ⟨q7, g7, a7⟩ := let_rt _ (sizeL es) es _ [] hodd a6
  have := batchS_eq (⟨R, C, inner.length, inner, es.length, sizeL es, es, _, _, _, _, _, _, _, g1, g2, g3, g4, g5, g6, g7⟩ : BatR l) a7.done
  rw [this, if_pos rfl]
theorem wBatch_err (d : BatD) : (wBatch d).2 < 5 := by
  unfold wBatch
  split
  · show 3 < 5; omega
  · split
    · show 3 < 5; omega
    · split
      · show 1 < 5; omega
      · split
        · show 1 < 5; omega
        · show 0 < 5; omega
section
variable {b : List UInt8}
theorem nums_inv : ∀ (k : Nat) (s t : St) (is : List Nat), numsS b k s = (is, t) → t.e = 0 → s.ok b → s.e = 0 ∧ is.length = k ∧ b.drop s.pos = bodyI is ++ b.drop t.pos ∧ t.pos ≤ b.length
  | 0, s, t, is, h, he, hs => by
    obtain ⟨rfl, rfl⟩ := Prod.mk.inj h
    exact ⟨he, rfl, rfl, hs.1⟩
  | k + 1, s, t, is, h, he, hs => by
    by_cases h0 : s.e = 0
    · obtain ⟨x, s1, h1⟩ := two_of (numS b s)
      obtain ⟨r, u, h3⟩ := two_of (numsS b k s1)
      have o1 : s1.ok b := by have := numS_ok hs; rw [h1] at this; exact this
      rw [numsS_step h0 h1, h3] at h
      obtain ⟨rfl, rfl⟩ := Prod.mk.inj h
      obtain ⟨z2, hl, hd, hp⟩ := nums_inv k s1 u r h3 he o1
      obtain ⟨_, d0, _⟩ := num_inv h1 z2 hs
      refine ⟨h0, by simp [hl], ?_, hp⟩
      rw [d0, hd]
      simp [bodyI]
    · rw [numsS_stop (.inr h0)] at h
      obtain ⟨_, rfl⟩ := Prod.mk.inj h
      exact absurd he h0
theorem let_inv (z : Nat) : ∀ (k : Nat) (s t : St) (es : List (List UInt8 × List UInt8)), letsS b z k s = (es, t) → t.e = 0 → s.ok b → s.e = 0 ∧ es.length = k ∧ (∀ e ∈ es, e.2.length = z) ∧ b.drop s.pos = bodyL es ++ b.drop t.pos ∧ t.pos ≤ b.length
  | 0, s, t, es, h, he, hs => by
    obtain ⟨rfl, rfl⟩ := Prod.mk.inj h
    exact ⟨he, rfl, fun e h => (by cases h), rfl, hs.1⟩
  | k + 1, s, t, es, h, he, hs => by
    by_cases h0 : s.e = 0
    · obtain ⟨u, s1, h1⟩ := two_of (keyS b s)
      obtain ⟨l, s2, h2⟩ := two_of (takeS b z s1)
      obtain ⟨r, v, h3⟩ := two_of (letsS b z k s2)
      have o1 : s1.ok b := by have := keyS_ok hs; rw [h1] at this; exact this
      have o2 : s2.ok b := by have := takeS_ok z o1; rw [h2] at this; exact this
      rw [letsS_step h0 h1 h2, h3] at h
      obtain ⟨rfl, rfl⟩ := Prod.mk.inj h
      obtain ⟨z2, hl, hall, hd, hp⟩ := let_inv z k s2 v r h3 he o2
      obtain ⟨z1, d1, l1, _⟩ := take_inv h2 z2 o1
      obtain ⟨_, d0, _, _⟩ := key_inv h1 z1 hs
      refine ⟨h0, by simp [hl], fun e he' => ?_, ?_, hp⟩
      · rcases List.mem_cons.1 he' with rfl | he'
        · exact l1
        · exact hall e he'
      · rw [d0, d1, hd]
        simp [bodyL]
    · rw [letsS_stop (.inr h0)] at h
      obtain ⟨_, rfl⟩ := Prod.mk.inj h
      exact absurd he h0
/-- A batch that was read is written as it was. -/
theorem batch_wr {d : BatD} (h : batchS b = (d, 0)) : wBatch d = (b, 0) := by
  obtain ⟨r0⟩ := BatR.there b
  obtain ⟨q, h8⟩ : ∃ q, endS b r0.s7 = q := ⟨_, rfl⟩
  rw [batchS_eq r0 h8] at h
  obtain ⟨o1, o2, o3, o4, o5, o6, hr, hch, hN, hm, hz⟩ := r0.ok
  by_cases hq : q = 0
  case neg =>
    rw [if_neg hq] at h
    exact absurd (Prod.mk.inj h).2 hq
  subst hq
  rw [if_pos rfl] at h
  obtain ⟨rfl, _⟩ := Prod.mk.inj h
  obtain ⟨r, ch, N, inner, m, z, ls, s1, s2, s3, s4, s5, s6, s7, h1, h2, h3, h4, h5, h6, h7⟩ := r0
  simp only [] at o1 o2 o3 o4 o5 o6 hr hch hN hm hz h8 ⊢
  by_cases hz7 : s7.e = 0
  case neg => exact absurd h8 (endS_bad hz7)
  obtain ⟨z6, hl7, hall, d7, hp7⟩ := let_inv z m s6 s7 ls h7 hz7 o6
  obtain ⟨_, dE⟩ := end_inv h8 hp7
  obtain ⟨z5, d6, _, hz20, hz0⟩ := size_inv h6 z6 o5
  obtain ⟨z4, d5, _, hm1⟩ := most_inv h5 z5 o4
  obtain ⟨z3, hl4, d4, _⟩ := nums_inv N s3 s4 inner h4 z4 o3
  obtain ⟨z2, d3, _, _⟩ := most_inv h3 z3 o2
  obtain ⟨z1, d2, _, _⟩ := most_inv h2 z2 o1
  obtain ⟨_, d1, _, _⟩ := most_inv h1 z1 (St.start b)
  have hsz : sizeL ls = z := by
    cases ls with
    | nil =>
      have hm0 : m = 0 := by rw [← hl7]; rfl
      rw [hz0 hm0]
      rfl
    | cons e es => exact hall e (by simp)
  have hlong : longL ls = false := by
    rw [longL, List.any_eq_false]
    intro e he
    have := hall e he
    simp
    omega
  have hodd : oddL ls = false := by
    rw [oddL, List.any_eq_false]
    intro e he
    have := hall e he
    rw [hsz]
    simp [this]
  unfold wBatch
  simp only []
  rw [if_neg (by omega), hlong, if_neg (by simp), if_neg (by omega), hodd, if_neg (by simp), hsz, hl7]
  refine Prod.ext ?_ rfl
  refine (show b.drop (⟨0, 0⟩ : St).pos = _ from ?_).symm
  rw [d1, d2, d3, d4, d5, d6, d7, dE]
  simp [headB, hl4]
end
end Go.Proofs.Ytiilgkajijnbcaa
