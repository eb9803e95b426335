/-
  Writing what was read (chapter 11), on lists. Of no program.
-/
import Derived.Test.YtiilgkajijnbcaaCodecRt
import Derived.Test.YtiilgkajijnbcaaSubOpen
namespace Go.Proofs.Ytiilgkajijnbcaa
set_option linter.unusedVariables false
set_option linter.unusedSimpArgs false

theorem be_inj : ∀ (n : Nat) (l l' : List UInt8), l.length = n → l'.length = n → be l = be l' → l = l'
  | 0, l, l', h, h', _ => by rw [List.eq_nil_of_length_eq_zero h, List.eq_nil_of_length_eq_zero h']
  | n + 1, l, l', h, h', hb => by
    obtain ⟨r, c, rfl⟩ : ∃ r c, l = r ++ [c] := ⟨l.dropLast, l.getLast (by intro e; rw [e] at h; cases h), (List.dropLast_concat_getLast _).symm⟩
    obtain ⟨q, d, rfl⟩ : ∃ r c, l' = r ++ [c] := ⟨l'.dropLast, l'.getLast (by intro e; rw [e] at h'; cases h'), (List.dropLast_concat_getLast _).symm⟩
    rw [be_snoc, be_snoc] at hb
    have hc := c.toNat_lt
    have hd := d.toNat_lt
    have h1 : be r = be q := by omega
    have h2 : c.toNat = d.toNat := by omega
    rw [be_inj n r q (by simpa using h) (by simpa using h') h1, UInt8.toNat_inj.1 h2]
theorem be64_be (l : List UInt8) (h : l.length = 8) : be64 (be l) = l := by
  refine be_inj 8 _ _ (be64_len _) h ?_
  have := be_lt l
  rw [h] at this
  exact be_be64 _ (by omega)
section
variable {b : List UInt8}
theorem takeS_stick {n : Nat} {s : St} (h : (takeS b n s).2.e = 0) : s.e = 0 := by
  unfold takeS at h
  split at h
  · next h0 => exact h0
  · exact h
theorem take_inv {n : Nat} {s t : St} {l : List UInt8} (h : takeS b n s = (l, t)) (he : t.e = 0) (hs : s.ok b) : s.e = 0 ∧ b.drop s.pos = l ++ b.drop t.pos ∧ l.length = n ∧ t.pos ≤ b.length := by
  have h0 : s.e = 0 := takeS_stick (b := b) (n := n) (by rw [h]; exact he)
  unfold takeS at h
  rw [if_pos h0] at h
  by_cases h1 : b.length < s.pos + n
  · rw [if_pos h1] at h
    cases h
    cases he
  · rw [if_neg h1] at h
    cases h
    refine ⟨h0, ?_, by simp; omega, by show s.pos + n ≤ b.length; omega⟩
    show b.drop s.pos = (b.drop s.pos).take n ++ b.drop (s.pos + n)
    rw [← List.drop_drop, List.take_append_drop]
theorem num_inv {s t : St} {x : Nat} (h : numS b s = (x, t)) (he : t.e = 0) (hs : s.ok b) : s.e = 0 ∧ b.drop s.pos = be64 x ++ b.drop t.pos ∧ t.pos ≤ b.length := by
  obtain ⟨l, s1, ht⟩ : ∃ l s1, takeS b 8 s = (l, s1) := ⟨_, _, rfl⟩
  unfold numS at h
  rw [ht] at h
  obtain ⟨h1, rfl⟩ := Prod.mk.inj h
  have h1' : (if s1.e = 0 then be l else 0) = x := h1
  rw [if_pos he] at h1'
  obtain ⟨a, c, d, e⟩ := take_inv ht he hs
  exact ⟨a, by rw [← h1', be64_be l d]; exact c, e⟩
theorem failS_bad (k : Nat) (hk : k ≠ 0) (s : St) : (failS k s).e ≠ 0 := by
  unfold failS
  split
  · exact hk
  · assumption
theorem most_inv {s t : St} {m x : Nat} (h : mostS b m s = (x, t)) (he : t.e = 0) (hs : s.ok b) : s.e = 0 ∧ b.drop s.pos = be64 x ++ b.drop t.pos ∧ t.pos ≤ b.length ∧ x ≤ m := by
  obtain ⟨y, s1, ht⟩ : ∃ l s1, numS b s = (l, s1) := ⟨_, _, rfl⟩
  by_cases h0 : m < y
  · rw [mostS_big ht h0] at h
    cases h
    exact absurd he (failS_bad 2 (by decide) s1)
  · rw [mostS_small ht h0] at h
    cases h
    obtain ⟨a, c, d⟩ := num_inv ht he hs
    exact ⟨a, c, d, by omega⟩
theorem elem_inv {s t : St} {x : Nat} (h : elemS b s = (x, t)) (he : t.e = 0) (hs : s.ok b) : s.e = 0 ∧ b.drop s.pos = be64 x ++ b.drop t.pos ∧ t.pos ≤ b.length ∧ rightN x := by
  obtain ⟨y, s1, ht⟩ : ∃ l s1, numS b s = (l, s1) := ⟨_, _, rfl⟩
  unfold elemS at h
  rw [ht] at h
  obtain ⟨rfl, h1⟩ := Prod.mk.inj h
  have h1' : (if s1.e = 0 ∧ ¬ rightN y then failS 2 s1 else s1) = t := h1
  by_cases h2 : s1.e = 0 ∧ ¬ rightN y
  · rw [if_pos h2] at h1'
    exact absurd (h1' ▸ he) (failS_bad 2 (by decide) s1)
  · rw [if_neg h2] at h1'
    subst h1'
    obtain ⟨a, c, d⟩ := num_inv ht he hs
    exact ⟨a, c, d, Decidable.byContradiction fun hr => h2 ⟨he, hr⟩⟩
theorem size_inv {s t : St} {n x : Nat} (h : sizeS b n s = (x, t)) (he : t.e = 0) (hs : s.ok b) : s.e = 0 ∧ b.drop s.pos = be64 x ++ b.drop t.pos ∧ t.pos ≤ b.length ∧ x ≤ 1048576 ∧ (n = 0 → x = 0) := by
  obtain ⟨y, s1, ht⟩ : ∃ l s1, mostS b 1048576 s = (l, s1) := ⟨_, _, rfl⟩
  unfold sizeS at h
  rw [ht] at h
  obtain ⟨rfl, h1⟩ := Prod.mk.inj h
  have h1' : (if n = 0 ∧ y ≠ 0 then failS 2 s1 else s1) = t := h1
  by_cases h2 : n = 0 ∧ y ≠ 0
  · rw [if_pos h2] at h1'
    exact absurd (h1' ▸ he) (failS_bad 2 (by decide) s1)
  · rw [if_neg h2] at h1'
    subst h1'
    obtain ⟨a, c, d, f⟩ := most_inv ht he hs
    exact ⟨a, c, d, f, fun h0 => Decidable.byContradiction fun hy => h2 ⟨h0, hy⟩⟩
theorem key_inv {s t : St} {u : List UInt8} (h : keyS b s = (u, t)) (he : t.e = 0) (hs : s.ok b) : s.e = 0 ∧ b.drop s.pos = u ++ b.drop t.pos ∧ t.pos ≤ b.length ∧ u.length = 32 := by
  obtain ⟨l, s1, ht⟩ : ∃ l s1, takeS b 32 s = (l, s1) := ⟨_, _, rfl⟩
  unfold keyS at h
  rw [ht] at h
  obtain ⟨h1, rfl⟩ := Prod.mk.inj h
  obtain ⟨a, c, d, e⟩ := take_inv ht he hs
  have h1' : padL 32 l = u := h1
  rw [padL_full 32 l d] at h1'
  subst h1'
  exact ⟨a, c, e, d⟩
theorem end_inv {s : St} (h : endS b s = 0) (hp : s.pos ≤ b.length) : s.e = 0 ∧ b.drop s.pos = [] := by
  unfold endS at h
  by_cases h1 : s.e = 0 ∧ s.pos ≠ b.length
  · rw [if_pos h1] at h
    cases h
  · rw [if_neg h1] at h
    have h2 : s.pos = b.length := Decidable.byContradiction fun hn => h1 ⟨h, hn⟩
    exact ⟨h, by rw [h2, List.drop_length]⟩
theorem endS_bad {s : St} (h : s.e ≠ 0) : endS b s ≠ 0 := by
  unfold endS
  rw [if_neg (fun h' => h h'.1)]
  exact h
/-- A note that was read is written as it was. -/
theorem note_wr {x y : Nat} {l : List UInt8} (h : noteS b = ((x, y, l), 0)) : wNote x y l = b := by
  obtain ⟨x1, s1, h1⟩ : ∃ x s, numS b ⟨0, 0⟩ = (x, s) := ⟨_, _, rfl⟩
  obtain ⟨x2, s2, h2⟩ : ∃ x s, numS b s1 = (x, s) := ⟨_, _, rfl⟩
  obtain ⟨t, s3, h3⟩ : ∃ x s, takeS b 32 s2 = (x, s) := ⟨_, _, rfl⟩
  obtain ⟨q, h4⟩ : ∃ q, endS b s3 = q := ⟨_, rfl⟩
  have o0 := St.start b
  have o1 : s1.ok b := by have := numS_ok o0; rw [h1] at this; exact this
  have o2 : s2.ok b := by have := numS_ok o1; rw [h2] at this; exact this
  have o3 : s3.ok b := by have := takeS_ok 32 o2; rw [h3] at this; exact this
  rw [noteS, h1] at h
  simp only [] at h
  rw [h2] at h
  simp only [] at h
  rw [h3] at h
  simp only [] at h
  rw [h4] at h
  by_cases hq : q = 0
  case neg =>
    rw [if_neg hq] at h
    exact absurd (Prod.mk.inj h).2 hq
  subst hq
  rw [if_pos rfl] at h
  obtain ⟨e1, _⟩ := Prod.mk.inj h
  obtain ⟨rfl, e2⟩ := Prod.mk.inj e1
  obtain ⟨rfl, rfl⟩ := Prod.mk.inj e2
  obtain ⟨z3, d3⟩ := end_inv h4 o3.1
  obtain ⟨z2, d2, l2, _⟩ := take_inv h3 z3 o2
  obtain ⟨z1, d1, _⟩ := num_inv h2 z2 o1
  obtain ⟨_, d0, _⟩ := num_inv h1 z1 o0
  rw [wNote, padL_full 32 t l2, ← List.drop_zero (l := b)]
  show _ = b.drop 0
  rw [show b.drop 0 = b.drop (⟨0, 0⟩ : St).pos from rfl, d0, d1, d2, d3]
  simp
/-- A submission that was read is written as it was. -/
theorem sub_wr {d : SubD} (h : submissionS b = (d, 0)) : wSub d = (b, 0) := by
  obtain ⟨r, hr⟩ : ∃ r : SubR b, True := ⟨subR b, trivial⟩
  obtain ⟨q, h9⟩ : ∃ q, endS b r.s8 = q := ⟨_, rfl⟩
  rw [submissionS_eq r h9] at h
  obtain ⟨o1, o2, o3, o4, o5, o6, o7, o8, hul, hn20, _⟩ := r.ok
  by_cases hq : q = 0
  case neg =>
    rw [if_neg hq] at h
    exact absurd (Prod.mk.inj h).2 hq
  subst hq
  rw [if_pos rfl] at h
  obtain ⟨rfl, _⟩ := Prod.mk.inj h
  obtain ⟨z8, d8⟩ := end_inv h9 o8.1
  obtain ⟨z7, d7, _⟩ := num_inv r.h8 z8 o7
  obtain ⟨z6, d6, _⟩ := num_inv r.h7 z7 o6
  obtain ⟨z5, d5, _⟩ := num_inv r.h6 z6 o5
  obtain ⟨z4, d4, _⟩ := num_inv r.h5 z5 o4
  obtain ⟨z3, d3, l3, _⟩ := take_inv r.h4 z4 o3
  obtain ⟨z2, d2, _, _⟩ := most_inv r.h3 z3 o2
  obtain ⟨z1, d1, _, hR⟩ := elem_inv r.h2 z2 o1
  obtain ⟨_, d0, _, _⟩ := key_inv r.h1 z1 (St.start b)
  rw [wSub, if_neg (by show ¬ 1048576 < r.l.length; omega), if_pos hR]
  refine Prod.ext ?_ rfl
  refine (show b.drop (⟨0, 0⟩ : St).pos = bodySub _ from ?_).symm
  rw [d0, d1, d2, d3, d4, d5, d6, d7, d8, bodySub]
  simp [l3]
theorem ent_inv (z : Nat) : ∀ (k : Nat) (s t : St) (es : List (Nat × List UInt8)), entS b z k s = (es, t) → t.e = 0 → s.ok b → s.e = 0 ∧ es.length = k ∧ (∀ e ∈ es, e.2.length = z ∧ rightN e.1) ∧ b.drop s.pos = bodyE es ++ b.drop t.pos ∧ t.pos ≤ b.length
  | 0, s, t, es, h, he, hs => by
    obtain ⟨rfl, rfl⟩ := Prod.mk.inj h
    exact ⟨he, rfl, fun e h => (by cases h), rfl, hs.1⟩
  | k + 1, s, t, es, h, he, hs => by
    by_cases h0 : s.e = 0
    · obtain ⟨x, s1, h1⟩ : ∃ x s', elemS b s = (x, s') := ⟨_, _, rfl⟩
      obtain ⟨l, s2, h2⟩ : ∃ x s', takeS b z s1 = (x, s') := ⟨_, _, rfl⟩
      obtain ⟨r, u, h3⟩ : ∃ r u, entS b z k s2 = (r, u) := ⟨_, _, rfl⟩
      have o1 : s1.ok b := by have := elemS_ok hs; rw [h1] at this; exact this
      have o2 : s2.ok b := by have := takeS_ok z o1; rw [h2] at this; exact this
      rw [entS_step h0 h1 h2, h3] at h
      obtain ⟨rfl, rfl⟩ := Prod.mk.inj h
      obtain ⟨z2, hl, hall, hd, hp⟩ := ent_inv z k s2 u r h3 he o2
      obtain ⟨z1, d1, l1, _⟩ := take_inv h2 z2 o1
      obtain ⟨_, d0, _, hr⟩ := elem_inv h1 z1 hs
      refine ⟨h0, by simp [hl], fun e he' => ?_, ?_, hp⟩
      · rcases List.mem_cons.1 he' with rfl | he'
        · exact ⟨l1, hr⟩
        · exact hall e he'
      · rw [d0, d1, hd]
        simp [bodyE]
    · rw [entS_stop (.inr h0)] at h
      obtain ⟨_, rfl⟩ := Prod.mk.inj h
      exact absurd he h0
/-- Entries that were read are written as they were. -/
theorem entries_wr {es : List (Nat × List UInt8)} (h : entriesS b = (es, 0)) : wEntries es = (b, 0) := by
  obtain ⟨N, s1, h1⟩ : ∃ x s, mostS b 1000 ⟨0, 0⟩ = (x, s) := ⟨_, _, rfl⟩
  obtain ⟨z, s2, h2⟩ : ∃ x s, sizeS b N s1 = (x, s) := ⟨_, _, rfl⟩
  obtain ⟨r, s3, h3⟩ : ∃ x s, entS b z N s2 = (x, s) := ⟨_, _, rfl⟩
  obtain ⟨q, h4⟩ : ∃ q, endS b s3 = q := ⟨_, rfl⟩
  rw [entriesS_eq h1 h2 h3 h4] at h
  by_cases hq : q = 0
  case neg =>
    rw [if_neg hq] at h
    exact absurd (Prod.mk.inj h).2 hq
  subst hq
  rw [if_pos rfl] at h
  obtain ⟨rfl, _⟩ := Prod.mk.inj h
  have o0 := St.start b
  have o1 : s1.ok b := by have := mostS_ok 1000 o0; rw [h1] at this; exact this
  have o2 : s2.ok b := by have := sizeS_ok N o1; rw [h2] at this; exact this
  by_cases hz3 : s3.e = 0
  case neg => exact absurd h4 (endS_bad hz3)
  obtain ⟨z2, hl, hall, hd, hp3⟩ := ent_inv z N s2 s3 r h3 hz3 o2
  obtain ⟨_, d3⟩ := end_inv h4 hp3
  obtain ⟨z1, d1, _, hz20, hz0⟩ := size_inv h2 z2 o1
  obtain ⟨_, d0, _, hN⟩ := most_inv h1 z1 o0
  have hsz : sizeN r = z := by
    cases r with
    | nil =>
      have hN0 : N = 0 := by rw [← hl]; rfl
      rw [hz0 hN0]
      rfl
    | cons e es => exact (hall e (by simp)).1
  have hlong : longE r = false := by
    rw [longE, List.any_eq_false]
    intro e he
    have := (hall e he).1
    simp
    omega
  have hodd : oddE r = false := by
    rw [oddE, List.any_eq_false]
    intro e he
    have := hall e he
    rw [hsz]
    simp [this.1, this.2]
  rw [wEntries, if_neg (by omega), hlong, if_neg (by simp), hodd, if_neg (by simp), hsz, hl]
  refine Prod.ext ?_ rfl
  refine (show b.drop (⟨0, 0⟩ : St).pos = (be64 N ++ be64 z) ++ bodyE r from ?_).symm
  rw [d0, d1, hd, d3]
  simp
end
end Go.Proofs.Ytiilgkajijnbcaa
