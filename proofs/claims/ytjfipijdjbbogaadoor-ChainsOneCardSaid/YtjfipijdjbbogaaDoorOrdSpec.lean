/-
  Chapter 13 on lists: orders, what is back to an order, what a stream makes of a number.
-/
import Derived.Test.YtjfipijdjbbogaaDoorBeaconSpec
namespace Go.Proofs.YtjfipijdjbbogaaDoor
open Go.ChangeShapes Go.WideShapes Go.ChangeAt Go.RowKit
set_option linter.unusedVariables false
set_option linter.unusedSimpArgs false

/-! ### Which lists are orders -/
/-- All below m, and none twice. -/
def goodL (ls : List Int) (m : Nat) : Prop := (∀ x ∈ ls, 0 ≤ x ∧ x < (m : Int)) ∧ ls.Nodup
instance (ls : List Int) (m : Nat) : Decidable (goodL ls m) := by unfold goodL; infer_instance
def rightB (ls : List Int) : Bool := decide (goodL ls ls.length)
theorem goodL_nil (m : Nat) : goodL [] m := ⟨fun x h => absurd h (by simp), List.nodup_nil⟩
theorem take_snoc (ls : List Int) (i : Nat) (h : i < ls.length) : ls.take (i + 1) = ls.take i ++ [ls.getD i 0] := by
  rw [List.take_succ_eq_append_getElem h, List.getD_eq_getElem?_getD, List.getElem?_eq_getElem h]
  rfl
theorem goodL_snoc {ls : List Int} {m : Nat} {x : Int} (h : goodL ls m) (h0 : 0 ≤ x) (h1 : x < (m : Int)) (h2 : x ∉ ls) : goodL (ls ++ [x]) m := by
  refine ⟨fun y hy => ?_, ?_⟩
  · rcases List.mem_append.1 hy with hy | hy
    · exact h.1 y hy
    · rw [List.mem_singleton.1 hy]; exact ⟨h0, h1⟩
  · rw [List.nodup_append]
    refine ⟨h.2, by simp, fun a ha b hb e => ?_⟩
    rw [List.mem_singleton.1 hb] at e
    exact h2 (e ▸ ha)
theorem getD_mem (ls : List Int) (i : Nat) (h : i < ls.length) : ls.getD i 0 ∈ ls := by
  rw [List.getD_eq_getElem?_getD, List.getElem?_eq_getElem h]
  exact List.getElem_mem h
theorem rightB_low {ls : List Int} {i : Nat} (h : i < ls.length) (hx : ls.getD i 0 < 0) : rightB ls = false := by
  refine decide_eq_false fun g => ?_
  have := (g.1 _ (getD_mem ls i h)).1
  omega
theorem rightB_high {ls : List Int} {i : Nat} (h : i < ls.length) (hx : (ls.length : Int) ≤ ls.getD i 0) : rightB ls = false := by
  refine decide_eq_false fun g => ?_
  have := (g.1 _ (getD_mem ls i h)).2
  omega
theorem rightB_twice {ls : List Int} {i : Nat} (h : i < ls.length) (hx : ls.getD i 0 ∈ ls.take i) : rightB ls = false := by
  refine decide_eq_false fun g => ?_
  have h1 : (ls.take (i + 1)).Nodup := List.Nodup.sublist (List.take_sublist _ _) g.2
  rw [take_snoc ls i h, List.nodup_append] at h1
  exact h1.2.2 _ hx _ (List.mem_singleton.2 rfl) rfl
theorem rightB_all {ls : List Int} {n : Nat} (hl : ls.length = n) (h : goodL (ls.take n) n) : rightB ls = true := by
  rw [List.take_of_length_le (by omega)] at h
  rw [rightB, hl]
  exact decide_eq_true h
theorem goodL_of_right {ls : List Int} (h : rightB ls = true) : goodL ls ls.length := of_decide_eq_true h

/-! ### What is back to an order -/
def invK (ls : List Int) (n : Nat) : Nat → List Int
  | 0 => List.replicate n 0
  | k + 1 => (invK ls n k).set (ls.getD k 0).toNat (k : Int)
theorem invK_len (ls : List Int) (n : Nat) : ∀ k, (invK ls n k).length = n
  | 0 => by simp [invK]
  | k + 1 => by rw [invK, List.length_set, invK_len ls n k]
def invL (ls : List Int) : List Int := invK ls ls.length ls.length
/-- What Inverse answers. -/
def backL (ls : List Int) : List Int := if rightB ls = true then invL ls else []
theorem getD_set (q : List Int) (a b : Nat) (x : Int) (ha : a < q.length) : (q.set a x).getD b 0 = if a = b then x else q.getD b 0 := by
  rw [List.getD_eq_getElem?_getD, List.getElem?_set, List.getD_eq_getElem?_getD]
  by_cases h : a = b
  · subst h
    rw [if_pos rfl, if_pos ha, if_pos rfl]
    rfl
  · rw [if_neg h, if_neg h]
theorem getD_inj {ls : List Int} (h : ls.Nodup) {i j : Nat} (hi : i < ls.length) (hj : j < ls.length) (e : ls.getD i 0 = ls.getD j 0) : i = j := by
  rw [List.getD_eq_getElem?_getD, List.getElem?_eq_getElem hi, List.getD_eq_getElem?_getD, List.getElem?_eq_getElem hj] at e
  have e' : ls[i] = ls[j] := e
  have h' := List.pairwise_iff_getElem.1 (List.nodup_iff_pairwise_ne.1 h)
  rcases Nat.lt_trichotomy i j with hl | hl | hl
  · exact absurd e' (h' i j hi hj hl)
  · exact hl
  · exact absurd e'.symm (h' j i hj hi hl)
theorem invK_at {ls : List Int} {n : Nat} (hl : ls.length = n) (g : goodL ls n) : ∀ (k : Nat), k ≤ n → ∀ i, i < k → (invK ls n k).getD (ls.getD i 0).toNat 0 = (i : Int)
  | 0, _, i, hi => by omega
  | k + 1, hk, i, hi => by
    have hb := g.1 _ (getD_mem ls k (by omega))
    rw [invK, getD_set _ _ _ _ (by rw [invK_len]; omega)]
    by_cases e : i = k
    · subst e
      rw [if_pos rfl]
    · rw [if_neg ?_]
      · exact invK_at hl g k (by omega) i (by omega)
      · intro e2
        have hc := g.1 _ (getD_mem ls i (by omega))
        exact e (getD_inj g.2 (by omega) (by omega) (by omega)).symm
/-- The numbers 0 to n - 1. -/
def firstL (n : Nat) : List Int := (List.range n).map fun i : Nat => (i : Int)
theorem firstL_len (n : Nat) : (firstL n).length = n := by simp [firstL]
theorem firstL_snoc (n : Nat) : firstL (n + 1) = firstL n ++ [(n : Int)] := by simp [firstL, List.range_succ]
theorem firstL_mem (n : Nat) (x : Int) : x ∈ firstL n ↔ 0 ≤ x ∧ x < (n : Int) := by
  simp only [firstL, List.mem_map, List.mem_range]
  constructor
  · rintro ⟨a, ha, rfl⟩
    omega
  · intro h
    exact ⟨x.toNat, by omega, by omega⟩
theorem firstL_nodup : ∀ n, (firstL n).Nodup
  | 0 => List.nodup_nil
  | n + 1 => by
    rw [firstL_snoc, List.nodup_append]
    refine ⟨firstL_nodup n, by simp, fun a ha b hb e => ?_⟩
    rw [List.mem_singleton.1 hb] at e
    have := (firstL_mem n a).1 ha
    omega
/-- An order of n numbers. -/
def Ord (p : List Int) (n : Nat) : Prop := p.length = n ∧ (∀ x ∈ p, 0 ≤ x ∧ x < (n : Int)) ∧ p.Nodup ∧ ∀ x : Nat, x < n → (x : Int) ∈ p
theorem Ord.first (n : Nat) : Ord (firstL n) n := ⟨firstL_len n, fun x h => (firstL_mem n x).1 h, firstL_nodup n, fun x h => (firstL_mem n x).2 (by omega)⟩
theorem Ord.good {p : List Int} {n : Nat} (h : Ord p n) : goodL p n := ⟨h.2.1, h.2.2.1⟩
theorem Ord.right {p : List Int} {n : Nat} (h : Ord p n) : rightB p = true := by
  rw [rightB, h.1]
  exact decide_eq_true h.good
theorem Ord.pos {p : List Int} {n : Nat} (h : Ord p n) {i : Nat} (hi : i < n) : 0 ≤ p.getD i 0 ∧ p.getD i 0 < (n : Int) := h.2.1 _ (getD_mem p i (by rw [h.1]; exact hi))
theorem Ord.find {p : List Int} {n : Nat} (h : Ord p n) {x : Nat} (hx : x < n) : ∃ i, i < n ∧ p.getD i 0 = (x : Int) := by
  obtain ⟨i, hi, e⟩ := List.getElem_of_mem (h.2.2.2 x hx)
  refine ⟨i, by rw [← h.1]; exact hi, ?_⟩
  rw [List.getD_eq_getElem?_getD, List.getElem?_eq_getElem hi]
  exact e
theorem Ord.back_at {p : List Int} {n : Nat} (h : Ord p n) {i : Nat} (hi : i < n) : (invL p).getD (p.getD i 0).toNat 0 = (i : Int) := by
  rw [invL, h.1]
  exact invK_at h.1 h.good n (Nat.le_refl _) i hi
theorem Ord.at_back {p : List Int} {n : Nat} (h : Ord p n) {x : Nat} (hx : x < n) : p.getD ((invL p).getD x 0).toNat 0 = (x : Int) := by
  obtain ⟨i, hi, e⟩ := h.find hx
  have h1 := h.back_at hi
  rw [e, Int.toNat_natCast] at h1
  rw [h1, Int.toNat_natCast, e]
theorem Ord.back {p : List Int} {n : Nat} (h : Ord p n) : Ord (invL p) n := by
  have hlen : (invL p).length = n := by rw [invL, invK_len, h.1]
  have hat : ∀ x, x < n → ∃ i, i < n ∧ (invL p).getD x 0 = (i : Int) ∧ p.getD i 0 = (x : Int) := fun x hx => by
    obtain ⟨i, hi, e⟩ := h.find hx
    have h1 := h.back_at hi
    rw [e, Int.toNat_natCast] at h1
    exact ⟨i, hi, h1, e⟩
  have hget : ∀ x (hx : x < (invL p).length), (invL p)[x] = (invL p).getD x 0 := fun x hx => by
    rw [List.getD_eq_getElem?_getD, List.getElem?_eq_getElem hx]
    rfl
  refine ⟨hlen, fun y hy => ?_, ?_, fun x hx => ?_⟩
  · obtain ⟨x, hx, e⟩ := List.getElem_of_mem hy
    obtain ⟨i, hi, h1, _⟩ := hat x (by omega)
    rw [hget x hx, h1] at e
    omega
  · rw [List.nodup_iff_pairwise_ne, List.pairwise_iff_getElem]
    intro a b ha hb hab e
    obtain ⟨i, hi, h1, h2⟩ := hat a (by omega)
    obtain ⟨j, hj, h3, h4⟩ := hat b (by omega)
    rw [hget a ha, hget b hb, h1, h3] at e
    have e' : i = j := by omega
    subst e'
    rw [h2] at h4
    omega
  · have hp := h.pos hx
    have h1 := h.back_at hx
    have hl : (p.getD x 0).toNat < (invL p).length := by omega
    rw [← h1, ← hget _ hl]
    exact List.getElem_mem hl
theorem Ord.back_back {p : List Int} {n : Nat} (h : Ord p n) : invL (invL p) = p := by
  have hq := h.back
  have hr := hq.back
  apply List.ext_getElem?
  intro i
  by_cases hi : i < n
  · have hp := h.pos hi
    have h1 := hq.back_at (i := (p.getD i 0).toNat) (by omega)
    rw [h.back_at hi, Int.toNat_natCast] at h1
    have e : ((p.getD i 0).toNat : Int) = p.getD i 0 := by omega
    rw [e] at h1
    have hr1 := hr.1
    have hp1 := h.1
    rw [List.getD_eq_getElem?_getD, List.getD_eq_getElem?_getD, List.getElem?_eq_getElem (by omega), List.getElem?_eq_getElem (by omega)] at h1
    rw [List.getElem?_eq_getElem (by omega), List.getElem?_eq_getElem (by omega)]
    exact congrArg some h1
  · rw [List.getElem?_eq_none (by have := hr.1; omega), List.getElem?_eq_none (by have := h.1; omega)]
theorem backL_ord {p : List Int} {n : Nat} (h : Ord p n) : backL p = invL p := by rw [backL, if_pos h.right]

/-! ### Two places exchanged -/
def swapL (p : List Int) (i j : Nat) : List Int := (p.set i (p.getD j 0)).set j (p.getD i 0)
theorem swapL_len (p : List Int) (i j : Nat) : (swapL p i j).length = p.length := by simp [swapL]
theorem Ord.swap {p : List Int} {n i j : Nat} (h : Ord p n) (hi : i < n) (hj : j < n) : Ord (swapL p i j) n := by
  have hp : List.Perm (swapL p i j) p := by
    have hl := h.1
    have := @List.set_set_perm _ p i j (by omega) (by omega)
    rw [swapL, List.getD_eq_getElem?_getD, List.getD_eq_getElem?_getD, List.getElem?_eq_getElem (by omega), List.getElem?_eq_getElem (by omega)]
    exact this
  exact ⟨by rw [swapL_len]; exact h.1, fun x hx => h.2.1 x (hp.mem_iff.1 hx), hp.nodup_iff.2 h.2.2.1, fun x hx => hp.mem_iff.2 (h.2.2.2 x hx)⟩

/-! ### What a stream makes of a number -/
/-- The exchanges at the places k to 1: the list, the error, where the stream stands. -/
def mixB (seed name : List UInt8) : Nat → List Int → Nat → List Int × Nat × Nat
  | 0, p, j => (p, 0, j)
  | k + 1, p, j => if (nextB seed name (k + 2) j).2.1 = 0 then mixB seed name k (swapL p (k + 1) (nextB seed name (k + 2) j).1) (nextB seed name (k + 2) j).2.2 else ([], (nextB seed name (k + 2) j).2.1, (nextB seed name (k + 2) j).2.2)
def orderB (seed name : List UInt8) (n : Int) (j : Nat) : List Int × Nat × Nat := if n < 0 ∨ 1000 < n then ([], 1, j) else mixB seed name (n.toNat - 1) (firstL n.toNat) j
section
variable {seed name : List UInt8}
theorem drawB_err9 {n : Nat} : ∀ (k i : Nat), (drawB seed name n k i).2.1 = 0 ∨ (drawB seed name n k i).2.1 = 9
  | 0, i => Or.inr rfl
  | k + 1, i => by
    rw [drawB]
    split
    · exact Or.inl rfl
    · exact drawB_err9 k (i + 1)
theorem nextB_err9 {n i : Nat} (h : n ≠ 0) : (nextB seed name n i).2.1 = 0 ∨ (nextB seed name n i).2.1 = 9 := by
  rw [nextB, if_neg h]
  exact drawB_err9 64 i
theorem mixB_hit {k x e j' : Nat} {p : List Int} {j : Nat} (h : nextB seed name (k + 2) j = (x, 0, j')) : mixB seed name (k + 1) p j = mixB seed name k (swapL p (k + 1) x) j' := by
  rw [mixB, h]
  rfl
theorem mixB_miss {k x e j' : Nat} {p : List Int} {j : Nat} (h : nextB seed name (k + 2) j = (x, e, j')) (he : e ≠ 0) : mixB seed name (k + 1) p j = ([], e, j') := by
  rw [mixB, h, if_neg he]
theorem mixB_ord {n : Nat} : ∀ (k : Nat) (p : List Int) (j : Nat), k < n → Ord p n → ((mixB seed name k p j).2.1 = 0 ∧ Ord (mixB seed name k p j).1 n) ∨ ((mixB seed name k p j).2.1 = 9 ∧ (mixB seed name k p j).1 = [])
  | 0, p, j, _, h => Or.inl ⟨rfl, h⟩
  | k + 1, p, j, hk, h => by
    rcases nextB_err9 (seed := seed) (name := name) (n := k + 2) (i := j) (by omega) with h0 | h9
    · have hx := nextB_lt h0
      rw [mixB, if_pos h0]
      exact mixB_ord k _ _ (by omega) (h.swap hk (by omega))
    · rw [mixB, if_neg (by omega)]
      exact Or.inr ⟨h9, rfl⟩
theorem mixB_pos : ∀ (k : Nat) (p : List Int) (j : Nat), (mixB seed name k p j).2.2 ≤ j + 64 * k
  | 0, p, j => Nat.le_refl _
  | k + 1, p, j => by
    have hn := (nextB_at (seed := seed) (name := name) (n := k + 2) (i := j)).2
    rw [mixB]
    split
    · have := mixB_pos k (swapL p (k + 1) (nextB seed name (k + 2) j).1) (nextB seed name (k + 2) j).2.2
      omega
    · show (nextB seed name (k + 2) j).2.2 ≤ _
      omega
theorem mixB_len (k : Nat) (p : List Int) (j : Nat) : (mixB seed name k p j).1.length ≤ p.length := by
  induction k generalizing p j with
  | zero => exact Nat.le_refl _
  | succ k ih =>
    rw [mixB]
    split
    · exact Nat.le_trans (ih _ _) (by rw [swapL_len]; exact Nat.le_refl _)
    · exact Nat.zero_le _
/-- What comes of it: an order of n numbers, or nothing and the error 9; of another number nothing and the error 1. -/
theorem orderB_in {n : Nat} (h : n ≤ 1000) (j : Nat) : ((orderB seed name n j).2.1 = 0 ∧ Ord (orderB seed name n j).1 n) ∨ ((orderB seed name n j).2.1 = 9 ∧ (orderB seed name n j).1 = []) := by
  rw [orderB, if_neg (by omega), Int.toNat_natCast]
  rcases Nat.eq_zero_or_pos n with h0 | h0
  · subst h0
    exact Or.inl ⟨rfl, Ord.first 0⟩
  · exact mixB_ord (n - 1) _ _ (by omega) (Ord.first n)
theorem orderB_out {n : Int} (h : n < 0 ∨ 1000 < n) (j : Nat) : orderB seed name n j = ([], 1, j) := by rw [orderB, if_pos h]
theorem orderB_one (j : Nat) : orderB seed name 1 j = ([0], 0, j) := rfl
end
end Go.Proofs.YtjfipijdjbbogaaDoor
