/-
  Chapter 14 on lists: the servers of a chain, of all chains.
-/
import Derived.Test.YtjfipijdjbbogaaDoorOrdSpec
import Derived.Lib.ItoaMem
import Derived.Lib.ItoaLen
namespace Go.Proofs.YtjfipijdjbbogaaDoor
open Go.ChangeShapes Go.WideShapes Go.ChangeAt Go.RowKit
set_option linter.unusedVariables false
set_option linter.unusedSimpArgs false

/-- The name of a chain's stream. -/
def nameC (chain : Int) : List UInt8 := [99, 104, 97, 105, 110, 32] ++ Lib.itoa chain
theorem nameC_len (chain : Int) (h0 : -9223372036854775808 ≤ chain) (h1 : chain ≤ 9223372036854775807) : (nameC chain).length ≤ 1099511627776 := by
  have := Lib.itoa_length_le chain h0 h1
  rw [nameC, List.length_append]
  simp
  omega
/-- Which arguments One refuses. -/
def badC (servers chain k : Int) : Prop := servers < 1 ∨ 1000 < servers ∨ k < 1 ∨ 20 < k ∨ servers < k ∨ chain < 0
instance (servers chain k : Int) : Decidable (badC servers chain k) := by unfold badC; infer_instance
/-- The servers of a chain, and the error. -/
def oneB (seed : List UInt8) (servers chain k : Int) : List Int × Nat :=
  if badC servers chain k then ([], 1) else if (orderB seed (nameC chain) servers 0).2.1 = 0 then ((orderB seed (nameC chain) servers 0).1.take k.toNat, 0) else ([], (orderB seed (nameC chain) servers 0).2.1)
section
variable {seed : List UInt8} {servers chain k : Int}
theorem oneB_bad (h : badC servers chain k) : oneB seed servers chain k = ([], 1) := by rw [oneB, if_pos h]
theorem oneB_hit {p : List Int} {j : Nat} (h : ¬ badC servers chain k) (ho : orderB seed (nameC chain) servers 0 = (p, 0, j)) : oneB seed servers chain k = (p.take k.toNat, 0) := by rw [oneB, if_neg h, ho]; rfl
theorem oneB_miss {p : List Int} {e j : Nat} (h : ¬ badC servers chain k) (ho : orderB seed (nameC chain) servers 0 = (p, e, j)) (he : e ≠ 0) : oneB seed servers chain k = ([], e) := by rw [oneB, if_neg h, ho, if_neg he]
/-- What comes of it. -/
theorem oneB_in (h : ¬ badC servers chain k) : ((oneB seed servers chain k).2 = 0 ∧ ∃ p : List Int, Ord p servers.toNat ∧ (oneB seed servers chain k).1 = p.take k.toNat) ∨ ((oneB seed servers chain k).2 = 9 ∧ (oneB seed servers chain k).1 = []) := by
  have hs : 1 ≤ servers ∧ servers ≤ 1000 := by unfold badC at h; omega
  obtain ⟨s, rfl⟩ : ∃ s : Nat, servers = (s : Int) := ⟨servers.toNat, by omega⟩
  rcases orderB_in (seed := seed) (name := nameC chain) (show s ≤ 1000 by omega) 0 with ⟨h1, h2⟩ | ⟨h1, h2⟩
  · rw [oneB, if_neg h, if_pos h1]
    exact Or.inl ⟨rfl, _, h2, rfl⟩
  · rw [oneB, if_neg h, if_neg (by omega)]
    exact Or.inr ⟨h1, rfl⟩
theorem oneB_err : (oneB seed servers chain k).2 < 10 := by
  by_cases h : badC servers chain k
  · rw [oneB_bad h]; show 1 < 10; omega
  · rcases oneB_in (seed := seed) h with h1 | h1
    · omega
    · omega
theorem oneB_none (h : (oneB seed servers chain k).2 ≠ 0) : (oneB seed servers chain k).1 = [] := by
  by_cases hb : badC servers chain k
  · rw [oneB_bad hb]
  · rcases oneB_in (seed := seed) hb with h1 | h1
    · exact absurd h1.1 h
    · exact h1.2
/-- The servers of a chain: k of them, valid and different. -/
theorem oneB_good (h : (oneB seed servers chain k).2 = 0) : ¬ badC servers chain k ∧ (oneB seed servers chain k).1.length = k.toNat ∧ goodL (oneB seed servers chain k).1 servers.toNat := by
  by_cases hb : badC servers chain k
  · rw [oneB_bad hb] at h
    exact absurd h (by decide)
  · rcases oneB_in (seed := seed) hb with ⟨_, p, hp, h1⟩ | h1
    · rw [h1]
      refine ⟨hb, ?_, fun x hx => hp.2.1 x (List.mem_of_mem_take hx), List.Nodup.sublist (List.take_sublist _ _) hp.2.2.1⟩
      rw [List.length_take, hp.1]
      unfold badC at hb
      omega
    · omega
/-- A shorter chain is the beginning of a longer one. -/
theorem oneB_less {less : Int} (h : (oneB seed servers chain k).2 = 0) (h1 : 1 ≤ less) (h2 : less ≤ k) : oneB seed servers chain less = ((oneB seed servers chain k).1.take less.toNat, 0) := by
  have hb := (oneB_good h).1
  have hb2 : ¬ badC servers chain less := by unfold badC at hb ⊢; omega
  obtain ⟨⟨p, e, j⟩, ho⟩ : ∃ r : List Int × Nat × Nat, orderB seed (nameC chain) servers 0 = r := ⟨_, rfl⟩
  by_cases he : e = 0
  · subst he
    rw [oneB_hit hb ho, oneB_hit hb2 ho, List.take_take, Nat.min_eq_left (by omega)]
  · rw [oneB_miss hb ho he] at h
    exact absurd h he
end
/-- The first error of some. -/
def errN (f : Nat → Nat) : Nat → Nat
  | 0 => 0
  | n + 1 => if errN f n = 0 then f n else errN f n
theorem errN_zero {f : Nat → Nat} {n : Nat} (h : errN f (n + 1) = 0) : errN f n = 0 ∧ f n = 0 := by
  rw [errN] at h
  split at h
  · next h1 => exact ⟨h1, h⟩
  · next h1 => exact absurd h h1
theorem errN_step {f : Nat → Nat} {n : Nat} (h : errN f n = 0) : errN f (n + 1) = f n := by rw [errN, if_pos h]
theorem errN_stay {f : Nat → Nat} {m n : Nat} (h : errN f m ≠ 0) (hm : m ≤ n) : errN f n = errN f m := by
  induction hm with
  | refl => rfl
  | step _ ih => rw [errN, if_neg (by rw [ih]; exact h), ih]
theorem errN_all {f : Nat → Nat} : ∀ {n : Nat}, errN f n = 0 → ∀ i, i < n → f i = 0
  | 0, _, i, hi => by omega
  | n + 1, h, i, hi => by
    have h1 := errN_zero h
    rcases Nat.lt_succ_iff_lt_or_eq.1 hi with h2 | rfl
    · exact errN_all h1.1 i h2
    · exact h1.2
theorem errN_lt {f : Nat → Nat} {b : Nat} (hb : 0 < b) (h : ∀ i, f i < b) : ∀ n, errN f n < b
  | 0 => hb
  | n + 1 => by
    rw [errN]
    split
    · exact h n
    · exact errN_lt hb h n
/-- The first n chains. -/
def rowC (seed : List UInt8) (servers k : Int) (n : Nat) : List (List Int) := (List.range n).map fun i : Nat => (oneB seed servers (i : Int) k).1
theorem rowC_len (seed : List UInt8) (servers k : Int) (n : Nat) : (rowC seed servers k n).length = n := by simp [rowC]
theorem rowC_snoc (seed : List UInt8) (servers k : Int) (n : Nat) : rowC seed servers k (n + 1) = rowC seed servers k n ++ [(oneB seed servers (n : Int) k).1] := by simp [rowC, List.range_succ]
theorem rowC_at (seed : List UInt8) (servers k : Int) (n i : Nat) (h : i < n) : (rowC seed servers k n).getD i [] = (oneB seed servers (i : Int) k).1 := by simp [rowC, h]
/-- All chains, and the first error. -/
def formB (seed : List UInt8) (servers n k : Int) : List (List Int) × Nat :=
  if n < 1 ∨ 1000 < n then ([], 1) else if errN (fun i : Nat => (oneB seed servers (i : Int) k).2) n.toNat = 0 then (rowC seed servers k n.toNat, 0) else ([], errN (fun i : Nat => (oneB seed servers (i : Int) k).2) n.toNat)
section
variable {seed : List UInt8} {servers n k : Int}
theorem formB_bad (h : n < 1 ∨ 1000 < n) : formB seed servers n k = ([], 1) := by rw [formB, if_pos h]
theorem formB_hit (h : ¬ (n < 1 ∨ 1000 < n)) (he : errN (fun i : Nat => (oneB seed servers (i : Int) k).2) n.toNat = 0) : formB seed servers n k = (rowC seed servers k n.toNat, 0) := by rw [formB, if_neg h, if_pos he]
theorem formB_miss {e : Nat} (h : ¬ (n < 1 ∨ 1000 < n)) (he : errN (fun i : Nat => (oneB seed servers (i : Int) k).2) n.toNat = e) (h0 : e ≠ 0) : formB seed servers n k = ([], e) := by rw [formB, if_neg h, he, if_neg h0]
theorem formB_err : (formB seed servers n k).2 < 10 := by
  rw [formB]
  split
  · show 1 < 10; omega
  · split
    · show 0 < 10; omega
    · exact errN_lt (by omega) (fun i => oneB_err) _
end
end Go.Proofs.YtjfipijdjbbogaaDoor
