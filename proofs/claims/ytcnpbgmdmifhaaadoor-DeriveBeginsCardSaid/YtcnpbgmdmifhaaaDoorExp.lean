/-
  The spec of derive: the blocks T1, T2, .. and what is taken of them.
-/
import Derived.Test.YtcnpbgmdmifhaaaDoorMac
namespace Go.Proofs.YtcnpbgmdmifhaaaDoor
open Go.ChangeShapes Go.WideShapes Go.ChangeAt Go.RowKit
set_option linter.unusedVariables false
set_option linter.unusedSimpArgs false

def tN (key info : List UInt8) : Nat → List UInt8
  | 0 => []
  | i + 1 => macN key (tN key info i ++ info ++ [UInt8.ofNat (i + 1)])
def outN (key info : List UInt8) : Nat → List UInt8
  | 0 => []
  | i + 1 => outN key info i ++ tN key info (i + 1)
def expN (key info : List UInt8) (n : Nat) : List UInt8 := (outN key info n).take n
def dkN (secret name : List UInt8) : List UInt8 := expN (macN (List.replicate 32 0) secret) name 32
section
variable {key info : List UInt8}
theorem tN_succ (i : Nat) : tN key info (i + 1) = macN key (tN key info i ++ info ++ [UInt8.ofNat (i + 1)]) := rfl
theorem tN_len (i : Nat) (h : 0 < i) : (tN key info i).length = 32 := by
  cases i with
  | zero => omega
  | succ i => exact macN_len _ _
theorem outN_succ (i : Nat) : outN key info (i + 1) = outN key info i ++ tN key info (i + 1) := rfl
theorem outN_len (i : Nat) : (outN key info i).length = 32 * i := by
  induction i with
  | zero => rfl
  | succ i ih => rw [outN_succ, List.length_append, ih, tN_len _ (by omega)]; omega
theorem outN_take (i d n : Nat) (h : n ≤ 32 * i) : (outN key info (i + d)).take n = (outN key info i).take n := by
  induction d with
  | zero => rfl
  | succ d ih => rw [← Nat.add_assoc, outN_succ, List.take_append_of_le_length (by rw [outN_len]; omega), ih]
theorem expN_of (k n : Nat) (h : n ≤ 32 * k) : (outN key info k).take n = expN key info n := by
  rw [expN]
  rcases Nat.le_total k n with hk | hk
  · obtain ⟨d, rfl⟩ := Nat.exists_eq_add_of_le hk
    rw [outN_take k d _ h]
  · obtain ⟨d, rfl⟩ := Nat.exists_eq_add_of_le hk
    rw [outN_take n d _ (by omega)]
theorem expN_len (n : Nat) : (expN key info n).length = n := by rw [expN, List.length_take, outN_len]; omega
theorem expN_take (n m : Nat) (h : m ≤ n) : (expN key info n).take m = expN key info m := by
  rw [expN, List.take_take, Nat.min_eq_left h]
  exact expN_of n m (by omega)
theorem expN_part (n i : Nat) (h : 32 * (i + 1) ≤ n) : ((expN key info n).drop (32 * i)).take 32 = tN key info (i + 1) := by
  have e : (expN key info n).take (32 * (i + 1)) = outN key info (i + 1) := by
    rw [expN_take n _ h, ← expN_of (i + 1) (32 * (i + 1)) (Nat.le_refl _), List.take_of_length_le (by rw [outN_len]; exact Nat.le_refl _)]
  have e2 : ((expN key info n).drop (32 * i)).take 32 = ((expN key info n).take (32 * (i + 1))).drop (32 * i) := by
    rw [List.drop_take]
    congr 1
    omega
  rw [e2, e, outN_succ, List.drop_append_of_le_length (by rw [outN_len]; omega), List.drop_of_length_le (by rw [outN_len]; omega), List.nil_append]
theorem dkN_len (secret name : List UInt8) : (dkN secret name).length = 32 := expN_len 32
end

/-! ### What lies in memory between two blocks -/
/-- The room for a T: bytes 0, or the last T. -/
def roomN (key info : List UInt8) (j : Nat) : List UInt8 := if j = 0 then List.replicate 32 0 else tN key info j
theorem roomN_len {key info : List UInt8} (j : Nat) : (roomN key info j).length = 32 := by
  unfold roomN
  split
  · simp
  · exact tN_len j (by omega)
/-- What is written, and bytes 0 behind. -/
def headN (key info : List UInt8) (n j : Nat) : List UInt8 := (outN key info j).take n ++ List.replicate (n - 32 * j) 0
theorem headN_len {key info : List UInt8} (n j : Nat) : (headN key info n j).length = n := by
  rw [headN, List.length_append, List.length_take, outN_len, List.length_replicate]; omega
theorem headN_end {key info : List UInt8} (n j : Nat) (h : n ≤ 32 * j) : headN key info n j = expN key info n := by
  rw [headN, expN_of j n h, show n - 32 * j = 0 by omega, List.replicate_zero, List.append_nil]
theorem headN_next {key info : List UInt8} (n j k : Nat) (h : 32 * j < n) (hk : k = Nat.min 32 (n - 32 * j)) :
    splice ((headN key info n j).map bv) (32 * j) (((tN key info (j + 1)).map bv).take k) = (headN key info n (j + 1)).map bv := by
  have hl := tN_len (key := key) (info := info) (j + 1) (by omega)
  have ho := outN_len (key := key) (info := info) j
  have hk1 : k ≤ 32 := by rw [hk]; exact Nat.min_le_left _ _
  have hk2 : k ≤ n - 32 * j := by rw [hk]; exact Nat.min_le_right _ _
  have hk3 : k = 32 ∨ k = n - 32 * j := by
    rw [hk]
    rcases Nat.le_total 32 (n - 32 * j) with h1 | h1
    · exact .inl (Nat.min_eq_left h1)
    · exact .inr (Nat.min_eq_right h1)
  have hkl : (List.take k ((tN key info (j + 1)).map bv)).length = k := by rw [List.length_take, List.length_map, hl]; omega
  rw [splice, hkl, ← List.map_take, ← List.map_take, ← List.map_drop, ← List.map_append, ← List.map_append]
  congr 1
  have e1 : (headN key info n j).take (32 * j) = outN key info j := by
    rw [headN, List.take_append_of_le_length (by rw [List.length_take, ho]; omega), List.take_take, Nat.min_eq_left (by omega), List.take_of_length_le (by omega)]
  have e2 : (headN key info n j).drop (32 * j + k) = List.replicate (n - (32 * j + k)) 0 := by
    rw [headN, List.take_of_length_le (l := outN key info j) (by omega), List.drop_append, List.drop_of_length_le (l := outN key info j) (by omega), List.nil_append, List.drop_replicate, ho]
    congr 1
    omega
  have e3 : (outN key info (j + 1)).take n = outN key info j ++ (tN key info (j + 1)).take (n - 32 * j) := by rw [outN_succ, List.take_append, ho, List.take_of_length_le (l := outN key info j) (by omega)]
  have e4 : (tN key info (j + 1)).take (n - 32 * j) = (tN key info (j + 1)).take k := by
    rcases hk3 with h3 | h3
    · rw [List.take_of_length_le (by omega), List.take_of_length_le (by omega)]
    · rw [h3]
  have e5 : n - (32 * j + k) = n - 32 * (j + 1) := by omega
  rw [e1, e2, headN, e3, e4, e5, List.append_assoc]
/-- The text of the next T. -/
theorem text_next {key info : List UInt8} (j : Nat) (h : 0 < j) : roomN key info j = tN key info j := by rw [roomN, if_neg (by omega)]
end Go.Proofs.YtcnpbgmdmifhaaaDoor
