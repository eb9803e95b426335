/-
  The spec of seal: the key stream, the tag, what is sealed and what is opened.
-/
import Derived.Test.YtekpekmfddbiaaaDoorMac
namespace Go.Proofs.YtekpekmfddbiaaaDoor
open Go.ChangeShapes Go.WideShapes Go.ChangeAt Go.RowKit
set_option linter.unusedVariables false
set_option linter.unusedSimpArgs false

/-- A block of the key stream. -/
def ksN (key : List UInt8) (i : Nat) : List UInt8 := macN key ([115] ++ be64 i)
def xorAt (key : List UInt8) (j : Nat) (x : UInt8) : UInt8 := x ^^^ (ksN key (j / 32)).getD (j % 32) 0
def xorN (key l : List UInt8) : List UInt8 := l.mapIdx (xorAt key)
def tagN (key beside c : List UInt8) : List UInt8 := (macN key (([116] ++ be64 beside.length) ++ beside ++ c)).take 16
def sealN (key beside plain : List UInt8) : List UInt8 := xorN key plain ++ tagN key beside (xorN key plain)
def openOk (key beside b : List UInt8) : Bool := decide (16 ≤ b.length) && (tagN key beside (b.take (b.length - 16)) == b.drop (b.length - 16))
def openN (key beside b : List UInt8) : List UInt8 := if openOk key beside b then xorN key (b.take (b.length - 16)) else []

theorem ksN_len (key : List UInt8) (i : Nat) : (ksN key i).length = 32 := macN_len _ _
theorem xorN_len (key l : List UInt8) : (xorN key l).length = l.length := by simp [xorN]
theorem tagN_len (key beside c : List UInt8) : (tagN key beside c).length = 16 := by rw [tagN, List.length_take, macN_len]; rfl
theorem sealN_len (key beside plain : List UInt8) : (sealN key beside plain).length = plain.length + 16 := by rw [sealN, List.length_append, xorN_len, tagN_len]
theorem xorN_xorN (key l : List UInt8) : xorN key (xorN key l) = l := by
  apply List.ext_getElem?
  intro i
  rw [xorN, xorN, List.getElem?_mapIdx, List.getElem?_mapIdx]
  cases l[i]? with
  | none => rfl
  | some x => simp [xorAt, UInt8.xor_assoc]
theorem open_seal (key beside plain : List UInt8) : openOk key beside (sealN key beside plain) = true ∧ openN key beside (sealN key beside plain) = plain := by
  have h1 : (sealN key beside plain).length - 16 = (xorN key plain).length := by rw [sealN_len, xorN_len]; omega
  have h2 : (sealN key beside plain).take ((sealN key beside plain).length - 16) = xorN key plain := by rw [h1, sealN, List.take_left]
  have h3 : (sealN key beside plain).drop ((sealN key beside plain).length - 16) = tagN key beside (xorN key plain) := by rw [h1, sealN, List.drop_left]
  have h4 : openOk key beside (sealN key beside plain) = true := by
    rw [openOk, h2, h3, sealN_len]
    simp
  refine ⟨h4, ?_⟩
  rw [openN, if_pos h4, h2, xorN_xorN]
theorem open_short (key beside b : List UInt8) (h : b.length < 16) : openOk key beside b = false ∧ openN key beside b = [] := by
  have h4 : openOk key beside b = false := by
    rw [openOk, decide_eq_false (by omega)]
    rfl
  exact ⟨h4, by rw [openN, h4]; rfl⟩
theorem open_wrong (key beside b : List UInt8) (h : tagN key beside (b.take (b.length - 16)) ≠ b.drop (b.length - 16)) : openOk key beside b = false ∧ openN key beside b = [] := by
  have h4 : openOk key beside b = false := by
    rw [openOk, show (tagN key beside (b.take (b.length - 16)) == b.drop (b.length - 16)) = false by simp [h]]
    simp
  exact ⟨h4, by rw [openN, h4]; rfl⟩
theorem open_right (key beside b : List UInt8) (h16 : 16 ≤ b.length) (h : tagN key beside (b.take (b.length - 16)) = b.drop (b.length - 16)) : openOk key beside b = true ∧ openN key beside b = xorN key (b.take (b.length - 16)) := by
  have h4 : openOk key beside b = true := by
    rw [openOk, h]
    simp [h16]
  exact ⟨h4, by rw [openN, if_pos h4]⟩

/-! ### The stream, half laid -/
def halfX (key l : List UInt8) (j : Nat) : List UInt8 := (xorN key l).take j ++ l.drop j
theorem halfX_zero (key l : List UInt8) : halfX key l 0 = l := by simp [halfX]
theorem halfX_end (key l : List UInt8) (n : Nat) (h : l.length = n) : halfX key l n = xorN key l := by
  rw [halfX, List.take_of_length_le (by rw [xorN_len]; omega), List.drop_of_length_le (by omega), List.append_nil]
theorem halfX_len (key l : List UInt8) (j : Nat) : (halfX key l j).length = l.length := by
  rw [halfX, List.length_append, List.length_take, List.length_drop, xorN_len]; omega
theorem halfX_at (key l : List UInt8) (j : Nat) (h : j < l.length) : (halfX key l j)[j]? = some (l.getD j 0) := by
  rw [halfX, List.getElem?_append_right (by rw [List.length_take, xorN_len]; omega), List.length_take, xorN_len, show j - min j l.length = 0 by omega, List.getElem?_drop]
  simp [h]
theorem halfX_set (key l : List UInt8) (j : Nat) (h : j < l.length) : (halfX key l j).set j (xorAt key j (l.getD j 0)) = halfX key l (j + 1) := by
  have e : (xorN key l)[j]? = some (xorAt key j (l.getD j 0)) := by
    rw [xorN, List.getElem?_mapIdx]
    simp [h]
  have hj : j < (xorN key l).length := by rw [xorN_len]; exact h
  have e2 : (xorN key l)[j] = xorAt key j (l.getD j 0) := by
    rw [List.getElem?_eq_getElem hj] at e
    exact Option.some.inj e
  rw [halfX, halfX, List.set_append_right _ _ (by rw [List.length_take, xorN_len]; omega), List.length_take, xorN_len, show j - min j l.length = 0 by omega, List.drop_eq_getElem_cons h, List.set_cons_zero, List.take_succ_eq_append_getElem hj, e2]
  simp

/-! ### A string's bytes as a list -/
theorem bytes_loop (bs : ByteArray) : ∀ (n i : Nat) (r : List UInt8), bs.size - i = n → ByteArray.toList.loop bs i r = r.reverse ++ bs.data.toList.drop i
  | 0, i, r, h => by
    rw [ByteArray.toList.loop, if_neg (by omega), List.drop_of_length_le (by simp; exact Nat.le_of_sub_eq_zero h), List.append_nil]
  | n + 1, i, r, h => by
    have hi : i < bs.size := by omega
    rw [ByteArray.toList.loop, if_pos hi, bytes_loop bs n (i + 1) _ (by omega)]
    have hi' : i < bs.data.toList.length := by simpa using hi
    rw [List.drop_eq_getElem_cons hi', List.reverse_cons, List.append_assoc]
    congr 2
    simp [ByteArray.get!, getElem!_pos, hi]
theorem bytes_toList (bs : ByteArray) : bs.toList = bs.data.toList := by
  rw [ByteArray.toList, bytes_loop bs _ 0 [] rfl]
  simp
theorem str_toList (l : List UInt8) : (str l).toList = l := by rw [bytes_toList, str]
end Go.Proofs.YtekpekmfddbiaaaDoor
