/-
  Contracts of words.Get32, words.Get64 and of the reference's Get32, Get64.
-/
import Derived.Test.YtgjepiblhpmaiaaDoorBase
namespace Go.Proofs.YtgjepiblhpmaiaaDoor
open Go.ChangeShapes Go.WideShapes Go.ChangeAt Go.RowKit
set_option linter.unusedVariables false
set_option linter.unusedSimpArgs false

/-- What 'get' answers: the number and the error. -/
def getV (l : List UInt8) (i : Int) (size : Nat) : Int :=
  if i < 0 ∨ (l.length : Int) < i ∨ (l.length : Int) - i < size then 0 else (be ((l.drop i.toNat).take size) : Nat)
def getE (l : List UInt8) (i : Int) (size : Nat) : Int :=
  if i < 0 ∨ (l.length : Int) < i then 1 else if (l.length : Int) - i < size then 4 else 0

theorem or_join (x c : Nat) (hx : x < 72057594037927936) (hc : c < 256) : bits .or .u64 ((x : Int) * 256) (c : Int) = ((x * 256 + c : Nat) : Int) := by
  have h := u64_or_nat (x * 256) c (by omega) (by omega)
  rw [nat_join 8 (x * 256) c (by omega) (by omega)] at h
  rw [← h]; rfl
theorem be_take_succ (l : List UInt8) (i j : Nat) (h : i + j < l.length) : be ((l.drop i).take (j + 1)) = be ((l.drop i).take j) * 256 + (l[i + j]?.getD 0).toNat := by
  rw [← be_snoc]
  congr 1
  have hj : j < (l.drop i).length := by simp; omega
  rw [List.take_succ_eq_append_getElem hj]
  simp [h]
theorem be_take_small (l : List UInt8) (i j : Nat) (h : j ≤ 7) : be ((l.drop i).take j) < 72057594037927936 := by
  have h1 := be_lt ((l.drop i).take j)
  have hle : ((l.drop i).take j).length ≤ 7 := by simp; omega
  exact Nat.lt_of_lt_of_le h1 (Nat.pow_le_pow_right (by omega) hle)
theorem getV_lt (l : List UInt8) (i : Int) : 0 ≤ getV l i 4 ∧ getV l i 4 < 4294967296 := by
  unfold getV
  split
  · omega
  · have h1 := be_lt ((l.drop i.toNat).take 4)
    have hle : ((l.drop i.toNat).take 4).length ≤ 4 := by simp; omega
    have h2 : be ((l.drop i.toNat).take 4) < 256 ^ 4 := Nat.lt_of_lt_of_le h1 (Nat.pow_le_pow_right (by omega) hle)
    omega
theorem getV_lt8 (l : List UInt8) (i : Int) : 0 ≤ getV l i 8 ∧ getV l i 8 < 18446744073709551616 := by
  unfold getV
  split
  · omega
  · have h1 := be_lt ((l.drop i.toNat).take 8)
    have hle : ((l.drop i.toNat).take 8).length ≤ 8 := by simp; omega
    have h2 : be ((l.drop i.toNat).take 8) < 256 ^ 8 := Nat.lt_of_lt_of_le h1 (Nat.pow_le_pow_right (by omega) hle)
    omega


namespace refGet
theorem no1 (A : Option Addr) (n c : Nat) (i : Int) (size : Int) (w : World) (h : i < 0) :
    Calls Tryd.prog 70 #[.slice A n c, .int .i64 i, .int .i64 size] w fun e w' => e = .returned (.tuple #[.int .u64 0, .int .i64 1]) ∧ w = w' := by
  go_enter Tryd.func70, Tryd.ntmps70
  go_wp2
  go_ret2
  exact ⟨rfl, rfl⟩
theorem no2 (A : Option Addr) (n c : Nat) (i : Int) (size : Int) (w : World) (h0 : 0 ≤ i) (h : (n : Int) < i) :
    Calls Tryd.prog 70 #[.slice A n c, .int .i64 i, .int .i64 size] w fun e w' => e = .returned (.tuple #[.int .u64 0, .int .i64 1]) ∧ w = w' := by
  go_enter Tryd.func70, Tryd.ntmps70
  go_wp2
  go_ret2
  exact ⟨rfl, rfl⟩
theorem no3 (A : Option Addr) (n c : Nat) (i : Int) (size : Int) (w : World) (hn : n ≤ 9223372036854775807) (h0 : 0 ≤ i) (h : i ≤ (n : Int)) (hs : (n : Int) - i < size) :
    Calls Tryd.prog 70 #[.slice A n c, .int .i64 i, .int .i64 size] w fun e w' => e = .returned (.tuple #[.int .u64 0, .int .i64 4]) ∧ w = w' := by
  go_enter Tryd.func70, Tryd.ntmps70
  go_wp2
  go_ret2
  exact ⟨rfl, rfl⟩
set_option maxHeartbeats 400000 in
theorem yes (A : Option Addr) (n c : Nat) (l : List UInt8) (i : Nat) (size : Nat) (w : World) (hl : Bytes w A n c l) (hs0 : 0 < size) (hs8 : size ≤ 8) (hs : i + size ≤ n) :
    Calls Tryd.prog 70 #[.slice A n c, .int .i64 (i : Int), .int .i64 (size : Int)] w fun e w' => e = .returned (.tuple #[.int .u64 (be ((l.drop i).take size) : Nat), .int .i64 0]) ∧ w = w' := by
  obtain ⟨b, off, rfl, hb, hc⟩ := hl.at_ (by omega)
  have hn := hl.le
  have hcap := hl.2.1
  have H := Lib.hid hl.len
  have h1 : (i : Int) ≤ (n : Int) := by omega
  have h2 : (size : Int) ≤ (n : Int) - i := by omega
  go_enter Tryd.func70, Tryd.ntmps70
  go_wp2
  go_loop [8, 9] (fun x k => ∃ j : Nat, j ≤ size ∧ k = .int .i64 j ∧ x = .int .u64 (be ((l.drop i).take j) : Nat)) (fun _ k => size - (intOf k).toNat)
  case atStart => exact ⟨0, Nat.zero_le _, rfl, rfl⟩
  case round =>
    obtain ⟨j, hj, rfl, rfl⟩ := hrel
    by_cases hlt : j < size
    · have hcj := hc (i + j) (by omega)
      have hb8 := be_take_small l i j (by omega)
      have hcb := (l[i + j]?.getD 0).toNat_lt
      go_wp2
      go_round
      case rel => exact ⟨j + 1, by omega, by go_num, by rw [or_join _ _ hb8 hcb, be_take_succ l i j (by rw [H.out]; omega)]⟩
      case measure => simp [intOf]; omega
    · go_wp2
      go_ret2
      obtain rfl : j = size := by omega
      exact ⟨rfl, rfl⟩

theorem any (A : Option Addr) (n c : Nat) (l : List UInt8) (i : Int) (size : Nat) (w : World) (hl : Bytes w A n c l) (hs0 : 0 < size) (hs8 : size ≤ 8) :
    Calls Tryd.prog 70 #[.slice A n c, .int .i64 i, .int .i64 (size : Int)] w fun e w' => e = .returned (.tuple #[.int .u64 (getV l i size), .int .i64 (getE l i size)]) ∧ w = w' := by
  have hn := hl.le
  have hlen := hl.len
  by_cases h1 : i < 0
  · rw [getV, getE, if_pos (.inl h1), if_pos (.inl h1)]
    exact no1 A n c i size w h1
  · by_cases h2 : (n : Int) < i
    · rw [getV, getE, hlen, if_pos (.inr (.inl h2)), if_pos (.inr h2)]
      exact no2 A n c i size w (by omega) h2
    · by_cases h3 : (n : Int) - i < size
      · rw [getV, getE, hlen, if_pos (.inr (.inr h3)), if_neg (by omega), if_pos h3]
        exact no3 A n c i size w hn (by omega) (by omega) h3
      · rw [getV, getE, hlen, if_neg (by omega), if_neg (by omega), if_neg h3]
        obtain ⟨k, rfl⟩ := Int.eq_ofNat_of_zero_le (show 0 ≤ i by omega)
        exact yes A n c l k size w hl hs0 hs8 (by omega)

end refGet
namespace refGet
theorem get32 (A : Option Addr) (n c : Nat) (l : List UInt8) (i : Int) (w : World) (hl : Bytes w A n c l) :
    Calls Tryd.prog 62 #[.slice A n c, .int .i64 i] w fun e w' => e = .returned (.tuple #[.int .u32 (getV l i 4), .int .i64 (getE l i 4)]) ∧ w = w' := by
  have hb := getV_lt l i
  go_enter Tryd.func62, Tryd.ntmps62
  go_wp2_with (go_at_call 70; refine (any A n c l i 4 w hl (by omega) (by omega)).mono ?_; rintro e w' ⟨rfl, rfl⟩)
  go_ret2
  exact ⟨rfl, rfl⟩
end refGet
end Go.Proofs.YtgjepiblhpmaiaaDoor
