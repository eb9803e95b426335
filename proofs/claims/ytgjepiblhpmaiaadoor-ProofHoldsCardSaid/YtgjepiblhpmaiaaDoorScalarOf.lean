/-
  Contracts of scalar.Of and of the reference's OfN.
-/
import Derived.Test.YtgjepiblhpmaiaaDoorScalar
import Derived.Test.YtgjepiblhpmaiaaDoorRefScal
import Derived.Test.YtgjepiblhpmaiaaDoorMem
import Derived.Deep.QuietTactic
namespace Go.Proofs.YtgjepiblhpmaiaaDoor
open Go.ChangeShapes Go.WideShapes Go.ChangeAt Go.RowKit
set_option linter.unusedVariables false
set_option linter.unusedSimpArgs false

theorem ofS_take (l : List UInt8) (j : Nat) (h : j < l.length) : addS (mulS (ofS (l.take j)) 256) (l.getD j 0).toNat = ofS (l.take (j + 1)) := by
  rw [← ofS_snoc, List.take_succ_eq_append_getElem h]
  simp [h]

namespace scalarOf
theorem none_ (A : Option Addr) (c : Nat) (w : World) :
    Calls Tryd.prog 25 #[.slice A 0 c] w fun e w' => e = .returned (.int .u64 0) ∧ w = w' := by
  go_enter Tryd.func25, Tryd.ntmps25
  go_wp2
  go_loop [3, 8] (fun x k => k = .int .i64 0 ∧ x = .int .u64 0) (fun _ k => 0)
  case atStart => exact ⟨rfl, rfl⟩
  case round =>
    obtain ⟨rfl, rfl⟩ := hrel
    go_wp2
    go_ret
    exact ⟨rfl, rfl⟩
set_option maxHeartbeats 400000 in
theorem some_ (A : Option Addr) (n c : Nat) (l : List UInt8) (w : World) (hl : Bytes w A n c l) (h0 : 0 < n) :
    Calls Tryd.prog 25 #[.slice A n c] w fun e w' => e = .returned (.int .u64 ((ofS l : Nat) : Int)) ∧ w = w' := by
  obtain ⟨b, off, rfl, hb, hc⟩ := hl.at_ h0
  have hn := hl.le
  have hcap := hl.2.1
  have H := Lib.hid hl.len
  have HC := Lib.hid hc
  clear hc
  go_enter Tryd.func25, Tryd.ntmps25
  go_wp2
  go_loop [3, 8] (fun x k => ∃ j y : Nat, j ≤ n ∧ k = .int .i64 j ∧ x = .int .u64 y ∧ Hid (y = ofS (l.take j))) (fun _ k => n - (intOf k).toNat)
  case atStart => exact ⟨0, 0, Nat.zero_le _, rfl, rfl, Lib.hid rfl⟩
  case round =>
    obtain ⟨j, y, hj, rfl, rfl, HY⟩ := hrel
    have hy : y < 2305843009213693950 := by rw [HY.out]; exact ofS_lt _
    by_cases hlt : j < n
    · have hcj := HC.out j hlt
      obtain ⟨x, hx⟩ : ∃ x, (l.getD j 0).toNat = x := ⟨_, rfl⟩
      have hx8 : x < 256 := by rw [← hx]; exact UInt8.toNat_lt _
      rw [hx] at hcj
      obtain ⟨m, hm⟩ : ∃ m, mulS y 256 = m := ⟨_, rfl⟩
      have hml : m < 2305843009213693950 := by rw [← hm]; exact mulS_lt _ _
      obtain ⟨z, hz⟩ : ∃ z, addS m x = z := ⟨_, rfl⟩
      have C1 := Lib.hid (fun w => scalarMul' (b := 256) hm (by omega) (by omega) rfl (y := 256) rfl w)
      have C2 := Lib.hid (fun w => scalarAdd' hz (by omega) (by omega) rfl rfl w)
      have HZ := Lib.hid (show z = ofS (l.take (j + 1)) by rw [← hz, ← hm, HY.out, ← hx]; exact ofS_take l j (by rw [H.out]; exact hlt))
      clear hx hm hz
      go_wp2_with fail
      refine (C1.out _).mono ?_
      rintro e w' ⟨rfl, rfl⟩
      go_wp2_with fail
      refine (C2.out _).mono ?_
      rintro e w' ⟨rfl, rfl⟩
      go_wp2_with fail
      go_round
      case rel => exact ⟨j + 1, z, by omega, by go_num, rfl, HZ⟩
      case measure => simp [intOf]; omega
    · have hjn : j = n := by omega
      have HE := Lib.hid (show y = ofS l by rw [HY.out, hjn, ← H.out, List.take_length])
      go_wp2
      go_ret
      exact ⟨ret_int (by rw [HE.out]), rfl⟩
end scalarOf
theorem scalarOfB (A : Option Addr) (n c : Nat) (l : List UInt8) (w : World) (hl : Bytes w A n c l) :
    Calls Tryd.prog 25 #[.slice A n c] w fun e w' => e = .returned (.int .u64 ((ofS l : Nat) : Int)) ∧ w = w' := by
  rcases Nat.eq_zero_or_pos n with h0 | h0
  · subst h0
    obtain rfl : l = [] := List.eq_nil_of_length_eq_zero hl.len
    exact scalarOf.none_ A c w
  · exact scalarOf.some_ A n c l w hl h0
namespace refOf
theorem none_ (A : Option Addr) (c : Nat) (w : World) :
    Calls Tryd.prog 28 #[.slice A 0 c] w fun e w' => e = .returned (.int .u64 0) ∧ Below w.heap.size w w' := by
  go_enter Tryd.func28, Tryd.ntmps28
  go_wp2
  go_loop [3, 4] (fun x k => k = .int .i64 0 ∧ x = .int .u64 0) (fun _ k => 0)
  case atStart => exact ⟨rfl, rfl⟩
  case round =>
    obtain ⟨rfl, rfl⟩ := hrel
    go_wp2
    go_ret
    exact ⟨rfl, Below.refl _ _⟩
set_option maxHeartbeats 400000 in
theorem some_ (A : Option Addr) (n c : Nat) (l : List UInt8) (w : World) (hl : Bytes w A n c l) (h0 : 0 < n) :
    Calls Tryd.prog 28 #[.slice A n c] w fun e w' => e = .returned (.int .u64 ((ofS l : Nat) : Int)) ∧ Below w.heap.size w w' := by
  obtain ⟨b, off, rfl, hb0, hc⟩ := hl.at_ h0
  have hn := hl.le
  have hcap := hl.2.1
  have H := Lib.hid hl.len
  have HC := Lib.hid hc
  clear hc
  go_enter Tryd.func28, Tryd.ntmps28
  go_wp2
  go_loopw [3, 4] (fun x k wr => ∃ j y : Nat, j ≤ n ∧ k = .int .i64 j ∧ x = .int .u64 y ∧ Hid (y = ofS (l.take j)) ∧ Below w.heap.size w wr) (fun _ k _ => n - (intOf k).toNat)
  case atStart => exact ⟨0, 0, Nat.zero_le _, rfl, rfl, Lib.hid rfl, Below.refl _ _⟩
  case round =>
    obtain ⟨j, y, hj, rfl, rfl, HY, hb⟩ := hrel
    have hy : y < 2305843009213693950 := by rw [HY.out]; exact ofS_lt _
    by_cases hlt : j < n
    · have hcj := (hb.cell (p := ⟨b, off + j, none⟩) hb0).trans (HC.out j hlt)
      obtain ⟨x, hx⟩ : ∃ x, (l.getD j 0).toNat = x := ⟨_, rfl⟩
      have hx8 : x < 256 := by rw [← hx]; exact UInt8.toNat_lt _
      rw [hx] at hcj
      obtain ⟨m, hm⟩ : ∃ m, mulS y 256 = m := ⟨_, rfl⟩
      have hml : m < 2305843009213693950 := by rw [← hm]; exact mulS_lt _ _
      obtain ⟨z, hz⟩ : ∃ z, addS m x = z := ⟨_, rfl⟩
      have C1 := Lib.hid (fun w => refMulN' (b := 256) hm (by omega) (by omega) rfl (y := 256) rfl w)
      have C2 := Lib.hid (fun w => refAddN' hz (by omega) (by omega) rfl rfl w)
      have HZ := Lib.hid (show z = ofS (l.take (j + 1)) by rw [← hz, ← hm, HY.out, ← hx]; exact ofS_take l j (by rw [H.out]; exact hlt))
      clear hx hm hz
      go_wp2_with fail
      go_quiet (first
        | (go_at_call 49; refine Calls.quiet_of_same ((C1.out _).mono fun _ _ h => ⟨h.1, h.2.symm⟩))
        | (go_at_call 22; refine Calls.quiet_of_same ((C2.out _).mono fun _ _ h => ⟨h.1, h.2.symm⟩)))
      go_wp2_with fail
      go_roundw
      case rel => exact ⟨j + 1, z, by omega, by go_num, rfl, HZ, below_drewN hb _⟩
      case measure => simp [intOf]; omega
    · have hjn : j = n := by omega
      have HE := Lib.hid (show y = ofS l by rw [HY.out, hjn, ← H.out, List.take_length])
      go_wp2
      go_ret
      exact ⟨ret_int (by rw [HE.out]), hb⟩
end refOf
theorem refOfN (A : Option Addr) (n c : Nat) (l : List UInt8) (w : World) (hl : Bytes w A n c l) :
    Calls Tryd.prog 28 #[.slice A n c] w fun e w' => e = .returned (.int .u64 ((ofS l : Nat) : Int)) ∧ Below w.heap.size w w' := by
  rcases Nat.eq_zero_or_pos n with h0 | h0
  · subst h0
    obtain rfl : l = [] := List.eq_nil_of_length_eq_zero hl.len
    exact refOf.none_ A c w
  · exact refOf.some_ A n c l w hl h0
end Go.Proofs.YtgjepiblhpmaiaaDoor
