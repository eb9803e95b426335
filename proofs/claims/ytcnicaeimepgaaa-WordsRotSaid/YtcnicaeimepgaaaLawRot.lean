/-
  WordsRot: for all numbers and counts, Rot answers as the reference does, bit by bit, and two rotations are one by the sum.
-/
import Derived.Test.YtcnicaeimepgaaaWordsRot
namespace Go.Proofs.Ytcnicaeimepgaaa
open Go.ChangeShapes Go.WideShapes Go.ChangeAt Go.RowKit
set_option linter.unusedVariables false
set_option linter.unusedSimpArgs false
namespace lawRot
set_option maxHeartbeats 400000 in
theorem walk (x : Nat) (n m : Int) (w : World) (hx : x < 4294967296) (hn : -9223372036854775808 ≤ n ∧ n ≤ 9223372036854775807) (hm : -9223372036854775808 ≤ m ∧ m ≤ 9223372036854775807) :
    Calls Try.prog 5 #[.int .u32 (x : Int), .int .i64 n, .int .i64 m] w fun e w' => e = .returned (.bool true) ∧ Below w.heap.size w w' := by
  have h1 := refNarrow.tm n 32
  have h2 : (n.tmod 32 + 32) % 32 = (((n % 32).toNat : Nat) : Int) := by omega
  have h3 : -31 ≤ n.tmod 32 ∧ n.tmod 32 ≤ 31 := by omega
  clear h1
  have hk : (n % 32).toNat ≤ 31 := by omega
  have C1 := Lib.hid (fun w => wordsRot x n w hx)
  have C2 := Lib.hid (fun w => refRot x n w hx)
  have hr := rotN_lt x (n % 32).toNat hx
  have HB := Lib.hid (fun i hi => rotN_bit x (n % 32).toNat i hx (by omega) hi)
  have HR := Lib.hid (fun b c hb hc => rotN_rotN x (n % 32).toNat b c hx (by omega) hb hc)
  have HK := Lib.hid (show (((n % 32).toNat : Nat) : Int) = n % 32 by omega)
  generalize ht : n.tmod 32 = t at *
  generalize (n % 32).toNat = k at *
  generalize rotN x k = r at *
  go_enter Try.func5, Try.ntmps5
  go_wp2_with fail
  refine (alive1 _).mono ?_
  rintro e w1 ⟨rfl, hb1⟩
  go_wp2_with fail
  refine (C1.out _).mono ?_
  rintro e w' ⟨rfl, d, rfl⟩
  go_wp2_with fail
  refine (C2.out _).mono ?_
  rintro e w' ⟨rfl, rfl⟩
  go_wp2_with fail
  rw [h2]
  clear h2 h3 ht
  go_loop [10] (fun i => ∃ j : Nat, j ≤ 32 ∧ i = .int .i64 j) (fun i => 32 - (intOf i).toNat)
  case atStart => exact ⟨0, Nat.zero_le _, rfl⟩
  case round =>
    obtain ⟨j, hj, rfl⟩ := hrel
    by_cases hlt : j < 32
    · have e1 := bit1 r j hr
      have e2 := bit1 x ((j + k) % 32) hx
      rw [← bit_eq r x j ((j + k) % 32) (HB.out j hlt)] at e2
      go_wp2
      exact ⟨⟨j + 1, by omega, by go_num⟩, by simp [intOf]; omega⟩
    · have hj2 : (32 : Int) ≤ (j : Int) := by omega
      have hb2 := below_drewN hb1 d
      by_cases hc : 0 ≤ m ∧ m ≤ 1099511627776 ∧ n ≤ 1099511627776 ∧ 0 ≤ n
      · obtain ⟨q1, q2, q3, q4⟩ := hc
        have HE : Hid (rotN r (m % 32).toNat = rotN x ((n + m) % 32).toNat) := by
          have h5 := HK.out
          exact HR.out _ _ (by omega) (by omega)
        have D1 := Lib.hid (fun w => wordsRot r m w hr)
        have D2 := Lib.hid (fun w => wordsRot x (n + m) w hx)
        go_wp2_with fail
        refine (D1.out _).mono ?_
        rintro e w' ⟨rfl, d1, rfl⟩
        go_wp2_with fail
        refine (D2.out _).mono ?_
        rintro e w' ⟨rfl, d2, rfl⟩
        rw [HE.out]
        go_wp2_with fail
        go_ret
        exact ⟨rfl, below_drewN hb1 _⟩
      · by_cases q1 : m < 0
        · go_wp2
          go_ret
          exact ⟨rfl, hb2⟩
        · by_cases q2 : 1099511627776 < m
          · go_wp2
            go_ret
            exact ⟨rfl, hb2⟩
          · by_cases q3 : 1099511627776 < n
            · go_wp2
              go_ret
              exact ⟨rfl, hb2⟩
            · have q4 : n < 0 := by omega
              clear hc
              go_wp2
              go_ret
              exact ⟨rfl, hb2⟩
theorem all (x n m : Int) (w : World) (w0 : (Lit.int .u32 x).wf = true) (w1 : (Lit.int .i64 n).wf = true) (w2 : (Lit.int .i64 m).wf = true) :
    Calls Try.prog 5 #[.int .u32 x, .int .i64 n, .int .i64 m] w fun e w' => e = .returned (.bool true) ∧ Below w.heap.size w w' := by
  have h0 : 0 ≤ x ∧ x ≤ 4294967295 := by simpa [Lit.wf, IntKind.min, IntKind.max, IntKind.signed, IntKind.bits] using w0
  have h1 : -9223372036854775808 ≤ n ∧ n ≤ 9223372036854775807 := by simpa [Lit.wf, IntKind.min, IntKind.max, IntKind.signed, IntKind.bits] using w1
  have h2 : -9223372036854775808 ≤ m ∧ m ≤ 9223372036854775807 := by simpa [Lit.wf, IntKind.min, IntKind.max, IntKind.signed, IntKind.bits] using w2
  obtain ⟨x, rfl⟩ := Int.eq_ofNat_of_zero_le h0.1
  exact walk x n m w (by omega) h1 h2
end lawRot
end Go.Proofs.Ytcnicaeimepgaaa
