/-
  WordsNarrow: for all numbers, sizes and signs, Narrow answers as the reference does, and narrowing again changes nothing.
-/
import Derived.Test.YtcnicaeimepgaaaWordsNarrow
namespace Go.Proofs.Ytcnicaeimepgaaa
open Go.ChangeShapes Go.WideShapes Go.ChangeAt Go.RowKit
set_option linter.unusedVariables false
set_option linter.unusedSimpArgs false
namespace lawNarrow
theorem and_8 (y : Int) (h : y % 256 = 0) : bits .and .i64 y 255 = 0 := by
  show IntKind.i64.wrap ((BitVec.ofInt 64 y &&& BitVec.ofInt 64 255).toNat : Int) = 0
  have e1 : (BitVec.ofInt 64 255).toNat = 2 ^ 8 - 1 := by decide
  have e2 : (BitVec.ofInt 64 y).toNat % 2 ^ 8 = 0 := by
    rw [BitVec.toNat_ofInt]
    omega
  rw [BitVec.toNat_and, e1, Nat.and_two_pow_sub_one_eq_mod, e2]
  rfl
theorem and_16 (y : Int) (h : y % 65536 = 0) : bits .and .i64 y 65535 = 0 := by
  show IntKind.i64.wrap ((BitVec.ofInt 64 y &&& BitVec.ofInt 64 65535).toNat : Int) = 0
  have e1 : (BitVec.ofInt 64 65535).toNat = 2 ^ 16 - 1 := by decide
  have e2 : (BitVec.ofInt 64 y).toNat % 2 ^ 16 = 0 := by
    rw [BitVec.toNat_ofInt]
    omega
  rw [BitVec.toNat_and, e1, Nat.and_two_pow_sub_one_eq_mod, e2]
  rfl
theorem and_32 (y : Int) (h : y % 4294967296 = 0) : bits .and .i64 y 4294967295 = 0 := by
  show IntKind.i64.wrap ((BitVec.ofInt 64 y &&& BitVec.ofInt 64 4294967295).toNat : Int) = 0
  have e1 : (BitVec.ofInt 64 4294967295).toNat = 2 ^ 32 - 1 := by decide
  have e2 : (BitVec.ofInt 64 y).toNat % 2 ^ 32 = 0 := by
    rw [BitVec.toNat_ofInt]
    omega
  rw [BitVec.toNat_and, e1, Nat.and_two_pow_sub_one_eq_mod, e2]
  rfl
theorem nar8 (n : Int) (s : Bool) : narV (narV n 8 s) 8 s = narV n 8 s ∧ (wrap64 (n - narV n 8 s)) % 256 = 0 ∧ -128 ≤ narV n 8 s ∧ narV n 8 s < 256 := by
  have e : ∀ m, narV m 8 s = if s then (m + 128) % 256 - 128 else m % 256 := fun m => by simp [narV]
  simp only [e, wrap64]
  cases s
  · simp only [Bool.false_eq_true, if_false]; omega
  · simp only [if_true]; omega
theorem nar16 (n : Int) (s : Bool) : narV (narV n 16 s) 16 s = narV n 16 s ∧ (wrap64 (n - narV n 16 s)) % 65536 = 0 ∧ -32768 ≤ narV n 16 s ∧ narV n 16 s < 65536 := by
  have e : ∀ m, narV m 16 s = if s then (m + 32768) % 65536 - 32768 else m % 65536 := fun m => by simp [narV]
  simp only [e, wrap64]
  cases s
  · simp only [Bool.false_eq_true, if_false]; omega
  · simp only [if_true]; omega
theorem nar32 (n : Int) (s : Bool) : narV (narV n 32 s) 32 s = narV n 32 s ∧ (wrap64 (n - narV n 32 s)) % 4294967296 = 0 ∧ -2147483648 ≤ narV n 32 s ∧ narV n 32 s < 4294967296 := by
  have e : ∀ m, narV m 32 s = if s then (m + 2147483648) % 4294967296 - 2147483648 else m % 4294967296 := fun m => by simp [narV]
  simp only [e, wrap64]
  cases s
  · simp only [Bool.false_eq_true, if_false]; omega
  · simp only [if_true]; omega
set_option maxHeartbeats 400000 in
theorem walk8 (n : Int) (s : Bool) (w : World) :
    Calls Try.prog 6 #[.int .i64 n, .int .i64 8, .bool s] w fun e w' => e = .returned (.bool true) ∧ Below w.heap.size w w' := by
  obtain ⟨h1, h2, h3, h4⟩ := nar8 n s
  have e1 := and_8 _ h2
  have c1 := wordsNarrow.any n 8 s
  have c2 := refNarrow.any n 8 s
  have c3 := wordsNarrow.any (narV n 8 s) 8 s
  rw [h1] at c3
  generalize narV n 8 s = V at *
  have e0 : narE 8 = 0 := by simp [narE]
  rw [e0] at c1 c2 c3
  have C1 := Lib.hid c1
  have C2 := Lib.hid c2
  have C3 := Lib.hid c3
  clear c1 c2 c3 h1 h2 e0
  go_enter Try.func6, Try.ntmps6
  go_wp2_with fail
  refine (alive1 _).mono ?_
  rintro e w1 ⟨rfl, hb1⟩
  go_wp2_with fail
  refine (C1.out _).mono ?_
  rintro e w' ⟨rfl, rfl⟩
  go_wp2_with fail
  refine (C2.out _).mono ?_
  rintro e w' ⟨rfl, rfl⟩
  go_wp2_with (go_at_call 14; refine (num1 _ _).mono ?_; rintro e w' ⟨rfl, rfl⟩)
  refine (C3.out _).mono ?_
  rintro e w' ⟨rfl, rfl⟩
  go_wp2_with (go_at_call 14; refine (num1 _ _).mono ?_; rintro e w' ⟨rfl, rfl⟩)
  go_ret
  exact ⟨rfl, hb1⟩
set_option maxHeartbeats 400000 in
theorem walk16 (n : Int) (s : Bool) (w : World) :
    Calls Try.prog 6 #[.int .i64 n, .int .i64 16, .bool s] w fun e w' => e = .returned (.bool true) ∧ Below w.heap.size w w' := by
  obtain ⟨h1, h2, h3, h4⟩ := nar16 n s
  have e1 := and_16 _ h2
  have c1 := wordsNarrow.any n 16 s
  have c2 := refNarrow.any n 16 s
  have c3 := wordsNarrow.any (narV n 16 s) 16 s
  rw [h1] at c3
  generalize narV n 16 s = V at *
  have e0 : narE 16 = 0 := by simp [narE]
  rw [e0] at c1 c2 c3
  have C1 := Lib.hid c1
  have C2 := Lib.hid c2
  have C3 := Lib.hid c3
  clear c1 c2 c3 h1 h2 e0
  go_enter Try.func6, Try.ntmps6
  go_wp2_with fail
  refine (alive1 _).mono ?_
  rintro e w1 ⟨rfl, hb1⟩
  go_wp2_with fail
  refine (C1.out _).mono ?_
  rintro e w' ⟨rfl, rfl⟩
  go_wp2_with fail
  refine (C2.out _).mono ?_
  rintro e w' ⟨rfl, rfl⟩
  go_wp2_with (go_at_call 14; refine (num1 _ _).mono ?_; rintro e w' ⟨rfl, rfl⟩)
  refine (C3.out _).mono ?_
  rintro e w' ⟨rfl, rfl⟩
  go_wp2_with (go_at_call 14; refine (num1 _ _).mono ?_; rintro e w' ⟨rfl, rfl⟩)
  go_ret
  exact ⟨rfl, hb1⟩
set_option maxHeartbeats 400000 in
theorem walk32 (n : Int) (s : Bool) (w : World) :
    Calls Try.prog 6 #[.int .i64 n, .int .i64 32, .bool s] w fun e w' => e = .returned (.bool true) ∧ Below w.heap.size w w' := by
  obtain ⟨h1, h2, h3, h4⟩ := nar32 n s
  have e1 := and_32 _ h2
  have c1 := wordsNarrow.any n 32 s
  have c2 := refNarrow.any n 32 s
  have c3 := wordsNarrow.any (narV n 32 s) 32 s
  rw [h1] at c3
  generalize narV n 32 s = V at *
  have e0 : narE 32 = 0 := by simp [narE]
  rw [e0] at c1 c2 c3
  have C1 := Lib.hid c1
  have C2 := Lib.hid c2
  have C3 := Lib.hid c3
  clear c1 c2 c3 h1 h2 e0
  go_enter Try.func6, Try.ntmps6
  go_wp2_with fail
  refine (alive1 _).mono ?_
  rintro e w1 ⟨rfl, hb1⟩
  go_wp2_with fail
  refine (C1.out _).mono ?_
  rintro e w' ⟨rfl, rfl⟩
  go_wp2_with fail
  refine (C2.out _).mono ?_
  rintro e w' ⟨rfl, rfl⟩
  go_wp2_with (go_at_call 14; refine (num1 _ _).mono ?_; rintro e w' ⟨rfl, rfl⟩)
  refine (C3.out _).mono ?_
  rintro e w' ⟨rfl, rfl⟩
  go_wp2_with (go_at_call 14; refine (num1 _ _).mono ?_; rintro e w' ⟨rfl, rfl⟩)
  go_ret
  exact ⟨rfl, hb1⟩
theorem walk64 (n : Int) (s : Bool) (w : World) :
    Calls Try.prog 6 #[.int .i64 n, .int .i64 64, .bool s] w fun e w' => e = .returned (.bool true) ∧ Below w.heap.size w w' := by
  go_enter Try.func6, Try.ntmps6
  go_wp2_with fail
  refine (alive1 _).mono ?_
  rintro e w1 ⟨rfl, hb1⟩
  go_wp2_with fail
  refine (wordsNarrow.code64 n s _).mono ?_
  rintro e w' ⟨rfl, rfl⟩
  go_wp2_with fail
  refine (refNarrow.yes64 n s _).mono ?_
  rintro e w' ⟨rfl, rfl⟩
  go_wp2_with (go_at_call 14; refine (num1 _ _).mono ?_; rintro e w' ⟨rfl, rfl⟩)
  go_ret
  exact ⟨rfl, hb1⟩
theorem walkNo (n bits : Int) (s : Bool) (w : World) (h8 : bits ≠ 8) (h16 : bits ≠ 16) (h32 : bits ≠ 32) (h64 : bits ≠ 64) :
    Calls Try.prog 6 #[.int .i64 n, .int .i64 bits, .bool s] w fun e w' => e = .returned (.bool true) ∧ Below w.heap.size w w' := by
  go_enter Try.func6, Try.ntmps6
  go_wp2_with fail
  refine (alive1 _).mono ?_
  rintro e w1 ⟨rfl, hb1⟩
  go_wp2_with fail
  refine (wordsNarrow.codeNo n bits s _ h8 h16 h32 h64).mono ?_
  rintro e w' ⟨rfl, rfl⟩
  go_wp2_with fail
  refine (refNarrow.no n bits s _ h8 h16 h32 h64).mono ?_
  rintro e w' ⟨rfl, rfl⟩
  go_wp2_with (go_at_call 14; refine (num1 _ _).mono ?_; rintro e w' ⟨rfl, rfl⟩)
  go_ret
  exact ⟨rfl, hb1⟩
theorem walk (n bits : Int) (s : Bool) (w : World) :
    Calls Try.prog 6 #[.int .i64 n, .int .i64 bits, .bool s] w fun e w' => e = .returned (.bool true) ∧ Below w.heap.size w w' := by
  by_cases h8 : bits = 8
  · subst h8; exact walk8 n s w
  by_cases h16 : bits = 16
  · subst h16; exact walk16 n s w
  by_cases h32 : bits = 32
  · subst h32; exact walk32 n s w
  by_cases h64 : bits = 64
  · subst h64; exact walk64 n s w
  exact walkNo n bits s w h8 h16 h32 h64
end lawNarrow
end Go.Proofs.Ytcnicaeimepgaaa
