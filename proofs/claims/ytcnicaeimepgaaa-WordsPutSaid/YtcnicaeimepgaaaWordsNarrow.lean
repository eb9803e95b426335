/-
  Contracts of words.Narrow and of the reference's Narrow; the law's helpers num and alive.
-/
import Derived.Test.YtcnicaeimepgaaaWordsPut
namespace Go.Proofs.Ytcnicaeimepgaaa
open Go.ChangeShapes Go.WideShapes Go.ChangeAt Go.RowKit
set_option linter.unusedVariables false
set_option linter.unusedSimpArgs false

/-- What Narrow answers: the number and the error. -/
def narV (n bits : Int) (s : Bool) : Int :=
  if bits = 8 then (if s then (n + 128) % 256 - 128 else n % 256)
  else if bits = 16 then (if s then (n + 32768) % 65536 - 32768 else n % 65536)
  else if bits = 32 then (if s then (n + 2147483648) % 4294967296 - 2147483648 else n % 4294967296)
  else if bits = 64 then n else 0
def narE (bits : Int) : Int := if bits = 8 ∨ bits = 16 ∨ bits = 32 ∨ bits = 64 then 0 else 1

theorem wrap_i8' (n : Int) : IntKind.i8.wrap n = (n + 128) % 256 - 128 := by
  simp only [IntKind.wrap, IntKind.bits, IntKind.signed]; simp; split <;> omega
theorem wrap_i16' (n : Int) : IntKind.i16.wrap n = (n + 32768) % 65536 - 32768 := by
  simp only [IntKind.wrap, IntKind.bits, IntKind.signed]; simp; split <;> omega

namespace wordsNarrow
theorem code8 (n : Int) (s : Bool) (w : World) :
    Calls Try.prog 19 #[.int .i64 n, .int .i64 8, .bool s] w fun e w' => e = .returned (.tuple #[.int .i64 (if s then (n + 128) % 256 - 128 else n % 256), .int .i64 0]) ∧ w = w' := by
  cases s
  · go_enter Try.func19, Try.ntmps19
    go_wp2
    go_ret2
    exact ⟨ret_ii (by simp) _, rfl⟩
  · go_enter Try.func19, Try.ntmps19
    go_wp2
    go_ret2
    exact ⟨ret_ii (by simp only [wrap_i8', wrap64]; omega) _, rfl⟩
theorem code16 (n : Int) (s : Bool) (w : World) :
    Calls Try.prog 19 #[.int .i64 n, .int .i64 16, .bool s] w fun e w' => e = .returned (.tuple #[.int .i64 (if s then (n + 32768) % 65536 - 32768 else n % 65536), .int .i64 0]) ∧ w = w' := by
  cases s
  · go_enter Try.func19, Try.ntmps19
    go_wp2
    go_ret2
    exact ⟨ret_ii (by simp only [IntKind.wrap_u16, wrap64]; omega) _, rfl⟩
  · go_enter Try.func19, Try.ntmps19
    go_wp2
    go_ret2
    exact ⟨ret_ii (by simp only [wrap_i16', wrap64]; omega) _, rfl⟩
theorem code32 (n : Int) (s : Bool) (w : World) :
    Calls Try.prog 19 #[.int .i64 n, .int .i64 32, .bool s] w fun e w' => e = .returned (.tuple #[.int .i64 (if s then (n + 2147483648) % 4294967296 - 2147483648 else n % 4294967296), .int .i64 0]) ∧ w = w' := by
  cases s
  · go_enter Try.func19, Try.ntmps19
    go_wp2
    go_ret2
    exact ⟨ret_ii (by simp) _, rfl⟩
  · go_enter Try.func19, Try.ntmps19
    go_wp2
    go_ret2
    exact ⟨ret_ii (by simp only [wrap32, wrap64]; omega) _, rfl⟩
theorem code64 (n : Int) (s : Bool) (w : World) :
    Calls Try.prog 19 #[.int .i64 n, .int .i64 64, .bool s] w fun e w' => e = .returned (.tuple #[.int .i64 n, .int .i64 0]) ∧ w = w' := by
  go_enter Try.func19, Try.ntmps19
  go_wp2
  go_ret2
  exact ⟨rfl, rfl⟩
theorem codeNo (n bits : Int) (s : Bool) (w : World) (h8 : bits ≠ 8) (h16 : bits ≠ 16) (h32 : bits ≠ 32) (h64 : bits ≠ 64) :
    Calls Try.prog 19 #[.int .i64 n, .int .i64 bits, .bool s] w fun e w' => e = .returned (.tuple #[.int .i64 0, .int .i64 1]) ∧ w = w' := by
  have b8 : (bits == 8) = false := beq_eq_false_iff_ne.2 h8
  have b16 : (bits == 16) = false := beq_eq_false_iff_ne.2 h16
  have b32 : (bits == 32) = false := beq_eq_false_iff_ne.2 h32
  have b64 : (bits == 64) = false := beq_eq_false_iff_ne.2 h64
  clear h8 h16 h32 h64
  go_enter Try.func19, Try.ntmps19
  go_wp2
  go_ret2
  exact ⟨rfl, rfl⟩
theorem any (n bits : Int) (s : Bool) (w : World) :
    Calls Try.prog 19 #[.int .i64 n, .int .i64 bits, .bool s] w fun e w' => e = .returned (.tuple #[.int .i64 (narV n bits s), .int .i64 (narE bits)]) ∧ w = w' := by
  by_cases h8 : bits = 8
  · subst h8; exact code8 n s w
  by_cases h16 : bits = 16
  · subst h16; exact code16 n s w
  by_cases h32 : bits = 32
  · subst h32; exact code32 n s w
  by_cases h64 : bits = 64
  · subst h64; exact code64 n s w
  rw [narV, narE, if_neg h8, if_neg h16, if_neg h32, if_neg h64, if_neg (by simp [h8, h16, h32, h64])]
  exact codeNo n bits s w h8 h16 h32 h64
end wordsNarrow

namespace refNarrow
theorem tm (n b : Int) : (0 ≤ n ∧ n.tmod b = n % b) ∨ (n < 0 ∧ n.tmod b = -((-n) % b)) := by
  rcases Int.lt_or_le n 0 with h | h
  · refine .inr ⟨h, ?_⟩
    have e : (-n).tmod b = (-n) % b := Int.tmod_eq_emod_of_nonneg (by omega)
    rw [← e, Int.neg_tmod, Int.neg_neg]
  · exact .inl ⟨h, Int.tmod_eq_emod_of_nonneg h⟩
set_option maxHeartbeats 400000 in
theorem yes8 (n : Int) (s : Bool) (w : World) :
    Calls Try.prog 20 #[.int .i64 n, .int .i64 8, .bool s] w fun e w' => e = .returned (.tuple #[.int .i64 (if s then (n + 128) % 256 - 128 else n % 256), .int .i64 0]) ∧ w = w' := by
  have H := Lib.hid (tm n 256)
  cases s
  all_goals
    go_enter Try.func20, Try.ntmps20
    go_wp2
    all_goals go_ret2
    all_goals (refine ⟨ret_ii ?_ _, rfl⟩)
    all_goals (have h := H.out; (try simp only [wrap64] at *); (try simp only [if_true]); omega)
set_option maxHeartbeats 400000 in
theorem yes16 (n : Int) (s : Bool) (w : World) :
    Calls Try.prog 20 #[.int .i64 n, .int .i64 16, .bool s] w fun e w' => e = .returned (.tuple #[.int .i64 (if s then (n + 32768) % 65536 - 32768 else n % 65536), .int .i64 0]) ∧ w = w' := by
  have H := Lib.hid (tm n 65536)
  cases s
  all_goals
    go_enter Try.func20, Try.ntmps20
    go_wp2
    all_goals go_ret2
    all_goals (refine ⟨ret_ii ?_ _, rfl⟩)
    all_goals (have h := H.out; (try simp only [wrap64] at *); (try simp only [if_true]); omega)
set_option maxHeartbeats 400000 in
theorem yes32 (n : Int) (s : Bool) (w : World) :
    Calls Try.prog 20 #[.int .i64 n, .int .i64 32, .bool s] w fun e w' => e = .returned (.tuple #[.int .i64 (if s then (n + 2147483648) % 4294967296 - 2147483648 else n % 4294967296), .int .i64 0]) ∧ w = w' := by
  have H := Lib.hid (tm n 4294967296)
  cases s
  all_goals
    go_enter Try.func20, Try.ntmps20
    go_wp2
    all_goals go_ret2
    all_goals (refine ⟨ret_ii ?_ _, rfl⟩)
    all_goals (have h := H.out; (try simp only [wrap64] at *); (try simp only [if_true]); omega)

theorem yes64 (n : Int) (s : Bool) (w : World) :
    Calls Try.prog 20 #[.int .i64 n, .int .i64 64, .bool s] w fun e w' => e = .returned (.tuple #[.int .i64 n, .int .i64 0]) ∧ w = w' := by
  go_enter Try.func20, Try.ntmps20
  go_wp2
  go_ret2
  exact ⟨rfl, rfl⟩
theorem no (n bits : Int) (s : Bool) (w : World) (h8 : bits ≠ 8) (h16 : bits ≠ 16) (h32 : bits ≠ 32) (h64 : bits ≠ 64) :
    Calls Try.prog 20 #[.int .i64 n, .int .i64 bits, .bool s] w fun e w' => e = .returned (.tuple #[.int .i64 0, .int .i64 1]) ∧ w = w' := by
  have b8 : (bits == 8) = false := beq_eq_false_iff_ne.2 h8
  have b16 : (bits == 16) = false := beq_eq_false_iff_ne.2 h16
  have b32 : (bits == 32) = false := beq_eq_false_iff_ne.2 h32
  have b64 : (bits == 64) = false := beq_eq_false_iff_ne.2 h64
  clear h8 h16 h32 h64
  go_enter Try.func20, Try.ntmps20
  go_wp2
  go_ret2
  exact ⟨rfl, rfl⟩
theorem any (n bits : Int) (s : Bool) (w : World) :
    Calls Try.prog 20 #[.int .i64 n, .int .i64 bits, .bool s] w fun e w' => e = .returned (.tuple #[.int .i64 (narV n bits s), .int .i64 (narE bits)]) ∧ w = w' := by
  by_cases h8 : bits = 8
  · subst h8; exact yes8 n s w
  by_cases h16 : bits = 16
  · subst h16; exact yes16 n s w
  by_cases h32 : bits = 32
  · subst h32; exact yes32 n s w
  by_cases h64 : bits = 64
  · subst h64; exact yes64 n s w
  rw [narV, narE, if_neg h8, if_neg h16, if_neg h32, if_neg h64, if_neg (by simp [h8, h16, h32, h64])]
  exact no n bits s w h8 h16 h32 h64
end refNarrow

theorem num1 (n : Int) (w : World) : Calls Try.prog 14 #[.int .i64 n] w fun e w' => e = .returned (.int .i64 n) ∧ w = w' := by
  go_enter Try.func14, Try.ntmps14
  go_wp2
  go_ret
  exact ⟨rfl, rfl⟩

theorem alive1 (w : World) : Calls Try.prog 7 #[] w fun e w' => e = .returned (.bool true) ∧ Below w.heap.size w w' := by
  go_enter Try.func7, Try.ntmps7
  go_wp2_with fail
  refine (wordsNarrow.code8 300 false w).mono ?_
  rintro e w' ⟨rfl, rfl⟩
  go_wp2_with (go_at_call 14; refine (num1 _ _).mono ?_; rintro e w' ⟨rfl, rfl⟩)
  refine (wordsPut.put64 none 0 0 [] 1 w (Row.nil w) (by omega)).mono ?_
  rintro e w1 ⟨v1, rfl, hown1, hb1⟩
  obtain ⟨A1, c1, rfl, hr1⟩ := Row.own hown1
  go_wp2
  go_ret
  exact ⟨rfl, hb1⟩
end Go.Proofs.Ytcnicaeimepgaaa
