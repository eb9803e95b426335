/-
  WordsGet: for all bytes and indexes, Get32 and Get64 answer as the reference does.
-/
import Derived.Test.YtcnicaeimepgaaaWordsNarrow
import Derived.Test.YtcnicaeimepgaaaWordsGet
namespace Go.Proofs.Ytcnicaeimepgaaa
open Go.ChangeShapes Go.WideShapes Go.ChangeAt Go.RowKit
set_option linter.unusedVariables false
set_option linter.unusedSimpArgs false
namespace lawGet
set_option maxHeartbeats 400000 in
theorem walk (A : Option Addr) (n c : Nat) (l : List UInt8) (i : Int) (w : World) (hl : Bytes w A n c l) :
    Calls Try.prog 4 #[.slice A n c, .int .i64 i] w fun e w' => e = .returned (.bool true) ∧ Below w.heap.size w w' := by
  by_cases h2 : 200 < n
  · go_enter Try.func4, Try.ntmps4
    go_wp2_with fail
    refine (alive1 _).mono ?_
    rintro e w1 ⟨rfl, hb1⟩
    go_wp2
    go_ret
    exact ⟨rfl, hb1⟩
  · have h2' : n ≤ 200 := by omega
    clear h2
    go_enter Try.func4, Try.ntmps4
    go_wp2_with fail
    refine (alive1 _).mono ?_
    rintro e w1 ⟨rfl, hb1⟩
    have hl1 := hl.keep hb1
    go_wp2_with fail
    refine (wordsGet.get32 A n c l i _ hl1).mono ?_
    rintro e w' ⟨rfl, rfl⟩
    go_wp2_with fail
    refine (refGet.get32 A n c l i _ hl1).mono ?_
    rintro e w' ⟨rfl, rfl⟩
    go_wp2_with fail
    refine (wordsGet.get64 A n c l i _ hl1).mono ?_
    rintro e w' ⟨rfl, rfl⟩
    go_wp2_with fail
    refine (refGet.get64 A n c l i _ hl1).mono ?_
    rintro e w' ⟨rfl, rfl⟩
    go_wp2_with (go_at_call 14; refine (num1 _ _).mono ?_; rintro e w' ⟨rfl, rfl⟩)
    go_ret
    exact ⟨rfl, hb1⟩
end lawGet
end Go.Proofs.Ytcnicaeimepgaaa
