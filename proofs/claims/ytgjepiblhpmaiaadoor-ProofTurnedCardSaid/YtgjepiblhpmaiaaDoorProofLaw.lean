/-
  The laws of chapter 9, proof: alive, and the law ProofHolds.
-/
import Derived.Test.YtgjepiblhpmaiaaDoorProofEq
import Derived.Test.YtgjepiblhpmaiaaDoorProofRef
import Derived.Test.YtgjepiblhpmaiaaDoorProofRefEq
namespace Go.Proofs.YtgjepiblhpmaiaaDoor
open Go.ChangeShapes Go.WideShapes Go.ChangeAt Go.RowKit
set_option linter.unusedVariables false
set_option linter.unusedSimpArgs false

theorem timesN_two : timesN 37 2 = 1369 := by
  rw [timesN_right (by decide), powN_eq]
theorem rightN_64 {x : Nat} (h : rightN x) : x < 18446744073709551616 := by have := h.2; omega
theorem alive9 (w : World) (hT : Tab w) :
    Calls Tryd.prog 8 #[] w fun e w' => e = .returned (.bool true) ∧ Below w.heap.size w w' := by
  have ok := know_ok 37 2 9 (by decide)
  rw [timesN_two] at ok
  obtain ⟨t, ht⟩ : ∃ t, timesN 37 9 = t := ⟨_, rfl⟩
  obtain ⟨c, hc⟩ : ∃ t, knowC 37 1369 9 = t := ⟨_, rfl⟩
  obtain ⟨r, hr⟩ : ∃ t, answerS c 2 9 = t := ⟨_, rfl⟩
  have bc : c < 2305843009213693950 := by rw [← hc]; exact knowC_lt _ _ _
  rw [hc, hr] at ok
  rw [knowC, ht] at hc
  have K1 := Lib.hid (fun (w : World) (h : Tab w) => show Calls Tryd.prog 15 #[.int .u64 37, .int .u64 0, .agg #[.int .u64 0, .int .u64 0]] w (fun e w' => e = .returned (.bool false) ∧ Below w.heap.size w w') from
    checkKnow' (g := 37) (x := 0) (c := 0) (s := 0) (decide_eq_false (fun h => absurd h.2.1.1 (by decide))) (by omega) (by omega) w h)
  have K2 := Lib.hid (fun (w : World) (h : Tab w) => show Calls Tryd.prog 11 #[.int .u64 37, .int .u64 1369, .int .u64 2, .int .u64 9] w (fun e w' => e = .returned (.agg #[.int .u64 (c : Int), .int .u64 (r : Int)]) ∧ Below w.heap.size w w') from
    know' (g := 37) (x := 1369) (s := 2) (d := 9) ht hc hr (by omega) (by omega) (by omega) (by omega) w h)
  have K3 := Lib.hid (fun (w : World) (h : Tab w) => show Calls Tryd.prog 15 #[.int .u64 37, .int .u64 1369, .agg #[.int .u64 (c : Int), .int .u64 (r : Int)]] w (fun e w' => e = .returned (.bool true) ∧ Below w.heap.size w w') from
    checkKnow' (g := 37) (x := 1369) (decide_eq_true ok) (by omega) (by omega) w h)
  clear ok ht hc hr
  go_enter Tryd.func8, Tryd.ntmps8
  go_wp2_with fail
  refine (K1.out _ hT).mono ?_
  rintro e w1 ⟨rfl, hb1⟩
  go_wp2_with fail
  refine (K2.out _ (hT.keep hb1)).mono ?_
  rintro e w2 ⟨rfl, hb2⟩
  have hbw2 := hb1.trans (hb2.mono hb1.size)
  go_wp2_with fail
  refine (K3.out _ (hT.keep hbw2)).mono ?_
  rintro e w3 ⟨rfl, hb3⟩
  go_wp2_with fail
  go_ret
  exact ⟨rfl, hbw2.trans (hb3.mono hbw2.size)⟩
namespace proofHoldsLaw
theorem out1 {g : Nat} (h s d : Nat) (bg : g < 18446744073709551616) (hg : ¬ rightN g) (w : World) (hT : Tab w) :
    Calls Tryd.prog 5 #[.int .u64 (g : Int), .int .u64 (h : Int), .int .u64 (s : Int), .int .u64 (d : Int)] w fun e w' => e = .returned (.bool true) ∧ Below w.heap.size w w' := by
  have A1 := Lib.hid (fun w => refRight' (decide_eq_false hg) bg rfl w)
  clear hg
  go_enter Tryd.func5, Tryd.ntmps5
  go_wp2_with fail
  refine (alive9 _ hT).mono ?_
  rintro e w1 ⟨rfl, hb1⟩
  go_wp2_with fail
  refine (A1.out _).mono ?_
  rintro e w' ⟨rfl, rfl⟩
  go_wp2_with fail
  go_ret
  exact ⟨rfl, hb1⟩
theorem out2 {g h : Nat} (s d : Nat) (hg : rightN g) (bh : h < 18446744073709551616) (hh : ¬ rightN h) (w : World) (hT : Tab w) :
    Calls Tryd.prog 5 #[.int .u64 (g : Int), .int .u64 (h : Int), .int .u64 (s : Int), .int .u64 (d : Int)] w fun e w' => e = .returned (.bool true) ∧ Below w.heap.size w w' := by
  have A1 := Lib.hid (fun w => refRight' (decide_eq_true hg) (rightN_64 hg) rfl w)
  have A2 := Lib.hid (fun w => refRight' (decide_eq_false hh) bh rfl w)
  clear hg hh
  go_enter Tryd.func5, Tryd.ntmps5
  go_wp2_with fail
  refine (alive9 _ hT).mono ?_
  rintro e w1 ⟨rfl, hb1⟩
  go_wp2_with fail
  refine (A1.out _).mono ?_
  rintro e w' ⟨rfl, rfl⟩
  go_wp2_with fail
  refine (A2.out _).mono ?_
  rintro e w' ⟨rfl, rfl⟩
  go_wp2_with fail
  go_ret
  exact ⟨rfl, hb1⟩
set_option maxHeartbeats 1000000 in
theorem inn {g h s d : Nat} (hg : rightN g) (hh : rightN h) (bs : s < 18446744073709551616) (bd : d < 18446744073709551616) (w : World) (hT : Tab w) :
    Calls Tryd.prog 5 #[.int .u64 (g : Int), .int .u64 (h : Int), .int .u64 (s : Int), .int .u64 (d : Int)] w fun e w' => e = .returned (.bool true) ∧ Below w.heap.size w w' := by
  have ok1 := know_ok g s d hg
  have ok2 := equal_ok g h s d hg hh
  obtain ⟨x, hx⟩ : ∃ t, timesN g s = t := ⟨_, rfl⟩
  obtain ⟨y, hy⟩ : ∃ t, timesN h s = t := ⟨_, rfl⟩
  obtain ⟨t, ht⟩ : ∃ u, timesN g d = u := ⟨_, rfl⟩
  obtain ⟨u, hu⟩ : ∃ u, timesN h d = u := ⟨_, rfl⟩
  have bx : x < 2305843009213693951 := by rw [← hx]; exact timesN_lt _ _
  have by' : y < 2305843009213693951 := by rw [← hy]; exact timesN_lt _ _
  obtain ⟨c1, hc1⟩ : ∃ t, knowC g x d = t := ⟨_, rfl⟩
  obtain ⟨c2, hc2⟩ : ∃ t, equalC g x h y d = t := ⟨_, rfl⟩
  obtain ⟨r1, hr1⟩ : ∃ t, answerS c1 s d = t := ⟨_, rfl⟩
  obtain ⟨r2, hr2⟩ : ∃ t, answerS c2 s d = t := ⟨_, rfl⟩
  rw [hx, hc1, hr1] at ok1
  rw [hx, hy, hc2, hr2] at ok2
  rw [knowC, ht] at hc1
  rw [equalC, ht, hu] at hc2
  have bg := rightN_64 hg
  have bh := rightN_64 hh
  have A1 := Lib.hid (fun w => refRight' (decide_eq_true hg) bg rfl w)
  have A2 := Lib.hid (fun w => refRight' (decide_eq_true hh) bh rfl w)
  have A3 := Lib.hid (fun w => refTimes' hx bg bs rfl rfl w)
  have A4 := Lib.hid (fun w => refTimes' hy bh bs rfl rfl w)
  have A5 := Lib.hid (fun w (h' : Tab w) => know' ht hc1 hr1 bg (by omega) bs bd w h')
  have A6 := Lib.hid (fun w (h' : Tab w) => checkKnow' (decide_eq_true ok1) bg (by omega) w h')
  have A7 := Lib.hid (fun w (h' : Tab w) => equal' ht hu hc2 hr2 bg (by omega) bh (by omega) bs bd w h')
  have A8 := Lib.hid (fun w (h' : Tab w) => checkEqual' (decide_eq_true ok2) bg (by omega) bh (by omega) w h')
  clear hg hh ok1 ok2 hx hy ht hu hc1 hc2 hr1 hr2
  go_enter Tryd.func5, Tryd.ntmps5
  go_wp2_with fail
  refine (alive9 _ hT).mono ?_
  rintro e w1 ⟨rfl, hb1⟩
  go_wp2_with fail
  refine (A1.out _).mono ?_
  rintro e w' ⟨rfl, rfl⟩
  go_wp2_with fail
  refine (A2.out _).mono ?_
  rintro e w' ⟨rfl, rfl⟩
  go_wp2_with fail
  refine (A3.out _).mono ?_
  rintro e w' ⟨rfl, rfl⟩
  go_wp2_with fail
  refine (A4.out _).mono ?_
  rintro e w' ⟨rfl, rfl⟩
  go_wp2_with fail
  refine (A5.out _ (hT.keep hb1)).mono ?_
  rintro e w2 ⟨rfl, hb2⟩
  have hbw2 := hb1.trans (hb2.mono hb1.size)
  go_wp2_with fail
  refine (A6.out _ (hT.keep hbw2)).mono ?_
  rintro e w3 ⟨rfl, hb3⟩
  have hbw3 := hbw2.trans (hb3.mono hbw2.size)
  go_wp2_with fail
  refine (A7.out _ (hT.keep hbw3)).mono ?_
  rintro e w4 ⟨rfl, hb4⟩
  have hbw4 := hbw3.trans (hb4.mono hbw3.size)
  go_wp2_with fail
  refine (A8.out _ (hT.keep hbw4)).mono ?_
  rintro e w5 ⟨rfl, hb5⟩
  go_wp2_with fail
  go_ret
  exact ⟨rfl, hbw4.trans (hb5.mono hbw4.size)⟩
theorem all (g h s d : Int) (w : World) (hT : Tab w) (w0 : (Lit.int .u64 g).wf = true) (w1 : (Lit.int .u64 h).wf = true) (w2 : (Lit.int .u64 s).wf = true) (w3 : (Lit.int .u64 d).wf = true) :
    Calls Tryd.prog 5 #[.int .u64 g, .int .u64 h, .int .u64 s, .int .u64 d] w fun e w' => e = .returned (.bool true) ∧ Below w.heap.size w w' := by
  obtain ⟨g, rfl, hg⟩ := u64_wf w0
  obtain ⟨h, rfl, hh⟩ := u64_wf w1
  obtain ⟨s, rfl, hs⟩ := u64_wf w2
  obtain ⟨d, rfl, hd⟩ := u64_wf w3
  by_cases h1 : rightN g
  · by_cases h2 : rightN h
    · exact inn h1 h2 hs hd w hT
    · exact out2 s d h1 hh h2 w hT
  · exact out1 h s d hg h1 w hT
end proofHoldsLaw
end Go.Proofs.YtgjepiblhpmaiaaDoor
