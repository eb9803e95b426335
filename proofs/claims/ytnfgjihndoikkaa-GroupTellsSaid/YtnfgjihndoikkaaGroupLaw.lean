/-
  The laws of chapter 8, group: the walks.
-/
import Derived.Test.YtnfgjihndoikkaaGroup
import Derived.Test.YtnfgjihndoikkaaGroupBytes
import Derived.Test.YtnfgjihndoikkaaRefScal
import Derived.Deep.RegionHeld
namespace Go.Proofs.Ytnfgjihndoikkaa
open Go.ChangeShapes Go.WideShapes Go.ChangeAt Go.RowKit
set_option linter.unusedVariables false
set_option linter.unusedSimpArgs false

theorem timesN_one : timesN 37 1 = 37 := by
  rw [timesN_right (by decide), powN_eq]
theorem alive8 (w : World) :
    Calls Try.prog 6 #[] w fun e w' => e = .returned (.bool true) ∧ w = w' := by
  have C1 := Lib.hid (fun w => groupBase' (b := 1) timesN_one (by decide) (y := 1) rfl w)
  have C2 := Lib.hid (fun w => groupRight' (x := 1) (b := true) (by decide) (by decide) (y := 1) rfl w)
  have C3 := Lib.hid (fun w => groupRight' (x := 0) (b := false) (by decide) (by decide) (y := 0) rfl w)
  go_enter Try.func6, Try.ntmps6
  go_wp2_with fail
  refine (C1.out _).mono ?_
  rintro e w' ⟨rfl, rfl⟩
  go_wp2_with fail
  refine (C2.out _).mono ?_
  rintro e w' ⟨rfl, rfl⟩
  go_wp2_with fail
  refine (C3.out _).mono ?_
  rintro e w' ⟨rfl, rfl⟩
  go_wp2_with fail
  go_ret
  exact ⟨rfl, rfl⟩
namespace groupTellsLaw
set_option maxHeartbeats 1000000 in
theorem walk (x n : Nat) (w : World) (hx : x < 18446744073709551616) (hn : n < 18446744073709551616) :
    Calls Try.prog 3 #[.int .u64 (x : Int), .int .u64 (n : Int)] w fun e w' => e = .returned (.bool true) ∧ Below w.heap.size w w' := by
  obtain ⟨r, hr⟩ : ∃ t, decide (rightN x) = t := ⟨_, rfl⟩
  obtain ⟨t, ht⟩ : ∃ t, timesN x n = t := ⟨_, rfl⟩
  obtain ⟨b, hb⟩ : ∃ t, timesN 37 n = t := ⟨_, rfl⟩
  have A1 := Lib.hid (fun w => groupRight' hr hx rfl w)
  have A2 := Lib.hid (fun w => refRight' hr hx rfl w)
  have A3 := Lib.hid (fun w => groupTimes' ht hx hn rfl rfl w)
  have A4 := Lib.hid (fun w => refTimes' ht hx hn rfl rfl w)
  have A5 := Lib.hid (fun w => groupBase' hb hn rfl w)
  have A6 := Lib.hid (fun w => refBase' hb hn rfl w)
  have A7 := Lib.hid (fun w => groupBytes x w hx)
  have A8 := Lib.hid (fun w => refBytes x w hx)
  have HK := Lib.hid (fun (w : World) (A : Option Addr) (n c : Nat) (l : List UInt8) (h : Bytes w A n c l) => run_str (P := Try.prog) Try.underlying27 Try.underlying5 Try.underlying9 h)
  clear hr ht hb
  go_enter Try.func3, Try.ntmps3
  go_wp2_with fail
  refine (alive8 _).mono ?_
  rintro e w' ⟨rfl, rfl⟩
  go_wp2_with fail
  go_region_held (fun w' => Below w.heap.size w w')
    (first | assumption | exact (Below.refl _ _).drew)
    (first
    | (go_at_call 7; refine (A1.out _).mono ?_; rintro e w' ⟨rfl, rfl⟩)
    | (go_at_call 8; refine (A2.out _).mono ?_; rintro e w' ⟨rfl, rfl⟩)
    | (go_at_call 9; refine (A3.out _).mono ?_; rintro e w' ⟨rfl, rfl⟩)
    | (go_at_call 10; refine (A4.out _).mono ?_; rintro e w' ⟨rfl, rfl⟩)
    | (go_at_call 11; refine (A5.out _).mono ?_; rintro e w' ⟨rfl, rfl⟩)
    | (go_at_call 12; refine (A6.out _).mono ?_; rintro e w' ⟨rfl, rfl⟩)
    | (go_at_call 13; refine (A7.out _).mono ?_; rintro e w6 ⟨v6, rfl, hown6, hb6⟩; obtain ⟨A6, c6, rfl, hr6⟩ := Row.own hown6; have hb6' := (Below.refl w.heap.size w).drew.trans hb6; have K5 := HK.out w6 A6 8 c6 (be64 x) hr6)
    | (go_at_call 14; refine (A8.out w6).mono ?_; rintro e w7 ⟨v7, rfl, hown7, hb7⟩; obtain ⟨A7, c7, rfl, hr7⟩ := Row.own hown7; have hb7' := hb6'.trans (hb7.mono hb6.size); have K7 := HK.out w7 A7 8 c7 (be64 x) hr7; have K6 := HK.out w7 A6 8 c6 (be64 x) (Row.keep hr6 hb7)))
  all_goals (go_wp2; go_ret; exact ⟨rfl, hb7'⟩)
theorem all (a b : Int) (w : World) (w0 : (Lit.int .u64 a).wf = true) (w1 : (Lit.int .u64 b).wf = true) :
    Calls Try.prog 3 #[.int .u64 a, .int .u64 b] w fun e w' => e = .returned (.bool true) ∧ Below w.heap.size w w' := by
  obtain ⟨a, rfl, ha⟩ := u64_wf w0
  obtain ⟨b, rfl, hb⟩ := u64_wf w1
  exact walk a b w ha hb
end groupTellsLaw
namespace groupPowersLaw
theorem out (x a b : Nat) (w : World) (hx : x < 18446744073709551616) (h : ¬ rightN x) :
    Calls Try.prog 5 #[.int .u64 (x : Int), .int .u64 (a : Int), .int .u64 (b : Int)] w fun e w' => e = .returned (.bool true) ∧ Below w.heap.size w w' := by
  have A1 := Lib.hid (fun w => groupRight' (decide_eq_false h) hx rfl w)
  clear h
  go_enter Try.func5, Try.ntmps5
  go_wp2_with fail
  refine (alive8 _).mono ?_
  rintro e w' ⟨rfl, rfl⟩
  go_wp2_with fail
  refine (A1.out _).mono ?_
  rintro e w' ⟨rfl, rfl⟩
  go_wp2_with fail
  go_ret
  exact ⟨rfl, Below.refl _ _⟩
set_option maxHeartbeats 400000 in
theorem inn (x a b : Nat) (w : World) (hx : x < 18446744073709551616) (ha : a < 18446744073709551616) (hb : b < 18446744073709551616) (h : rightN x) :
    Calls Try.prog 5 #[.int .u64 (x : Int), .int .u64 (a : Int), .int .u64 (b : Int)] w fun e w' => e = .returned (.bool true) ∧ Below w.heap.size w w' := by
  have A1 := Lib.hid (fun w => groupRight' (decide_eq_true h) hx rfl w)
  obtain ⟨p, hp⟩ : ∃ t, timesN x a = t := ⟨_, rfl⟩
  obtain ⟨q, hq⟩ : ∃ t, timesN x b = t := ⟨_, rfl⟩
  obtain ⟨m, hm⟩ : ∃ t, mulS a b = t := ⟨_, rfl⟩
  obtain ⟨s, hs⟩ : ∃ t, addS a b = t := ⟨_, rfl⟩
  obtain ⟨u, hu⟩ : ∃ t, timesN x m = t := ⟨_, rfl⟩
  obtain ⟨v, hv⟩ : ∃ t, timesN x s = t := ⟨_, rfl⟩
  have bp : p < 2305843009213693951 := by rw [← hp]; exact timesN_lt _ _
  have bq : q < 2305843009213693951 := by rw [← hq]; exact timesN_lt _ _
  have bm : m < 2305843009213693950 := by rw [← hm]; exact mulS_lt _ _
  have bs : s < 2305843009213693950 := by rw [← hs]; exact addS_lt _ _
  have rp : rightN p := by rw [← hp]; exact rightN_times h a
  have rq : rightN q := by rw [← hq]; exact rightN_times h b
  have T1 := Lib.hid (fun w => groupTimes' hp hx ha rfl rfl w)
  have T2 := Lib.hid (fun w => groupTimes' (c := u) (by rw [← hp, ← hu, ← hm]; exact timesN_times h a b) (a := p) (by omega) hb rfl rfl w)
  have M1 := Lib.hid (fun w => refMulN' hm ha hb rfl rfl w)
  have T3 := Lib.hid (fun w => groupTimes' hu hx (by omega) rfl rfl w)
  have T4 := Lib.hid (fun w => groupTimes' hq hx hb rfl rfl w)
  have P1 := Lib.hid (fun (w : World) (A : Option Addr) (n c : Nat) (hl : Nums w A n c [p, q]) => (show prodN 1 [p, q] = v by
    simp only [prodN, if_pos rp, if_pos rq]
    rw [show mulN 1 p = p by rw [mulN, Nat.one_mul, Nat.mod_eq_of_lt bp], ← hp, ← hq, ← hv, ← hs]
    exact timesN_addS h a b) ▸ groupProductN A n c [p, q] w hl)
  have S1 := Lib.hid (fun w => refAddN' hs ha hb rfl rfl w)
  have T5 := Lib.hid (fun w => groupTimes' hv hx (by omega) rfl rfl w)
  have T6 := Lib.hid (fun w => groupTimes' (b := 2305843009213693950) (c := 1) (timesN_full h _ (by decide +kernel)) hx (by omega) rfl (y := 2305843009213693950) rfl w)
  have A2 := Lib.hid (fun w => groupRight' (decide_eq_true rp) (by omega) rfl w)
  have HN := Lib.hid (fun (w : World) => Nums.lit w [p, q] (by simp [maxLen]) (by intro z hz; simp at hz; omega))
  clear h hp hq hm hs hu hv rp rq
  go_enter Try.func5, Try.ntmps5
  go_wp2_with fail
  refine (alive8 _).mono ?_
  rintro e w' ⟨rfl, rfl⟩
  go_wp2_with fail
  refine (A1.out _).mono ?_
  rintro e w' ⟨rfl, rfl⟩
  go_wp2_with fail
  refine (T1.out _).mono ?_
  rintro e w' ⟨rfl, rfl⟩
  go_wp2_with fail
  refine (T2.out _).mono ?_
  rintro e w' ⟨rfl, rfl⟩
  go_wp2_with fail
  refine (M1.out _).mono ?_
  rintro e w' ⟨rfl, rfl⟩
  go_wp2_with fail
  refine (T3.out _).mono ?_
  rintro e w' ⟨rfl, rfl⟩
  go_wp2_with fail
  refine (T1.out _).mono ?_
  rintro e w' ⟨rfl, rfl⟩
  go_wp2_with fail
  refine (T4.out _).mono ?_
  rintro e w' ⟨rfl, rfl⟩
  go_wp2_with fail
  refine (P1.out _ _ _ _ (HN.out _)).mono ?_
  rintro e w' ⟨rfl, rfl⟩
  go_wp2_with fail
  refine (S1.out _).mono ?_
  rintro e w' ⟨rfl, rfl⟩
  go_wp2_with fail
  refine (T5.out _).mono ?_
  rintro e w' ⟨rfl, rfl⟩
  go_wp2_with fail
  refine (T6.out _).mono ?_
  rintro e w' ⟨rfl, rfl⟩
  go_wp2_with fail
  refine (T1.out _).mono ?_
  rintro e w' ⟨rfl, rfl⟩
  go_wp2_with fail
  refine (A2.out _).mono ?_
  rintro e w' ⟨rfl, rfl⟩
  go_wp2_with fail
  go_ret
  exact ⟨rfl, (Below.refl _ _).alloc (Nat.le_refl _) _⟩
theorem all (x a b : Int) (w : World) (w0 : (Lit.int .u64 x).wf = true) (w1 : (Lit.int .u64 a).wf = true) (w2 : (Lit.int .u64 b).wf = true) :
    Calls Try.prog 5 #[.int .u64 x, .int .u64 a, .int .u64 b] w fun e w' => e = .returned (.bool true) ∧ Below w.heap.size w w' := by
  obtain ⟨x, rfl, hx⟩ := u64_wf w0
  obtain ⟨a, rfl, ha⟩ := u64_wf w1
  obtain ⟨b, rfl, hb⟩ := u64_wf w2
  by_cases h : rightN x
  · exact inn x a b w hx ha hb h
  · exact out x a b w hx h
end groupPowersLaw
namespace groupProductsLaw
theorem out (A : Option Addr) (n c : Nat) (w : World) (h : 100 < n) :
    Calls Try.prog 4 #[.slice A n c] w fun e w' => e = .returned (.bool true) ∧ Below w.heap.size w w' := by
  have h1 : (100 : Int) < (n : Int) := by omega
  go_enter Try.func4, Try.ntmps4
  go_wp2_with fail
  refine (alive8 _).mono ?_
  rintro e w' ⟨rfl, rfl⟩
  go_wp2_with fail
  go_ret
  exact ⟨rfl, Below.refl _ _⟩
theorem inn (A : Option Addr) (n c : Nat) (l : List Nat) (w : World) (hl : Nums w A n c l) (h : n ≤ 100) :
    Calls Try.prog 4 #[.slice A n c] w fun e w' => e = .returned (.bool true) ∧ Below w.heap.size w w' := by
  have h1 : ¬ (100 : Int) < (n : Int) := by omega
  obtain ⟨p, hp⟩ : ∃ t, prodN 1 l = t := ⟨_, rfl⟩
  have P1 := Lib.hid (fun A n c w (hl : Nums w A n c l) => hp ▸ groupProductN A n c l w hl)
  have P2 := Lib.hid (fun A n c w (hl : Nums w A n c l) => hp ▸ refProductN A n c l w hl)
  have HB := Lib.hid (show (0 + n) * 8 ≤ 140737488355328 by omega)
  clear hp
  go_enter Try.func4, Try.ntmps4
  go_wp2_with fail
  refine (alive8 _).mono ?_
  rintro e w' ⟨rfl, rfl⟩
  go_wp2_with (at_builtin; (refine app64 rfl (.const (.slice none 0 0)) (.tmp 13) rfl w.heap.size (.slice none 0 0) 0 [] rfl (World.ownsRow_nil _ _ _ _) A n c l rfl hl.1 HB.out (Nat.le_refl _) ?_); intro v2 w2 hown2 hg2)
  have hb2 : Below w.heap.size w w2 := (Below.refl _ _).grown hg2 (Nat.le_refl _) (fun k hk => by cases hk)
  rw [Nat.zero_add, List.nil_append] at hown2
  obtain ⟨A2, c2, rfl, hr2⟩ := Row.own hown2
  refine (P1.out _ _ _ _ ⟨hr2, hl.2⟩).mono ?_
  rintro e w' ⟨rfl, rfl⟩
  have hl2 := hl.keep hb2
  clear hown2 hr2 hg2
  go_wp2_with fail
  refine (P2.out _ _ _ _ hl2).mono ?_
  rintro e w' ⟨rfl, rfl⟩
  go_wp2_with fail
  go_ret
  exact ⟨rfl, hb2⟩
theorem all (A : Option Addr) (n c : Nat) (l : List Nat) (w : World) (hl : Nums w A n c l) :
    Calls Try.prog 4 #[.slice A n c] w fun e w' => e = .returned (.bool true) ∧ Below w.heap.size w w' := by
  by_cases h : 100 < n
  · exact out A n c w h
  · exact inn A n c l w hl (by omega)
end groupProductsLaw
end Go.Proofs.Ytnfgjihndoikkaa
