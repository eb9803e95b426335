/-
  Contracts of group.Right, Times, Base, Product, Bytes and of the reference's.
-/
import Derived.Test.YtgjepiblhpmaiaaDoorRefModp
import Derived.Test.YtgjepiblhpmaiaaDoorScal
import Derived.Test.YtgjepiblhpmaiaaDoorU64
namespace Go.Proofs.YtgjepiblhpmaiaaDoor
open Go.ChangeShapes Go.WideShapes Go.ChangeAt Go.RowKit
set_option linter.unusedVariables false
set_option linter.unusedSimpArgs false

theorem groupRight (x : Nat) (w : World) (hx : x < 18446744073709551616) :
    Calls Tryd.prog 34 #[.int .u64 (x : Int)] w fun e w' => e = .returned (.bool (decide (rightN x))) ∧ w = w' := by
  by_cases h0 : x = 0
  · have hd : decide (rightN x) = false := decide_eq_false (fun h => by have := h.1; omega)
    have h1 : ¬ (0 : Int) < (x : Int) := by omega
    rw [hd]
    clear h0 hd
    go_enter Tryd.func34, Tryd.ntmps34
    go_wp2_with fail
    go_ret
    exact ⟨rfl, rfl⟩
  · have h1 : 0 < x := by omega
    by_cases h2 : x < 2305843009213693951
    · have hd : decide (rightN x) = true := decide_eq_true ⟨by omega, h2⟩
      have h3 := Lib.hid (show (x : Int) < 2305843009213693951 by omega)
      rw [hd]
      clear h0 hd h2
      go_enter Tryd.func34, Tryd.ntmps34
      go_wp2_with fail
      go_ret
      exact ⟨ret_bool (decide_eq_true h3.out), rfl⟩
    · have hd : decide (rightN x) = false := decide_eq_false (fun h => h2 h.2)
      have h3 := Lib.hid (show ¬ (x : Int) < 2305843009213693951 by omega)
      rw [hd]
      clear h0 hd h2
      go_enter Tryd.func34, Tryd.ntmps34
      go_wp2_with fail
      go_ret
      exact ⟨ret_bool (decide_eq_false (Int.not_lt.2 h3.out)), rfl⟩
/-- The same, the answer under a name. -/
theorem groupRight' {x : Nat} {b : Bool} (hb : decide (rightN x) = b) (hx : x < 18446744073709551616) {y : Int} (hy : (x : Int) = y) (w : World) :
    Calls Tryd.prog 34 #[.int .u64 y] w fun e w' => e = .returned (.bool b) ∧ w = w' := by
  subst hb hy
  exact groupRight x w hx
theorem refRight (x : Nat) (w : World) (hx : x < 18446744073709551616) :
    Calls Tryd.prog 19 #[.int .u64 (x : Int)] w fun e w' => e = .returned (.bool (decide (rightN x))) ∧ w = w' := by
  by_cases h0 : x = 0
  · have hd : decide (rightN x) = false := decide_eq_false (fun h => by have := h.1; omega)
    have h1 : ¬ (1 : Int) ≤ (x : Int) := by omega
    rw [hd]
    clear h0 hd
    go_enter Tryd.func19, Tryd.ntmps19
    go_wp2_with fail
    go_ret
    exact ⟨rfl, rfl⟩
  · have h1 : (1 : Int) ≤ (x : Int) := by omega
    by_cases h2 : x < 2305843009213693951
    · have hd : decide (rightN x) = true := decide_eq_true ⟨by omega, h2⟩
      have h3 := Lib.hid (show (x : Int) < 2305843009213693951 by omega)
      rw [hd]
      clear h0 hd h2
      go_enter Tryd.func19, Tryd.ntmps19
      go_wp2_with fail
      go_ret
      exact ⟨ret_bool (decide_eq_true h3.out), rfl⟩
    · have hd : decide (rightN x) = false := decide_eq_false (fun h => h2 h.2)
      have h3 := Lib.hid (show ¬ (x : Int) < 2305843009213693951 by omega)
      rw [hd]
      clear h0 hd h2
      go_enter Tryd.func19, Tryd.ntmps19
      go_wp2_with fail
      go_ret
      exact ⟨ret_bool (decide_eq_false (Int.not_lt.2 h3.out)), rfl⟩
/-- The same, the answer under a name. -/
theorem refRight' {x : Nat} {b : Bool} (hb : decide (rightN x) = b) (hx : x < 18446744073709551616) {y : Int} (hy : (x : Int) = y) (w : World) :
    Calls Tryd.prog 19 #[.int .u64 y] w fun e w' => e = .returned (.bool b) ∧ w = w' := by
  subst hb hy
  exact refRight x w hx
theorem groupTimes (x n : Nat) (w : World) (hx : x < 18446744073709551616) (he : n < 18446744073709551616) :
    Calls Tryd.prog 31 #[.int .u64 (x : Int), .int .u64 (n : Int)] w fun e w' => e = .returned (.int .u64 ((timesN x n : Nat) : Int)) ∧ w = w' := by
  by_cases h : rightN x
  · have C1 := Lib.hid (fun w => groupRight' (decide_eq_true h) hx rfl w)
    rw [timesN_right h]
    obtain ⟨q, hq⟩ : ∃ t, powN x n = t := ⟨_, rfl⟩
    rw [hq]
    have C2 := Lib.hid (fun w => modpPow' hq hx he rfl w)
    clear hq h
    go_enter Tryd.func31, Tryd.ntmps31
    go_wp2_with fail
    refine (C1.out _).mono ?_
    rintro e w' ⟨rfl, rfl⟩
    go_wp2_with fail
    refine (C2.out _).mono ?_
    rintro e w' ⟨rfl, rfl⟩
    go_wp2_with fail
    go_ret
    exact ⟨rfl, rfl⟩
  · have C1 := Lib.hid (fun w => groupRight' (decide_eq_false h) hx rfl w)
    rw [timesN_not h]
    clear h
    go_enter Tryd.func31, Tryd.ntmps31
    go_wp2_with fail
    refine (C1.out _).mono ?_
    rintro e w' ⟨rfl, rfl⟩
    go_wp2_with fail
    go_ret
    exact ⟨rfl, rfl⟩
/-- The same, the answer under a name. -/
theorem groupTimes' {a b c : Nat} (h : timesN a b = c) (ha : a < 18446744073709551616) (hb : b < 18446744073709551616) {x y : Int} (hx : (a : Int) = x) (hy : (b : Int) = y) (w : World) :
    Calls Tryd.prog 31 #[.int .u64 x, .int .u64 y] w fun e w' => e = .returned (.int .u64 (c : Int)) ∧ w = w' := by
  subst h hx hy
  exact groupTimes a b w ha hb
theorem refTimes (x n : Nat) (w : World) (hx : x < 18446744073709551616) (he : n < 18446744073709551616) :
    Calls Tryd.prog 20 #[.int .u64 (x : Int), .int .u64 (n : Int)] w fun e w' => e = .returned (.int .u64 ((timesN x n : Nat) : Int)) ∧ w = w' := by
  by_cases h : rightN x
  · have C1 := Lib.hid (fun w => refRight' (decide_eq_true h) hx rfl w)
    rw [timesN_right h]
    obtain ⟨q, hq⟩ : ∃ t, powN x n = t := ⟨_, rfl⟩
    rw [hq]
    have C2 := Lib.hid (fun w => refPowP' hq hx he rfl w)
    clear hq h
    go_enter Tryd.func20, Tryd.ntmps20
    go_wp2_with fail
    refine (C1.out _).mono ?_
    rintro e w' ⟨rfl, rfl⟩
    go_wp2_with fail
    refine (C2.out _).mono ?_
    rintro e w' ⟨rfl, rfl⟩
    go_wp2_with fail
    go_ret
    exact ⟨rfl, rfl⟩
  · have C1 := Lib.hid (fun w => refRight' (decide_eq_false h) hx rfl w)
    rw [timesN_not h]
    clear h
    go_enter Tryd.func20, Tryd.ntmps20
    go_wp2_with fail
    refine (C1.out _).mono ?_
    rintro e w' ⟨rfl, rfl⟩
    go_wp2_with fail
    go_ret
    exact ⟨rfl, rfl⟩
/-- The same, the answer under a name. -/
theorem refTimes' {a b c : Nat} (h : timesN a b = c) (ha : a < 18446744073709551616) (hb : b < 18446744073709551616) {x y : Int} (hx : (a : Int) = x) (hy : (b : Int) = y) (w : World) :
    Calls Tryd.prog 20 #[.int .u64 x, .int .u64 y] w fun e w' => e = .returned (.int .u64 (c : Int)) ∧ w = w' := by
  subst h hx hy
  exact refTimes a b w ha hb
theorem prodN_step (l : List Nat) (j : Nat) (h : j < l.length) (hr : ∀ z ∈ l.take j, rightN z) (hx : rightN (l.getD j 0)) :
    prodN 1 (l.take (j + 1)) = mulN (prodN 1 (l.take j)) (l.getD j 0) ∧ ∀ z ∈ l.take (j + 1), rightN z := by
  rw [List.take_succ_eq_append_getElem h]
  have e : l.getD j 0 = l[j] := by simp [h]
  rw [e] at hx ⊢
  refine ⟨prodN_snoc _ _ _ hr hx, fun z hz => ?_⟩
  rcases List.mem_append.1 hz with hz | hz
  · exact hr z hz
  · rw [List.mem_singleton.1 hz]
    exact hx
theorem prodN_stop (l : List Nat) (j : Nat) (h : j < l.length) (hx : ¬ rightN (l.getD j 0)) : prodN 1 l = 0 := by
  have e : l.getD j 0 = l[j] := by simp [h]
  rw [e] at hx
  have h1 : l = l.take j ++ l[j] :: l.drop (j + 1) := by simp
  rw [h1]
  exact prodN_not _ _ _ _ hx
namespace groupProduct
theorem none_ (A : Option Addr) (c : Nat) (w : World) :
    Calls Tryd.prog 53 #[.slice A 0 c] w fun e w' => e = .returned (.int .u64 1) ∧ w = w' := by
  go_enter Tryd.func53, Tryd.ntmps53
  go_wp2
  go_loop [3, 8] (fun x k => k = .int .i64 0 ∧ x = .int .u64 1) (fun _ k => 0)
  case atStart => exact ⟨rfl, rfl⟩
  case round =>
    obtain ⟨rfl, rfl⟩ := hrel
    go_wp2
    go_ret
    exact ⟨rfl, rfl⟩
set_option maxHeartbeats 400000 in
theorem some_ (A : Option Addr) (n c : Nat) (l : List Nat) (w : World) (hl : Nums w A n c l) (h0 : 0 < n) :
    Calls Tryd.prog 53 #[.slice A n c] w fun e w' => e = .returned (.int .u64 ((prodN 1 l : Nat) : Int)) ∧ w = w' := by
  obtain ⟨b, off, rfl, hb, hc⟩ := hl.at_ h0
  have hn := hl.le
  have hcap := hl.1.2.1
  have H := Lib.hid hl.len
  have HG := Lib.hid hl.lt
  have HC := Lib.hid hc
  clear hc hl
  go_enter Tryd.func53, Tryd.ntmps53
  go_wp2
  go_loop [3, 8] (fun x k => ∃ j y : Nat, j ≤ n ∧ k = .int .i64 j ∧ x = .int .u64 y ∧ y < 2305843009213693951 ∧ Hid (y = prodN 1 (l.take j)) ∧ Hid (∀ z ∈ l.take j, rightN z)) (fun _ k => n - (intOf k).toNat)
  case atStart => exact ⟨0, 1, Nat.zero_le _, rfl, rfl, by decide, Lib.hid rfl, Lib.hid (fun z hz => by simp at hz)⟩
  case round =>
    obtain ⟨j, y, hj, rfl, rfl, hy, HY, HR⟩ := hrel
    by_cases hlt : j < n
    · have hcj := HC.out j hlt
      obtain ⟨x, hx⟩ : ∃ x, l.getD j 0 = x := ⟨_, rfl⟩
      have hx64 : x < 18446744073709551616 := by rw [← hx]; exact HG.out j
      rw [hx] at hcj
      by_cases hr : rightN x
      · have C1 := Lib.hid (fun w => groupRight' (decide_eq_true hr) hx64 rfl w)
        obtain ⟨m, hm⟩ : ∃ m, mulN y x = m := ⟨_, rfl⟩
        have bm : m < 2305843009213693951 := by rw [← hm]; exact mulN_lt _ _
        have C2 := Lib.hid (fun w => modpMul' hm (by omega) hx64 rfl rfl w)
        have HS := Lib.hid (prodN_step l j (by rw [H.out]; exact hlt) HR.out (by rw [hx]; exact hr))
        have HN := Lib.hid (show m = prodN 1 (l.take (j + 1)) by rw [HS.out.1, hx, ← HY.out, hm])
        have HM := Lib.hid HS.out.2
        clear hx hm hr HS
        go_wp2_with fail
        refine (C1.out _).mono ?_
        rintro e w' ⟨rfl, rfl⟩
        go_wp2_with fail
        refine (C2.out _).mono ?_
        rintro e w' ⟨rfl, rfl⟩
        go_wp2_with fail
        go_round
        case rel => exact ⟨j + 1, m, by omega, by go_num, rfl, bm, HN, HM⟩
        case measure => simp [intOf]; omega
      · have C1 := Lib.hid (fun w => groupRight' (decide_eq_false hr) hx64 rfl w)
        have HP := Lib.hid (prodN_stop l j (by rw [H.out]; exact hlt) (by rw [hx]; exact hr))
        clear hx hr
        go_wp2_with fail
        refine (C1.out _).mono ?_
        rintro e w' ⟨rfl, rfl⟩
        go_wp2_with fail
        go_ret
        exact ⟨ret_int (by rw [HP.out]; rfl), rfl⟩
    · have hjn : j = n := by omega
      have HE := Lib.hid (show y = prodN 1 l by rw [HY.out, hjn, ← H.out, List.take_length])
      go_wp2
      go_ret
      exact ⟨ret_int (by rw [HE.out]), rfl⟩
end groupProduct
theorem groupProductN (A : Option Addr) (n c : Nat) (l : List Nat) (w : World) (hl : Nums w A n c l) :
    Calls Tryd.prog 53 #[.slice A n c] w fun e w' => e = .returned (.int .u64 ((prodN 1 l : Nat) : Int)) ∧ w = w' := by
  rcases Nat.eq_zero_or_pos n with h0 | h0
  · subst h0
    obtain rfl : l = [] := List.eq_nil_of_length_eq_zero hl.len
    exact groupProduct.none_ A c w
  · exact groupProduct.some_ A n c l w hl h0
end Go.Proofs.YtgjepiblhpmaiaaDoor
