/-
  Contract of sign.Check.
-/
import Derived.Test.YtcdoeiccdmmfkaaDoorSign
import Derived.Deep.RegionHeld
import Derived.Deep.RegionHeld3
namespace Go.Proofs.YtcdoeiccdmmfkaaDoor
open Go.ChangeShapes Go.WideShapes Go.ChangeAt Go.RowKit
set_option linter.unusedVariables false
set_option linter.unusedSimpArgs false

namespace signCheck
theorem no1 {x : Nat} (c s : Nat) (hx : x < 18446744073709551616) (h : ¬ rightN x) (A : Option Addr) (n cap : Nat) (w : World) :
    Calls Tryd.prog 14 #[.int .u64 (x : Int), .slice A n cap, .agg #[.int .u64 (c : Int), .int .u64 (s : Int)]] w fun e w' => e = .returned (.bool false) ∧ Below w.heap.size w w' := by
  have hb1 := (Below.refl w.heap.size w).alloc (Nat.le_refl _) (.cells #[.int .u64 (c : Int), .int .u64 (s : Int)] 26)
  have A1 := Lib.hid (fun w => groupRight' (decide_eq_false h) hx rfl w)
  clear h
  go_enter Tryd.func14, Tryd.ntmps14
  go_wp2_with fail
  refine (A1.out _).mono ?_
  rintro e w' ⟨rfl, rfl⟩
  go_wp2_with fail
  go_ret
  exact ⟨rfl, hb1⟩
theorem no2 {x c : Nat} (s : Nat) (hx : rightN x) (h : ¬ c < 2305843009213693950) (A : Option Addr) (n cap : Nat) (w : World) :
    Calls Tryd.prog 14 #[.int .u64 (x : Int), .slice A n cap, .agg #[.int .u64 (c : Int), .int .u64 (s : Int)]] w fun e w' => e = .returned (.bool false) ∧ Below w.heap.size w w' := by
  have hb1 := (Below.refl w.heap.size w).alloc (Nat.le_refl _) (.cells #[.int .u64 (c : Int), .int .u64 (s : Int)] 26)
  obtain ⟨c0, c1⟩ := (newProof w c s).proof
  have A1 := Lib.hid (fun w => groupRight' (decide_eq_true hx) (by have := hx.2; omega) rfl w)
  have h1 : (2305843009213693950 : Int) ≤ (c : Int) := by omega
  clear h hx
  go_enter Tryd.func14, Tryd.ntmps14
  go_wp2_with fail
  refine (A1.out _).mono ?_
  rintro e w' ⟨rfl, rfl⟩
  go_wp2_with fail
  go_ret
  exact ⟨rfl, hb1⟩
theorem no3 {x c s : Nat} (hx : rightN x) (hc : c < 2305843009213693950) (h : ¬ s < 2305843009213693950) (A : Option Addr) (n cap : Nat) (w : World) :
    Calls Tryd.prog 14 #[.int .u64 (x : Int), .slice A n cap, .agg #[.int .u64 (c : Int), .int .u64 (s : Int)]] w fun e w' => e = .returned (.bool false) ∧ Below w.heap.size w w' := by
  have hb1 := (Below.refl w.heap.size w).alloc (Nat.le_refl _) (.cells #[.int .u64 (c : Int), .int .u64 (s : Int)] 26)
  obtain ⟨c0, c1⟩ := (newProof w c s).proof
  have A1 := Lib.hid (fun w => groupRight' (decide_eq_true hx) (by have := hx.2; omega) rfl w)
  have h1 : decide ((2305843009213693950 : Int) ≤ (c : Int)) = false := decide_eq_false (by omega)
  have h2 : (2305843009213693950 : Int) ≤ (s : Int) := by omega
  clear h hx hc
  go_enter Tryd.func14, Tryd.ntmps14
  go_wp2_with fail
  refine (A1.out _).mono ?_
  rintro e w' ⟨rfl, rfl⟩
  go_wp2_with fail
  go_ret
  exact ⟨rfl, hb1⟩
set_option maxHeartbeats 2000000 in
theorem yes {x c s : Nat} {b : List UInt8} (hx : rightN x) (h : smallN c s) (A : Option Addr) (n cap : Nat) (w : World) (hA : Bytes w A n cap b) (hT : Tab w) :
    Calls Tryd.prog 14 #[.int .u64 (x : Int), .slice A n cap, .agg #[.int .u64 (c : Int), .int .u64 (s : Int)]] w fun e w' => e = .returned (.bool (decide (c = signC x (backN 37 x c s) b))) ∧ Below w.heap.size w w' := by
  obtain ⟨r, hr⟩ : ∃ t, backN 37 x c s = t := ⟨_, rfl⟩
  have br : r < 2305843009213693951 := by rw [← hr]; exact backN_lt _ _ _ _
  obtain ⟨q, hq⟩ : ∃ t, signC x r b = t := ⟨_, rfl⟩
  have hx64 : x < 18446744073709551616 := by have := hx.2; omega
  have hc64 : c < 18446744073709551616 := by have := h.1; omega
  have hs64 : s < 18446744073709551616 := by have := h.2; omega
  rw [hr, hq]
  obtain ⟨t, ht⟩ : ∃ t, timesN 37 s = t := ⟨_, rfl⟩
  obtain ⟨u, hu⟩ : ∃ t, timesN x c = t := ⟨_, rfl⟩
  have rt : rightN t := by rw [← ht]; exact rightN_times rightN_37 s
  have ru : rightN u := by rw [← hu]; exact rightN_times hx c
  have A1 := Lib.hid (fun w => groupRight' (decide_eq_true hx) hx64 rfl w)
  have A2 := Lib.hid (fun w => groupBase' ht hs64 rfl w)
  have A3 := Lib.hid (fun w => groupTimes' hu hx64 hc64 rfl rfl w)
  have hN := Nums.lit (w.alloc (.cells #[.int .u64 (c : Int), .int .u64 (s : Int)] 26)) [t, u] (by simp [maxLen]) (by intro z hz; have := rt.2; have := ru.2; simp at hz; omega)
  rw [show (w.alloc (.cells #[.int .u64 (c : Int), .int .u64 (s : Int)] 26)).heap.size = w.heap.size + 1 by simp] at hN
  have A0 := groupProductN _ _ _ _ _ (hN.keep (Below.refl _ _).drew)
  rw [show prodN 1 [t, u] = r by rw [prodN_two rt ru, ← hr, backN, ht, hu]] at A0
  have A4 := Lib.hid (show Calls Tryd.prog 32 #[.slice (some ⟨w.heap.size + 1, 0, none⟩) 2 2] ((w.alloc (.cells #[.int .u64 (c : Int), .int .u64 (s : Int)] 26)).alloc (.cells #[.int .u64 (t : Int), .int .u64 (u : Int)] 22)).drew fun e w' => e = .returned (.int .u64 (r : Int)) ∧ ((w.alloc (.cells #[.int .u64 (c : Int), .int .u64 (s : Int)] 26)).alloc (.cells #[.int .u64 (t : Int), .int .u64 (u : Int)] 22)).drew = w' from A0)
  have A5 := Lib.hid (fun w (hA : Bytes w A n cap b) (hT : Tab w) => signChallenge' hq hx64 (by omega) A n cap w hA hT)
  have H1 := newProof w c s
  obtain ⟨c0, c1⟩ := H1.proof
  have hb1 := (Below.refl w.heap.size w).alloc (Nat.le_refl _) (.cells #[.int .u64 (c : Int), .int .u64 (s : Int)] 26)
  have HC := Lib.hid (fun (u : World) (h : Below (w.alloc (.cells #[.int .u64 (c : Int), .int .u64 (s : Int)] 26)).drew.heap.size (w.alloc (.cells #[.int .u64 (c : Int), .int .u64 (s : Int)] 26)).drew u) => (Has.keep (w := (w.alloc (.cells #[.int .u64 (c : Int), .int .u64 (s : Int)] 26)).drew) H1 h H1.lt).proof)
  have HX := Lib.hid (fun (u : World) (h : Below (w.alloc (.cells #[.int .u64 (c : Int), .int .u64 (s : Int)] 26)).drew.heap.size (w.alloc (.cells #[.int .u64 (c : Int), .int .u64 (s : Int)] 26)).drew u) => show Tab u ∧ Bytes u A n cap b ∧ Below w.heap.size w u from
    have hb := hb1.drew.trans (h.mono hb1.drew.size)
    ⟨hT.keep hb, hA.keep hb, hb⟩)
  have h1 : decide ((2305843009213693950 : Int) ≤ (c : Int)) = false := decide_eq_false (by have := h.1; omega)
  have h2 : decide ((2305843009213693950 : Int) ≤ (s : Int)) = false := decide_eq_false (by have := h.2; omega)
  have HY := Lib.hid (fun (u' : World) (h : Below (((w.alloc (.cells #[.int .u64 (c : Int), .int .u64 (s : Int)] 26)).alloc (.cells #[.int .u64 (t : Int), .int .u64 (u : Int)] 22)).drew).drew.heap.size (((w.alloc (.cells #[.int .u64 (c : Int), .int .u64 (s : Int)] 26)).alloc (.cells #[.int .u64 (t : Int), .int .u64 (u : Int)] 22)).drew).drew u') => show (u'.cell? ⟨w.heap.size, 0, none⟩ = some (.int .u64 (c : Int)) ∧ u'.cell? ⟨w.heap.size, 1, none⟩ = some (.int .u64 (s : Int))) ∧ Tab u' ∧ Bytes u' A n cap b ∧ Below w.heap.size w u' from
    have hb2 : Below (w.alloc (.cells #[.int .u64 (c : Int), .int .u64 (s : Int)] 26)).drew.heap.size (w.alloc (.cells #[.int .u64 (c : Int), .int .u64 (s : Int)] 26)).drew (((w.alloc (.cells #[.int .u64 (c : Int), .int .u64 (s : Int)] 26)).alloc (.cells #[.int .u64 (t : Int), .int .u64 (u : Int)] 22)).drew).drew := ((Below.refl _ (w.alloc (.cells #[.int .u64 (c : Int), .int .u64 (s : Int)] 26)).drew).alloc (Nat.le_refl _) (.cells #[.int .u64 (t : Int), .int .u64 (u : Int)] 22)).drew
    have hb := hb2.trans (h.mono hb2.size)
    ⟨HC.out u' hb, HX.out u' hb⟩)
  clear ht hu rt ru hr hx hN A0 hq h hA hT H1 hb1
  go_enter Tryd.func14, Tryd.ntmps14
  go_wp2_with fail
  refine (A1.out _).mono ?_
  rintro e w' ⟨rfl, rfl⟩
  go_wp2_with fail
  clear h1 h2 c0 c1
  go_region_held (fun w' => w'.cell? ⟨w.heap.size, 0, none⟩ = some (.int .u64 (c : Int)) ∧ w'.cell? ⟨w.heap.size, 1, none⟩ = some (.int .u64 (s : Int)))
    (first | exact HC.out _ (Below.refl _ _) | exact HC.out _ ((Below.refl _ _).alloc (Nat.le_refl _) _))
    (first
    | (go_at_call 18; with_reducible refine (A2.out _).mono ?_; rintro e w' ⟨rfl, rfl⟩)
    | (go_at_call 33; with_reducible refine (A3.out _).mono ?_; rintro e w' ⟨rfl, rfl⟩)
    | (go_at_call 32; with_reducible refine A4.out.mono ?_; rintro e w' ⟨rfl, rfl⟩))
  all_goals (
    clear A1 A2 A3 A4 HC HX
    go_wp2_with fail
    change Code.wp _ _ _ _ (((w.alloc (.cells #[.int .u64 (c : Int), .int .u64 (s : Int)] 26)).alloc (.cells #[.int .u64 (t : Int), .int .u64 (u : Int)] 22)).drew)
    generalize ((w.alloc (.cells #[.int .u64 (c : Int), .int .u64 (s : Int)] 26)).alloc (.cells #[.int .u64 (t : Int), .int .u64 (u : Int)] 22)).drew = w2 at *
    go_region_held (fun w' => w'.cell? ⟨w.heap.size, 0, none⟩ = some (.int .u64 (c : Int)) ∧ w'.cell? ⟨w.heap.size, 1, none⟩ = some (.int .u64 (s : Int)))
      (first | exact (HY.out _ (by assumption)).1 | exact (HY.out _ (Below.refl _ _)).1)
      (first
      | (go_at_call 17; with_reducible refine (A5.out _ (HY.out _ (Below.refl _ _)).2.2.1 (HY.out _ (Below.refl _ _)).2.1).mono ?_; rintro e w3 ⟨rfl, hb3⟩))
    all_goals (go_wp2; go_ret; exact ⟨ret_bool (beq_nat c q), (HY.out _ hb3).2.2.2⟩))
end signCheck
theorem signCheck' {x c s : Nat} {b : List UInt8} {v : Bool} (hv : decide (okSign x b c s) = v) (hx : x < 18446744073709551616) (A : Option Addr) (n cap : Nat) (w : World) (hA : Bytes w A n cap b) (hT : Tab w) :
    Calls Tryd.prog 14 #[.int .u64 (x : Int), .slice A n cap, .agg #[.int .u64 (c : Int), .int .u64 (s : Int)]] w fun e w' => e = .returned (.bool v) ∧ Below w.heap.size w w' := by
  by_cases h1 : rightN x
  case neg =>
    rw [← hv, show decide (okSign x b c s) = false from decide_eq_false fun h => h1 h.1]
    exact signCheck.no1 c s hx h1 A n cap w
  by_cases h2 : c < 2305843009213693950
  case neg =>
    rw [← hv, show decide (okSign x b c s) = false from decide_eq_false fun h => h2 h.2.1.1]
    exact signCheck.no2 s h1 h2 A n cap w
  by_cases h3 : s < 2305843009213693950
  case neg =>
    rw [← hv, show decide (okSign x b c s) = false from decide_eq_false fun h => h3 h.2.1.2]
    exact signCheck.no3 h1 h2 h3 A n cap w
  rw [← hv, show decide (okSign x b c s) = decide (c = signC x (backN 37 x c s) b) from decide_eq_decide.2 ⟨fun h => h.2.2, fun h => ⟨h1, ⟨h2, h3⟩, h⟩⟩]
  exact signCheck.yes h1 ⟨h2, h3⟩ A n cap w hA hT
end Go.Proofs.YtcdoeiccdmmfkaaDoor
