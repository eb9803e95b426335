/-
  Contracts of proof's reduced, drawn, CheckKnow, CheckEqual and of the reference's small, back, CheckKnow, CheckEqual.
-/
import Derived.Test.YtgjepiblhpmaiaaDoorProof
import Derived.Deep.RegionHeld
import Derived.Deep.RegionHeld3
namespace Go.Proofs.YtgjepiblhpmaiaaDoor
open Go.ChangeShapes Go.WideShapes Go.ChangeAt Go.RowKit
set_option linter.unusedVariables false
set_option linter.unusedSimpArgs false

theorem Has.proof {w : World} {g c s : Nat} {t : TypeId} (h : Has w g t [nv c, nv s]) : w.cell? ⟨g, 0, none⟩ = some (.int .u64 (c : Int)) ∧ w.cell? ⟨g, 1, none⟩ = some (.int .u64 (s : Int)) := ⟨h.cell 0, h.cell 1⟩
theorem reduced' (c s : Nat) (w : World) {b : Bool} (hb : decide (smallN c s) = b) :
    Calls Tryd.prog 35 #[.agg #[.int .u64 (c : Int), .int .u64 (s : Int)]] w fun e w' => e = .returned (.bool b) ∧ Below w.heap.size w w' := by
  subst hb
  have H1 := newProof w c s
  have hb1 := (Below.refl w.heap.size w).alloc (Nat.le_refl _) (.cells #[.int .u64 (c : Int), .int .u64 (s : Int)] 27)
  obtain ⟨c0, c1⟩ := H1.proof
  by_cases hc : c < 2305843009213693950
  · have h1 : decide ((c : Int) < 2305843009213693950) = true := decide_eq_true (by omega)
    have HD := Lib.hid (show decide ((s : Int) < 2305843009213693950) = decide (smallN c s) from decide_eq_decide.2 ⟨fun h => ⟨hc, by omega⟩, fun h => by have := h.2; omega⟩)
    clear hc H1
    go_enter Tryd.func35, Tryd.ntmps35
    go_wp2_with fail
    go_ret
    exact ⟨ret_bool HD.out, hb1⟩
  · have h1 : decide ((c : Int) < 2305843009213693950) = false := decide_eq_false (by omega)
    have HD := Lib.hid (show decide (smallN c s) = false from decide_eq_false (fun h => hc h.1))
    clear hc H1
    go_enter Tryd.func35, Tryd.ntmps35
    go_wp2_with fail
    go_ret
    exact ⟨ret_bool HD.out.symm, hb1⟩
theorem refSmall' (c s : Nat) (w : World) {b : Bool} (hb : decide (smallN c s) = b) :
    Calls Tryd.prog 37 #[.agg #[.int .u64 (c : Int), .int .u64 (s : Int)]] w fun e w' => e = .returned (.bool b) ∧ Below w.heap.size w w' := by
  subst hb
  have H1 := newProof w c s
  have hb1 := (Below.refl w.heap.size w).alloc (Nat.le_refl _) (.cells #[.int .u64 (c : Int), .int .u64 (s : Int)] 27)
  obtain ⟨c0, c1⟩ := H1.proof
  by_cases hc : c < 2305843009213693950
  · have h1 : decide ((c : Int) < 2305843009213693950) = true := decide_eq_true (by omega)
    have HD := Lib.hid (show decide ((s : Int) < 2305843009213693950) = decide (smallN c s) from decide_eq_decide.2 ⟨fun h => ⟨hc, by omega⟩, fun h => by have := h.2; omega⟩)
    clear hc H1
    go_enter Tryd.func37, Tryd.ntmps37
    go_wp2_with fail
    go_ret
    exact ⟨ret_bool HD.out, hb1⟩
  · have h1 : decide ((c : Int) < 2305843009213693950) = false := decide_eq_false (by omega)
    have HD := Lib.hid (show decide (smallN c s) = false from decide_eq_false (fun h => hc h.1))
    clear hc H1
    go_enter Tryd.func37, Tryd.ntmps37
    go_wp2_with fail
    go_ret
    exact ⟨ret_bool HD.out.symm, hb1⟩

/-! ### What a proof comes back to -/
theorem prodN_two {a b : Nat} (ha : rightN a) (hb : rightN b) : prodN 1 [a, b] = mulN a b := by
  simp only [prodN, if_pos ha, if_pos hb]
  rw [show mulN 1 a = a by rw [mulN, Nat.one_mul, Nat.mod_eq_of_lt ha.2]]
set_option maxHeartbeats 1000000 in
theorem drawn' {g x c s r : Nat} (hr : backN g x c s = r) (hg : rightN g) (hx : rightN x) (hc : c < 18446744073709551616) (hs : s < 18446744073709551616) (w : World) :
    Calls Tryd.prog 36 #[.int .u64 (g : Int), .int .u64 (x : Int), .agg #[.int .u64 (c : Int), .int .u64 (s : Int)]] w fun e w' => e = .returned (.int .u64 (r : Int)) ∧ Below w.heap.size w w' := by
  obtain ⟨t, ht⟩ : ∃ t, timesN g s = t := ⟨_, rfl⟩
  obtain ⟨u, hu⟩ : ∃ t, timesN x c = t := ⟨_, rfl⟩
  have rt : rightN t := by rw [← ht]; exact rightN_times hg s
  have ru : rightN u := by rw [← hu]; exact rightN_times hx c
  have hg64 : g < 18446744073709551616 := by have := hg.2; omega
  have hx64 : x < 18446744073709551616 := by have := hx.2; omega
  have A1 := Lib.hid (fun w => groupTimes' ht hg64 hs rfl rfl w)
  have A2 := Lib.hid (fun w => groupTimes' hu hx64 hc rfl rfl w)
  have hN := Nums.lit (w.alloc (.cells #[.int .u64 (c : Int), .int .u64 (s : Int)] 27)) [t, u] (by simp [maxLen]) (by intro z hz; have := rt.2; have := ru.2; simp at hz; omega)
  rw [show (w.alloc (.cells #[.int .u64 (c : Int), .int .u64 (s : Int)] 27)).heap.size = w.heap.size + 1 by simp] at hN
  have A0 := groupProductN _ _ _ _ _ (hN.keep (Below.refl _ _).drew)
  rw [show prodN 1 [t, u] = r by rw [prodN_two rt ru, ← hr, backN, ht, hu]] at A0
  have A3 := Lib.hid (show Calls Tryd.prog 53 #[.slice (some ⟨w.heap.size + 1, 0, none⟩) 2 2] ((w.alloc (.cells #[.int .u64 (c : Int), .int .u64 (s : Int)] 27)).alloc (.cells #[.int .u64 (t : Int), .int .u64 (u : Int)] 23)).drew fun e w' => e = .returned (.int .u64 (r : Int)) ∧ ((w.alloc (.cells #[.int .u64 (c : Int), .int .u64 (s : Int)] 27)).alloc (.cells #[.int .u64 (t : Int), .int .u64 (u : Int)] 23)).drew = w' from A0)
  have H1 := newProof w c s
  have hb1 := (Below.refl w.heap.size w).alloc (Nat.le_refl _) (.cells #[.int .u64 (c : Int), .int .u64 (s : Int)] 27)
  have HC := Lib.hid (fun (u : World) (h : Below (w.alloc (.cells #[.int .u64 (c : Int), .int .u64 (s : Int)] 27)).drew.heap.size (w.alloc (.cells #[.int .u64 (c : Int), .int .u64 (s : Int)] 27)).drew u) => (Has.keep (w := (w.alloc (.cells #[.int .u64 (c : Int), .int .u64 (s : Int)] 27)).drew) H1 h H1.lt).proof)
  have hb2 := (hb1.alloc hb1.size (.cells #[.int .u64 (t : Int), .int .u64 (u : Int)] 23)).drew
  clear ht hu rt ru hr hg hx hN A0
  go_enter Tryd.func36, Tryd.ntmps36
  go_wp2_with fail
  go_region_held (fun w' => w'.cell? ⟨w.heap.size, 0, none⟩ = some (.int .u64 (c : Int)) ∧ w'.cell? ⟨w.heap.size, 1, none⟩ = some (.int .u64 (s : Int)))
    (first | exact HC.out _ (Below.refl _ _) | exact HC.out _ ((Below.refl _ _).alloc (Nat.le_refl _) _))
    (first
    | (go_at_call 31; with_reducible refine (A1.out _).mono ?_; rintro e w' ⟨rfl, rfl⟩)
    | (go_at_call 31; with_reducible refine (A2.out _).mono ?_; rintro e w' ⟨rfl, rfl⟩)
    | (go_at_call 53; with_reducible refine A3.out.mono ?_; rintro e w' ⟨rfl, rfl⟩))
  all_goals (go_wp2; go_ret; exact ⟨rfl, hb2⟩)
theorem refBack' {g x c s r : Nat} (hr : backN g x c s = r) (hg : g < 18446744073709551616) (hx : x < 18446744073709551616) (hc : c < 18446744073709551616) (hs : s < 18446744073709551616) (w : World) :
    Calls Tryd.prog 38 #[.int .u64 (g : Int), .int .u64 (x : Int), .agg #[.int .u64 (c : Int), .int .u64 (s : Int)]] w fun e w' => e = .returned (.int .u64 (r : Int)) ∧ Below w.heap.size w w' := by
  obtain ⟨t, ht⟩ : ∃ t, timesN g s = t := ⟨_, rfl⟩
  obtain ⟨u, hu⟩ : ∃ t, timesN x c = t := ⟨_, rfl⟩
  have bt : t < 2305843009213693951 := by rw [← ht]; exact timesN_lt _ _
  have bu : u < 2305843009213693951 := by rw [← hu]; exact timesN_lt _ _
  have A1 := Lib.hid (fun w => refTimes' ht hg hs rfl rfl w)
  have A2 := Lib.hid (fun w => refTimes' hu hx hc rfl rfl w)
  have A3 := Lib.hid (fun w => refMulP' (a := t) (b := u) (show mulN t u = r by rw [← hr, backN, ht, hu]) (by omega) (by omega) w)
  have H1 := newProof w c s
  obtain ⟨c0, c1⟩ := H1.proof
  have hb1 := (Below.refl w.heap.size w).alloc (Nat.le_refl _) (.cells #[.int .u64 (c : Int), .int .u64 (s : Int)] 27)
  clear ht hu hr H1
  go_enter Tryd.func38, Tryd.ntmps38
  go_wp2_with fail
  go_quiet (first
    | (go_at_call 20; with_reducible refine Calls.quiet_of_same ((A1.out _).mono fun _ _ h => ⟨h.1, h.2.symm⟩))
    | (go_at_call 20; with_reducible refine Calls.quiet_of_same ((A2.out _).mono fun _ _ h => ⟨h.1, h.2.symm⟩))
    | (go_at_call 21; with_reducible refine Calls.quiet_of_same ((A3.out _).mono fun _ _ h => ⟨h.1, h.2.symm⟩)))
  go_wp2_with fail
  go_ret
  exact ⟨rfl, below_drewN hb1 _⟩

/-! ### The checks -/
theorem beq_nat (c q : Nat) : ((c : Int) == (q : Int)) = decide (c = q) := by
  by_cases h : c = q
  · subst h; simp
  · have h1 : ¬ (c : Int) = (q : Int) := by omega
    simp [h, h1]
namespace checkKnow
theorem no1 {g : Nat} (x c s : Nat) (hg : g < 18446744073709551616) (h : ¬ rightN g) (w : World) :
    Calls Tryd.prog 15 #[.int .u64 (g : Int), .int .u64 (x : Int), .agg #[.int .u64 (c : Int), .int .u64 (s : Int)]] w fun e w' => e = .returned (.bool false) ∧ Below w.heap.size w w' := by
  have hb1 := (Below.refl w.heap.size w).alloc (Nat.le_refl _) (.cells #[.int .u64 (c : Int), .int .u64 (s : Int)] 27)
  have A1 := Lib.hid (fun w => groupRight' (decide_eq_false h) hg rfl w)
  clear h
  go_enter Tryd.func15, Tryd.ntmps15
  go_wp2_with fail
  refine (A1.out _).mono ?_
  rintro e w' ⟨rfl, rfl⟩
  go_wp2_with fail
  go_ret
  exact ⟨rfl, hb1⟩
theorem no2 {g x : Nat} (c s : Nat) (hg : rightN g) (hx : x < 18446744073709551616) (h : ¬ rightN x) (w : World) :
    Calls Tryd.prog 15 #[.int .u64 (g : Int), .int .u64 (x : Int), .agg #[.int .u64 (c : Int), .int .u64 (s : Int)]] w fun e w' => e = .returned (.bool false) ∧ Below w.heap.size w w' := by
  have hb1 := (Below.refl w.heap.size w).alloc (Nat.le_refl _) (.cells #[.int .u64 (c : Int), .int .u64 (s : Int)] 27)
  have A1 := Lib.hid (fun w => groupRight' (decide_eq_true hg) (by have := hg.2; omega) rfl w)
  have A2 := Lib.hid (fun w => groupRight' (decide_eq_false h) hx rfl w)
  clear h hg
  go_enter Tryd.func15, Tryd.ntmps15
  go_wp2_with fail
  refine (A1.out _).mono ?_
  rintro e w' ⟨rfl, rfl⟩
  go_wp2_with fail
  refine (A2.out _).mono ?_
  rintro e w' ⟨rfl, rfl⟩
  go_wp2_with fail
  go_ret
  exact ⟨rfl, hb1⟩
theorem no3 {g x c s : Nat} (hg : rightN g) (hx : rightN x) (h : ¬ smallN c s) (w : World) :
    Calls Tryd.prog 15 #[.int .u64 (g : Int), .int .u64 (x : Int), .agg #[.int .u64 (c : Int), .int .u64 (s : Int)]] w fun e w' => e = .returned (.bool false) ∧ Below w.heap.size w w' := by
  have hb1 := (Below.refl w.heap.size w).alloc (Nat.le_refl _) (.cells #[.int .u64 (c : Int), .int .u64 (s : Int)] 27)
  have H1 := newProof w c s
  obtain ⟨c0, c1⟩ := H1.proof
  have A1 := Lib.hid (fun w => groupRight' (decide_eq_true hg) (by have := hg.2; omega) rfl w)
  have A2 := Lib.hid (fun w => groupRight' (decide_eq_true hx) (by have := hx.2; omega) rfl w)
  have A3 := Lib.hid (fun w => reduced' c s w (decide_eq_false h))
  clear h hg hx
  go_enter Tryd.func15, Tryd.ntmps15
  go_wp2_with fail
  refine (A1.out _).mono ?_
  rintro e w' ⟨rfl, rfl⟩
  go_wp2_with fail
  refine (A2.out _).mono ?_
  rintro e w' ⟨rfl, rfl⟩
  go_wp2_with fail
  refine (A3.out _).mono ?_
  rintro e w2 ⟨rfl, hb2⟩
  go_wp2_with fail
  go_ret
  exact ⟨rfl, hb1.trans (hb2.mono hb1.size)⟩
set_option maxHeartbeats 1000000 in
theorem yes {g x c s : Nat} (hg : rightN g) (hx : rightN x) (h : smallN c s) (w : World) (hT : Tab w) :
    Calls Tryd.prog 15 #[.int .u64 (g : Int), .int .u64 (x : Int), .agg #[.int .u64 (c : Int), .int .u64 (s : Int)]] w fun e w' => e = .returned (.bool (decide (c = chalN kKnow [g, x, backN g x c s]))) ∧ Below w.heap.size w w' := by
  obtain ⟨r, hr⟩ : ∃ t, backN g x c s = t := ⟨_, rfl⟩
  have br : r < 2305843009213693951 := by rw [← hr]; exact backN_lt _ _ _ _
  obtain ⟨q, hq⟩ : ∃ t, chalN kKnow [g, x, r] = t := ⟨_, rfl⟩
  have hg64 : g < 18446744073709551616 := by have := hg.2; omega
  have hx64 : x < 18446744073709551616 := by have := hx.2; omega
  have hc64 : c < 18446744073709551616 := by have := h.1; omega
  have hs64 : s < 18446744073709551616 := by have := h.2; omega
  rw [hr, hq]
  have hb1 := (Below.refl w.heap.size w).alloc (Nat.le_refl _) (.cells #[.int .u64 (c : Int), .int .u64 (s : Int)] 27)
  have H1 := newProof w c s
  obtain ⟨c0, c1⟩ := H1.proof
  have A1 := Lib.hid (fun w => groupRight' (decide_eq_true hg) hg64 rfl w)
  have A2 := Lib.hid (fun w => groupRight' (decide_eq_true hx) hx64 rfl w)
  have A3 := Lib.hid (fun w => reduced' c s w (decide_eq_true h))
  have A4 := Lib.hid (fun w => drawn' hr hg hx hc64 hs64 w)
  have A5 := Lib.hid (fun w (h : Tab w) => askKnow' hq hg64 hx64 (by omega) w h)
  clear h hg hx hr hq
  go_enter Tryd.func15, Tryd.ntmps15
  go_wp2_with fail
  refine (A1.out _).mono ?_
  rintro e w' ⟨rfl, rfl⟩
  go_wp2_with fail
  refine (A2.out _).mono ?_
  rintro e w' ⟨rfl, rfl⟩
  go_wp2_with fail
  refine (A3.out _).mono ?_
  rintro e w2 ⟨rfl, hb2⟩
  have H2 := H1.keep hb2 H1.lt
  have hbw2 := hb1.trans (hb2.mono hb1.size)
  have HC := Lib.hid (fun (u : World) (h : Below w2.drew.heap.size w2.drew u) => (Has.keep (w := w2.drew) H2 h H2.lt).proof)
  have HT := Lib.hid (fun (u : World) (h : Below w2.drew.heap.size w2.drew u) => (hT.keep hbw2.drew).keep h)
  clear A1 A2 A3 H1 H2 hb1 hb2 c0 c1
  go_wp2_with fail
  go_region_held (fun w' => w'.cell? ⟨w.heap.size, 0, none⟩ = some (.int .u64 (c : Int)) ∧ w'.cell? ⟨w.heap.size, 1, none⟩ = some (.int .u64 (s : Int)))
    (first | exact HC.out _ (by assumption) | exact HC.out _ (Below.refl _ _))
    (first
    | (go_at_call 36; with_reducible refine (A4.out _).mono ?_; rintro e w3 ⟨rfl, hb3⟩)
    | (go_at_call 30; with_reducible refine (A5.out _ (HT.out _ hb3)).mono ?_; rintro e w4 ⟨rfl, hb4⟩; have hb4' := hb3.trans (hb4.mono hb3.size)))
  all_goals (go_wp2; go_ret; exact ⟨ret_bool (beq_nat c q), hbw2.drew.trans (hb4'.mono hbw2.drew.size)⟩)
end checkKnow
theorem checkKnow' {g x c s : Nat} {b : Bool} (hb : decide (okKnow g x c s) = b) (hg : g < 18446744073709551616) (hx : x < 18446744073709551616) (w : World) (hT : Tab w) :
    Calls Tryd.prog 15 #[.int .u64 (g : Int), .int .u64 (x : Int), .agg #[.int .u64 (c : Int), .int .u64 (s : Int)]] w fun e w' => e = .returned (.bool b) ∧ Below w.heap.size w w' := by
  by_cases h1 : rightN g
  · by_cases h2 : rightN x
    · by_cases h3 : smallN c s
      · rw [← hb, show decide (okKnow g x c s) = decide (c = chalN kKnow [g, x, backN g x c s]) from decide_eq_decide.2 ⟨fun h => h.2.2.2, fun h => ⟨h1, h2, h3, h⟩⟩]
        exact checkKnow.yes h1 h2 h3 w hT
      · rw [← hb, show decide (okKnow g x c s) = false from decide_eq_false fun h => h3 h.2.2.1]
        exact checkKnow.no3 h1 h2 h3 w
    · rw [← hb, show decide (okKnow g x c s) = false from decide_eq_false fun h => h2 h.2.1]
      exact checkKnow.no2 c s h1 hx h2 w
  · rw [← hb, show decide (okKnow g x c s) = false from decide_eq_false fun h => h1 h.1]
    exact checkKnow.no1 x c s hg h1 w
end Go.Proofs.YtgjepiblhpmaiaaDoor
