/-
  Contracts of proof.CheckEqual.
-/
import Derived.Test.YtgjepiblhpmaiaaDoorProofCheck
namespace Go.Proofs.YtgjepiblhpmaiaaDoor
open Go.ChangeShapes Go.WideShapes Go.ChangeAt Go.RowKit
set_option linter.unusedVariables false
set_option linter.unusedSimpArgs false

namespace checkEqual
theorem no1 {g : Nat} (x k y c s : Nat) (zg : g < 18446744073709551616) (h : ¬ rightN g) (w : World) :
    Calls Tryd.prog 17 #[.int .u64 (g : Int), .int .u64 (x : Int), .int .u64 (k : Int), .int .u64 (y : Int), .agg #[.int .u64 (c : Int), .int .u64 (s : Int)]] w fun e w' => e = .returned (.bool false) ∧ Below w.heap.size w w' := by
  have hb1 := (Below.refl w.heap.size w).alloc (Nat.le_refl _) (.cells #[.int .u64 (c : Int), .int .u64 (s : Int)] 27)
  have Ag := Lib.hid (fun w => groupRight' (decide_eq_false h) zg rfl w)
  clear h 
  go_enter Tryd.func17, Tryd.ntmps17
  go_wp2_with fail
  refine (Ag.out _).mono ?_
  rintro e w' ⟨rfl, rfl⟩
  go_wp2_with fail
  go_ret
  exact ⟨rfl, hb1⟩
theorem no2 {g x : Nat} (k y c s : Nat) (hg : rightN g) (zx : x < 18446744073709551616) (h : ¬ rightN x) (w : World) :
    Calls Tryd.prog 17 #[.int .u64 (g : Int), .int .u64 (x : Int), .int .u64 (k : Int), .int .u64 (y : Int), .agg #[.int .u64 (c : Int), .int .u64 (s : Int)]] w fun e w' => e = .returned (.bool false) ∧ Below w.heap.size w w' := by
  have hb1 := (Below.refl w.heap.size w).alloc (Nat.le_refl _) (.cells #[.int .u64 (c : Int), .int .u64 (s : Int)] 27)
  have Ag := Lib.hid (fun w => groupRight' (decide_eq_true hg) (by have := hg.2; omega) rfl w)
  have Ax := Lib.hid (fun w => groupRight' (decide_eq_false h) zx rfl w)
  clear h hg
  go_enter Tryd.func17, Tryd.ntmps17
  go_wp2_with fail
  refine (Ag.out _).mono ?_
  rintro e w' ⟨rfl, rfl⟩
  go_wp2_with fail
  refine (Ax.out _).mono ?_
  rintro e w' ⟨rfl, rfl⟩
  go_wp2_with fail
  go_ret
  exact ⟨rfl, hb1⟩
theorem no3 {g x k : Nat} (y c s : Nat) (hg : rightN g) (hx : rightN x) (zk : k < 18446744073709551616) (h : ¬ rightN k) (w : World) :
    Calls Tryd.prog 17 #[.int .u64 (g : Int), .int .u64 (x : Int), .int .u64 (k : Int), .int .u64 (y : Int), .agg #[.int .u64 (c : Int), .int .u64 (s : Int)]] w fun e w' => e = .returned (.bool false) ∧ Below w.heap.size w w' := by
  have hb1 := (Below.refl w.heap.size w).alloc (Nat.le_refl _) (.cells #[.int .u64 (c : Int), .int .u64 (s : Int)] 27)
  have Ag := Lib.hid (fun w => groupRight' (decide_eq_true hg) (by have := hg.2; omega) rfl w)
  have Ax := Lib.hid (fun w => groupRight' (decide_eq_true hx) (by have := hx.2; omega) rfl w)
  have Ak := Lib.hid (fun w => groupRight' (decide_eq_false h) zk rfl w)
  clear h hg hx
  go_enter Tryd.func17, Tryd.ntmps17
  go_wp2_with fail
  refine (Ag.out _).mono ?_
  rintro e w' ⟨rfl, rfl⟩
  go_wp2_with fail
  refine (Ax.out _).mono ?_
  rintro e w' ⟨rfl, rfl⟩
  go_wp2_with fail
  refine (Ak.out _).mono ?_
  rintro e w' ⟨rfl, rfl⟩
  go_wp2_with fail
  go_ret
  exact ⟨rfl, hb1⟩
theorem no4 {g x k y : Nat} (c s : Nat) (hg : rightN g) (hx : rightN x) (hk : rightN k) (zy : y < 18446744073709551616) (h : ¬ rightN y) (w : World) :
    Calls Tryd.prog 17 #[.int .u64 (g : Int), .int .u64 (x : Int), .int .u64 (k : Int), .int .u64 (y : Int), .agg #[.int .u64 (c : Int), .int .u64 (s : Int)]] w fun e w' => e = .returned (.bool false) ∧ Below w.heap.size w w' := by
  have hb1 := (Below.refl w.heap.size w).alloc (Nat.le_refl _) (.cells #[.int .u64 (c : Int), .int .u64 (s : Int)] 27)
  have Ag := Lib.hid (fun w => groupRight' (decide_eq_true hg) (by have := hg.2; omega) rfl w)
  have Ax := Lib.hid (fun w => groupRight' (decide_eq_true hx) (by have := hx.2; omega) rfl w)
  have Ak := Lib.hid (fun w => groupRight' (decide_eq_true hk) (by have := hk.2; omega) rfl w)
  have Ay := Lib.hid (fun w => groupRight' (decide_eq_false h) zy rfl w)
  clear h hg hx hk
  go_enter Tryd.func17, Tryd.ntmps17
  go_wp2_with fail
  refine (Ag.out _).mono ?_
  rintro e w' ⟨rfl, rfl⟩
  go_wp2_with fail
  refine (Ax.out _).mono ?_
  rintro e w' ⟨rfl, rfl⟩
  go_wp2_with fail
  refine (Ak.out _).mono ?_
  rintro e w' ⟨rfl, rfl⟩
  go_wp2_with fail
  refine (Ay.out _).mono ?_
  rintro e w' ⟨rfl, rfl⟩
  go_wp2_with fail
  go_ret
  exact ⟨rfl, hb1⟩
set_option maxHeartbeats 1000000 in
theorem no5 {g x k y c s : Nat} (hg : rightN g) (hx : rightN x) (hk : rightN k) (hy : rightN y) (h : ¬ smallN c s) (w : World) :
    Calls Tryd.prog 17 #[.int .u64 (g : Int), .int .u64 (x : Int), .int .u64 (k : Int), .int .u64 (y : Int), .agg #[.int .u64 (c : Int), .int .u64 (s : Int)]] w fun e w' => e = .returned (.bool false) ∧ Below w.heap.size w w' := by
  have hb1 := (Below.refl w.heap.size w).alloc (Nat.le_refl _) (.cells #[.int .u64 (c : Int), .int .u64 (s : Int)] 27)
  have H1 := newProof w c s
  have Ag := Lib.hid (fun w => groupRight' (decide_eq_true hg) (by have := hg.2; omega) rfl w)
  have Ax := Lib.hid (fun w => groupRight' (decide_eq_true hx) (by have := hx.2; omega) rfl w)
  have Ak := Lib.hid (fun w => groupRight' (decide_eq_true hk) (by have := hk.2; omega) rfl w)
  have Ay := Lib.hid (fun w => groupRight' (decide_eq_true hy) (by have := hy.2; omega) rfl w)
  have AS := Lib.hid (fun w => reduced' c s w (decide_eq_false h))
  obtain ⟨c0, c1⟩ := H1.proof
  clear h hg hx hk hy
  go_enter Tryd.func17, Tryd.ntmps17
  go_wp2_with fail
  refine (Ag.out _).mono ?_
  rintro e w' ⟨rfl, rfl⟩
  go_wp2_with fail
  refine (Ax.out _).mono ?_
  rintro e w' ⟨rfl, rfl⟩
  go_wp2_with fail
  refine (Ak.out _).mono ?_
  rintro e w' ⟨rfl, rfl⟩
  go_wp2_with fail
  refine (Ay.out _).mono ?_
  rintro e w' ⟨rfl, rfl⟩
  go_wp2_with fail
  refine (AS.out _).mono ?_
  rintro e w2 ⟨rfl, hb2⟩
  go_wp2_with fail
  go_ret
  exact ⟨rfl, hb1.trans (hb2.mono hb1.size)⟩
set_option maxHeartbeats 2000000 in
theorem yes {g x k y c s : Nat} (hg : rightN g) (hx : rightN x) (hk : rightN k) (hy : rightN y) (h : smallN c s) (w : World) (hT : Tab w) :
    Calls Tryd.prog 17 #[.int .u64 (g : Int), .int .u64 (x : Int), .int .u64 (k : Int), .int .u64 (y : Int), .agg #[.int .u64 (c : Int), .int .u64 (s : Int)]] w fun e w' => e = .returned (.bool (decide (c = chalN kEqual [g, x, k, y, backN g x c s, backN k y c s]))) ∧ Below w.heap.size w w' := by
  obtain ⟨r, hr⟩ : ∃ t, backN g x c s = t := ⟨_, rfl⟩
  have br : r < 2305843009213693951 := by rw [← hr]; exact backN_lt _ _ _ _
  obtain ⟨r2, hr2⟩ : ∃ t, backN k y c s = t := ⟨_, rfl⟩
  have br2 : r2 < 2305843009213693951 := by rw [← hr2]; exact backN_lt _ _ _ _
  obtain ⟨q, hq⟩ : ∃ t, chalN kEqual [g, x, k, y, r, r2] = t := ⟨_, rfl⟩
  have g64 : g < 18446744073709551616 := by have := hg.2; omega
  have x64 : x < 18446744073709551616 := by have := hx.2; omega
  have k64 : k < 18446744073709551616 := by have := hk.2; omega
  have y64 : y < 18446744073709551616 := by have := hy.2; omega
  have c64 : c < 18446744073709551616 := by have := h.1; omega
  have s64 : s < 18446744073709551616 := by have := h.2; omega
  rw [hr, hr2, hq]
  have hb1 := (Below.refl w.heap.size w).alloc (Nat.le_refl _) (.cells #[.int .u64 (c : Int), .int .u64 (s : Int)] 27)
  have H1 := newProof w c s
  have Ag := Lib.hid (fun w => groupRight' (decide_eq_true hg) (by have := hg.2; omega) rfl w)
  have Ax := Lib.hid (fun w => groupRight' (decide_eq_true hx) (by have := hx.2; omega) rfl w)
  have Ak := Lib.hid (fun w => groupRight' (decide_eq_true hk) (by have := hk.2; omega) rfl w)
  have Ay := Lib.hid (fun w => groupRight' (decide_eq_true hy) (by have := hy.2; omega) rfl w)
  have AS := Lib.hid (fun w => reduced' c s w (decide_eq_true h))
  obtain ⟨c0, c1⟩ := H1.proof
  have Br := Lib.hid (fun w => drawn' hr hg hx c64 s64 w)
  have Br2 := Lib.hid (fun w => drawn' hr2 hk hy c64 s64 w)
  have AK := Lib.hid (fun w (h : Tab w) => askEqual' hq g64 x64 k64 y64 (by omega) (by omega) w h)
  clear h hg hx hk hy hr hr2 hq
  go_enter Tryd.func17, Tryd.ntmps17
  go_wp2_with fail
  refine (Ag.out _).mono ?_
  rintro e w' ⟨rfl, rfl⟩
  go_wp2_with fail
  refine (Ax.out _).mono ?_
  rintro e w' ⟨rfl, rfl⟩
  go_wp2_with fail
  refine (Ak.out _).mono ?_
  rintro e w' ⟨rfl, rfl⟩
  go_wp2_with fail
  refine (Ay.out _).mono ?_
  rintro e w' ⟨rfl, rfl⟩
  go_wp2_with fail
  refine (AS.out _).mono ?_
  rintro e w2 ⟨rfl, hb2⟩
  have H2 := H1.keep hb2 H1.lt
  have hbw2 := hb1.trans (hb2.mono hb1.size)
  have HC := Lib.hid (fun (u : World) (h : Below w2.drew.heap.size w2.drew u) => (Has.keep (w := w2.drew) H2 h H2.lt).proof)
  have HT := Lib.hid (fun (u : World) (h : Below w2.drew.heap.size w2.drew u) => (hT.keep hbw2.drew).keep h)
  clear Ag Ax Ak Ay AS H1 H2 hb1 hb2 c0 c1
  go_wp2_with fail
  go_region_held (fun w' => w'.cell? ⟨w.heap.size, 0, none⟩ = some (.int .u64 (c : Int)) ∧ w'.cell? ⟨w.heap.size, 1, none⟩ = some (.int .u64 (s : Int)))
    (first | exact HC.out _ (by assumption) | exact HC.out _ (Below.refl _ _))
    (first
    | (go_at_call 36; with_reducible refine (Br.out w2.drew).mono ?_; rintro e w3 ⟨rfl, hb3⟩)
    | (go_at_call 36; with_reducible refine (Br2.out w3).mono ?_; rintro e w4 ⟨rfl, hb40⟩; have hb4 := hb3.trans (hb40.mono hb3.size))
    | (go_at_call 33; with_reducible refine (AK.out _ (HT.out _ hb4)).mono ?_; rintro e w5 ⟨rfl, hb50⟩; have hb5 := hb4.trans (hb50.mono hb4.size)))
  all_goals (go_wp2; go_ret; exact ⟨ret_bool (beq_nat c q), hbw2.drew.trans (hb5.mono hbw2.drew.size)⟩)
end checkEqual
theorem checkEqual' {g x k y c s : Nat} {b : Bool} (hb : decide (okEqual g x k y c s) = b) (zg : g < 18446744073709551616) (zx : x < 18446744073709551616) (zk : k < 18446744073709551616) (zy : y < 18446744073709551616) (w : World) (hT : Tab w) :
    Calls Tryd.prog 17 #[.int .u64 (g : Int), .int .u64 (x : Int), .int .u64 (k : Int), .int .u64 (y : Int), .agg #[.int .u64 (c : Int), .int .u64 (s : Int)]] w fun e w' => e = .returned (.bool b) ∧ Below w.heap.size w w' := by
  by_cases h1 : rightN g
  case neg =>
    rw [← hb, show decide (okEqual g x k y c s) = false from decide_eq_false fun h => h1 h.1]
    exact checkEqual.no1 x k y c s  zg h1 w
  by_cases h2 : rightN x
  case neg =>
    rw [← hb, show decide (okEqual g x k y c s) = false from decide_eq_false fun h => h2 h.2.1]
    exact checkEqual.no2 k y c s h1 zx h2 w
  by_cases h3 : rightN k
  case neg =>
    rw [← hb, show decide (okEqual g x k y c s) = false from decide_eq_false fun h => h3 h.2.2.1]
    exact checkEqual.no3 y c s h1 h2 zk h3 w
  by_cases h4 : rightN y
  case neg =>
    rw [← hb, show decide (okEqual g x k y c s) = false from decide_eq_false fun h => h4 h.2.2.2.1]
    exact checkEqual.no4  c s h1 h2 h3 zy h4 w
  by_cases h5 : smallN c s
  case neg =>
    rw [← hb, show decide (okEqual g x k y c s) = false from decide_eq_false fun h => h5 h.2.2.2.2.1]
    exact checkEqual.no5 h1 h2 h3 h4 h5 w
  rw [← hb, show decide (okEqual g x k y c s) = decide (c = chalN kEqual [g, x, k, y, backN g x c s, backN k y c s]) from decide_eq_decide.2 ⟨fun h => h.2.2.2.2.2, fun h => ⟨h1, h2, h3, h4, h5, h⟩⟩]
  exact checkEqual.yes h1 h2 h3 h4 h5 w hT
end Go.Proofs.YtgjepiblhpmaiaaDoor
