/-
  Contracts of courierbag/courierbagref1.CheckEqual.
-/
import Derived.Test.YtgjepiblhpmaiaaDoorProofCheck
namespace Go.Proofs.YtgjepiblhpmaiaaDoor
open Go.ChangeShapes Go.WideShapes Go.ChangeAt Go.RowKit
set_option linter.unusedVariables false
set_option linter.unusedSimpArgs false

namespace refCheckEqual
theorem no1 {g : Nat} (x k y c s : Nat) (zg : g < 18446744073709551616) (h : ¬ rightN g) (w : World) :
    Calls Tryd.prog 18 #[.int .u64 (g : Int), .int .u64 (x : Int), .int .u64 (k : Int), .int .u64 (y : Int), .agg #[.int .u64 (c : Int), .int .u64 (s : Int)]] w fun e w' => e = .returned (.bool false) ∧ Below w.heap.size w w' := by
  have hb1 := (Below.refl w.heap.size w).alloc (Nat.le_refl _) (.cells #[.int .u64 (c : Int), .int .u64 (s : Int)] 27)
  have Ag := Lib.hid (fun w => refRight' (decide_eq_false h) zg rfl w)
  clear h 
  go_enter Tryd.func18, Tryd.ntmps18
  go_wp2_with fail
  go_quiet (first
    | (go_at_call 19; with_reducible refine Calls.quiet_of_same ((Ag.out _).mono fun _ _ h => ⟨h.1, h.2.symm⟩)))
  go_wp2; go_ret; exact ⟨rfl, below_drewN hb1 _⟩
theorem no2 {g x : Nat} (k y c s : Nat) (hg : rightN g) (zx : x < 18446744073709551616) (h : ¬ rightN x) (w : World) :
    Calls Tryd.prog 18 #[.int .u64 (g : Int), .int .u64 (x : Int), .int .u64 (k : Int), .int .u64 (y : Int), .agg #[.int .u64 (c : Int), .int .u64 (s : Int)]] w fun e w' => e = .returned (.bool false) ∧ Below w.heap.size w w' := by
  have hb1 := (Below.refl w.heap.size w).alloc (Nat.le_refl _) (.cells #[.int .u64 (c : Int), .int .u64 (s : Int)] 27)
  have Ag := Lib.hid (fun w => refRight' (decide_eq_true hg) (by have := hg.2; omega) rfl w)
  have Ax := Lib.hid (fun w => refRight' (decide_eq_false h) zx rfl w)
  clear h hg
  go_enter Tryd.func18, Tryd.ntmps18
  go_wp2_with fail
  go_quiet (first
    | (go_at_call 19; with_reducible refine Calls.quiet_of_same ((Ag.out _).mono fun _ _ h => ⟨h.1, h.2.symm⟩))
    | (go_at_call 19; with_reducible refine Calls.quiet_of_same ((Ax.out _).mono fun _ _ h => ⟨h.1, h.2.symm⟩)))
  go_wp2; go_ret; exact ⟨rfl, below_drewN hb1 _⟩
theorem no3 {g x k : Nat} (y c s : Nat) (hg : rightN g) (hx : rightN x) (zk : k < 18446744073709551616) (h : ¬ rightN k) (w : World) :
    Calls Tryd.prog 18 #[.int .u64 (g : Int), .int .u64 (x : Int), .int .u64 (k : Int), .int .u64 (y : Int), .agg #[.int .u64 (c : Int), .int .u64 (s : Int)]] w fun e w' => e = .returned (.bool false) ∧ Below w.heap.size w w' := by
  have hb1 := (Below.refl w.heap.size w).alloc (Nat.le_refl _) (.cells #[.int .u64 (c : Int), .int .u64 (s : Int)] 27)
  have Ag := Lib.hid (fun w => refRight' (decide_eq_true hg) (by have := hg.2; omega) rfl w)
  have Ax := Lib.hid (fun w => refRight' (decide_eq_true hx) (by have := hx.2; omega) rfl w)
  have Ak := Lib.hid (fun w => refRight' (decide_eq_false h) zk rfl w)
  clear h hg hx
  go_enter Tryd.func18, Tryd.ntmps18
  go_wp2_with fail
  go_quiet (first
    | (go_at_call 19; with_reducible refine Calls.quiet_of_same ((Ag.out _).mono fun _ _ h => ⟨h.1, h.2.symm⟩))
    | (go_at_call 19; with_reducible refine Calls.quiet_of_same ((Ax.out _).mono fun _ _ h => ⟨h.1, h.2.symm⟩))
    | (go_at_call 19; with_reducible refine Calls.quiet_of_same ((Ak.out _).mono fun _ _ h => ⟨h.1, h.2.symm⟩)))
  go_wp2; go_ret; exact ⟨rfl, below_drewN hb1 _⟩
theorem no4 {g x k y : Nat} (c s : Nat) (hg : rightN g) (hx : rightN x) (hk : rightN k) (zy : y < 18446744073709551616) (h : ¬ rightN y) (w : World) :
    Calls Tryd.prog 18 #[.int .u64 (g : Int), .int .u64 (x : Int), .int .u64 (k : Int), .int .u64 (y : Int), .agg #[.int .u64 (c : Int), .int .u64 (s : Int)]] w fun e w' => e = .returned (.bool false) ∧ Below w.heap.size w w' := by
  have hb1 := (Below.refl w.heap.size w).alloc (Nat.le_refl _) (.cells #[.int .u64 (c : Int), .int .u64 (s : Int)] 27)
  have Ag := Lib.hid (fun w => refRight' (decide_eq_true hg) (by have := hg.2; omega) rfl w)
  have Ax := Lib.hid (fun w => refRight' (decide_eq_true hx) (by have := hx.2; omega) rfl w)
  have Ak := Lib.hid (fun w => refRight' (decide_eq_true hk) (by have := hk.2; omega) rfl w)
  have Ay := Lib.hid (fun w => refRight' (decide_eq_false h) zy rfl w)
  clear h hg hx hk
  go_enter Tryd.func18, Tryd.ntmps18
  go_wp2_with fail
  go_quiet (first
    | (go_at_call 19; with_reducible refine Calls.quiet_of_same ((Ag.out _).mono fun _ _ h => ⟨h.1, h.2.symm⟩))
    | (go_at_call 19; with_reducible refine Calls.quiet_of_same ((Ax.out _).mono fun _ _ h => ⟨h.1, h.2.symm⟩))
    | (go_at_call 19; with_reducible refine Calls.quiet_of_same ((Ak.out _).mono fun _ _ h => ⟨h.1, h.2.symm⟩))
    | (go_at_call 19; with_reducible refine Calls.quiet_of_same ((Ay.out _).mono fun _ _ h => ⟨h.1, h.2.symm⟩)))
  go_wp2; go_ret; exact ⟨rfl, below_drewN hb1 _⟩
set_option maxHeartbeats 1000000 in
theorem no5 {g x k y c s : Nat} (hg : rightN g) (hx : rightN x) (hk : rightN k) (hy : rightN y) (h : ¬ smallN c s) (w : World) :
    Calls Tryd.prog 18 #[.int .u64 (g : Int), .int .u64 (x : Int), .int .u64 (k : Int), .int .u64 (y : Int), .agg #[.int .u64 (c : Int), .int .u64 (s : Int)]] w fun e w' => e = .returned (.bool false) ∧ Below w.heap.size w w' := by
  have hb1 := (Below.refl w.heap.size w).alloc (Nat.le_refl _) (.cells #[.int .u64 (c : Int), .int .u64 (s : Int)] 27)
  have H1 := newProof w c s
  have Ag := Lib.hid (fun w => refRight' (decide_eq_true hg) (by have := hg.2; omega) rfl w)
  have Ax := Lib.hid (fun w => refRight' (decide_eq_true hx) (by have := hx.2; omega) rfl w)
  have Ak := Lib.hid (fun w => refRight' (decide_eq_true hk) (by have := hk.2; omega) rfl w)
  have Ay := Lib.hid (fun w => refRight' (decide_eq_true hy) (by have := hy.2; omega) rfl w)
  have AS := Lib.hid (fun w => refSmall' c s w (decide_eq_false h))
  have HC := Lib.hid (fun (u : World) (h : Below (w.alloc (.cells #[.int .u64 (c : Int), .int .u64 (s : Int)] 27)).drew.heap.size (w.alloc (.cells #[.int .u64 (c : Int), .int .u64 (s : Int)] 27)).drew u) => (Has.keep (w := (w.alloc (.cells #[.int .u64 (c : Int), .int .u64 (s : Int)] 27)).drew) H1 h H1.lt).proof)
  have HC0 := Lib.hid (HC.out _ (Below.refl _ _))
  clear h hg hx hk hy H1
  go_enter Tryd.func18, Tryd.ntmps18
  go_wp2_with fail
  refine wp_region_held_drew (S := fun w' => w'.cell? ⟨w.heap.size, 0, none⟩ = some (.int .u64 (c : Int)) ∧ w'.cell? ⟨w.heap.size, 1, none⟩ = some (.int .u64 (s : Int))) (by kernel_rfl) HC0.out (fun hHeld => ?_)
  refine wpAnyH_take (i := 0) (v := ?vz0) rfl (by kernel_rfl) (by kernel_rfl) (by kernel_rfl) (fun _ _ _ h => h) (Or.inl ⟨by rfl, ?yz0⟩) (by assumption) ?rz0
  case yz0 => (intro u hSu; (try dsimp only at hSu); go_simp; try with_reducible rfl)
  try simp only [List.getElem_toArray, List.getElem_cons_succ, List.getElem_cons_zero, Act.put, List.setIfInBounds_toArray, List.set_cons_zero, List.set_cons_succ]
  refine wpAnyH_ready (rs := [1]) (by kernel_rfl) (by simp) ?_
  refine AllReadyH.cons rfl (fun K hK => ?_) AllReadyH.nil
  go_simp
  go_at_call 19
  with_reducible refine (Ag.out _).mono ?_
  rintro e w' ⟨rfl, rfl⟩
  go_simp
  refine hK.out _ _ HC0.out (fun hHeld => ?_)
  clear hK K
  try simp only [List.getElem_toArray, List.getElem_cons_succ, List.getElem_cons_zero, Act.put, List.setIfInBounds_toArray, List.set_cons_zero, List.set_cons_succ]
  refine wpAnyH_take (i := 2) (v := ?vz2) rfl (by kernel_rfl) (by kernel_rfl) (by kernel_rfl) (fun _ _ _ h => h) (Or.inl ⟨by rfl, ?yz2⟩) (by assumption) ?rz2
  case yz2 => (intro u hSu; (try dsimp only at hSu); go_simp; try with_reducible rfl)
  try simp only [List.getElem_toArray, List.getElem_cons_succ, List.getElem_cons_zero, Act.put, List.setIfInBounds_toArray, List.set_cons_zero, List.set_cons_succ]
  refine wpAnyH_take (i := 3) (v := ?vz3) rfl (by kernel_rfl) (by kernel_rfl) (by kernel_rfl) (fun _ _ _ h => h) (Or.inl ⟨by rfl, ?yz3⟩) (by assumption) ?rz3
  case yz3 => (intro u hSu; (try dsimp only at hSu); go_simp; try with_reducible rfl)
  try simp only [List.getElem_toArray, List.getElem_cons_succ, List.getElem_cons_zero, Act.put, List.setIfInBounds_toArray, List.set_cons_zero, List.set_cons_succ]
  refine wpAnyH_ready (rs := [4]) (by kernel_rfl) (by simp) ?_
  refine AllReadyH.cons rfl (fun K hK => ?_) AllReadyH.nil
  go_simp
  go_at_call 19
  with_reducible refine (Ax.out _).mono ?_
  rintro e w' ⟨rfl, rfl⟩
  go_simp
  refine hK.out _ _ HC0.out (fun hHeld => ?_)
  clear hK K
  try simp only [List.getElem_toArray, List.getElem_cons_succ, List.getElem_cons_zero, Act.put, List.setIfInBounds_toArray, List.set_cons_zero, List.set_cons_succ]
  refine wpAnyH_take (i := 5) (v := ?vz5) rfl (by kernel_rfl) (by kernel_rfl) (by kernel_rfl) (fun _ _ _ h => h) (Or.inl ⟨by rfl, ?yz5⟩) (by assumption) ?rz5
  case yz5 => (intro u hSu; (try dsimp only at hSu); go_simp; try with_reducible rfl)
  try simp only [List.getElem_toArray, List.getElem_cons_succ, List.getElem_cons_zero, Act.put, List.setIfInBounds_toArray, List.set_cons_zero, List.set_cons_succ]
  refine wpAnyH_take (i := 6) (v := ?vz6) rfl (by kernel_rfl) (by kernel_rfl) (by kernel_rfl) (fun _ _ _ h => h) (Or.inl ⟨by rfl, ?yz6⟩) (by assumption) ?rz6
  case yz6 => (intro u hSu; (try dsimp only at hSu); go_simp; try with_reducible rfl)
  try simp only [List.getElem_toArray, List.getElem_cons_succ, List.getElem_cons_zero, Act.put, List.setIfInBounds_toArray, List.set_cons_zero, List.set_cons_succ]
  refine wpAnyH_take (i := 7) (v := ?vz7) rfl (by kernel_rfl) (by kernel_rfl) (by kernel_rfl) (fun _ _ _ h => h) (Or.inl ⟨by rfl, ?yz7⟩) (by assumption) ?rz7
  case yz7 => (intro u hSu; (try dsimp only at hSu); go_simp; try with_reducible rfl)
  try simp only [List.getElem_toArray, List.getElem_cons_succ, List.getElem_cons_zero, Act.put, List.setIfInBounds_toArray, List.set_cons_zero, List.set_cons_succ]
  refine wpAnyH_ready (rs := [8]) (by kernel_rfl) (by simp) ?_
  refine AllReadyH.cons rfl (fun K hK => ?_) AllReadyH.nil
  go_simp
  go_at_call 19
  with_reducible refine (Ak.out _).mono ?_
  rintro e w' ⟨rfl, rfl⟩
  go_simp
  refine hK.out _ _ HC0.out (fun hHeld => ?_)
  clear hK K
  try simp only [List.getElem_toArray, List.getElem_cons_succ, List.getElem_cons_zero, Act.put, List.setIfInBounds_toArray, List.set_cons_zero, List.set_cons_succ]
  refine wpAnyH_take (i := 9) (v := ?vz9) rfl (by kernel_rfl) (by kernel_rfl) (by kernel_rfl) (fun _ _ _ h => h) (Or.inl ⟨by rfl, ?yz9⟩) (by assumption) ?rz9
  case yz9 => (intro u hSu; (try dsimp only at hSu); go_simp; try with_reducible rfl)
  try simp only [List.getElem_toArray, List.getElem_cons_succ, List.getElem_cons_zero, Act.put, List.setIfInBounds_toArray, List.set_cons_zero, List.set_cons_succ]
  refine wpAnyH_take (i := 10) (v := ?vz10) rfl (by kernel_rfl) (by kernel_rfl) (by kernel_rfl) (fun _ _ _ h => h) (Or.inl ⟨by rfl, ?yz10⟩) (by assumption) ?rz10
  case yz10 => (intro u hSu; (try dsimp only at hSu); go_simp; try with_reducible rfl)
  try simp only [List.getElem_toArray, List.getElem_cons_succ, List.getElem_cons_zero, Act.put, List.setIfInBounds_toArray, List.set_cons_zero, List.set_cons_succ]
  refine wpAnyH_take (i := 11) (v := ?vz11) rfl (by kernel_rfl) (by kernel_rfl) (by kernel_rfl) (fun _ _ _ h => h) (Or.inl ⟨by rfl, ?yz11⟩) (by assumption) ?rz11
  case yz11 => (intro u hSu; (try dsimp only at hSu); go_simp; try with_reducible rfl)
  try simp only [List.getElem_toArray, List.getElem_cons_succ, List.getElem_cons_zero, Act.put, List.setIfInBounds_toArray, List.set_cons_zero, List.set_cons_succ]
  refine wpAnyH_ready (rs := [12]) (by kernel_rfl) (by simp) ?_
  refine AllReadyH.cons rfl (fun K hK => ?_) AllReadyH.nil
  go_simp
  go_at_call 19
  with_reducible refine (Ay.out _).mono ?_
  rintro e w' ⟨rfl, rfl⟩
  go_simp
  refine hK.out _ _ HC0.out (fun hHeld => ?_)
  clear hK K
  try simp only [List.getElem_toArray, List.getElem_cons_succ, List.getElem_cons_zero, Act.put, List.setIfInBounds_toArray, List.set_cons_zero, List.set_cons_succ]
  refine wpAnyH_take (i := 13) (v := ?vz13) rfl (by kernel_rfl) (by kernel_rfl) (by kernel_rfl) (fun _ _ _ h => h) (Or.inl ⟨by rfl, ?yz13⟩) (by assumption) ?rz13
  case yz13 => (intro u hSu; (try dsimp only at hSu); go_simp; try with_reducible rfl)
  try simp only [List.getElem_toArray, List.getElem_cons_succ, List.getElem_cons_zero, Act.put, List.setIfInBounds_toArray, List.set_cons_zero, List.set_cons_succ]
  refine wpAnyH_take (i := 14) (v := ?vz14) rfl (by kernel_rfl) (by kernel_rfl) (by kernel_rfl) (fun _ _ _ h => h) (Or.inl ⟨by rfl, ?yz14⟩) (by assumption) ?rz14
  case yz14 => (intro u hSu; (try dsimp only at hSu); go_simp; try with_reducible rfl)
  try simp only [List.getElem_toArray, List.getElem_cons_succ, List.getElem_cons_zero, Act.put, List.setIfInBounds_toArray, List.set_cons_zero, List.set_cons_succ]
  refine wpAnyH_take (i := 15) (v := ?vz15) rfl (by kernel_rfl) (by kernel_rfl) (by kernel_rfl) (fun _ _ _ h => h) (Or.inl ⟨by rfl, ?yz15⟩) (by assumption) ?rz15
  case yz15 => (intro u hSu; (try dsimp only at hSu); go_simp; try with_reducible rfl)
  try simp only [List.getElem_toArray, List.getElem_cons_succ, List.getElem_cons_zero, Act.put, List.setIfInBounds_toArray, List.set_cons_zero, List.set_cons_succ]
  refine wpAnyH_ready (rs := [16]) (by kernel_rfl) (by simp) ?_
  refine AllReadyH.cons rfl (fun K hK => ?_) AllReadyH.nil
  go_simp
  go_at_call 37
  with_reducible refine (AS.out _).mono ?_
  rintro e w2 ⟨rfl, hb2⟩
  go_simp
  refine hK.out _ _ (HC.out _ hb2) (fun hHeld => ?_)
  clear hK K
  try simp only [List.getElem_toArray, List.getElem_cons_succ, List.getElem_cons_zero, Act.put, List.setIfInBounds_toArray, List.set_cons_zero, List.set_cons_succ]
  refine wpAnyH_take (i := 17) (v := ?vz17) rfl (by kernel_rfl) (by kernel_rfl) (by kernel_rfl) (fun _ _ _ h => h) (Or.inl ⟨by rfl, ?yz17⟩) (by assumption) ?rz17
  case yz17 => (intro u hSu; (try dsimp only at hSu); go_simp; try with_reducible rfl)
  try simp only [List.getElem_toArray, List.getElem_cons_succ, List.getElem_cons_zero, Act.put, List.setIfInBounds_toArray, List.set_cons_zero, List.set_cons_succ]
  refine wpAnyH_take (i := 18) (v := ?vz18) rfl (by kernel_rfl) (by kernel_rfl) (by kernel_rfl) (fun _ _ _ h => h) (Or.inl ⟨by rfl, ?yz18⟩) (by assumption) ?rz18
  case yz18 => (intro u hSu; (try dsimp only at hSu); go_simp; try with_reducible rfl)
  try simp only [List.getElem_toArray, List.getElem_cons_succ, List.getElem_cons_zero, Act.put, List.setIfInBounds_toArray, List.set_cons_zero, List.set_cons_succ]
  refine wpAnyH_take (i := 19) (v := undef) rfl (by kernel_rfl) (by kernel_rfl) (by kernel_rfl) (fun _ _ _ h => h) (Or.inr ⟨by rfl, rfl⟩) (by assumption) ?rz19
  try simp only [List.getElem_toArray, List.getElem_cons_succ, List.getElem_cons_zero, Act.put, List.setIfInBounds_toArray, List.set_cons_zero, List.set_cons_succ]
  refine wpAnyH_take (i := 20) (v := undef) rfl (by kernel_rfl) (by kernel_rfl) (by kernel_rfl) (fun _ _ _ h => h) (Or.inr ⟨by rfl, rfl⟩) (by assumption) ?rz20
  try simp only [List.getElem_toArray, List.getElem_cons_succ, List.getElem_cons_zero, Act.put, List.setIfInBounds_toArray, List.set_cons_zero, List.set_cons_succ]
  refine wpAnyH_take (i := 21) (v := undef) rfl (by kernel_rfl) (by kernel_rfl) (by kernel_rfl) (fun _ _ _ h => h) (Or.inr ⟨by rfl, rfl⟩) (by assumption) ?rz21
  try simp only [List.getElem_toArray, List.getElem_cons_succ, List.getElem_cons_zero, Act.put, List.setIfInBounds_toArray, List.set_cons_zero, List.set_cons_succ]
  refine wpAnyH_take (i := 22) (v := undef) rfl (by kernel_rfl) (by kernel_rfl) (by kernel_rfl) (fun _ _ _ h => h) (Or.inr ⟨by rfl, rfl⟩) (by assumption) ?rz22
  try simp only [List.getElem_toArray, List.getElem_cons_succ, List.getElem_cons_zero, Act.put, List.setIfInBounds_toArray, List.set_cons_zero, List.set_cons_succ]
  refine wpAnyH_take (i := 23) (v := undef) rfl (by kernel_rfl) (by kernel_rfl) (by kernel_rfl) (fun _ _ _ h => h) (Or.inr ⟨by rfl, rfl⟩) (by assumption) ?rz23
  try simp only [List.getElem_toArray, List.getElem_cons_succ, List.getElem_cons_zero, Act.put, List.setIfInBounds_toArray, List.set_cons_zero, List.set_cons_succ]
  refine wpAnyH_take (i := 24) (v := undef) rfl (by kernel_rfl) (by kernel_rfl) (by kernel_rfl) (fun _ _ _ h => h) (Or.inr ⟨by rfl, rfl⟩) (by assumption) ?rz24
  try simp only [List.getElem_toArray, List.getElem_cons_succ, List.getElem_cons_zero, Act.put, List.setIfInBounds_toArray, List.set_cons_zero, List.set_cons_succ]
  refine wpAnyH_take (i := 25) (v := undef) rfl (by kernel_rfl) (by kernel_rfl) (by kernel_rfl) (fun _ _ _ h => h) (Or.inr ⟨by rfl, rfl⟩) (by assumption) ?rz25
  try simp only [List.getElem_toArray, List.getElem_cons_succ, List.getElem_cons_zero, Act.put, List.setIfInBounds_toArray, List.set_cons_zero, List.set_cons_succ]
  refine wpAnyH_take (i := 26) (v := undef) rfl (by kernel_rfl) (by kernel_rfl) (by kernel_rfl) (fun _ _ _ h => h) (Or.inr ⟨by rfl, rfl⟩) (by assumption) ?rz26
  try simp only [List.getElem_toArray, List.getElem_cons_succ, List.getElem_cons_zero, Act.put, List.setIfInBounds_toArray, List.set_cons_zero, List.set_cons_succ]
  refine wpAnyH_take (i := 27) (v := undef) rfl (by kernel_rfl) (by kernel_rfl) (by kernel_rfl) (fun _ _ _ h => h) (Or.inr ⟨by rfl, rfl⟩) (by assumption) ?rz27
  try simp only [List.getElem_toArray, List.getElem_cons_succ, List.getElem_cons_zero, Act.put, List.setIfInBounds_toArray, List.set_cons_zero, List.set_cons_succ]
  refine wpAnyH_take (i := 28) (v := undef) rfl (by kernel_rfl) (by kernel_rfl) (by kernel_rfl) (fun _ _ _ h => h) (Or.inr ⟨by rfl, rfl⟩) (by assumption) ?rz28
  try simp only [List.getElem_toArray, List.getElem_cons_succ, List.getElem_cons_zero, Act.put, List.setIfInBounds_toArray, List.set_cons_zero, List.set_cons_succ]
  refine wpAnyH_take (i := 29) (v := undef) rfl (by kernel_rfl) (by kernel_rfl) (by kernel_rfl) (fun _ _ _ h => h) (Or.inr ⟨by rfl, rfl⟩) (by assumption) ?rz29
  try simp only [List.getElem_toArray, List.getElem_cons_succ, List.getElem_cons_zero, Act.put, List.setIfInBounds_toArray, List.set_cons_zero, List.set_cons_succ]
  refine wpAnyH_take (i := 30) (v := undef) rfl (by kernel_rfl) (by kernel_rfl) (by kernel_rfl) (fun _ _ _ h => h) (Or.inr ⟨by rfl, rfl⟩) (by assumption) ?rz30
  try simp only [List.getElem_toArray, List.getElem_cons_succ, List.getElem_cons_zero, Act.put, List.setIfInBounds_toArray, List.set_cons_zero, List.set_cons_succ]
  refine wpAnyH_take (i := 31) (v := undef) rfl (by kernel_rfl) (by kernel_rfl) (by kernel_rfl) (fun _ _ _ h => h) (Or.inr ⟨by rfl, rfl⟩) (by assumption) ?rz31
  try simp only [List.getElem_toArray, List.getElem_cons_succ, List.getElem_cons_zero, Act.put, List.setIfInBounds_toArray, List.set_cons_zero, List.set_cons_succ]
  refine wpAnyH_take (i := 32) (v := undef) rfl (by kernel_rfl) (by kernel_rfl) (by kernel_rfl) (fun _ _ _ h => h) (Or.inr ⟨by rfl, rfl⟩) (by assumption) ?rz32
  try simp only [List.getElem_toArray, List.getElem_cons_succ, List.getElem_cons_zero, Act.put, List.setIfInBounds_toArray, List.set_cons_zero, List.set_cons_succ]
  refine wpAnyH_take (i := 33) (v := undef) rfl (by kernel_rfl) (by kernel_rfl) (by kernel_rfl) (fun _ _ _ h => h) (Or.inr ⟨by rfl, rfl⟩) (by assumption) ?rz33
  try simp only [List.getElem_toArray, List.getElem_cons_succ, List.getElem_cons_zero, Act.put, List.setIfInBounds_toArray, List.set_cons_zero, List.set_cons_succ]
  refine wpAnyH_take (i := 34) (v := undef) rfl (by kernel_rfl) (by kernel_rfl) (by kernel_rfl) (fun _ _ _ h => h) (Or.inr ⟨by rfl, rfl⟩) (by assumption) ?rz34
  try simp only [List.getElem_toArray, List.getElem_cons_succ, List.getElem_cons_zero, Act.put, List.setIfInBounds_toArray, List.set_cons_zero, List.set_cons_succ]
  refine wpAnyH_take (i := 35) (v := undef) rfl (by kernel_rfl) (by kernel_rfl) (by kernel_rfl) (fun _ _ _ h => h) (Or.inr ⟨by rfl, rfl⟩) (by assumption) ?rz35
  try simp only [List.getElem_toArray, List.getElem_cons_succ, List.getElem_cons_zero, Act.put, List.setIfInBounds_toArray, List.set_cons_zero, List.set_cons_succ]
  refine wpAnyH_take (i := 36) (v := ?vz36) rfl (by kernel_rfl) (by kernel_rfl) (by kernel_rfl) (fun _ _ _ h => h) (Or.inl ⟨by rfl, ?yz36⟩) (by assumption) ?rz36
  case yz36 => (intro u hSu; (try dsimp only at hSu); go_simp; try with_reducible rfl)
  try simp only [List.getElem_toArray, List.getElem_cons_succ, List.getElem_cons_zero, Act.put, List.setIfInBounds_toArray, List.set_cons_zero, List.set_cons_succ]
  refine wpAnyH_take (i := 37) (v := ?vz37) rfl (by kernel_rfl) (by kernel_rfl) (by kernel_rfl) (fun _ _ _ h => h) (Or.inl ⟨by rfl, ?yz37⟩) (by assumption) ?rz37
  case yz37 => (intro u hSu; (try dsimp only at hSu); go_simp; try with_reducible rfl)
  try simp only [List.getElem_toArray, List.getElem_cons_succ, List.getElem_cons_zero, Act.put, List.setIfInBounds_toArray, List.set_cons_zero, List.set_cons_succ]
  refine wpAnyH_done (by kernel_rfl) ?_ _
  go_wp2; go_ret; exact ⟨rfl, hb1.drew.trans (hb2.mono hb1.drew.size)⟩
set_option maxHeartbeats 2000000 in
theorem yes {g x k y c s : Nat} (hg : rightN g) (hx : rightN x) (hk : rightN k) (hy : rightN y) (h : smallN c s) (w : World) :
    Calls Tryd.prog 18 #[.int .u64 (g : Int), .int .u64 (x : Int), .int .u64 (k : Int), .int .u64 (y : Int), .agg #[.int .u64 (c : Int), .int .u64 (s : Int)]] w fun e w' => e = .returned (.bool (decide (c = chalN kEqual [g, x, k, y, backN g x c s, backN k y c s]))) ∧ Below w.heap.size w w' := by
  obtain ⟨r, hr⟩ : ∃ t, backN g x c s = t := ⟨_, rfl⟩
  have br : r < 2305843009213693951 := by rw [← hr]; exact backN_lt _ _ _ _
  obtain ⟨r2, hr2⟩ : ∃ t, backN k y c s = t := ⟨_, rfl⟩
  have br2 : r2 < 2305843009213693951 := by rw [← hr2]; exact backN_lt _ _ _ _
  obtain ⟨q, hq⟩ : ∃ t, chalN kEqual [g, x, k, y, r, r2] = t := ⟨_, rfl⟩
  have g64 : g < 18446744073709551616 := by have := hg.2; omega
  have x64 : x < 18446744073709551616 := by have := hx.2; omega
  have k64 : k < 18446744073709551616 := by have := hk.2; omega
  have y64 : y < 18446744073709551616 := by have := hy.2; omega
  have c64 : c < 18446744073709551616 := by have := h.1; omega
  have s64 : s < 18446744073709551616 := by have := h.2; omega
  rw [hr, hr2, hq]
  have hb1 := (Below.refl w.heap.size w).alloc (Nat.le_refl _) (.cells #[.int .u64 (c : Int), .int .u64 (s : Int)] 27)
  have H1 := newProof w c s
  have Ag := Lib.hid (fun w => refRight' (decide_eq_true hg) (by have := hg.2; omega) rfl w)
  have Ax := Lib.hid (fun w => refRight' (decide_eq_true hx) (by have := hx.2; omega) rfl w)
  have Ak := Lib.hid (fun w => refRight' (decide_eq_true hk) (by have := hk.2; omega) rfl w)
  have Ay := Lib.hid (fun w => refRight' (decide_eq_true hy) (by have := hy.2; omega) rfl w)
  have AS := Lib.hid (fun w => refSmall' c s w (decide_eq_true h))
  have Br := Lib.hid (fun w => refBack' hr g64 x64 c64 s64 w)
  have Br2 := Lib.hid (fun w => refBack' hr2 k64 y64 c64 s64 w)
  have KC := Lib.hid (fun (u : World) => show Calls Tryd.prog 10 #[.string { data := #[101, 113, 117, 97, 108] }, .slice (some ⟨u.heap.size, 0, none⟩) 6 6] (u.alloc (.cells #[.int .u64 (g : Int), .int .u64 (x : Int), .int .u64 (k : Int), .int .u64 (y : Int), .int .u64 (r : Int), .int .u64 (r2 : Int)] 23)) (fun e w' => e = .returned (.int .u64 (q : Int)) ∧ Below u.heap.size u w') from
    (hq ▸ refChallenge kEqual _ 6 6 [g, x, k, y, r, r2] _ (by decide) (Nums.lit u [g, x, k, y, r, r2] (by simp [maxLen]) (by intro z hz; simp at hz; omega)) (by omega)).mono fun e w' h => ⟨h.1, ((Below.refl u.heap.size u).alloc (Nat.le_refl _) _).trans (h.2.mono (by simp))⟩)
  have HC := Lib.hid (fun (u : World) (h : Below (w.alloc (.cells #[.int .u64 (c : Int), .int .u64 (s : Int)] 27)).drew.heap.size (w.alloc (.cells #[.int .u64 (c : Int), .int .u64 (s : Int)] 27)).drew u) => (Has.keep (w := (w.alloc (.cells #[.int .u64 (c : Int), .int .u64 (s : Int)] 27)).drew) H1 h H1.lt).proof)
  clear h hg hx hk hy hr hr2 hq H1
  go_enter Tryd.func18, Tryd.ntmps18
  go_wp2_with fail
  go_region_held (fun w' => w'.cell? ⟨w.heap.size, 0, none⟩ = some (.int .u64 (c : Int)) ∧ w'.cell? ⟨w.heap.size, 1, none⟩ = some (.int .u64 (s : Int)))
    (first | exact HC.out _ (by assumption) | exact HC.out _ (Below.refl _ _) | exact HC.out _ (Below.alloc (by assumption) (Below.size (by assumption)) _))
    (first
    | (go_at_call 19; with_reducible refine (Ag.out _).mono ?_; rintro e w' ⟨rfl, rfl⟩)
    | (go_at_call 19; with_reducible refine (Ax.out _).mono ?_; rintro e w' ⟨rfl, rfl⟩)
    | (go_at_call 19; with_reducible refine (Ak.out _).mono ?_; rintro e w' ⟨rfl, rfl⟩)
    | (go_at_call 19; with_reducible refine (Ay.out _).mono ?_; rintro e w' ⟨rfl, rfl⟩)
    | (go_at_call 37; with_reducible refine (AS.out _).mono ?_; rintro e w2 ⟨rfl, hb2⟩)
    | (go_at_call 38; with_reducible refine (Br.out w2).mono ?_; rintro e w3 ⟨rfl, hb30⟩; have hb3 := hb2.trans (hb30.mono hb2.size))
    | (go_at_call 38; with_reducible refine (Br2.out w3).mono ?_; rintro e w4 ⟨rfl, hb40⟩; have hb4 := hb3.trans (hb40.mono hb3.size))
    | (go_at_call 10; with_reducible refine (KC.out w4).mono ?_; rintro e w5 ⟨rfl, hb50⟩; have hb5 := hb4.trans (hb50.mono hb4.size)))
  all_goals (go_wp2; go_ret; exact ⟨ret_bool ((beq_nat q c).trans (decide_eq_decide.2 ⟨Eq.symm, Eq.symm⟩)), hb1.drew.trans (hb5.mono hb1.drew.size)⟩)
end refCheckEqual
theorem refCheckEqual' {g x k y c s : Nat} {b : Bool} (hb : decide (okEqual g x k y c s) = b) (zg : g < 18446744073709551616) (zx : x < 18446744073709551616) (zk : k < 18446744073709551616) (zy : y < 18446744073709551616) (w : World) :
    Calls Tryd.prog 18 #[.int .u64 (g : Int), .int .u64 (x : Int), .int .u64 (k : Int), .int .u64 (y : Int), .agg #[.int .u64 (c : Int), .int .u64 (s : Int)]] w fun e w' => e = .returned (.bool b) ∧ Below w.heap.size w w' := by
  by_cases h1 : rightN g
  case neg =>
    rw [← hb, show decide (okEqual g x k y c s) = false from decide_eq_false fun h => h1 h.1]
    exact refCheckEqual.no1 x k y c s  zg h1 w
  by_cases h2 : rightN x
  case neg =>
    rw [← hb, show decide (okEqual g x k y c s) = false from decide_eq_false fun h => h2 h.2.1]
    exact refCheckEqual.no2 k y c s h1 zx h2 w
  by_cases h3 : rightN k
  case neg =>
    rw [← hb, show decide (okEqual g x k y c s) = false from decide_eq_false fun h => h3 h.2.2.1]
    exact refCheckEqual.no3 y c s h1 h2 zk h3 w
  by_cases h4 : rightN y
  case neg =>
    rw [← hb, show decide (okEqual g x k y c s) = false from decide_eq_false fun h => h4 h.2.2.2.1]
    exact refCheckEqual.no4  c s h1 h2 h3 zy h4 w
  by_cases h5 : smallN c s
  case neg =>
    rw [← hb, show decide (okEqual g x k y c s) = false from decide_eq_false fun h => h5 h.2.2.2.2.1]
    exact refCheckEqual.no5 h1 h2 h3 h4 h5 w
  rw [← hb, show decide (okEqual g x k y c s) = decide (c = chalN kEqual [g, x, k, y, backN g x c s, backN k y c s]) from decide_eq_decide.2 ⟨fun h => h.2.2.2.2.2, fun h => ⟨h1, h2, h3, h4, h5, h⟩⟩]
  exact refCheckEqual.yes h1 h2 h3 h4 h5 w
end Go.Proofs.YtgjepiblhpmaiaaDoor
