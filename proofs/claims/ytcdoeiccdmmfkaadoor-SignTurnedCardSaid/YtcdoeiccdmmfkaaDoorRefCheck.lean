/-
  Contract of the reference's Check (chapter 10).
-/
import Derived.Test.YtcdoeiccdmmfkaaDoorRefSign
import Derived.Deep.RegionHeld
import Derived.Deep.RegionHeld3
namespace Go.Proofs.YtcdoeiccdmmfkaaDoor
open Go.ChangeShapes Go.WideShapes Go.ChangeAt Go.RowKit
set_option linter.unusedVariables false
set_option linter.unusedSimpArgs false

namespace refCheck
theorem no1 {x : Nat} (c s : Nat) (zx : x < 18446744073709551616) (h : ¬ rightN x) (A : Option Addr) (n cap : Nat) (w : World) :
    Calls Tryd.prog 15 #[.int .u64 (x : Int), .slice A n cap, .agg #[.int .u64 (c : Int), .int .u64 (s : Int)]] w fun e w' => e = .returned (.bool false) ∧ Below w.heap.size w w' := by
  have hb1 := (Below.refl w.heap.size w).alloc (Nat.le_refl _) (.cells #[.int .u64 (c : Int), .int .u64 (s : Int)] 26)
  have Ax := Lib.hid (fun w => refRight' (decide_eq_false h) zx rfl w)
  clear h
  go_enter Tryd.func15, Tryd.ntmps15
  go_wp2_with fail
  go_quiet (first
    | (go_at_call 34; with_reducible refine Calls.quiet_of_same ((Ax.out _).mono fun _ _ h => ⟨h.1, h.2.symm⟩)))
  go_wp2; go_ret; exact ⟨rfl, below_drewN hb1 _⟩
set_option maxHeartbeats 1000000 in
theorem no2 {x c s : Nat} (hx : rightN x) (h : ¬ smallN c s) (A : Option Addr) (n cap : Nat) (w : World) :
    Calls Tryd.prog 15 #[.int .u64 (x : Int), .slice A n cap, .agg #[.int .u64 (c : Int), .int .u64 (s : Int)]] w fun e w' => e = .returned (.bool false) ∧ Below w.heap.size w w' := by
  have hb1 := (Below.refl w.heap.size w).alloc (Nat.le_refl _) (.cells #[.int .u64 (c : Int), .int .u64 (s : Int)] 26)
  have H1 := newProof w c s
  have Ax := Lib.hid (fun w => refRight' (decide_eq_true hx) (by have := hx.2; omega) rfl w)
  have AS := Lib.hid (fun w => refSmall' c s w (decide_eq_false h))
  have HC := Lib.hid (fun (u : World) (h : Below (w.alloc (.cells #[.int .u64 (c : Int), .int .u64 (s : Int)] 26)).drew.heap.size (w.alloc (.cells #[.int .u64 (c : Int), .int .u64 (s : Int)] 26)).drew u) => (Has.keep (w := (w.alloc (.cells #[.int .u64 (c : Int), .int .u64 (s : Int)] 26)).drew) H1 h H1.lt).proof)
  have HC0 := Lib.hid (HC.out _ (Below.refl _ _))
  clear h hx H1
  go_enter Tryd.func15, Tryd.ntmps15
  go_wp2_with fail
  refine wp_region_held_drew (S := fun w' => w'.cell? ⟨w.heap.size, 0, none⟩ = some (.int .u64 (c : Int)) ∧ w'.cell? ⟨w.heap.size, 1, none⟩ = some (.int .u64 (s : Int))) (by kernel_rfl) HC0.out (fun hHeld => ?_)
  refine wpAnyH_take (i := 0) (v := ?vz0) rfl (by kernel_rfl) (by kernel_rfl) (by kernel_rfl) (fun _ _ _ h => h) (Or.inl ⟨by rfl, ?yz0⟩) (by assumption) ?rz0
  case yz0 => (intro u hSu; (try dsimp only at hSu); go_simp; try with_reducible rfl)
  try simp only [List.getElem_toArray, List.getElem_cons_succ, List.getElem_cons_zero, Act.put, List.setIfInBounds_toArray, List.set_cons_zero, List.set_cons_succ]
  refine wpAnyH_ready (rs := [1]) (by kernel_rfl) (by simp) ?_
  refine AllReadyH.cons rfl (fun K hK => ?_) AllReadyH.nil
  go_simp
  go_at_call 34
  with_reducible refine (Ax.out _).mono ?_
  rintro e w' ⟨rfl, rfl⟩
  go_simp
  refine hK.out _ _ HC0.out (fun hHeld => ?_)
  clear hK K
  try simp only [List.getElem_toArray, List.getElem_cons_succ, List.getElem_cons_zero, Act.put, List.setIfInBounds_toArray, List.set_cons_zero, List.set_cons_succ]
  refine wpAnyH_take (i := 2) (v := ?vz2) rfl (by kernel_rfl) (by kernel_rfl) (by kernel_rfl) (fun _ _ _ h => h) (Or.inl ⟨by rfl, ?yz2⟩) (by assumption) ?rz2
  case yz2 => (intro u hSu; (try dsimp only at hSu); go_simp; try with_reducible rfl)
  try simp only [List.getElem_toArray, List.getElem_cons_succ, List.getElem_cons_zero, Act.put, List.setIfInBounds_toArray, List.set_cons_zero, List.set_cons_succ]
  refine wpAnyH_take (i := 3) (v := ?vz3) rfl (by kernel_rfl) (by kernel_rfl) (by kernel_rfl) (fun _ _ _ h => h) (Or.inl ⟨by rfl, ?yz3⟩) (by assumption) ?rz3
  case yz3 => (intro u hSu; (try dsimp only at hSu); go_simp; try with_reducible rfl)
  try simp only [List.getElem_toArray, List.getElem_cons_succ, List.getElem_cons_zero, Act.put, List.setIfInBounds_toArray, List.set_cons_zero, List.set_cons_succ]
  refine wpAnyH_ready (rs := [4]) (by kernel_rfl) (by simp) ?_
  refine AllReadyH.cons rfl (fun K hK => ?_) AllReadyH.nil
  go_simp
  go_at_call 35
  with_reducible refine (AS.out _).mono ?_
  rintro e w2 ⟨rfl, hb2⟩
  go_simp
  refine hK.out _ _ (HC.out _ hb2) (fun hHeld => ?_)
  clear hK K
  try simp only [List.getElem_toArray, List.getElem_cons_succ, List.getElem_cons_zero, Act.put, List.setIfInBounds_toArray, List.set_cons_zero, List.set_cons_succ]
  refine wpAnyH_take (i := 5) (v := ?vz5) rfl (by kernel_rfl) (by kernel_rfl) (by kernel_rfl) (fun _ _ _ h => h) (Or.inl ⟨by rfl, ?yz5⟩) (by assumption) ?rz5
  case yz5 => (intro u hSu; (try dsimp only at hSu); go_simp; try with_reducible rfl)
  try simp only [List.getElem_toArray, List.getElem_cons_succ, List.getElem_cons_zero, Act.put, List.setIfInBounds_toArray, List.set_cons_zero, List.set_cons_succ]
  refine wpAnyH_take (i := 6) (v := ?vz6) rfl (by kernel_rfl) (by kernel_rfl) (by kernel_rfl) (fun _ _ _ h => h) (Or.inl ⟨by rfl, ?yz6⟩) (by assumption) ?rz6
  case yz6 => (intro u hSu; (try dsimp only at hSu); go_simp; try with_reducible rfl)
  try simp only [List.getElem_toArray, List.getElem_cons_succ, List.getElem_cons_zero, Act.put, List.setIfInBounds_toArray, List.set_cons_zero, List.set_cons_succ]
  refine wpAnyH_take (i := 7) (v := undef) rfl (by kernel_rfl) (by kernel_rfl) (by kernel_rfl) (fun _ _ _ h => h) (Or.inr ⟨by rfl, rfl⟩) (by assumption) ?rz7
  try simp only [List.getElem_toArray, List.getElem_cons_succ, List.getElem_cons_zero, Act.put, List.setIfInBounds_toArray, List.set_cons_zero, List.set_cons_succ]
  refine wpAnyH_take (i := 8) (v := undef) rfl (by kernel_rfl) (by kernel_rfl) (by kernel_rfl) (fun _ _ _ h => h) (Or.inr ⟨by rfl, rfl⟩) (by assumption) ?rz8
  try simp only [List.getElem_toArray, List.getElem_cons_succ, List.getElem_cons_zero, Act.put, List.setIfInBounds_toArray, List.set_cons_zero, List.set_cons_succ]
  refine wpAnyH_take (i := 9) (v := undef) rfl (by kernel_rfl) (by kernel_rfl) (by kernel_rfl) (fun _ _ _ h => h) (Or.inr ⟨by rfl, rfl⟩) (by assumption) ?rz9
  try simp only [List.getElem_toArray, List.getElem_cons_succ, List.getElem_cons_zero, Act.put, List.setIfInBounds_toArray, List.set_cons_zero, List.set_cons_succ]
  refine wpAnyH_take (i := 10) (v := undef) rfl (by kernel_rfl) (by kernel_rfl) (by kernel_rfl) (fun _ _ _ h => h) (Or.inr ⟨by rfl, rfl⟩) (by assumption) ?rz10
  try simp only [List.getElem_toArray, List.getElem_cons_succ, List.getElem_cons_zero, Act.put, List.setIfInBounds_toArray, List.set_cons_zero, List.set_cons_succ]
  refine wpAnyH_take (i := 11) (v := undef) rfl (by kernel_rfl) (by kernel_rfl) (by kernel_rfl) (fun _ _ _ h => h) (Or.inr ⟨by rfl, rfl⟩) (by assumption) ?rz11
  try simp only [List.getElem_toArray, List.getElem_cons_succ, List.getElem_cons_zero, Act.put, List.setIfInBounds_toArray, List.set_cons_zero, List.set_cons_succ]
  refine wpAnyH_take (i := 12) (v := undef) rfl (by kernel_rfl) (by kernel_rfl) (by kernel_rfl) (fun _ _ _ h => h) (Or.inr ⟨by rfl, rfl⟩) (by assumption) ?rz12
  try simp only [List.getElem_toArray, List.getElem_cons_succ, List.getElem_cons_zero, Act.put, List.setIfInBounds_toArray, List.set_cons_zero, List.set_cons_succ]
  refine wpAnyH_take (i := 13) (v := undef) rfl (by kernel_rfl) (by kernel_rfl) (by kernel_rfl) (fun _ _ _ h => h) (Or.inr ⟨by rfl, rfl⟩) (by assumption) ?rz13
  try simp only [List.getElem_toArray, List.getElem_cons_succ, List.getElem_cons_zero, Act.put, List.setIfInBounds_toArray, List.set_cons_zero, List.set_cons_succ]
  refine wpAnyH_take (i := 14) (v := undef) rfl (by kernel_rfl) (by kernel_rfl) (by kernel_rfl) (fun _ _ _ h => h) (Or.inr ⟨by rfl, rfl⟩) (by assumption) ?rz14
  try simp only [List.getElem_toArray, List.getElem_cons_succ, List.getElem_cons_zero, Act.put, List.setIfInBounds_toArray, List.set_cons_zero, List.set_cons_succ]
  refine wpAnyH_take (i := 15) (v := undef) rfl (by kernel_rfl) (by kernel_rfl) (by kernel_rfl) (fun _ _ _ h => h) (Or.inr ⟨by rfl, rfl⟩) (by assumption) ?rz15
  try simp only [List.getElem_toArray, List.getElem_cons_succ, List.getElem_cons_zero, Act.put, List.setIfInBounds_toArray, List.set_cons_zero, List.set_cons_succ]
  refine wpAnyH_take (i := 16) (v := ?vz16) rfl (by kernel_rfl) (by kernel_rfl) (by kernel_rfl) (fun _ _ _ h => h) (Or.inl ⟨by rfl, ?yz16⟩) (by assumption) ?rz16
  case yz16 => (intro u hSu; (try dsimp only at hSu); go_simp; try with_reducible rfl)
  try simp only [List.getElem_toArray, List.getElem_cons_succ, List.getElem_cons_zero, Act.put, List.setIfInBounds_toArray, List.set_cons_zero, List.set_cons_succ]
  refine wpAnyH_take (i := 17) (v := ?vz17) rfl (by kernel_rfl) (by kernel_rfl) (by kernel_rfl) (fun _ _ _ h => h) (Or.inl ⟨by rfl, ?yz17⟩) (by assumption) ?rz17
  case yz17 => (intro u hSu; (try dsimp only at hSu); go_simp; try with_reducible rfl)
  try simp only [List.getElem_toArray, List.getElem_cons_succ, List.getElem_cons_zero, Act.put, List.setIfInBounds_toArray, List.set_cons_zero, List.set_cons_succ]
  refine wpAnyH_done (by kernel_rfl) ?_ _
  go_wp2; go_ret; exact ⟨rfl, hb1.drew.trans (hb2.mono hb1.drew.size)⟩
set_option maxHeartbeats 2000000 in
theorem yes {x c s : Nat} {b : List UInt8} (hx : rightN x) (h : smallN c s) (A : Option Addr) (n cap : Nat) (w : World) (hA : Bytes w A n cap b) (hn : n ≤ 1099511627776) :
    Calls Tryd.prog 15 #[.int .u64 (x : Int), .slice A n cap, .agg #[.int .u64 (c : Int), .int .u64 (s : Int)]] w fun e w' => e = .returned (.bool (decide (c = signC x (backN 37 x c s) b))) ∧ Below w.heap.size w w' := by
  obtain ⟨r, hr⟩ : ∃ t, backN 37 x c s = t := ⟨_, rfl⟩
  have br : r < 2305843009213693951 := by rw [← hr]; exact backN_lt _ _ _ _
  obtain ⟨q, hq⟩ : ∃ t, signC x r b = t := ⟨_, rfl⟩
  have hx64 : x < 18446744073709551616 := by have := hx.2; omega
  have hc64 : c < 18446744073709551616 := by have := h.1; omega
  have hs64 : s < 18446744073709551616 := by have := h.2; omega
  rw [hr, hq]
  have hb1 := (Below.refl w.heap.size w).alloc (Nat.le_refl _) (.cells #[.int .u64 (c : Int), .int .u64 (s : Int)] 26)
  have H1 := newProof w c s
  have Ax := Lib.hid (fun w => refRight' (decide_eq_true hx) hx64 rfl w)
  have AS := Lib.hid (fun w => refSmall' c s w (decide_eq_true h))
  have AB := Lib.hid (fun w => show Calls Tryd.prog 36 #[.int .u64 37, .int .u64 (x : Int), .agg #[.int .u64 (c : Int), .int .u64 (s : Int)]] w (fun e w' => e = .returned (.int .u64 (r : Int)) ∧ Below w.heap.size w w') from refBack' (g := 37) hr (by omega) hx64 hc64 hs64 w)
  have AC := Lib.hid (fun (u : World) (h : Below (w.alloc (.cells #[.int .u64 (c : Int), .int .u64 (s : Int)] 26)).drew.heap.size (w.alloc (.cells #[.int .u64 (c : Int), .int .u64 (s : Int)] 26)).drew u) => refSigned' hq hx64 (by omega) A n cap u (hA.keep (hb1.drew.trans (h.mono hb1.drew.size))) hn)
  have HC := Lib.hid (fun (u : World) (h : Below (w.alloc (.cells #[.int .u64 (c : Int), .int .u64 (s : Int)] 26)).drew.heap.size (w.alloc (.cells #[.int .u64 (c : Int), .int .u64 (s : Int)] 26)).drew u) => (Has.keep (w := (w.alloc (.cells #[.int .u64 (c : Int), .int .u64 (s : Int)] 26)).drew) H1 h H1.lt).proof)
  clear h hx hr hq H1 hA
  go_enter Tryd.func15, Tryd.ntmps15
  go_wp2_with fail
  go_region_held (fun w' => w'.cell? ⟨w.heap.size, 0, none⟩ = some (.int .u64 (c : Int)) ∧ w'.cell? ⟨w.heap.size, 1, none⟩ = some (.int .u64 (s : Int)))
    (first | exact HC.out _ (by assumption) | exact HC.out _ (Below.refl _ _))
    (first
    | (go_at_call 34; with_reducible refine (Ax.out _).mono ?_; rintro e w' ⟨rfl, rfl⟩)
    | (go_at_call 35; with_reducible refine (AS.out _).mono ?_; rintro e w2 ⟨rfl, hb2⟩)
    | (go_at_call 36; with_reducible refine (AB.out w2).mono ?_; rintro e w3 ⟨rfl, hb30⟩; have hb3 := hb2.trans (hb30.mono hb2.size))
    | (go_at_call 24; with_reducible refine (AC.out w3 hb3).mono ?_; rintro e w4 ⟨rfl, hb40⟩; have hb4 := hb3.trans (hb40.mono hb3.size)))
  all_goals (go_wp2; go_ret; exact ⟨ret_bool ((beq_nat q c).trans (decide_eq_decide.2 ⟨Eq.symm, Eq.symm⟩)), hb1.drew.trans (hb4.mono hb1.drew.size)⟩)
end refCheck
theorem refCheck' {x c s : Nat} {b : List UInt8} {v : Bool} (hv : decide (okSign x b c s) = v) (hx : x < 18446744073709551616) (A : Option Addr) (n cap : Nat) (w : World) (hA : Bytes w A n cap b) (hn : n ≤ 1099511627776) :
    Calls Tryd.prog 15 #[.int .u64 (x : Int), .slice A n cap, .agg #[.int .u64 (c : Int), .int .u64 (s : Int)]] w fun e w' => e = .returned (.bool v) ∧ Below w.heap.size w w' := by
  by_cases h1 : rightN x
  case neg =>
    rw [← hv, show decide (okSign x b c s) = false from decide_eq_false fun h => h1 h.1]
    exact refCheck.no1 c s hx h1 A n cap w
  by_cases h2 : smallN c s
  case neg =>
    rw [← hv, show decide (okSign x b c s) = false from decide_eq_false fun h => h2 h.2.1]
    exact refCheck.no2 h1 h2 A n cap w
  rw [← hv, show decide (okSign x b c s) = decide (c = signC x (backN 37 x c s) b) from decide_eq_decide.2 ⟨fun h => h.2.2, fun h => ⟨h1, h2, h⟩⟩]
  exact refCheck.yes h1 h2 A n cap w hA hn
end Go.Proofs.YtcdoeiccdmmfkaaDoor
