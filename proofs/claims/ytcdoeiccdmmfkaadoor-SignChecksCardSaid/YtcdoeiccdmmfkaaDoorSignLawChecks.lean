/-
  The law SignChecks of chapter 10.
-/
import Derived.Test.YtcdoeiccdmmfkaaDoorSignLaw
namespace Go.Proofs.YtcdoeiccdmmfkaaDoor
open Go.ChangeShapes Go.WideShapes Go.ChangeAt Go.RowKit
set_option linter.unusedVariables false
set_option linter.unusedSimpArgs false

namespace signChecksLaw
theorem out (x c s : Nat) (A : Option Addr) (n cap : Nat) (hn : 300 < n) (w : World) (hT : Tab w) :
    Calls Tryd.prog 4 #[.int .u64 (x : Int), .slice A n cap, .agg #[.int .u64 (c : Int), .int .u64 (s : Int)]] w fun e w' => e = .returned (.bool true) ∧ Below w.heap.size w w' := by
  have hb1 := (Below.refl w.heap.size w).alloc (Nat.le_refl _) (.cells #[.int .u64 (c : Int), .int .u64 (s : Int)] 26)
  have h1 : (300 : Int) < (n : Int) := by omega
  go_enter Tryd.func4, Tryd.ntmps4
  go_wp2_with fail
  refine (alive10 _ (hT.keep hb1)).mono ?_
  rintro e w2 ⟨rfl, hb2⟩
  go_wp2_with fail
  go_ret
  exact ⟨rfl, hb1.trans (hb2.mono hb1.size)⟩
set_option maxHeartbeats 2000000 in
theorem inn {x c s : Nat} {b : List UInt8} (A : Option Addr) (n cap : Nat) (hn : n ≤ 300) (bx : x < 18446744073709551616) (w : World) (hA : Bytes w A n cap b) (hT : Tab w) :
    Calls Tryd.prog 4 #[.int .u64 (x : Int), .slice A n cap, .agg #[.int .u64 (c : Int), .int .u64 (s : Int)]] w fun e w' => e = .returned (.bool true) ∧ Below w.heap.size w w' := by
  have h1 : ¬ (300 : Int) < (n : Int) := by omega
  obtain ⟨v, hv⟩ : ∃ t, decide (okSign x b c s) = t := ⟨_, rfl⟩
  have ev : (v == v) = true := by simp
  have heq1 := eq_key (nameN x) (nameN_len x)
  obtain ⟨X, hX⟩ : ∃ X, ((nameN x).map bv).toArray = X := ⟨_, rfl⟩
  rw [hX] at heq1
  have hb1 := (Below.refl w.heap.size w).alloc (Nat.le_refl _) (.cells #[.int .u64 (c : Int), .int .u64 (s : Int)] 26)
  have H1 := newProof w c s
  have HA := Lib.hid hA
  have A1 := Lib.hid (fun w (hA : Bytes w A n cap b) (h : Tab w) => signCheck' hv bx A n cap w hA h)
  have A2 := Lib.hid (fun w (hA : Bytes w A n cap b) => refCheck' hv bx A n cap w hA (by omega))
  have A3 := Lib.hid (fun w (h : Tab w) => hX ▸ signName x w bx h)
  have A4 := Lib.hid (fun w => hX ▸ refName x w bx)
  clear hv hX hA
  go_enter Tryd.func4, Tryd.ntmps4
  go_wp2_with fail
  refine (alive10 _ (hT.keep hb1)).mono ?_
  rintro e w2 ⟨rfl, hb2⟩
  have H2 := H1.keep hb2 H1.lt
  have hbw2 := hb1.trans (hb2.mono hb1.size)
  have HC := Lib.hid (fun (u : World) (h : Below w2.drew.heap.size w2.drew u) => (Has.keep (w := w2.drew) H2 h H2.lt).proof)
  have HT := Lib.hid (fun (u : World) (h : Below w2.drew.heap.size w2.drew u) => (hT.keep hbw2.drew).keep h)
  have HB := Lib.hid (fun (u : World) (h : Below w2.drew.heap.size w2.drew u) => (HA.out.keep hbw2.drew).keep h)
  clear H1 H2 hb1 hb2
  go_wp2_with fail
  go_region_held (fun w' => w'.cell? ⟨w.heap.size, 0, none⟩ = some (.int .u64 (c : Int)) ∧ w'.cell? ⟨w.heap.size, 1, none⟩ = some (.int .u64 (s : Int)))
    (first | exact HC.out _ (by assumption) | exact HC.out _ (Below.refl _ _))
    (first
    | (go_at_call 14; with_reducible refine (A1.out _ (HB.out _ (Below.refl _ _)) (HT.out _ (Below.refl _ _))).mono ?_; rintro e w3 ⟨rfl, hb3⟩)
    | (go_at_call 15; with_reducible refine (A2.out _ (HB.out _ hb3)).mono ?_; rintro e w4 ⟨rfl, hb40⟩; have hb4 := hb3.trans (hb40.mono hb3.size))
    | (go_at_call 12; with_reducible refine (A3.out _ (HT.out _ hb4)).mono ?_; rintro e w5 ⟨rfl, hb50⟩; have hb5 := hb4.trans (hb50.mono hb4.size))
    | (go_at_call 13; with_reducible refine (A4.out _).mono ?_; rintro e w6 ⟨rfl, hb60⟩; have hb6 := hb5.trans (hb60.mono hb5.size)))
  all_goals (go_wp2; go_ret; exact ⟨rfl, hbw2.drew.trans (hb6.mono hbw2.drew.size)⟩)
theorem all (x : Int) (A : Option Addr) (n cap : Nat) (b : List UInt8) (c s : Int) (w : World) (hT : Tab w) (w0 : (Lit.int .u64 x).wf = true) (hA : Bytes w A n cap b) (w2 : (Lit.int .u64 c).wf = true ∧ (Lit.int .u64 s).wf = true) :
    Calls Tryd.prog 4 #[.int .u64 x, .slice A n cap, .agg #[.int .u64 c, .int .u64 s]] w fun e w' => e = .returned (.bool true) ∧ Below w.heap.size w w' := by
  obtain ⟨x, rfl, hx⟩ := u64_wf w0
  obtain ⟨c, rfl, hc⟩ := u64_wf w2.1
  obtain ⟨s, rfl, hs⟩ := u64_wf w2.2
  by_cases h1 : 300 < n
  · exact out x c s A n cap h1 w hT
  · exact inn A n cap (by omega) hx w hA hT
end signChecksLaw
end Go.Proofs.YtcdoeiccdmmfkaaDoor
