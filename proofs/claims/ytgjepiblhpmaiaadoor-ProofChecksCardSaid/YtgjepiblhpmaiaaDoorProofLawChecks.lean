/-
  The law ProofChecks of chapter 9.
-/
import Derived.Test.YtgjepiblhpmaiaaDoorProofLaw
namespace Go.Proofs.YtgjepiblhpmaiaaDoor
open Go.ChangeShapes Go.WideShapes Go.ChangeAt Go.RowKit
set_option linter.unusedVariables false
set_option linter.unusedSimpArgs false

namespace proofChecksLaw
set_option maxHeartbeats 1000000 in
theorem walk {g x h y c s : Nat} (bg : g < 18446744073709551616) (bx : x < 18446744073709551616) (bh : h < 18446744073709551616) (bY : y < 18446744073709551616) (w : World) (hT : Tab w) :
    Calls Tryd.prog 4 #[.int .u64 (g : Int), .int .u64 (x : Int), .int .u64 (h : Int), .int .u64 (y : Int), .agg #[.int .u64 (c : Int), .int .u64 (s : Int)]] w fun e w' => e = .returned (.bool true) ∧ Below w.heap.size w w' := by
  obtain ⟨b, hb⟩ : ∃ t, decide (okKnow g x c s) = t := ⟨_, rfl⟩
  obtain ⟨d, hd⟩ : ∃ t, decide (okEqual g x h y c s) = t := ⟨_, rfl⟩
  have eb : (b == b) = true := by simp
  have ed : (d == d) = true := by simp
  have hb1 := (Below.refl w.heap.size w).alloc (Nat.le_refl _) (.cells #[.int .u64 (c : Int), .int .u64 (s : Int)] 27)
  have H1 := newProof w c s
  have A1 := Lib.hid (fun w (h' : Tab w) => checkKnow' hb bg bx w h')
  have A2 := Lib.hid (fun w => refCheckKnow' hb bg bx w)
  have A3 := Lib.hid (fun w (h' : Tab w) => checkEqual' hd bg bx bh bY w h')
  have A4 := Lib.hid (fun w => refCheckEqual' hd bg bx bh bY w)
  clear hb hd
  go_enter Tryd.func4, Tryd.ntmps4
  go_wp2_with fail
  refine (alive9 _ (hT.keep hb1)).mono ?_
  rintro e w2 ⟨rfl, hb2⟩
  have H2 := H1.keep hb2 H1.lt
  have hbw2 := hb1.trans (hb2.mono hb1.size)
  have HC := Lib.hid (fun (u : World) (h : Below w2.drew.heap.size w2.drew u) => (Has.keep (w := w2.drew) H2 h H2.lt).proof)
  have HT := Lib.hid (fun (u : World) (h : Below w2.drew.heap.size w2.drew u) => (hT.keep hbw2.drew).keep h)
  clear H1 H2 hb1 hb2
  go_wp2_with fail
  go_region_held (fun w' => w'.cell? ⟨w.heap.size, 0, none⟩ = some (.int .u64 (c : Int)) ∧ w'.cell? ⟨w.heap.size, 1, none⟩ = some (.int .u64 (s : Int)))
    (first | exact HC.out _ (by assumption) | exact HC.out _ (Below.refl _ _))
    (first
    | (go_at_call 15; with_reducible refine (A1.out _ (HT.out _ (Below.refl _ _))).mono ?_; rintro e w3 ⟨rfl, hb3⟩)
    | (go_at_call 16; with_reducible refine (A2.out _).mono ?_; rintro e w4 ⟨rfl, hb40⟩; have hb4 := hb3.trans (hb40.mono hb3.size))
    | (go_at_call 17; with_reducible refine (A3.out _ (HT.out _ hb4)).mono ?_; rintro e w5 ⟨rfl, hb50⟩; have hb5 := hb4.trans (hb50.mono hb4.size))
    | (go_at_call 18; with_reducible refine (A4.out _).mono ?_; rintro e w6 ⟨rfl, hb60⟩; have hb6 := hb5.trans (hb60.mono hb5.size)))
  all_goals (go_wp2; go_ret; exact ⟨rfl, hbw2.drew.trans (hb6.mono hbw2.drew.size)⟩)
theorem all (g x h y c s : Int) (w : World) (hT : Tab w) (w0 : (Lit.int .u64 g).wf = true) (w1 : (Lit.int .u64 x).wf = true) (w2 : (Lit.int .u64 h).wf = true) (w3 : (Lit.int .u64 y).wf = true) (w4 : (Lit.int .u64 c).wf = true ∧ (Lit.int .u64 s).wf = true) :
    Calls Tryd.prog 4 #[.int .u64 g, .int .u64 x, .int .u64 h, .int .u64 y, .agg #[.int .u64 c, .int .u64 s]] w fun e w' => e = .returned (.bool true) ∧ Below w.heap.size w w' := by
  obtain ⟨g, rfl, hg⟩ := u64_wf w0
  obtain ⟨x, rfl, hx⟩ := u64_wf w1
  obtain ⟨h, rfl, hh⟩ := u64_wf w2
  obtain ⟨y, rfl, hy⟩ := u64_wf w3
  obtain ⟨c, rfl, hc⟩ := u64_wf w4.1
  obtain ⟨s, rfl, hs⟩ := u64_wf w4.2
  exact walk hg hx hh hy w hT
end proofChecksLaw
end Go.Proofs.YtgjepiblhpmaiaaDoor
