/-
  The law ProofDraws of chapter 9.
-/
import Derived.Test.YtgjepiblhpmaiaaDoorProofLaw
namespace Go.Proofs.YtgjepiblhpmaiaaDoor
open Go.ChangeShapes Go.WideShapes Go.ChangeAt Go.RowKit
set_option linter.unusedVariables false
set_option linter.unusedSimpArgs false

namespace proofDrawsLaw
theorem out {g : Nat} (a b d o : Nat) (bg : g < 18446744073709551616) (hg : ¬ rightN g) (w : World) (hT : Tab w) :
    Calls Tryd.prog 7 #[.int .u64 (g : Int), .int .u64 (a : Int), .int .u64 (b : Int), .int .u64 (d : Int), .int .u64 (o : Int)] w fun e w' => e = .returned (.bool true) ∧ Below w.heap.size w w' := by
  have A1 := Lib.hid (fun w => refRight' (decide_eq_false hg) bg rfl w)
  clear hg
  go_enter Tryd.func7, Tryd.ntmps7
  go_wp2_with fail
  refine (alive9 _ hT).mono ?_
  rintro e w1 ⟨rfl, hb1⟩
  go_wp2_with fail
  refine (A1.out _).mono ?_
  rintro e w' ⟨rfl, rfl⟩
  go_wp2_with fail
  go_ret
  exact ⟨rfl, hb1⟩
set_option maxHeartbeats 2000000 in
theorem inn {g a b d o : Nat} (hg : rightN g) (ba : a < 18446744073709551616) (bb : b < 18446744073709551616) (bd : d < 18446744073709551616) (bo : o < 18446744073709551616) (w : World) (hT : Tab w) :
    Calls Tryd.prog 7 #[.int .u64 (g : Int), .int .u64 (a : Int), .int .u64 (b : Int), .int .u64 (d : Int), .int .u64 (o : Int)] w fun e w' => e = .returned (.bool true) ∧ Below w.heap.size w w' := by
  have ok1 := know_ok g a d hg
  have ok2 := know_ok g a o hg
  have ok3 := know_ok g (addS a b) d hg
  rw [← timesN_addS hg] at ok3
  obtain ⟨x, hx⟩ : ∃ t, timesN g a = t := ⟨_, rfl⟩
  obtain ⟨y, hy⟩ : ∃ t, timesN g b = t := ⟨_, rfl⟩
  obtain ⟨m, hm⟩ : ∃ t, mulN x y = t := ⟨_, rfl⟩
  obtain ⟨n, hn⟩ : ∃ t, addS a b = t := ⟨_, rfl⟩
  obtain ⟨t, ht⟩ : ∃ u, timesN g d = u := ⟨_, rfl⟩
  obtain ⟨u, hu⟩ : ∃ u, timesN g o = u := ⟨_, rfl⟩
  have bx : x < 2305843009213693951 := by rw [← hx]; exact timesN_lt _ _
  have bY : y < 2305843009213693951 := by rw [← hy]; exact timesN_lt _ _
  have bm : m < 2305843009213693951 := by rw [← hm]; exact mulN_lt _ _
  have bn : n < 2305843009213693950 := by rw [← hn]; exact addS_lt _ _
  obtain ⟨c1, hc1⟩ : ∃ t, knowC g x d = t := ⟨_, rfl⟩
  obtain ⟨c2, hc2⟩ : ∃ t, knowC g x o = t := ⟨_, rfl⟩
  obtain ⟨c3, hc3⟩ : ∃ t, knowC g m d = t := ⟨_, rfl⟩
  obtain ⟨r1, hr1⟩ : ∃ t, answerS c1 a d = t := ⟨_, rfl⟩
  obtain ⟨r2, hr2⟩ : ∃ t, answerS c2 a o = t := ⟨_, rfl⟩
  obtain ⟨r3, hr3⟩ : ∃ t, answerS c3 n d = t := ⟨_, rfl⟩
  rw [hx, hc1, hr1] at ok1
  rw [hx, hc2, hr2] at ok2
  rw [hx, hy, hm, hn, hc3, hr3] at ok3
  rw [knowC, ht] at hc1 hc3
  rw [knowC, hu] at hc2
  have bg := rightN_64 hg
  have A1 := Lib.hid (fun w => refRight' (decide_eq_true hg) bg rfl w)
  have A2 := Lib.hid (fun w => refTimes' hx bg ba rfl rfl w)
  have A3 := Lib.hid (fun w => refTimes' hy bg bb rfl rfl w)
  have A4 := Lib.hid (fun w (h' : Tab w) => know' ht hc1 hr1 bg (by omega) ba bd w h')
  have A5 := Lib.hid (fun w (h' : Tab w) => know' hu hc2 hr2 bg (by omega) ba bo w h')
  have A6 := Lib.hid (fun w => refMulP' hm (by omega) (by omega) w)
  have A7 := Lib.hid (fun w => refAddN' hn ba bb rfl rfl w)
  have A8 := Lib.hid (fun w (h' : Tab w) => know' ht hc3 hr3 bg (by omega) (by omega) bd w h')
  have B1 := Lib.hid (fun w (h' : Tab w) => checkKnow' (decide_eq_true ok1) bg (by omega) w h')
  have B2 := Lib.hid (fun w (h' : Tab w) => checkKnow' (decide_eq_true ok2) bg (by omega) w h')
  have B3 := Lib.hid (fun w (h' : Tab w) => checkKnow' (decide_eq_true ok3) bg (by omega) w h')
  clear hg ok1 ok2 ok3 hx hy hm hn ht hu hc1 hc2 hc3 hr1 hr2 hr3
  go_enter Tryd.func7, Tryd.ntmps7
  go_wp2_with fail
  refine (alive9 _ hT).mono ?_
  rintro e w1 ⟨rfl, hb1⟩
  go_wp2_with fail
  refine (A1.out _).mono ?_
  rintro e w' ⟨rfl, rfl⟩
  go_wp2_with fail
  refine (A2.out _).mono ?_
  rintro e w' ⟨rfl, rfl⟩
  go_wp2_with fail
  refine (A3.out _).mono ?_
  rintro e w' ⟨rfl, rfl⟩
  go_wp2_with fail
  refine (A4.out _ (hT.keep hb1)).mono ?_
  rintro e w2 ⟨rfl, hb20⟩
  have hb2 := hb1.trans (hb20.mono hb1.size)
  have H2 := newProof0 w2
  have hb3 := hb2.alloc hb2.size (.cells #[.int .u64 0, .int .u64 0] 27)
  have hs2 := hb2.size
  clear hb20
  go_wp2_with ((with_reducible refine wpList_store_proof rfl (.tmp 14) (.tmp 36) rfl w2.heap.size rfl c1 r1 rfl 0 0 H2 ?_); intro w3 o3 H3)
  have hb4 := o3.below hb3 hs2
  clear H2 o3 hb3
  refine (A5.out _ (hT.keep hb4)).mono ?_
  rintro e w4 ⟨rfl, hb50⟩
  have H4 := H3.keep hb50 H3.lt
  have hb5 := hb4.trans (hb50.mono hb4.size)
  have H5 := newProof0 w4
  have hb6 := hb5.alloc hb5.size (.cells #[.int .u64 0, .int .u64 0] 27)
  have hs4 := hb5.size
  have H4a := H4.alloc (.cells #[.int .u64 0, .int .u64 0] 27)
  have n4 := H4.lt
  clear hb50 H3 H4 hb4
  go_wp2_with ((with_reducible refine wpList_store_proof rfl (.tmp 15) (.tmp 41) rfl w4.heap.size rfl c2 r2 rfl 0 0 H5 ?_); intro w5 o5 H6)
  have hb7 := o5.below hb6 hs4
  have H7 := H4a.only o5 (by omega)
  clear H4a H5 o5 hb6
  refine (A6.out _).mono ?_
  rintro e w' ⟨rfl, rfl⟩
  go_wp2_with fail
  refine (A7.out _).mono ?_
  rintro e w' ⟨rfl, rfl⟩
  go_wp2_with fail
  refine (A8.out _ (hT.keep hb7)).mono ?_
  rintro e w6 ⟨rfl, hb80⟩
  have H8 := H6.keep hb80 H6.lt
  have H9 := H7.keep hb80 H7.lt
  have hb8 := hb7.trans (hb80.mono hb7.size)
  have H10 := newProof0 w6
  have hb9 := hb8.alloc hb8.size (.cells #[.int .u64 0, .int .u64 0] 27)
  have hs6 := hb8.size
  have H8a := H8.alloc (.cells #[.int .u64 0, .int .u64 0] 27)
  have H9a := H9.alloc (.cells #[.int .u64 0, .int .u64 0] 27)
  have n8 := H8.lt
  have n9 := H9.lt
  clear hb80 H6 H7 H8 H9 hb7
  go_wp2_with ((with_reducible refine wpList_store_proof rfl (.tmp 16) (.tmp 50) rfl w6.heap.size rfl c3 r3 rfl 0 0 H10 ?_); intro w7 o7 H11)
  have hb10 := o7.below hb9 hs6
  have H12 := H8a.only o7 (by omega)
  have H13 := H9a.only o7 (by omega)
  have HC := Lib.hid (fun (u : World) (h : Below w7.drew.heap.size w7.drew u) => And.intro (Has.keep (w := w7.drew) H13 h H13.lt).proof (And.intro (Has.keep (w := w7.drew) H12 h H12.lt).proof (Has.keep (w := w7.drew) H11 h H11.lt).proof))
  have HT := Lib.hid (fun (u : World) (h : Below w7.drew.heap.size w7.drew u) => (hT.keep hb10.drew).keep h)
  clear H8a H9a H10 H11 H12 H13 o7 hb9 A1 A2 A3 A4 A5 A7 A8 hb1 hb2 hb5 hb8
  go_region_held (fun w' => (w'.cell? ⟨w2.heap.size, 0, none⟩ = some (.int .u64 (c1 : Int)) ∧ w'.cell? ⟨w2.heap.size, 1, none⟩ = some (.int .u64 (r1 : Int))) ∧ (w'.cell? ⟨w4.heap.size, 0, none⟩ = some (.int .u64 (c2 : Int)) ∧ w'.cell? ⟨w4.heap.size, 1, none⟩ = some (.int .u64 (r2 : Int))) ∧ (w'.cell? ⟨w6.heap.size, 0, none⟩ = some (.int .u64 (c3 : Int)) ∧ w'.cell? ⟨w6.heap.size, 1, none⟩ = some (.int .u64 (r3 : Int))))
    (first | exact HC.out _ (by assumption) | exact HC.out _ (Below.refl _ _))
    (first
    | (go_at_call 15; with_reducible refine (B1.out _ (HT.out _ (Below.refl _ _))).mono ?_; rintro e u1 ⟨rfl, k1⟩)
    | (go_at_call 15; with_reducible refine (B2.out _ (HT.out _ k1)).mono ?_; rintro e u2 ⟨rfl, k20⟩; have k2 := k1.trans (k20.mono k1.size))
    | (go_at_call 21; with_reducible refine (A6.out _).mono ?_; rintro e w' ⟨rfl, rfl⟩)
    | (go_at_call 15; with_reducible refine (B3.out _ (HT.out _ k2)).mono ?_; rintro e u3 ⟨rfl, k30⟩; have k3 := k2.trans (k30.mono k2.size)))
  all_goals (go_wp2; go_ret; exact ⟨rfl, hb10.drew.trans (k3.mono hb10.drew.size)⟩)
theorem all (g a b d o : Int) (w : World) (hT : Tab w) (w0 : (Lit.int .u64 g).wf = true) (w1 : (Lit.int .u64 a).wf = true) (w2 : (Lit.int .u64 b).wf = true) (w3 : (Lit.int .u64 d).wf = true) (w4 : (Lit.int .u64 o).wf = true) :
    Calls Tryd.prog 7 #[.int .u64 g, .int .u64 a, .int .u64 b, .int .u64 d, .int .u64 o] w fun e w' => e = .returned (.bool true) ∧ Below w.heap.size w w' := by
  obtain ⟨g, rfl, hg⟩ := u64_wf w0
  obtain ⟨a, rfl, ha⟩ := u64_wf w1
  obtain ⟨b, rfl, hb⟩ := u64_wf w2
  obtain ⟨d, rfl, hd⟩ := u64_wf w3
  obtain ⟨o, rfl, ho⟩ := u64_wf w4
  by_cases h : rightN g
  · exact inn h ha hb hd ho w hT
  · exact out a b d o hg h w hT
end proofDrawsLaw
end Go.Proofs.YtgjepiblhpmaiaaDoor
