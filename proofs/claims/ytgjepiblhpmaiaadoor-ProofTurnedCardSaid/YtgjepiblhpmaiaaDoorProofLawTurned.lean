/-
  The law ProofTurned of chapter 9.
-/
import Derived.Test.YtgjepiblhpmaiaaDoorProofLaw
namespace Go.Proofs.YtgjepiblhpmaiaaDoor
open Go.ChangeShapes Go.WideShapes Go.ChangeAt Go.RowKit
set_option linter.unusedVariables false
set_option linter.unusedSimpArgs false

theorem wrap_add64 {a b c : Nat} (h : (a + b) % 18446744073709551616 = c) : IntKind.u64.wrap ((a : Int) + (b : Int)) = (c : Int) := by
  simp only [IntKind.wrap_u64]
  omega
namespace proofTurnedLaw
theorem out (g h s d y : Nat) (k : Int) (hk : k < 0 ∨ 5 < k) (w : World) (hT : Tab w) :
    Calls Tryd.prog 6 #[.int .u64 (g : Int), .int .u64 (h : Int), .int .u64 (s : Int), .int .u64 (d : Int), .int .i64 k, .int .u64 (y : Int)] w fun e w' => e = .returned (.bool true) ∧ Below w.heap.size w w' := by
  rcases hk with hk | hk
  · go_enter Tryd.func6, Tryd.ntmps6
    go_wp2_with fail
    refine (alive9 _ hT).mono ?_
    rintro e w1 ⟨rfl, hb1⟩
    go_wp2_with fail
    go_ret
    exact ⟨rfl, hb1⟩
  · have h0 : ¬ k < 0 := by omega
    go_enter Tryd.func6, Tryd.ntmps6
    go_wp2_with fail
    refine (alive9 _ hT).mono ?_
    rintro e w1 ⟨rfl, hb1⟩
    go_wp2_with fail
    go_ret
    exact ⟨rfl, hb1⟩
set_option maxHeartbeats 2000000 in
theorem in0 {g h s d y : Nat} (bg : g < 18446744073709551616) (bh : h < 18446744073709551616) (bs : s < 18446744073709551616) (bd : d < 18446744073709551616) (w : World) (hT : Tab w) :
    Calls Tryd.prog 6 #[.int .u64 (g : Int), .int .u64 (h : Int), .int .u64 (s : Int), .int .u64 (d : Int), .int .i64 0, .int .u64 (y : Int)] w fun e w' => e = .returned (.bool true) ∧ Below w.heap.size w w' := by
  obtain ⟨x, hx⟩ : ∃ t, timesN g s = t := ⟨_, rfl⟩
  obtain ⟨v, hv⟩ : ∃ t, timesN h s = t := ⟨_, rfl⟩
  obtain ⟨t, ht⟩ : ∃ u, timesN g d = u := ⟨_, rfl⟩
  obtain ⟨u, hu⟩ : ∃ u, timesN h d = u := ⟨_, rfl⟩
  have bx : x < 18446744073709551616 := by have := timesN_lt g s; omega
  have bv' : v < 18446744073709551616 := by have := timesN_lt h s; omega
  obtain ⟨c, hc⟩ : ∃ q, chalN kEqual [g, x, h, v, t, u] = q := ⟨_, rfl⟩
  obtain ⟨r, hr⟩ : ∃ q, answerS c s d = q := ⟨_, rfl⟩
  have bc : c < 18446744073709551616 := by have := chalN_lt kEqual [g, x, h, v, t, u]; omega
  have br : r < 18446744073709551616 := by have := answerS_lt c s d; omega
  obtain ⟨z, hz⟩ : ∃ q, (c + y) % 18446744073709551616 = q := ⟨_, rfl⟩
  have bz : z < 18446744073709551616 := by omega
  have ew := wrap_add64 hz
  obtain ⟨b, hb⟩ : ∃ q, decide (okEqual g x h v z r) = q := ⟨_, rfl⟩
  have eb : (b == b) = true := by simp
  have A1 := Lib.hid (fun w => refTimes' hx bg bs rfl rfl w)
  have A2 := Lib.hid (fun w => refTimes' hv bh bs rfl rfl w)
  have A3 := Lib.hid (fun w (h' : Tab w) => equal' ht hu hc hr bg bx bh bv' bs bd w h')
  have B1 := Lib.hid (fun w (h' : Tab w) => checkEqual' hb (by omega) (by omega) (by omega) (by omega) w h')
  have B2 := Lib.hid (fun w => refCheckEqual' hb (by omega) (by omega) (by omega) (by omega) w)
  clear hx hv ht hu hc hr hz hb
  go_enter Tryd.func6, Tryd.ntmps6
  go_wp2_with fail
  refine (alive9 _ hT).mono ?_
  rintro e w1 ⟨rfl, hb1⟩
  go_wp2_with fail
  refine (A1.out _).mono ?_
  rintro e w' ⟨rfl, rfl⟩
  go_wp2_with fail
  refine (A2.out _).mono ?_
  rintro e w' ⟨rfl, rfl⟩
  go_wp2_with fail
  refine (A3.out _ (hT.keep hb1)).mono ?_
  rintro e w2 ⟨rfl, hb20⟩
  have hb2 := hb1.trans (hb20.mono hb1.size)
  have H2 := newProof0 w2
  have hb3 := hb2.alloc hb2.size (.cells #[.int .u64 0, .int .u64 0] 27)
  have hs2 := hb2.size
  clear hb20 A1 A2 A3
  go_wp2_with ((with_reducible refine wpList_store_proof rfl (.tmp 16) (.tmp 41) rfl w2.heap.size rfl c r rfl 0 0 H2 ?_); intro w3 o3 H3; have hb4 := o3.below hb3 hs2; obtain ⟨c0, c1⟩ := H3.proof; have f0 := H3.froz 0; have f1 := H3.froz 1)
  have H4 := H3.set 0 (.int .u64 (z : Int))
  have hb5 := (Only.setCell w3 w2.heap.size 0 (.int .u64 (z : Int))).below hb4 hs2
  have HC := Lib.hid (fun (u : World) (h : Below (w3.setCell ⟨w2.heap.size, 0, none⟩ (.int .u64 (z : Int))).drew.heap.size (w3.setCell ⟨w2.heap.size, 0, none⟩ (.int .u64 (z : Int))).drew u) => (show u.cell? ⟨w2.heap.size, 0, none⟩ = some (.int .u64 (z : Int)) ∧ u.cell? ⟨w2.heap.size, 1, none⟩ = some (.int .u64 (r : Int)) from (Has.proof (c := z) (s := r) (Has.keep (w := (w3.setCell ⟨w2.heap.size, 0, none⟩ (.int .u64 (z : Int))).drew) H4 h H4.lt))))
  have HT := Lib.hid (fun (u : World) (h : Below (w3.setCell ⟨w2.heap.size, 0, none⟩ (.int .u64 (z : Int))).drew.heap.size (w3.setCell ⟨w2.heap.size, 0, none⟩ (.int .u64 (z : Int))).drew u) => (hT.keep hb5.drew).keep h)
  go_region_held (fun w' => w'.cell? ⟨w2.heap.size, 0, none⟩ = some (.int .u64 (z : Int)) ∧ w'.cell? ⟨w2.heap.size, 1, none⟩ = some (.int .u64 (r : Int)))
    (first | exact HC.out _ (by assumption) | exact HC.out _ (Below.refl _ _))
    (first
    | (go_at_call 17; with_reducible refine (B1.out _ (HT.out _ (Below.refl _ _))).mono ?_; rintro e u1 ⟨rfl, k1⟩)
    | (go_at_call 18; with_reducible refine (B2.out _).mono ?_; rintro e u2 ⟨rfl, k20⟩; have k2 := k1.trans (k20.mono k1.size)))
  all_goals (go_wp2; go_ret; exact ⟨rfl, hb5.drew.trans (k2.mono hb5.drew.size)⟩)
set_option maxHeartbeats 2000000 in
theorem in1 {g h s d y : Nat} (bg : g < 18446744073709551616) (bh : h < 18446744073709551616) (bs : s < 18446744073709551616) (bd : d < 18446744073709551616) (w : World) (hT : Tab w) :
    Calls Tryd.prog 6 #[.int .u64 (g : Int), .int .u64 (h : Int), .int .u64 (s : Int), .int .u64 (d : Int), .int .i64 1, .int .u64 (y : Int)] w fun e w' => e = .returned (.bool true) ∧ Below w.heap.size w w' := by
  obtain ⟨x, hx⟩ : ∃ t, timesN g s = t := ⟨_, rfl⟩
  obtain ⟨v, hv⟩ : ∃ t, timesN h s = t := ⟨_, rfl⟩
  obtain ⟨t, ht⟩ : ∃ u, timesN g d = u := ⟨_, rfl⟩
  obtain ⟨u, hu⟩ : ∃ u, timesN h d = u := ⟨_, rfl⟩
  have bx : x < 18446744073709551616 := by have := timesN_lt g s; omega
  have bv' : v < 18446744073709551616 := by have := timesN_lt h s; omega
  obtain ⟨c, hc⟩ : ∃ q, chalN kEqual [g, x, h, v, t, u] = q := ⟨_, rfl⟩
  obtain ⟨r, hr⟩ : ∃ q, answerS c s d = q := ⟨_, rfl⟩
  have bc : c < 18446744073709551616 := by have := chalN_lt kEqual [g, x, h, v, t, u]; omega
  have br : r < 18446744073709551616 := by have := answerS_lt c s d; omega
  obtain ⟨z, hz⟩ : ∃ q, (r + y) % 18446744073709551616 = q := ⟨_, rfl⟩
  have bz : z < 18446744073709551616 := by omega
  have ew := wrap_add64 hz
  obtain ⟨b, hb⟩ : ∃ q, decide (okEqual g x h v c z) = q := ⟨_, rfl⟩
  have eb : (b == b) = true := by simp
  have A1 := Lib.hid (fun w => refTimes' hx bg bs rfl rfl w)
  have A2 := Lib.hid (fun w => refTimes' hv bh bs rfl rfl w)
  have A3 := Lib.hid (fun w (h' : Tab w) => equal' ht hu hc hr bg bx bh bv' bs bd w h')
  have B1 := Lib.hid (fun w (h' : Tab w) => checkEqual' hb (by omega) (by omega) (by omega) (by omega) w h')
  have B2 := Lib.hid (fun w => refCheckEqual' hb (by omega) (by omega) (by omega) (by omega) w)
  clear hx hv ht hu hc hr hz hb
  go_enter Tryd.func6, Tryd.ntmps6
  go_wp2_with fail
  refine (alive9 _ hT).mono ?_
  rintro e w1 ⟨rfl, hb1⟩
  go_wp2_with fail
  refine (A1.out _).mono ?_
  rintro e w' ⟨rfl, rfl⟩
  go_wp2_with fail
  refine (A2.out _).mono ?_
  rintro e w' ⟨rfl, rfl⟩
  go_wp2_with fail
  refine (A3.out _ (hT.keep hb1)).mono ?_
  rintro e w2 ⟨rfl, hb20⟩
  have hb2 := hb1.trans (hb20.mono hb1.size)
  have H2 := newProof0 w2
  have hb3 := hb2.alloc hb2.size (.cells #[.int .u64 0, .int .u64 0] 27)
  have hs2 := hb2.size
  clear hb20 A1 A2 A3
  go_wp2_with ((with_reducible refine wpList_store_proof rfl (.tmp 16) (.tmp 41) rfl w2.heap.size rfl c r rfl 0 0 H2 ?_); intro w3 o3 H3; have hb4 := o3.below hb3 hs2; obtain ⟨c0, c1⟩ := H3.proof; have f0 := H3.froz 0; have f1 := H3.froz 1)
  have H4 := H3.set 1 (.int .u64 (z : Int))
  have hb5 := (Only.setCell w3 w2.heap.size 1 (.int .u64 (z : Int))).below hb4 hs2
  have HC := Lib.hid (fun (u : World) (h : Below (w3.setCell ⟨w2.heap.size, 1, none⟩ (.int .u64 (z : Int))).drew.heap.size (w3.setCell ⟨w2.heap.size, 1, none⟩ (.int .u64 (z : Int))).drew u) => (show u.cell? ⟨w2.heap.size, 0, none⟩ = some (.int .u64 (c : Int)) ∧ u.cell? ⟨w2.heap.size, 1, none⟩ = some (.int .u64 (z : Int)) from (Has.proof (c := c) (s := z) (Has.keep (w := (w3.setCell ⟨w2.heap.size, 1, none⟩ (.int .u64 (z : Int))).drew) H4 h H4.lt))))
  have HT := Lib.hid (fun (u : World) (h : Below (w3.setCell ⟨w2.heap.size, 1, none⟩ (.int .u64 (z : Int))).drew.heap.size (w3.setCell ⟨w2.heap.size, 1, none⟩ (.int .u64 (z : Int))).drew u) => (hT.keep hb5.drew).keep h)
  go_region_held (fun w' => w'.cell? ⟨w2.heap.size, 0, none⟩ = some (.int .u64 (c : Int)) ∧ w'.cell? ⟨w2.heap.size, 1, none⟩ = some (.int .u64 (z : Int)))
    (first | exact HC.out _ (by assumption) | exact HC.out _ (Below.refl _ _))
    (first
    | (go_at_call 17; with_reducible refine (B1.out _ (HT.out _ (Below.refl _ _))).mono ?_; rintro e u1 ⟨rfl, k1⟩)
    | (go_at_call 18; with_reducible refine (B2.out _).mono ?_; rintro e u2 ⟨rfl, k20⟩; have k2 := k1.trans (k20.mono k1.size)))
  all_goals (go_wp2; go_ret; exact ⟨rfl, hb5.drew.trans (k2.mono hb5.drew.size)⟩)
set_option maxHeartbeats 2000000 in
theorem in2 {g h s d y : Nat} (bg : g < 18446744073709551616) (bh : h < 18446744073709551616) (bs : s < 18446744073709551616) (bd : d < 18446744073709551616) (w : World) (hT : Tab w) :
    Calls Tryd.prog 6 #[.int .u64 (g : Int), .int .u64 (h : Int), .int .u64 (s : Int), .int .u64 (d : Int), .int .i64 2, .int .u64 (y : Int)] w fun e w' => e = .returned (.bool true) ∧ Below w.heap.size w w' := by
  obtain ⟨x, hx⟩ : ∃ t, timesN g s = t := ⟨_, rfl⟩
  obtain ⟨v, hv⟩ : ∃ t, timesN h s = t := ⟨_, rfl⟩
  obtain ⟨t, ht⟩ : ∃ u, timesN g d = u := ⟨_, rfl⟩
  obtain ⟨u, hu⟩ : ∃ u, timesN h d = u := ⟨_, rfl⟩
  have bx : x < 18446744073709551616 := by have := timesN_lt g s; omega
  have bv' : v < 18446744073709551616 := by have := timesN_lt h s; omega
  obtain ⟨c, hc⟩ : ∃ q, chalN kEqual [g, x, h, v, t, u] = q := ⟨_, rfl⟩
  obtain ⟨r, hr⟩ : ∃ q, answerS c s d = q := ⟨_, rfl⟩
  have bc : c < 18446744073709551616 := by have := chalN_lt kEqual [g, x, h, v, t, u]; omega
  have br : r < 18446744073709551616 := by have := answerS_lt c s d; omega
  obtain ⟨z, hz⟩ : ∃ q, (x + y) % 18446744073709551616 = q := ⟨_, rfl⟩
  have bz : z < 18446744073709551616 := by omega
  have ew := wrap_add64 hz
  obtain ⟨b, hb⟩ : ∃ q, decide (okEqual g z h v c r) = q := ⟨_, rfl⟩
  have eb : (b == b) = true := by simp
  have A1 := Lib.hid (fun w => refTimes' hx bg bs rfl rfl w)
  have A2 := Lib.hid (fun w => refTimes' hv bh bs rfl rfl w)
  have A3 := Lib.hid (fun w (h' : Tab w) => equal' ht hu hc hr bg bx bh bv' bs bd w h')
  have B1 := Lib.hid (fun w (h' : Tab w) => checkEqual' hb (by omega) (by omega) (by omega) (by omega) w h')
  have B2 := Lib.hid (fun w => refCheckEqual' hb (by omega) (by omega) (by omega) (by omega) w)
  clear hx hv ht hu hc hr hz hb
  go_enter Tryd.func6, Tryd.ntmps6
  go_wp2_with fail
  refine (alive9 _ hT).mono ?_
  rintro e w1 ⟨rfl, hb1⟩
  go_wp2_with fail
  refine (A1.out _).mono ?_
  rintro e w' ⟨rfl, rfl⟩
  go_wp2_with fail
  refine (A2.out _).mono ?_
  rintro e w' ⟨rfl, rfl⟩
  go_wp2_with fail
  refine (A3.out _ (hT.keep hb1)).mono ?_
  rintro e w2 ⟨rfl, hb20⟩
  have hb2 := hb1.trans (hb20.mono hb1.size)
  have H2 := newProof0 w2
  have hb3 := hb2.alloc hb2.size (.cells #[.int .u64 0, .int .u64 0] 27)
  have hs2 := hb2.size
  clear hb20 A1 A2 A3
  go_wp2_with ((with_reducible refine wpList_store_proof rfl (.tmp 16) (.tmp 41) rfl w2.heap.size rfl c r rfl 0 0 H2 ?_); intro w3 o3 H3; have hb4 := o3.below hb3 hs2; obtain ⟨c0, c1⟩ := H3.proof; have f0 := H3.froz 0; have f1 := H3.froz 1)
  have HC := Lib.hid (fun (u : World) (h : Below w3.drew.heap.size w3.drew u) => (Has.keep (w := w3.drew) H3 h H3.lt).proof)
  have HT := Lib.hid (fun (u : World) (h : Below w3.drew.heap.size w3.drew u) => (hT.keep hb4.drew).keep h)
  go_region_held (fun w' => w'.cell? ⟨w2.heap.size, 0, none⟩ = some (.int .u64 (c : Int)) ∧ w'.cell? ⟨w2.heap.size, 1, none⟩ = some (.int .u64 (r : Int)))
    (first | exact HC.out _ (by assumption) | exact HC.out _ (Below.refl _ _))
    (first
    | (go_at_call 17; with_reducible refine (B1.out _ (HT.out _ (Below.refl _ _))).mono ?_; rintro e u1 ⟨rfl, k1⟩)
    | (go_at_call 18; with_reducible refine (B2.out _).mono ?_; rintro e u2 ⟨rfl, k20⟩; have k2 := k1.trans (k20.mono k1.size)))
  all_goals (go_wp2; go_ret; exact ⟨rfl, hb4.drew.trans (k2.mono hb4.drew.size)⟩)
set_option maxHeartbeats 2000000 in
theorem in3 {g h s d y : Nat} (bg : g < 18446744073709551616) (bh : h < 18446744073709551616) (bs : s < 18446744073709551616) (bd : d < 18446744073709551616) (w : World) (hT : Tab w) :
    Calls Tryd.prog 6 #[.int .u64 (g : Int), .int .u64 (h : Int), .int .u64 (s : Int), .int .u64 (d : Int), .int .i64 3, .int .u64 (y : Int)] w fun e w' => e = .returned (.bool true) ∧ Below w.heap.size w w' := by
  obtain ⟨x, hx⟩ : ∃ t, timesN g s = t := ⟨_, rfl⟩
  obtain ⟨v, hv⟩ : ∃ t, timesN h s = t := ⟨_, rfl⟩
  obtain ⟨t, ht⟩ : ∃ u, timesN g d = u := ⟨_, rfl⟩
  obtain ⟨u, hu⟩ : ∃ u, timesN h d = u := ⟨_, rfl⟩
  have bx : x < 18446744073709551616 := by have := timesN_lt g s; omega
  have bv' : v < 18446744073709551616 := by have := timesN_lt h s; omega
  obtain ⟨c, hc⟩ : ∃ q, chalN kEqual [g, x, h, v, t, u] = q := ⟨_, rfl⟩
  obtain ⟨r, hr⟩ : ∃ q, answerS c s d = q := ⟨_, rfl⟩
  have bc : c < 18446744073709551616 := by have := chalN_lt kEqual [g, x, h, v, t, u]; omega
  have br : r < 18446744073709551616 := by have := answerS_lt c s d; omega
  obtain ⟨z, hz⟩ : ∃ q, (v + y) % 18446744073709551616 = q := ⟨_, rfl⟩
  have bz : z < 18446744073709551616 := by omega
  have ew := wrap_add64 hz
  obtain ⟨b, hb⟩ : ∃ q, decide (okEqual g x h z c r) = q := ⟨_, rfl⟩
  have eb : (b == b) = true := by simp
  have A1 := Lib.hid (fun w => refTimes' hx bg bs rfl rfl w)
  have A2 := Lib.hid (fun w => refTimes' hv bh bs rfl rfl w)
  have A3 := Lib.hid (fun w (h' : Tab w) => equal' ht hu hc hr bg bx bh bv' bs bd w h')
  have B1 := Lib.hid (fun w (h' : Tab w) => checkEqual' hb (by omega) (by omega) (by omega) (by omega) w h')
  have B2 := Lib.hid (fun w => refCheckEqual' hb (by omega) (by omega) (by omega) (by omega) w)
  clear hx hv ht hu hc hr hz hb
  go_enter Tryd.func6, Tryd.ntmps6
  go_wp2_with fail
  refine (alive9 _ hT).mono ?_
  rintro e w1 ⟨rfl, hb1⟩
  go_wp2_with fail
  refine (A1.out _).mono ?_
  rintro e w' ⟨rfl, rfl⟩
  go_wp2_with fail
  refine (A2.out _).mono ?_
  rintro e w' ⟨rfl, rfl⟩
  go_wp2_with fail
  refine (A3.out _ (hT.keep hb1)).mono ?_
  rintro e w2 ⟨rfl, hb20⟩
  have hb2 := hb1.trans (hb20.mono hb1.size)
  have H2 := newProof0 w2
  have hb3 := hb2.alloc hb2.size (.cells #[.int .u64 0, .int .u64 0] 27)
  have hs2 := hb2.size
  clear hb20 A1 A2 A3
  go_wp2_with ((with_reducible refine wpList_store_proof rfl (.tmp 16) (.tmp 41) rfl w2.heap.size rfl c r rfl 0 0 H2 ?_); intro w3 o3 H3; have hb4 := o3.below hb3 hs2; obtain ⟨c0, c1⟩ := H3.proof; have f0 := H3.froz 0; have f1 := H3.froz 1)
  have HC := Lib.hid (fun (u : World) (h : Below w3.drew.heap.size w3.drew u) => (Has.keep (w := w3.drew) H3 h H3.lt).proof)
  have HT := Lib.hid (fun (u : World) (h : Below w3.drew.heap.size w3.drew u) => (hT.keep hb4.drew).keep h)
  go_region_held (fun w' => w'.cell? ⟨w2.heap.size, 0, none⟩ = some (.int .u64 (c : Int)) ∧ w'.cell? ⟨w2.heap.size, 1, none⟩ = some (.int .u64 (r : Int)))
    (first | exact HC.out _ (by assumption) | exact HC.out _ (Below.refl _ _))
    (first
    | (go_at_call 17; with_reducible refine (B1.out _ (HT.out _ (Below.refl _ _))).mono ?_; rintro e u1 ⟨rfl, k1⟩)
    | (go_at_call 18; with_reducible refine (B2.out _).mono ?_; rintro e u2 ⟨rfl, k20⟩; have k2 := k1.trans (k20.mono k1.size)))
  all_goals (go_wp2; go_ret; exact ⟨rfl, hb4.drew.trans (k2.mono hb4.drew.size)⟩)
set_option maxHeartbeats 2000000 in
theorem in4 {g h s d y : Nat} (bg : g < 18446744073709551616) (bh : h < 18446744073709551616) (bs : s < 18446744073709551616) (bd : d < 18446744073709551616) (w : World) (hT : Tab w) :
    Calls Tryd.prog 6 #[.int .u64 (g : Int), .int .u64 (h : Int), .int .u64 (s : Int), .int .u64 (d : Int), .int .i64 4, .int .u64 (y : Int)] w fun e w' => e = .returned (.bool true) ∧ Below w.heap.size w w' := by
  obtain ⟨x, hx⟩ : ∃ t, timesN g s = t := ⟨_, rfl⟩
  obtain ⟨v, hv⟩ : ∃ t, timesN h s = t := ⟨_, rfl⟩
  obtain ⟨t, ht⟩ : ∃ u, timesN g d = u := ⟨_, rfl⟩
  obtain ⟨u, hu⟩ : ∃ u, timesN h d = u := ⟨_, rfl⟩
  have bx : x < 18446744073709551616 := by have := timesN_lt g s; omega
  have bv' : v < 18446744073709551616 := by have := timesN_lt h s; omega
  obtain ⟨c, hc⟩ : ∃ q, chalN kEqual [g, x, h, v, t, u] = q := ⟨_, rfl⟩
  obtain ⟨r, hr⟩ : ∃ q, answerS c s d = q := ⟨_, rfl⟩
  have bc : c < 18446744073709551616 := by have := chalN_lt kEqual [g, x, h, v, t, u]; omega
  have br : r < 18446744073709551616 := by have := answerS_lt c s d; omega
  obtain ⟨z, hz⟩ : ∃ q, (g + y) % 18446744073709551616 = q := ⟨_, rfl⟩
  have bz : z < 18446744073709551616 := by omega
  have ew := wrap_add64 hz
  obtain ⟨b, hb⟩ : ∃ q, decide (okEqual z x h v c r) = q := ⟨_, rfl⟩
  have eb : (b == b) = true := by simp
  have A1 := Lib.hid (fun w => refTimes' hx bg bs rfl rfl w)
  have A2 := Lib.hid (fun w => refTimes' hv bh bs rfl rfl w)
  have A3 := Lib.hid (fun w (h' : Tab w) => equal' ht hu hc hr bg bx bh bv' bs bd w h')
  have B1 := Lib.hid (fun w (h' : Tab w) => checkEqual' hb (by omega) (by omega) (by omega) (by omega) w h')
  have B2 := Lib.hid (fun w => refCheckEqual' hb (by omega) (by omega) (by omega) (by omega) w)
  clear hx hv ht hu hc hr hz hb
  go_enter Tryd.func6, Tryd.ntmps6
  go_wp2_with fail
  refine (alive9 _ hT).mono ?_
  rintro e w1 ⟨rfl, hb1⟩
  go_wp2_with fail
  refine (A1.out _).mono ?_
  rintro e w' ⟨rfl, rfl⟩
  go_wp2_with fail
  refine (A2.out _).mono ?_
  rintro e w' ⟨rfl, rfl⟩
  go_wp2_with fail
  refine (A3.out _ (hT.keep hb1)).mono ?_
  rintro e w2 ⟨rfl, hb20⟩
  have hb2 := hb1.trans (hb20.mono hb1.size)
  have H2 := newProof0 w2
  have hb3 := hb2.alloc hb2.size (.cells #[.int .u64 0, .int .u64 0] 27)
  have hs2 := hb2.size
  clear hb20 A1 A2 A3
  go_wp2_with ((with_reducible refine wpList_store_proof rfl (.tmp 16) (.tmp 41) rfl w2.heap.size rfl c r rfl 0 0 H2 ?_); intro w3 o3 H3; have hb4 := o3.below hb3 hs2; obtain ⟨c0, c1⟩ := H3.proof; have f0 := H3.froz 0; have f1 := H3.froz 1)
  have HC := Lib.hid (fun (u : World) (h : Below w3.drew.heap.size w3.drew u) => (Has.keep (w := w3.drew) H3 h H3.lt).proof)
  have HT := Lib.hid (fun (u : World) (h : Below w3.drew.heap.size w3.drew u) => (hT.keep hb4.drew).keep h)
  go_region_held (fun w' => w'.cell? ⟨w2.heap.size, 0, none⟩ = some (.int .u64 (c : Int)) ∧ w'.cell? ⟨w2.heap.size, 1, none⟩ = some (.int .u64 (r : Int)))
    (first | exact HC.out _ (by assumption) | exact HC.out _ (Below.refl _ _))
    (first
    | (go_at_call 17; with_reducible refine (B1.out _ (HT.out _ (Below.refl _ _))).mono ?_; rintro e u1 ⟨rfl, k1⟩)
    | (go_at_call 18; with_reducible refine (B2.out _).mono ?_; rintro e u2 ⟨rfl, k20⟩; have k2 := k1.trans (k20.mono k1.size)))
  all_goals (go_wp2; go_ret; exact ⟨rfl, hb4.drew.trans (k2.mono hb4.drew.size)⟩)
set_option maxHeartbeats 2000000 in
theorem in5 {g h s d y : Nat} (bg : g < 18446744073709551616) (bh : h < 18446744073709551616) (bs : s < 18446744073709551616) (bd : d < 18446744073709551616) (w : World) (hT : Tab w) :
    Calls Tryd.prog 6 #[.int .u64 (g : Int), .int .u64 (h : Int), .int .u64 (s : Int), .int .u64 (d : Int), .int .i64 5, .int .u64 (y : Int)] w fun e w' => e = .returned (.bool true) ∧ Below w.heap.size w w' := by
  obtain ⟨x, hx⟩ : ∃ t, timesN g s = t := ⟨_, rfl⟩
  obtain ⟨v, hv⟩ : ∃ t, timesN h s = t := ⟨_, rfl⟩
  obtain ⟨t, ht⟩ : ∃ u, timesN g d = u := ⟨_, rfl⟩
  obtain ⟨u, hu⟩ : ∃ u, timesN h d = u := ⟨_, rfl⟩
  have bx : x < 18446744073709551616 := by have := timesN_lt g s; omega
  have bv' : v < 18446744073709551616 := by have := timesN_lt h s; omega
  obtain ⟨c, hc⟩ : ∃ q, chalN kEqual [g, x, h, v, t, u] = q := ⟨_, rfl⟩
  obtain ⟨r, hr⟩ : ∃ q, answerS c s d = q := ⟨_, rfl⟩
  have bc : c < 18446744073709551616 := by have := chalN_lt kEqual [g, x, h, v, t, u]; omega
  have br : r < 18446744073709551616 := by have := answerS_lt c s d; omega
  obtain ⟨z, hz⟩ : ∃ q, (h + y) % 18446744073709551616 = q := ⟨_, rfl⟩
  have bz : z < 18446744073709551616 := by omega
  have ew := wrap_add64 hz
  obtain ⟨b, hb⟩ : ∃ q, decide (okEqual g x z v c r) = q := ⟨_, rfl⟩
  have eb : (b == b) = true := by simp
  have A1 := Lib.hid (fun w => refTimes' hx bg bs rfl rfl w)
  have A2 := Lib.hid (fun w => refTimes' hv bh bs rfl rfl w)
  have A3 := Lib.hid (fun w (h' : Tab w) => equal' ht hu hc hr bg bx bh bv' bs bd w h')
  have B1 := Lib.hid (fun w (h' : Tab w) => checkEqual' hb (by omega) (by omega) (by omega) (by omega) w h')
  have B2 := Lib.hid (fun w => refCheckEqual' hb (by omega) (by omega) (by omega) (by omega) w)
  clear hx hv ht hu hc hr hz hb
  go_enter Tryd.func6, Tryd.ntmps6
  go_wp2_with fail
  refine (alive9 _ hT).mono ?_
  rintro e w1 ⟨rfl, hb1⟩
  go_wp2_with fail
  refine (A1.out _).mono ?_
  rintro e w' ⟨rfl, rfl⟩
  go_wp2_with fail
  refine (A2.out _).mono ?_
  rintro e w' ⟨rfl, rfl⟩
  go_wp2_with fail
  refine (A3.out _ (hT.keep hb1)).mono ?_
  rintro e w2 ⟨rfl, hb20⟩
  have hb2 := hb1.trans (hb20.mono hb1.size)
  have H2 := newProof0 w2
  have hb3 := hb2.alloc hb2.size (.cells #[.int .u64 0, .int .u64 0] 27)
  have hs2 := hb2.size
  clear hb20 A1 A2 A3
  go_wp2_with ((with_reducible refine wpList_store_proof rfl (.tmp 16) (.tmp 41) rfl w2.heap.size rfl c r rfl 0 0 H2 ?_); intro w3 o3 H3; have hb4 := o3.below hb3 hs2; obtain ⟨c0, c1⟩ := H3.proof; have f0 := H3.froz 0; have f1 := H3.froz 1)
  have HC := Lib.hid (fun (u : World) (h : Below w3.drew.heap.size w3.drew u) => (Has.keep (w := w3.drew) H3 h H3.lt).proof)
  have HT := Lib.hid (fun (u : World) (h : Below w3.drew.heap.size w3.drew u) => (hT.keep hb4.drew).keep h)
  go_region_held (fun w' => w'.cell? ⟨w2.heap.size, 0, none⟩ = some (.int .u64 (c : Int)) ∧ w'.cell? ⟨w2.heap.size, 1, none⟩ = some (.int .u64 (r : Int)))
    (first | exact HC.out _ (by assumption) | exact HC.out _ (Below.refl _ _))
    (first
    | (go_at_call 17; with_reducible refine (B1.out _ (HT.out _ (Below.refl _ _))).mono ?_; rintro e u1 ⟨rfl, k1⟩)
    | (go_at_call 18; with_reducible refine (B2.out _).mono ?_; rintro e u2 ⟨rfl, k20⟩; have k2 := k1.trans (k20.mono k1.size)))
  all_goals (go_wp2; go_ret; exact ⟨rfl, hb4.drew.trans (k2.mono hb4.drew.size)⟩)
theorem all (g h s d k y : Int) (w : World) (hT : Tab w) (w0 : (Lit.int .u64 g).wf = true) (w1 : (Lit.int .u64 h).wf = true) (w2 : (Lit.int .u64 s).wf = true) (w3 : (Lit.int .u64 d).wf = true) (w4 : (Lit.int .i64 k).wf = true) (w5 : (Lit.int .u64 y).wf = true) :
    Calls Tryd.prog 6 #[.int .u64 g, .int .u64 h, .int .u64 s, .int .u64 d, .int .i64 k, .int .u64 y] w fun e w' => e = .returned (.bool true) ∧ Below w.heap.size w w' := by
  obtain ⟨g, rfl, hg⟩ := u64_wf w0
  obtain ⟨h, rfl, hh⟩ := u64_wf w1
  obtain ⟨s, rfl, hs⟩ := u64_wf w2
  obtain ⟨d, rfl, hd⟩ := u64_wf w3
  obtain ⟨y, rfl, hy⟩ := u64_wf w5
  by_cases ho : k < 0 ∨ 5 < k
  · exact out g h s d y k ho w hT
  · obtain rfl | rfl | rfl | rfl | rfl | rfl : k = 0 ∨ k = 1 ∨ k = 2 ∨ k = 3 ∨ k = 4 ∨ k = 5 := by omega
    · exact in0 hg hh hs hd w hT
    · exact in1 hg hh hs hd w hT
    · exact in2 hg hh hs hd w hT
    · exact in3 hg hh hs hd w hT
    · exact in4 hg hh hs hd w hT
    · exact in5 hg hh hs hd w hT
end proofTurnedLaw
end Go.Proofs.YtgjepiblhpmaiaaDoor
