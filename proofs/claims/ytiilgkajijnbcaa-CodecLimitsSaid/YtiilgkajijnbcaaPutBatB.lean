/-
  Contract of the package's checkBatch.
-/
import Derived.Test.YtiilgkajijnbcaaPutBat
namespace Go.Proofs.Ytiilgkajijnbcaa
open Go.ChangeShapes Go.WideShapes Go.ChangeAt Go.RowKit
set_option linter.unusedVariables false
set_option linter.unusedSimpArgs false

set_option maxHeartbeats 2000000 in
theorem cCheckB' (r ch : Int) (Ai : Option Addr) (ni ci : Nat) (inner : List Nat) (Al : Option Addr) (nl cl : Nat) (es : List Let) (k : Nat)
    (hk : (wBatch ⟨r, ch, inner, es.map Let.data⟩).2 = k) (w : World) (hi : Nums w Ai ni ci inner) (hl : Letters w Al nl cl es) :
    Calls Try.prog 50 #[.agg (bcells r ch Ai ni ci Al nl cl).toArray] w fun e w' => e = .returned (.int .i64 (k : Int)) ∧ Below w.heap.size w w' := by
  obtain ⟨k1, k2, k3, k4, k5⟩ := errB_of hk
  have hlen : (es.map Let.data).length = nl := by rw [List.length_map]; exact hl.2.1
  simp only [hlen, hi.len] at k1 k2 k3 k4 k5
  have hlo := hl.long
  have hod := hl.odd
  have hle := hl.le
  have hle2 := hi.le
  have H1 := Has.new w 53 (bcells r ch Ai ni ci Al nl cl)
  have hb1 := (Below.refl w.heap.size w).alloc (Nat.le_refl _) (.cells (bcells r ch Ai ni ci Al nl cl).toArray 53)
  have hz1 : (w.alloc (.cells (bcells r ch Ai ni ci Al nl cl).toArray 53)).heap.size = w.heap.size + 1 := by simp
  have hl1 := hl.keep hb1
  clear hk hlen hi hl
  obtain ⟨w1, hw1⟩ : ∃ x, x = w.alloc (.cells (bcells r ch Ai ni ci Al nl cl).toArray 53) := ⟨_, rfl⟩
  have HC := Lib.hid (fun (u : World) (hb : Below w1.heap.size w1 u) => show u.cell? ⟨w.heap.size, 0, none⟩ = some (.int .i64 r) ∧ u.cell? ⟨w.heap.size, 1, none⟩ = some (.int .i64 ch) ∧ u.cell? ⟨w.heap.size, 2, none⟩ = some (.slice Ai ni ci) ∧ u.cell? ⟨w.heap.size, 3, none⟩ = some (.slice Al nl cl) from by
    have hU : Has u w.heap.size 53 (bcells r ch Ai ni ci Al nl cl) := Has.keep (w := w1) (hw1 ▸ H1) hb (by rw [hw1]; exact H1.lt)
    exact ⟨hU.cell 0, hU.cell 1, hU.cell 2, hU.cell 3⟩)
  rw [← hw1] at hb1 hl1
  have HB1 := Lib.hid hb1
  have HB0 := Below.refl w1.heap.size w1
  obtain ⟨a0, a1, a2, a3⟩ := HC.out w1 HB0
  have HW := Lib.hid hw1
  clear H1 hb1 hz1
  by_cases hn : 20 < ni
  · obtain rfl := k1 (.inl hn)
    have h1 : (20 : Int) < (ni : Int) := by omega
    clear k1 k2 k3 k4 k5 hlo hod hn hl1
    rw [hw1] at a0 a1 a2 a3
    clear hw1
    go_enter Try.func50, Try.ntmps50
    go_wp2_with fail
    go_ret
    exact ⟨rfl, by rw [← HW.out]; exact HB1.out⟩
  have h1 : ¬ (20 : Int) < (ni : Int) := by omega
  by_cases hn2 : 1000 < nl
  · obtain rfl := k1 (.inr hn2)
    have h2 : (1000 : Int) < (nl : Int) := by omega
    clear k1 k2 k3 k4 k5 hlo hod hn hn2 hl1
    rw [hw1] at a0 a1 a2 a3
    clear hw1
    go_enter Try.func50, Try.ntmps50
    go_wp2_with fail
    go_ret
    exact ⟨rfl, by rw [← HW.out]; exact HB1.out⟩
  have h2 : ¬ (1000 : Int) < (nl : Int) := by omega
  have hno : ¬ (20 < ni ∨ 1000 < nl) := by omega
  have KB := Lib.hid (fun (u : World) (hb : Below w1.heap.size w1 u) => cBodies' Al nl cl es (by omega) u (hl1.keep hb))
  obtain ⟨ps, hps⟩ : ∃ ps, es.map Let.pc = ps := ⟨_, rfl⟩
  obtain ⟨v, hv⟩ : ∃ v, (ps.any fun p => decide (1048576 < p.n)) = v := ⟨_, rfl⟩
  obtain ⟨q, hq⟩ : ∃ q, (ps.any fun p => decide (p.n ≠ eachP ps)) = q := ⟨_, rfl⟩
  have KL := Lib.hid (fun (A' : Option Addr) (c' : Nat) (u : World) (hr : PcsAt u A' nl c' ps) => cTooLong' A' nl c' ps v hv u hr.1)
  have KA := Lib.hid (fun (A' : Option Addr) (c' : Nat) (u : World) (hr : PcsAt u A' nl c' ps) => cAlike' A' nl c' ps q hq u hr.1)
  rw [hps] at KB hlo hod
  rw [hv] at hlo
  rw [hq] at hod
  clear hv hq hps hl1
  cases v with
  | true =>
    obtain rfl := k2 hno hlo.symm
    clear k1 k2 k3 k4 k5 hlo hod hn hn2 hno KA
    rw [hw1] at a0 a1 a2 a3
    clear hw1
    go_enter Try.func50, Try.ntmps50
    go_wp2_with fail
    rw [← HW.out]
    clear a0 a1 a2 a3
    obtain ⟨a0, a1, a2, a3⟩ := HC.out w1 HB0
    refine (KB.out _ HB0).mono ?_
    rintro e w2 ⟨A2, c2, rfl, hr2, hb20⟩
    have KL2 := Lib.hid (KL.out A2 c2 w2 hr2)
    have hb2 := HB0.trans (hb20.mono (Nat.le_refl _))
    clear hr2 KL HB0 a0 a1 a2 a3 hb20
    go_wp2_with fail
    refine (KL2.out).mono ?_
    rintro e w3 ⟨rfl, hb30⟩
    have hb3 := hb2.trans (hb30.mono hb2.size)
    obtain ⟨a0, a1, a2, a3⟩ := HC.out w3 hb3
    clear KL2 hb30 hb2
    go_wp2_with fail
    go_ret
    exact ⟨rfl, HB1.out.trans (hb3.mono HB1.out.size)⟩
  | false =>
    by_cases hr : r < 0
    · obtain rfl := k3 hno hlo.symm (.inl hr)
      clear k1 k2 k3 k4 k5 hlo hod hn hn2 hno KA
      rw [hw1] at a0 a1 a2 a3
      clear hw1
      go_enter Try.func50, Try.ntmps50
      go_wp2_with fail
      rw [← HW.out]
      clear a0 a1 a2 a3
      obtain ⟨a0, a1, a2, a3⟩ := HC.out w1 HB0
      refine (KB.out _ HB0).mono ?_
      rintro e w2 ⟨A2, c2, rfl, hr2, hb20⟩
      have KL2 := Lib.hid (KL.out A2 c2 w2 hr2)
      have hb2 := HB0.trans (hb20.mono (Nat.le_refl _))
      clear hr2 KL HB0 a0 a1 a2 a3 hb20
      go_wp2_with fail
      refine (KL2.out).mono ?_
      rintro e w3 ⟨rfl, hb30⟩
      have hb3 := hb2.trans (hb30.mono hb2.size)
      obtain ⟨a0, a1, a2, a3⟩ := HC.out w3 hb3
      clear KL2 hb30 hb2
      go_wp2_with fail
      go_ret
      exact ⟨rfl, HB1.out.trans (hb3.mono HB1.out.size)⟩
    by_cases hc : ch < 0
    · obtain rfl := k3 hno hlo.symm (.inr hc)
      clear k1 k2 k3 k4 k5 hlo hod hn hn2 hno KA
      rw [hw1] at a0 a1 a2 a3
      clear hw1
      go_enter Try.func50, Try.ntmps50
      go_wp2_with fail
      rw [← HW.out]
      clear a0 a1 a2 a3
      obtain ⟨a0, a1, a2, a3⟩ := HC.out w1 HB0
      refine (KB.out _ HB0).mono ?_
      rintro e w2 ⟨A2, c2, rfl, hr2, hb20⟩
      have KL2 := Lib.hid (KL.out A2 c2 w2 hr2)
      have hb2 := HB0.trans (hb20.mono (Nat.le_refl _))
      clear hr2 KL HB0 a0 a1 a2 a3 hb20
      go_wp2_with fail
      refine (KL2.out).mono ?_
      rintro e w3 ⟨rfl, hb30⟩
      have hb3 := hb2.trans (hb30.mono hb2.size)
      obtain ⟨a0, a1, a2, a3⟩ := HC.out w3 hb3
      clear KL2 hb30 hb2
      go_wp2_with fail
      go_ret
      exact ⟨rfl, HB1.out.trans (hb3.mono HB1.out.size)⟩
    have hnn : ¬ (r < 0 ∨ ch < 0) := by omega
    cases q with
    | true =>
      obtain rfl := k4 hno hlo.symm hnn hod.symm
      clear k1 k2 k3 k4 k5 hlo hod hn hn2 hno hnn
      rw [hw1] at a0 a1 a2 a3
      clear hw1
      go_enter Try.func50, Try.ntmps50
      go_wp2_with fail
      rw [← HW.out]
      clear a0 a1 a2 a3
      obtain ⟨a0, a1, a2, a3⟩ := HC.out w1 HB0
      refine (KB.out _ HB0).mono ?_
      rintro e w2 ⟨A2, c2, rfl, hr2, hb20⟩
      have KL2 := Lib.hid (KL.out A2 c2 w2 hr2)
      have hb2 := HB0.trans (hb20.mono (Nat.le_refl _))
      clear hr2 KL HB0 a0 a1 a2 a3 hb20
      go_wp2_with fail
      refine (KL2.out).mono ?_
      rintro e w3 ⟨rfl, hb30⟩
      have hb3 := hb2.trans (hb30.mono hb2.size)
      obtain ⟨a0, a1, a2, a3⟩ := HC.out w3 hb3
      clear KL2 hb30 hb2
      go_wp2_with fail
      refine (KB.out _ hb3).mono ?_
      rintro e w4 ⟨A4, c4, rfl, hr4, hb40⟩
      have KA4 := Lib.hid (KA.out A4 c4 w4 hr4)
      have hb4 := hb3.trans (hb40.mono hb3.size)
      clear hr4 KA KB hb3 hb40 a0 a1 a2 a3
      go_wp2_with fail
      refine (KA4.out).mono ?_
      rintro e w5 ⟨rfl, hb50⟩
      have hb5 := hb4.trans (hb50.mono hb4.size)
      clear hb50 hb4 KA4
      go_wp2_with fail
      go_ret
      exact ⟨rfl, HB1.out.trans (hb5.mono HB1.out.size)⟩
    | false =>
      obtain rfl := k5 hno hlo.symm hnn hod.symm
      clear k1 k2 k3 k4 k5 hlo hod hn hn2 hno hnn
      rw [hw1] at a0 a1 a2 a3
      clear hw1
      go_enter Try.func50, Try.ntmps50
      go_wp2_with fail
      rw [← HW.out]
      clear a0 a1 a2 a3
      obtain ⟨a0, a1, a2, a3⟩ := HC.out w1 HB0
      refine (KB.out _ HB0).mono ?_
      rintro e w2 ⟨A2, c2, rfl, hr2, hb20⟩
      have KL2 := Lib.hid (KL.out A2 c2 w2 hr2)
      have hb2 := HB0.trans (hb20.mono (Nat.le_refl _))
      clear hr2 KL HB0 a0 a1 a2 a3 hb20
      go_wp2_with fail
      refine (KL2.out).mono ?_
      rintro e w3 ⟨rfl, hb30⟩
      have hb3 := hb2.trans (hb30.mono hb2.size)
      obtain ⟨a0, a1, a2, a3⟩ := HC.out w3 hb3
      clear KL2 hb30 hb2
      go_wp2_with fail
      refine (KB.out _ hb3).mono ?_
      rintro e w4 ⟨A4, c4, rfl, hr4, hb40⟩
      have KA4 := Lib.hid (KA.out A4 c4 w4 hr4)
      have hb4 := hb3.trans (hb40.mono hb3.size)
      clear hr4 KA KB hb3 hb40 a0 a1 a2 a3
      go_wp2_with fail
      refine (KA4.out).mono ?_
      rintro e w5 ⟨rfl, hb50⟩
      have hb5 := hb4.trans (hb50.mono hb4.size)
      clear hb50 hb4 KA4
      go_wp2_with fail
      go_ret
      exact ⟨rfl, HB1.out.trans (hb5.mono HB1.out.size)⟩
end Go.Proofs.Ytiilgkajijnbcaa
