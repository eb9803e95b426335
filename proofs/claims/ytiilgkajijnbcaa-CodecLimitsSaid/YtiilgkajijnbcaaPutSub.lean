/-
  Contract of the package's Submission.
-/
import Derived.Test.YtiilgkajijnbcaaPut
import Derived.Test.YtiilgkajijnbcaaWrSub
import Derived.Test.YtiilgkajijnbcaaSubOpen
import Derived.Test.YtiilgkajijnbcaaSameSub
import Derived.Deep.RegionHeldLaw
namespace Go.Proofs.Ytiilgkajijnbcaa
open Go.ChangeShapes Go.WideShapes Go.ChangeAt Go.RowKit
set_option linter.unusedVariables false
set_option linter.unusedSimpArgs false

/-- bytes.Join of a literal of eight parts. -/
theorem join8 (w : World) (p1 : Pc) (p2 : Pc) (p3 : Pc) (p4 : Pc) (p5 : Pc) (p6 : Pc) (p7 : Pc) (p8 : Pc) (h1 : Row w p1.A p1.n p1.c (p1.l.map bv)) (h2 : Row w p2.A p2.n p2.c (p2.l.map bv)) (h3 : Row w p3.A p3.n p3.c (p3.l.map bv)) (h4 : Row w p4.A p4.n p4.c (p4.l.map bv)) (h5 : Row w p5.A p5.n p5.c (p5.l.map bv)) (h6 : Row w p6.A p6.n p6.c (p6.l.map bv)) (h7 : Row w p7.A p7.n p7.c (p7.l.map bv)) (h8 : Row w p8.A p8.n p8.c (p8.l.map bv)) (l : List UInt8) (hl : (((((((p1.l ++ p2.l) ++ p3.l) ++ p4.l) ++ p5.l) ++ p6.l) ++ p7.l) ++ p8.l) = l) (n : Nat) (hn : l.length = n) (hs : n ≤ 140737488355328) :
    Calls Try.prog 37 #[.slice (some ⟨w.heap.size, 0, none⟩) 8 8, .slice none 0 0] (w.alloc (.cells #[.slice p1.A p1.n p1.c, .slice p2.A p2.n p2.c, .slice p3.A p3.n p3.c, .slice p4.A p4.n p4.c, .slice p5.A p5.n p5.c, .slice p6.A p6.n p6.c, .slice p7.A p7.n p7.c, .slice p8.A p8.n p8.c] 25)) fun e w' => ∃ A c, e = .returned (.slice A n c) ∧ Bytes w' A n c l ∧ Below w.heap.size w w' := by
  have hc : catP [p1, p2, p3, p4, p5, p6, p7, p8] = l := by rw [← hl]; simp [catP]
  have hk := joinNil (some ⟨w.heap.size, 0, none⟩) 8 8 [p1, p2, p3, p4, p5, p6, p7, p8] (w.alloc (.cells ([p1, p2, p3, p4, p5, p6, p7, p8].map Pc.val).toArray 25)) (by omega) (by omega) (litPc w [p1, p2, p3, p4, p5, p6, p7, p8] 8 rfl (by decide) (fun x hx => by
    simp only [List.mem_cons, List.not_mem_nil, or_false] at hx
    rcases hx with rfl | rfl | rfl | rfl | rfl | rfl | rfl | rfl
    · exact h1
    · exact h2
    · exact h3
    · exact h4
    · exact h5
    · exact h6
    · exact h7
    · exact h8)) (by rw [hc]; omega)
  rw [hc, hn] at hk
  refine Calls.mono (show Calls Try.prog 37 _ (w.alloc (.cells #[.slice p1.A p1.n p1.c, .slice p2.A p2.n p2.c, .slice p3.A p3.n p3.c, .slice p4.A p4.n p4.c, .slice p5.A p5.n p5.c, .slice p6.A p6.n p6.c, .slice p7.A p7.n p7.c, .slice p8.A p8.n p8.c] 25)) _ from hk) ?_
  rintro e w' ⟨A, c, rfl, hb, hbel⟩
  exact ⟨A, c, rfl, hb, ((Below.refl _ _).alloc (Nat.le_refl _) _).trans (hbel.mono (by simp))⟩

set_option maxRecDepth 10000 in
set_option maxHeartbeats 4000000 in
theorem progSubmission' (d : SubD) (hd : d.ok) (A : Option Addr) (n c : Nat) (l : List UInt8) (k : Nat) (hk : wSub d = (l, k)) (w : World) (hb : Bytes w A n c d.l) :
    Calls Try.prog 17 #[.agg (scells d.u d.x A n c d.pc d.ps d.sc d.ss).toArray] w fun e w' => ∃ v, e = .returned (.tuple #[v, .int .i64 (k : Int)]) ∧ (∃ A' c', v = .slice A' l.length c' ∧ Bytes w' A' l.length c' l) ∧ Below w.heap.size w w' := by
  obtain ⟨u, x, t, pc, ps, sc, ss⟩ := d
  obtain ⟨hu, hx, hpc, hps, hsc, hss⟩ := hd
  simp only [] at hu hx hpc hps hsc hss hb ⊢
  have htl := hb.len
  have H1 := Has.new w 43 (scells u x A n c pc ps sc ss)
  have hb1 := (Below.refl w.heap.size w).alloc (Nat.le_refl _) (.cells (scells u x A n c pc ps sc ss).toArray 43)
  have hz1 : (w.alloc (.cells (scells u x A n c pc ps sc ss).toArray 43)).heap.size = w.heap.size + 1 := by simp
  have c32 := (H1.cell 32).trans (scells_at hu 0 (by omega))
  have c33 := (H1.cell 33).trans (scells_at hu 1 (by omega))
  have HU := Lib.hid hu
  have hle := hb.le
  clear hu
  by_cases h1 : 1048576 < n
  · have h1' : (1048576 : Int) < (n : Int) := by omega
    rw [wSub, if_pos (by show 1048576 < t.length; omega)] at hk
    obtain ⟨rfl, rfl⟩ := Prod.mk.inj hk
    clear hk h1 htl
    go_enter Try.func17, Try.ntmps17
    go_wp2_with fail
    go_ret2
    exact ⟨_, rfl, ⟨none, 0, rfl, Row.nil _⟩, hb1⟩
  have h1' : ¬ (1048576 : Int) < (n : Int) := by omega
  rw [wSub, if_neg (by show ¬ 1048576 < t.length; omega)] at hk
  by_cases h2 : rightN x
  case neg =>
    rw [if_neg h2] at hk
    obtain ⟨rfl, rfl⟩ := Prod.mk.inj hk
    have A1 := Lib.hid (fun w => groupRight' (decide_eq_false h2) hx rfl w)
    clear hk h1 h2 htl
    go_enter Try.func17, Try.ntmps17
    go_wp2_with fail
    refine (A1.out _).mono ?_
    rintro e' w' ⟨rfl, rfl⟩
    go_wp2_with fail
    go_ret2
    exact ⟨_, rfl, ⟨none, 0, rfl, Row.nil _⟩, hb1⟩
  rw [if_pos h2] at hk
  obtain ⟨hl, rfl⟩ := Prod.mk.inj hk
  have A1 := Lib.hid (fun w => groupRight' (decide_eq_true h2) hx rfl w)
  have HB := Lib.hid hb
  have HT := Lib.hid htl
  have hn20 : n ≤ 1048576 := by omega
  have HLL := Lib.hid (show l.length ≤ 140737488355328 by
    rw [← hl, bodySub]
    simp only [List.length_append, be64_len]
    have := HU.out
    omega)
  have HL := Lib.hid (show bodySub ⟨u, x, t, pc, ps, sc, ss⟩ = l from hl)
  obtain ⟨m, hm⟩ : ∃ m, l.length = m := ⟨_, rfl⟩
  rw [hm]
  have HM := Lib.hid hm
  clear hk h1 h2 htl hb hl hm
  go_enter Try.func17, Try.ntmps17
  go_wp2_with fail
  refine (A1.out _).mono ?_
  rintro e' w' ⟨rfl, rfl⟩
  clear c32 c33
  go_wp2_with fail
  change Code.wp _ _ _ _ (w.alloc (.cells (scells u x A n c pc ps sc ss).toArray 43))
  generalize (w.alloc (.cells (scells u x A n c pc ps sc ss).toArray 43)) = W at *

  have HC := Lib.hid (fun (q : World) (hb : Below W.drew.heap.size W.drew q) => show q.cell? ⟨w.heap.size, 32, none⟩ = some (.int .u64 (x : Int)) ∧ q.cell? ⟨w.heap.size, 34, none⟩ = some (.int .u64 (pc : Int)) ∧ q.cell? ⟨w.heap.size, 35, none⟩ = some (.int .u64 (ps : Int)) ∧ q.cell? ⟨w.heap.size, 36, none⟩ = some (.int .u64 (sc : Int)) ∧ q.cell? ⟨w.heap.size, 37, none⟩ = some (.int .u64 (ss : Int)) from by
    have hq : Has q w.heap.size 43 (scells u x A n c pc ps sc ss) := Has.keep (w := W.drew) H1 hb H1.lt
    obtain ⟨a0, a1, a2, a3, a4, a5⟩ := hq.subCells HU.out
    exact ⟨a0, a2, a3, a4, a5⟩)
  have HKU := Lib.hid (fun (q : World) (hb : Below W.drew.heap.size W.drew q) => show Row q (some ⟨w.heap.size, 0, none⟩) 32 32 (u.map bv) from subB (Has.keep (w := W.drew) H1 hb H1.lt) HU.out)
  have HBW := Lib.hid (show Below w.heap.size w W.drew from hb1.drew)
  have HKB := Lib.hid (fun (q : World) (hb : Below W.drew.heap.size W.drew q) => show Row q A n c (t.map bv) from (HB.out.keep (HBW.out.trans (hb.mono HBW.out.size))))
  have h00 := HC.out W.drew (Below.refl _ _)
  obtain ⟨h0a, h0b, h0c, h0d, h0e⟩ := id h00
  have K1 := Lib.hid (fun (q : World) => cNumber' x q)
  have K2 := Lib.hid (fun (q : World) => cCount' n (by omega) q)
  have K3 := Lib.hid (fun (q : World) => cNumber' pc q)
  have K4 := Lib.hid (fun (q : World) => cNumber' ps q)
  have K5 := Lib.hid (fun (q : World) => cNumber' sc q)
  have K6 := Lib.hid (fun (q : World) => cNumber' ss q)
  have KJ := Lib.hid (fun (q : World) (hq : Below W.drew.heap.size W.drew q) (A1 : Option Addr) (c1 : Nat) (A2 : Option Addr) (c2 : Nat) (A3 : Option Addr) (c3 : Nat) (A4 : Option Addr) (c4 : Nat) (A5 : Option Addr) (c5 : Nat) (A6 : Option Addr) (c6 : Nat) (r1 : Row q A1 8 c1 ((be64 x).map bv)) (r2 : Row q A2 8 c2 ((be64 n).map bv)) (r3 : Row q A3 8 c3 ((be64 pc).map bv)) (r4 : Row q A4 8 c4 ((be64 ps).map bv)) (r5 : Row q A5 8 c5 ((be64 sc).map bv)) (r6 : Row q A6 8 c6 ((be64 ss).map bv)) => join8 q ⟨some ⟨w.heap.size, 0, none⟩, 32, 32, u⟩ ⟨A1, 8, c1, be64 x⟩ ⟨A2, 8, c2, be64 n⟩ ⟨A, n, c, t⟩ ⟨A3, 8, c3, be64 pc⟩ ⟨A4, 8, c4, be64 ps⟩ ⟨A5, 8, c5, be64 sc⟩ ⟨A6, 8, c6, be64 ss⟩ (HKU.out q hq) r1 r2 (HKB.out q hq) r3 r4 r5 r6 l (by rw [← HL.out, bodySub]; simp only [HT.out, List.append_assoc]) m HM.out (by rw [← HM.out]; exact HLL.out))
  clear H1 hb1 hz1 hx hpc hps hsc hss
  go_region_held_law (fun w' => w'.cell? ⟨w.heap.size, 32, none⟩ = some (.int .u64 (x : Int)) ∧ w'.cell? ⟨w.heap.size, 34, none⟩ = some (.int .u64 (pc : Int)) ∧ w'.cell? ⟨w.heap.size, 35, none⟩ = some (.int .u64 (ps : Int)) ∧ w'.cell? ⟨w.heap.size, 36, none⟩ = some (.int .u64 (sc : Int)) ∧ w'.cell? ⟨w.heap.size, 37, none⟩ = some (.int .u64 (ss : Int))) (first | exact HC.out _ (hb6.trans (hb9.mono hb6.size)) | exact HC.out _ (hb6.alloc hb6.size _) | exact HC.out _ hb6 | exact HC.out _ hb5 | exact HC.out _ hb4 | exact HC.out _ hb3 | exact HC.out _ hb2 | exact HC.out _ hb1 | exact h00)
    (first
    | (go_at_call 37; with_reducible refine (KJ.out w6 hb6 A1 c1 A2 c2 A3 c3 A4 c4 A5 c5 A6 c6 R1_6.out R2_6.out R3_6.out R4_6.out R5_6.out R6_6.out).mono ?_; rintro e w9 ⟨A9, c9, rfl, hr9, hb9⟩)
    | (go_at_call 36; with_reducible refine (K6.out w5).mono ?_; rintro e w6 ⟨v6, rfl, hown6, hb60⟩; obtain ⟨A6, c6, rfl, hr6⟩ := Row.own hown6; have R6_6 := Lib.hid hr6; have hb6 := hb5.trans (hb60.mono hb5.size); have R1_6 := Lib.hid (R1_5.out.keep hb60); have R2_6 := Lib.hid (R2_5.out.keep hb60); have R3_6 := Lib.hid (R3_5.out.keep hb60); have R4_6 := Lib.hid (R4_5.out.keep hb60); have R5_6 := Lib.hid (R5_5.out.keep hb60); clear hown6 hr6)
    | (go_at_call 36; with_reducible refine (K5.out w4).mono ?_; rintro e w5 ⟨v5, rfl, hown5, hb50⟩; obtain ⟨A5, c5, rfl, hr5⟩ := Row.own hown5; have R5_5 := Lib.hid hr5; have hb5 := hb4.trans (hb50.mono hb4.size); have R1_5 := Lib.hid (R1_4.out.keep hb50); have R2_5 := Lib.hid (R2_4.out.keep hb50); have R3_5 := Lib.hid (R3_4.out.keep hb50); have R4_5 := Lib.hid (R4_4.out.keep hb50); clear hown5 hr5)
    | (go_at_call 36; with_reducible refine (K4.out w3).mono ?_; rintro e w4 ⟨v4, rfl, hown4, hb40⟩; obtain ⟨A4, c4, rfl, hr4⟩ := Row.own hown4; have R4_4 := Lib.hid hr4; have hb4 := hb3.trans (hb40.mono hb3.size); have R1_4 := Lib.hid (R1_3.out.keep hb40); have R2_4 := Lib.hid (R2_3.out.keep hb40); have R3_4 := Lib.hid (R3_3.out.keep hb40); clear hown4 hr4)
    | (go_at_call 36; with_reducible refine (K3.out w2).mono ?_; rintro e w3 ⟨v3, rfl, hown3, hb30⟩; obtain ⟨A3, c3, rfl, hr3⟩ := Row.own hown3; have R3_3 := Lib.hid hr3; have hb3 := hb2.trans (hb30.mono hb2.size); have R1_3 := Lib.hid (R1_2.out.keep hb30); have R2_3 := Lib.hid (R2_2.out.keep hb30); clear hown3 hr3)
    | (go_at_call 46; with_reducible refine (K2.out w1).mono ?_; rintro e w2 ⟨v2, rfl, hown2, hb20⟩; obtain ⟨A2, c2, rfl, hr2⟩ := Row.own hown2; have R2_2 := Lib.hid hr2; have hb2 := hb1.trans (hb20.mono hb1.size); have R1_2 := Lib.hid (R1_1.out.keep hb20); clear hown2 hr2)
    | (go_at_call 36; with_reducible refine (K1.out W.drew).mono ?_; rintro e w1 ⟨v1, rfl, hown1, hb10⟩; obtain ⟨A1, c1, rfl, hr1⟩ := Row.own hown1; have R1_1 := Lib.hid hr1; have hb1 := hb10; clear hown1 hr1))
  have HE := Lib.hid hr9
  have HF := Lib.hid (HBW.out.trans ((hb6.trans (hb9.mono hb6.size)).mono HBW.out.size))
  clear hr9 hb9 hb6 h00 h0a h0b h0c h0d h0e
  go_wp2_with fail
  go_ret2
  exact ⟨_, rfl, ⟨A9, c9, rfl, HE.out⟩, HF.out⟩
end Go.Proofs.Ytiilgkajijnbcaa
