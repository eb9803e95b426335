/-
  Contract of the reference's Submission; what writing a submission means.
-/
import Derived.Test.YtiilgkajijnbcaaApiSub
import Derived.Test.YtiilgkajijnbcaaLow
import Derived.Deep.RegionHeldLaw
namespace Go.Proofs.Ytiilgkajijnbcaa
open Go.ChangeShapes Go.WideShapes Go.ChangeAt Go.RowKit
set_option linter.unusedVariables false
set_option linter.unusedSimpArgs false

/-- The bytes of a submission. -/
def bodySub (d : SubD) : List UInt8 := (((((d.u ++ be64 d.x) ++ be64 d.l.length) ++ d.l) ++ be64 d.pc) ++ be64 d.ps) ++ be64 d.sc ++ be64 d.ss
/-- .. and the error. -/
def wSub (d : SubD) : List UInt8 × Nat := if 1048576 < d.l.length then ([], 3) else if rightN d.x then (bodySub d, 0) else ([], 1)
theorem subB {w : World} {g x n c pc ps sc ss : Nat} {A : Option Addr} {u : List UInt8} (h : Has w g 43 (scells u x A n c pc ps sc ss)) (hl : u.length = 32) : Bytes w (some ⟨g, 0, none⟩) 32 32 u := by
  have := h.row 0 32 32 (by rw [scells_len hl]; omega) (Nat.le_refl _) (by simp [maxLen])
  rw [List.drop_zero, scells, List.take_append_of_le_length (by rw [List.length_map]; omega), List.take_of_length_le (by rw [List.length_map]; omega)] at this
  exact this
set_option maxRecDepth 10000 in
set_option maxHeartbeats 4000000 in
theorem refSubmission' (d : SubD) (hd : d.ok) (A : Option Addr) (n c : Nat) (l : List UInt8) (k : Nat) (hk : wSub d = (l, k)) (w : World) (hb : Bytes w A n c d.l) :
    Calls Try.prog 18 #[.agg (scells d.u d.x A n c d.pc d.ps d.sc d.ss).toArray] w fun e w' => ∃ v, e = .returned (.tuple #[v, .int .i64 (k : Int)]) ∧ w'.ownsRow w.heap.size 5 1 v l.length (l.map bv) ∧ Below w.heap.size w w' := by
  obtain ⟨u, x, t, pc, ps, sc, ss⟩ := d
  obtain ⟨hu, hx, hpc, hps, hsc, hss⟩ := hd
  simp only [] at hu hx hpc hps hsc hss hb ⊢
  have htl := hb.len
  have H1 := Has.new w 43 (scells u x A n c pc ps sc ss)
  have hb1 := (Below.refl w.heap.size w).alloc (Nat.le_refl _) (.cells (scells u x A n c pc ps sc ss).toArray 43)
  have hz1 : (w.alloc (.cells (scells u x A n c pc ps sc ss).toArray 43)).heap.size = w.heap.size + 1 := by simp
  have c32 := (H1.cell 32).trans (scells_at hu 0 (by omega))
  have c33 := (H1.cell 33).trans (scells_at hu 1 (by omega))
  have HU := Lib.hid hu
  have hle := hb.le
  clear hu
  by_cases h1 : 1048576 < n
  · have h1' : (1048576 : Int) < (n : Int) := by omega
    rw [wSub, if_pos (by show 1048576 < t.length; omega)] at hk
    obtain ⟨rfl, rfl⟩ := Prod.mk.inj hk
    clear hk h1 htl
    go_enter Try.func18, Try.ntmps18
    go_wp2_with fail
    go_ret2
    exact ⟨_, rfl, World.ownsRow_nil _ _ _ _, hb1⟩
  have h1' : ¬ (1048576 : Int) < (n : Int) := by omega
  rw [wSub, if_neg (by show ¬ 1048576 < t.length; omega)] at hk
  by_cases h2 : rightN x
  case neg =>
    rw [if_neg h2] at hk
    obtain ⟨rfl, rfl⟩ := Prod.mk.inj hk
    have A1 := Lib.hid (fun w => refRight' (decide_eq_false h2) hx rfl w)
    clear hk h1 h2 htl
    go_enter Try.func18, Try.ntmps18
    go_wp2_with fail
    refine (A1.out _).mono ?_
    rintro e' w' ⟨rfl, rfl⟩
    go_wp2_with fail
    go_ret2
    exact ⟨_, rfl, World.ownsRow_nil _ _ _ _, hb1⟩
  rw [if_pos h2] at hk
  obtain ⟨rfl, rfl⟩ := Prod.mk.inj hk
  have A1 := Lib.hid (fun w => refRight' (decide_eq_true h2) hx rfl w)
  have HB := Lib.hid hb
  have HT := Lib.hid htl
  have hn20 : n ≤ 1048576 := by omega
  clear hk h1 h2 htl hb
  go_enter Try.func18, Try.ntmps18
  go_wp2_with fail
  refine (A1.out _).mono ?_
  rintro e' w' ⟨rfl, rfl⟩
  go_wp2_with fail
  clear A1 c32 c33
  change Code.wp _ _ _ _ (w.alloc (.cells (scells u x A n c pc ps sc ss).toArray 43))
  generalize (w.alloc (.cells (scells u x A n c pc ps sc ss).toArray 43)) = w1 at *
  -- the user and X
  have HC := Lib.hid (fun (q : World) (h : Below w1.drew.heap.size w1.drew q) => show Has q w.heap.size 43 (scells u x A n c pc ps sc ss) from Has.keep (w := w1.drew) H1 h (by show w.heap.size < w1.heap.size; omega))
  have HX := Lib.hid (fun (q : World) (h : Below w1.drew.heap.size w1.drew q) => show q.cell? ⟨w.heap.size, 32, none⟩ = some (.int .u64 (x : Int)) from ((HC.out q h).cell 32).trans (scells_at HU.out 0 (by omega)))
  have HBA := Lib.hid (show w.heap.size + 1 ≤ w1.drew.heap.size by show _ ≤ w1.heap.size; omega)
  have HO0 := Lib.hid (World.ownsRow_nil w1.drew (w.heap.size + 1) 5 1)
  have HM := Lib.hid (show 0 + 32 ≤ 140737488355328 by omega)
  have KP := Lib.hid (fun (A : Option Addr) (c : Nat) (q : World) (h : Row q A (0 + 32) c ((([] : List UInt8) ++ u).map bv)) => refPut.put64 A (0 + 32) c ([] ++ u) x q (show Bytes q A (0 + 32) c ([] ++ u) from h) (by omega) hx)
  have hb1' := hb1.drew
  clear H1 hb1 hz1
  go_region_held_law (fun w' => w'.cell? ⟨w.heap.size, 32, none⟩ = some (.int .u64 (x : Int))) (first | exact HX.out _ (Below.refl _ _) | exact HX.out _ hb3 | exact HX.out _ hb4)
    (first
    | ((refine step_app8 (by rfl) (.const (.slice none 0 0)) (.tmp 16) (by rfl) (w.heap.size + 1) (.slice none 0 0) 0 [] (by rfl) HO0.out (some ⟨w.heap.size, 0, none⟩) 32 32 u (by rfl) (subB (HC.out _ (Below.refl _ _)) HU.out) HM.out HBA.out ?_); intro v3 w3 hown3 hg3; have hb3 : Below w1.drew.heap.size w1.drew w3 := (Below.refl _ _).grown hg3 (Nat.le_refl _) (fun k hk => by cases hk); obtain ⟨A3, c3, rfl, hr3⟩ := Row.own hown3; simp only [List.getElem_toArray, List.getElem_cons_succ, List.getElem_cons_zero])
    | (go_at_call 38; with_reducible refine (KP.out A3 c3 w3 hr3).mono ?_; rintro e' w4 ⟨v4, rfl, hown4, hb40⟩; have hb4 := hb3.trans (hb40.mono hb3.size)))
  -- the length and the box
  obtain ⟨A4, c4, rfl, hr4⟩ := Row.own hown4
  have HH4 := Lib.hid (HC.out w4 hb4)
  have hbw4 := hb1'.trans (hb4.mono (by have := HBA.out; omega))
  have HBX := Lib.hid (fun (q : World) (h : Below w4.drew.heap.size w4.drew q) => show Bytes q A n c t from (HB.out.keep hbw4.drew).keep h)
  have HC6 := Lib.hid (fun (q : World) (h : Below w4.drew.heap.size w4.drew q) => show Has q w.heap.size 43 (scells u x A n c pc ps sc ss) from Has.keep (w := w4.drew) HH4.out h HH4.out.lt)
  have HX6 := Lib.hid (fun (q : World) (h : Below w4.drew.heap.size w4.drew q) => show q.cell? ⟨w.heap.size, 33, none⟩ = some (.slice A n c) from ((HC6.out q h).cell 33).trans (scells_at HU.out 1 (by omega)))
  have HBA6 := Lib.hid (show w.heap.size + 1 ≤ w4.drew.heap.size by have h1 := HBA.out; have h2 := hb4.size; show _ ≤ w4.heap.size; omega)
  have KP6 := Lib.hid (show Calls Try.prog 38 #[.slice A4 40 c4, .int .u64 (n : Int)] w4.drew _ from refPut.put64 A4 40 c4 (([] ++ u) ++ be64 x) n w4.drew (show Bytes w4.drew A4 40 c4 _ from hr4) (by omega) (by omega))
  have hwr : IntKind.u64.wrap (n : Int) = (n : Int) := by rw [IntKind.wrap_u64]; omega
  have HM6 := Lib.hid (show 40 + 8 + n ≤ 140737488355328 by omega)
  clear HC HX HO0 HM KP hown3 hg3 hr3 hb3 hown4 hr4 hb40 hb4 HBA hb1'
  go_wp2_with fail
  go_region_held_law (fun w' => w'.cell? ⟨w.heap.size, 33, none⟩ = some (.slice A n c)) (first | exact HX6.out _ (Below.refl _ _) | exact HX6.out _ hb6 | exact HX6.out _ hb7)
    (first
    | ((refine step_app8 (by rfl) (.tmp 28) (.tmp 31) (by rfl) (w.heap.size + 1) v6 (40 + 8) ((([] ++ u) ++ be64 x) ++ be64 n) (by rfl) HO6.out A n c t (by rfl) (HBX.out _ hb6) HM6.out (Nat.le_trans HBA6.out hb6.size) ?_); intro v7 w7 hown7 hg7; have hb7 := hb6.grown hg7 hb6.size (fun k hk => HB6.out k hk); simp only [List.getElem_toArray, List.getElem_cons_succ, List.getElem_cons_zero])
    | (go_at_call 38; with_reducible refine (KP6.out).mono ?_; rintro e' w6 ⟨v6, rfl, hown6, hb6⟩; have HB6 := Lib.hid (fun k hk => (hown6.lt k hk).1); have HO6 := Lib.hid (own_base hown6 HBA6.out)))
  -- the proof and the signature
  obtain ⟨A7, c7, rfl, hr7⟩ := Row.own hown7
  have HH7 := Lib.hid (HC6.out w7 hb7)
  have hbw7 := hbw4.drew.trans (hb7.mono (by have := HBA6.out; omega))
  have HC8 := Lib.hid (fun (q : World) (h : Below w7.drew.heap.size w7.drew q) => show q.cell? ⟨w.heap.size, 34, none⟩ = some (.int .u64 (pc : Int)) ∧ q.cell? ⟨w.heap.size, 35, none⟩ = some (.int .u64 (ps : Int)) ∧ q.cell? ⟨w.heap.size, 36, none⟩ = some (.int .u64 (sc : Int)) ∧ q.cell? ⟨w.heap.size, 37, none⟩ = some (.int .u64 (ss : Int)) from
    have H : Has q w.heap.size 43 (scells u x A n c pc ps sc ss) := Has.keep (w := w7.drew) HH7.out h HH7.out.lt
    ⟨(H.cell 34).trans (scells_at HU.out 2 (by omega)), (H.cell 35).trans (scells_at HU.out 3 (by omega)), (H.cell 36).trans (scells_at HU.out 4 (by omega)), (H.cell 37).trans (scells_at HU.out 5 (by omega))⟩)
  obtain ⟨B7, hB7⟩ : ∃ B, ((([] ++ u) ++ be64 x) ++ be64 n) ++ t = B := ⟨_, rfl⟩
  obtain ⟨m7, hm7⟩ : ∃ m, 40 + 8 + n = m := ⟨_, rfl⟩
  rw [hB7, hm7] at hr7
  rw [hm7]
  have hm8 : m7 ≤ 1048624 := by omega
  have HE := Lib.hid (And.intro hB7 hm7)
  have KA := Lib.hid (show Calls Try.prog 38 #[.slice A7 m7 c7, .int .u64 (pc : Int)] w7.drew _ from refPut.put64 A7 m7 c7 B7 pc w7.drew (show Bytes w7.drew A7 m7 c7 _ from hr7) (by omega) hpc)
  have KB := Lib.hid (fun (A : Option Addr) (c : Nat) (q : World) (h : Row q A (m7 + 8) c ((B7 ++ be64 pc).map bv)) => refPut.put64 A (m7 + 8) c (B7 ++ be64 pc) ps q (show Bytes q A (m7 + 8) c _ from h) (by omega) hps)
  have KC := Lib.hid (fun (A : Option Addr) (c : Nat) (q : World) (h : Row q A (m7 + 8 + 8) c (((B7 ++ be64 pc) ++ be64 ps).map bv)) => refPut.put64 A (m7 + 8 + 8) c ((B7 ++ be64 pc) ++ be64 ps) sc q (show Bytes q A (m7 + 8 + 8) c _ from h) (by omega) hsc)
  have KD := Lib.hid (fun (A : Option Addr) (c : Nat) (q : World) (h : Row q A (m7 + 8 + 8 + 8) c ((((B7 ++ be64 pc) ++ be64 ps) ++ be64 sc).map bv)) => refPut.put64 A (m7 + 8 + 8 + 8) c (((B7 ++ be64 pc) ++ be64 ps) ++ be64 sc) ss q (show Bytes q A (m7 + 8 + 8 + 8) c _ from h) (by omega) hss)
  have HZ7 := Lib.hid (show w.heap.size + 1 ≤ w7.drew.heap.size by have h1 := HBA6.out; have h2 := hb7.size; show _ ≤ w7.heap.size; omega)
  clear HBX HC6 HX6 HBA6 KP6 HM6 hown6 HB6 HO6 hown7 hg7 hr7 hb6 hb7 hbw4 hB7 hm7
  go_wp2_with fail
  go_region_held (fun w' => w'.cell? ⟨w.heap.size, 34, none⟩ = some (.int .u64 (pc : Int)) ∧ w'.cell? ⟨w.heap.size, 35, none⟩ = some (.int .u64 (ps : Int)) ∧ w'.cell? ⟨w.heap.size, 36, none⟩ = some (.int .u64 (sc : Int)) ∧ w'.cell? ⟨w.heap.size, 37, none⟩ = some (.int .u64 (ss : Int)))
    (first | exact HC8.out _ (by assumption) | exact HC8.out _ (Below.refl _ _))
    (first
    | (go_at_call 38; with_reducible refine (KA.out).mono ?_; rintro e' wa ⟨va, rfl, howna, hba⟩; obtain ⟨Aa, ca, rfl, hra⟩ := Row.own howna)
    | (go_at_call 38; with_reducible refine (KB.out Aa ca wa hra).mono ?_; rintro e' wb ⟨vb, rfl, hownb, hbb0⟩; have hbb := hba.trans (hbb0.mono hba.size); obtain ⟨Ab, cb, rfl, hrb⟩ := Row.own hownb)
    | (go_at_call 38; with_reducible refine (KC.out Ab cb wb hrb).mono ?_; rintro e' wc ⟨vc, rfl, hownc, hbc0⟩; have hbc := hbb.trans (hbc0.mono hbb.size); obtain ⟨Ac, cc, rfl, hrc⟩ := Row.own hownc)
    | (go_at_call 38; with_reducible refine (KD.out Ac cc wc hrc).mono ?_; rintro e' wd ⟨vd, rfl, hownd, hbd0⟩; have hbd := hbc.trans (hbd0.mono hbc.size)))
  have hfin := own_base (base' := w.heap.size) hownd (by have h1 := HZ7.out; have h2 := hbc.size; omega)
  have HF := Lib.hid hfin
  have HLN := Lib.hid (show (bodySub ⟨u, x, t, pc, ps, sc, ss⟩) = (((B7 ++ be64 pc) ++ be64 ps) ++ be64 sc) ++ be64 ss ∧ (bodySub ⟨u, x, t, pc, ps, sc, ss⟩).length = m7 + 8 + 8 + 8 + 8 by
    have e1 := HE.out.1
    have e2 := HE.out.2
    rw [List.nil_append] at e1
    have e3 : bodySub ⟨u, x, t, pc, ps, sc, ss⟩ = (((B7 ++ be64 pc) ++ be64 ps) ++ be64 sc) ++ be64 ss := by
      rw [← e1, ← HT.out]
      rfl
    refine ⟨e3, ?_⟩
    rw [e3, ← e1, ← e2]
    simp only [List.length_append, be64_len, HU.out, HT.out])
  clear hownd hfin hownc hownb howna hra hrb hrc
  go_wp2_with fail
  go_ret2
  exact ⟨_, rfl, by rw [HLN.out.2, HLN.out.1]; exact HF.out, hbw7.drew.trans (hbd.mono (by have h1 := HZ7.out; omega))⟩
end Go.Proofs.Ytiilgkajijnbcaa
