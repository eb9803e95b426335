/-
  Contract of the reference's SameSubmission, of submissions that are the same.
-/
import Derived.Test.YtiilgkajijnbcaaApiSub
import Derived.Test.YtiilgkajijnbcaaSameEnt
import Derived.Test.YtiilgkajijnbcaaLow
import Derived.Deep.Cut
namespace Go.Proofs.Ytiilgkajijnbcaa
open Go.ChangeShapes Go.WideShapes Go.ChangeAt Go.RowKit
set_option linter.unusedVariables false
set_option linter.unusedSimpArgs false

theorem Has.keyRange {w : World} {g x n c pc ps sc ss : Nat} {A : Option Addr} {u : List UInt8} (h : Has w g 43 (scells u x A n c pc ps sc ss)) (hu : u.length = 32) : w.rangeAt g 0 (u.map bv) :=
  Has.range h 0 (u.map bv) (by rw [List.drop_zero, scells, List.take_append_of_le_length (Nat.le_refl _), List.take_length])
theorem Has.subCells {w : World} {g x n c pc ps sc ss : Nat} {A : Option Addr} {u : List UInt8} (H : Has w g 43 (scells u x A n c pc ps sc ss)) (hu : u.length = 32) :
    w.cell? ⟨g, 32, none⟩ = some (.int .u64 (x : Int)) ∧ w.cell? ⟨g, 33, none⟩ = some (.slice A n c) ∧ w.cell? ⟨g, 34, none⟩ = some (.int .u64 (pc : Int)) ∧ w.cell? ⟨g, 35, none⟩ = some (.int .u64 (ps : Int)) ∧ w.cell? ⟨g, 36, none⟩ = some (.int .u64 (sc : Int)) ∧ w.cell? ⟨g, 37, none⟩ = some (.int .u64 (ss : Int)) :=
  ⟨(H.cell 32).trans (scells_at hu 0 (by omega)), (H.cell 33).trans (scells_at hu 1 (by omega)), (H.cell 34).trans (scells_at hu 2 (by omega)), (H.cell 35).trans (scells_at hu 3 (by omega)), (H.cell 36).trans (scells_at hu 4 (by omega)), (H.cell 37).trans (scells_at hu 5 (by omega))⟩
set_option maxRecDepth 10000 in
set_option maxHeartbeats 2000000 in
theorem sameSubmission (u : List UInt8) (x pc ps sc ss : Nat) (hu : u.length = 32) (A : Option Addr) (n c : Nat) (B : Option Addr) (m d : Nat) (l : List UInt8) (w : World) (hA : Bytes w A n c l) (hB : Bytes w B m d l) :
    Calls Try.prog 20 #[.agg (scells u x A n c pc ps sc ss).toArray, .agg (scells u x B m d pc ps sc ss).toArray] w fun e w' => e = .returned (.bool true) ∧ Below w.heap.size w w' := by
  have hb1 := (Below.refl w.heap.size w).alloc (Nat.le_refl _) (.cells (scells u x A n c pc ps sc ss).toArray 43)
  have hb2 := hb1.alloc hb1.size (.cells (scells u x B m d pc ps sc ss).toArray 43)
  have H1 := (Has.new w 43 (scells u x A n c pc ps sc ss)).alloc (.cells (scells u x B m d pc ps sc ss).toArray 43)
  have H2 := (Has.new (w.alloc (.cells (scells u x A n c pc ps sc ss).toArray 43)) 43 (scells u x B m d pc ps sc ss)).at_ (show _ = w.heap.size + 1 by simp)
  have hA2 := hA.keep hb2
  have hB2 := hB.keep hb2
  have HU := Lib.hid hu
  have heq := eq_key u hu
  obtain ⟨w2, hw2⟩ : ∃ q, (w.alloc (.cells (scells u x A n c pc ps sc ss).toArray 43)).alloc (.cells (scells u x B m d pc ps sc ss).toArray 43) = q := ⟨_, rfl⟩
  rw [hw2] at hb2 H1 H2 hA2 hB2
  have KE := Lib.hid (sameEntry x A n c B m d l w2 hA2 hB2)
  have HW := Lib.hid hw2
  have R1 := Lib.hid (H1.keyRange hu)
  have R2 := Lib.hid (H2.keyRange hu)
  have HH := Lib.hid (And.intro H1 H2)
  clear hA hB hA2 hB2 hu H1 H2 hb1 hw2
  go_enter Try.func20, Try.ntmps20
  go_upto_region 1 with fail
  change Code.wp _ _ _ _ ((w.alloc (.cells (scells u x A n c pc ps sc ss).toArray 43)).alloc (.cells (scells u x B m d pc ps sc ss).toArray 43))
  rw [HW.out]
  obtain ⟨a0, a1, a2, a3, a4, a5⟩ := HH.out.1.subCells HU.out
  obtain ⟨d0, d1, d2, d3, d4, d5⟩ := HH.out.2.subCells HU.out
  go_wp2_with (first
    | ((with_reducible refine wpList_load_mid rfl 36 (.tmp 5) rfl w.heap.size 0 rfl (u.map bv) _ R1.out Try.underlying36 rfl (by rw [List.length_map, HU.out]; exact size_key) ?_))
    | ((with_reducible refine wpList_load_mid rfl 36 (.tmp 7) rfl (w.heap.size + 1) 0 rfl (u.map bv) _ R2.out Try.underlying36 rfl (by rw [List.length_map, HU.out]; exact size_key) ?_)))
  refine (KE.out).mono ?_
  rintro e w3 ⟨rfl, hb3⟩
  obtain ⟨a0, a1, a2, a3, a4, a5⟩ := (HH.out.1.keep hb3 HH.out.1.lt).subCells HU.out
  obtain ⟨d0, d1, d2, d3, d4, d5⟩ := (HH.out.2.keep hb3 HH.out.2.lt).subCells HU.out
  go_wp2_with fail
  go_ret
  exact ⟨rfl, hb2.trans (hb3.mono hb2.size)⟩
end Go.Proofs.Ytiilgkajijnbcaa
