/-
  Contract of the reference's Note.
-/
import Derived.Test.YtiilgkajijnbcaaRdNote
import Derived.Test.YtiilgkajijnbcaaLow
import Derived.Deep.RegionHeldLaw
namespace Go.Proofs.Ytiilgkajijnbcaa
open Go.ChangeShapes Go.WideShapes Go.ChangeAt Go.RowKit
set_option linter.unusedVariables false
set_option linter.unusedSimpArgs false

def wNote (x y : Nat) (l : List UInt8) : List UInt8 := (be64 x ++ be64 y) ++ l
theorem wNote_len (x y : Nat) (l : List UInt8) (h : l.length = 32) : (wNote x y l).length = 48 := by simp [wNote, be64_len, h]
theorem noteB {w : World} {g x y : Nat} {l : List UInt8} (h : Has w g 67 (ncells x y l)) (hl : l.length = 32) : Bytes w (some ⟨g, 2, none⟩) 32 32 l := by
  have := h.row 2 32 32 (by rw [ncells_len _ _ _ hl]; omega) (Nat.le_refl _) (by simp [maxLen])
  rw [show (ncells x y l).drop 2 = l.map bv from rfl, List.take_of_length_le (by rw [List.length_map]; omega)] at this
  exact this
set_option maxHeartbeats 2000000 in
theorem refNote' (x y : Nat) (l : List UInt8) (hx : x < 18446744073709551616) (hy : y < 18446744073709551616) (hl : l.length = 32) (w : World) :
    Calls Try.prog 32 #[.agg (ncells x y l).toArray] w fun e w' => ∃ v, e = .returned v ∧ w'.ownsRow w.heap.size 5 1 v 48 ((wNote x y l).map bv) ∧ Below w.heap.size w w' := by
  have H1 := Has.new w 67 (ncells x y l)
  have hb1 := (Below.refl w.heap.size w).alloc (Nat.le_refl _) (.cells (ncells x y l).toArray 67)
  have hz1 : (w.alloc (.cells (ncells x y l).toArray 67)).heap.size = w.heap.size + 1 := by simp
  have HL := Lib.hid hl
  clear hl
  go_enter Try.func32, Try.ntmps32
  go_wp2_with fail
  change Code.wp _ _ _ _ (w.alloc (.cells (ncells x y l).toArray 67))
  generalize (w.alloc (.cells (ncells x y l).toArray 67)) = w1 at *
  have HC := Lib.hid (fun (u : World) (h : Below w1.drew.heap.size w1.drew u) => show Has u w.heap.size 67 (ncells x y l) from Has.keep (w := w1.drew) H1 h (by show w.heap.size < w1.heap.size; omega))
  have KP1 := Lib.hid (show Calls Try.prog 38 #[.slice none 0 0, .int .u64 (x : Int)] w1.drew (fun e w' => ∃ v, e = .returned v ∧ w'.ownsRow w1.drew.heap.size 5 1 v 8 ((be64 x).map bv) ∧ Below w1.drew.heap.size w1.drew w') from by simpa using refPut.put64 none 0 0 [] x w1.drew (Row.nil _) (by omega) hx)
  have KP2 := Lib.hid (fun (A : Option Addr) (c : Nat) (u : World) (h : Row u A 8 c ((be64 x).map bv)) => refPut.put64 A 8 c (be64 x) y u h (by omega) hy)
  have HBA := Lib.hid (show w.heap.size ≤ w1.drew.heap.size by show _ ≤ w1.heap.size; omega)
  have HBB := Lib.hid hb1.drew
  have HM := Lib.hid (show 8 + 8 + 32 ≤ 140737488355328 by omega)
  have c0 : w1.drew.cell? ⟨w.heap.size, 0, none⟩ = some (.int .u64 (x : Int)) := (HC.out _ (Below.refl _ _)).cell 0
  have c1 : w1.drew.cell? ⟨w.heap.size, 1, none⟩ = some (.int .u64 (y : Int)) := (HC.out _ (Below.refl _ _)).cell 1
  clear H1 hb1
  go_region_held_law (fun w' => w'.cell? ⟨w.heap.size, 0, none⟩ = some (.int .u64 (x : Int)) ∧ w'.cell? ⟨w.heap.size, 1, none⟩ = some (.int .u64 (y : Int))) (first | exact ⟨c0, c1⟩ | exact ⟨(HC.out _ hb3).cell 0, (HC.out _ hb3).cell 1⟩ | exact ⟨(HC.out _ hb4).cell 0, (HC.out _ hb4).cell 1⟩ | exact ⟨(HC.out _ hb9).cell 0, (HC.out _ hb9).cell 1⟩)
    (first
    | ((refine step_app8 (by rfl) (.tmp 8) (.tmp 10) (by rfl) w.heap.size v4 (8 + 8) (be64 x ++ be64 y) (by rfl) HO4.out (some ⟨w.heap.size, 2, none⟩) 32 32 l (by rfl) (noteB (HC.out _ hb4) HL.out) HM.out (Nat.le_trans HBA.out hb4.size) ?_); intro v9 w9 hown9 hg9; have hb9 := hb4.grown hg9 hb4.size (fun k hk => HB4.out k hk); simp only [List.getElem_toArray, List.getElem_cons_succ, List.getElem_cons_zero])
    | (go_at_call 38; with_reducible refine (KP1.out).mono ?_; rintro e' w3 ⟨v3, rfl, hown3, hb3⟩; obtain ⟨A3, c3, rfl, hr3⟩ := Row.own hown3)
    | (go_at_call 38; with_reducible refine (KP2.out A3 c3 w3 hr3).mono ?_; rintro e' w4 ⟨v4, rfl, hown4, hb40⟩; have hb4 := hb3.trans (hb40.mono hb3.size); have HB4 := Lib.hid (fun k hk => Nat.le_trans hb3.size (hown4.lt k hk).1); have HO4 := Lib.hid (own_base hown4 (Nat.le_trans HBA.out hb3.size))))
  have hfin : w9.ownsRow w.heap.size 5 1 v9 48 ((wNote x y l).map bv) := hown9
  have HF := Lib.hid hfin
  clear hown9 hfin
  go_wp2_with fail
  go_ret
  exact ⟨_, rfl, HF.out, HBB.out.trans (hb9.mono HBA.out)⟩
end Go.Proofs.Ytiilgkajijnbcaa
