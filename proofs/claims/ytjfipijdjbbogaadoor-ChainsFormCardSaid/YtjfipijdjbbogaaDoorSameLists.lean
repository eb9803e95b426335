/-
  Contract of the laws' same (chapter 14): one list of lists in two rows; num, alive.
-/
import Derived.Test.YtjfipijdjbbogaaDoorSameInts
import Derived.Test.YtjfipijdjbbogaaDoorLists
import Derived.BigQuiet
namespace Go.Proofs.YtjfipijdjbbogaaDoor
open Go.ChangeShapes Go.WideShapes Go.ChangeAt Go.RowKit
set_option linter.unusedVariables false
set_option linter.unusedSimpArgs false

set_option maxHeartbeats 1000000 in
theorem sameLists (A B : Option Addr) (n c d : Nat) (ls : List (List Int)) (w : World) (h : ListsOf w A n c ls) (h' : ListsOf w B n d ls) :
    Calls Tryd.prog 9 #[.slice A n c, .slice B n d] w fun e w' => e = .returned (.bool true) ∧ Below w.heap.size w w' := by
  have hn := h.le
  have HH := Lib.hid h
  have HH' := Lib.hid h'
  have hb0 := Below.refl w.heap.size w
  clear h h'
  go_enter Tryd.func9, Tryd.ntmps9
  go_wp2_with fail
  go_loopw [5] (fun v wr => ∃ i : Nat, i ≤ n ∧ v = .int .i64 i ∧ Hid (Below w.heap.size w wr)) (fun v _ => n - (intOf v).toNat)
  case atStart => exact ⟨0, by omega, rfl, Lib.hid hb0⟩
  case round =>
    obtain ⟨i, hi, rfl, HW⟩ := hrel
    clear hb0
    by_cases hlt : i < n
    · have htj : (i : Int) < (n : Int) := by omega
      obtain ⟨b, off, rfl, hbl, hcA⟩ := HH.out.at_ (by omega)
      obtain ⟨b', off', rfl, hbl', hcB⟩ := HH'.out.at_ (by omega)
      obtain ⟨A1, m1, d1, C1, R1⟩ := hcA i hlt
      obtain ⟨A2, m2, d2, C2, R2⟩ := hcB i hlt
      obtain rfl : m1 = m2 := by rw [← R1.len, ← R2.len]
      have c1 := (HW.out.cell (p := ⟨b, off + i, none⟩) hbl).trans C1
      have c2 := (HW.out.cell (p := ⟨b', off' + i, none⟩) hbl').trans C2
      have K := Lib.hid (refSame A1 A2 m1 d1 d2 _ wr.drew (show Ints wr A1 m1 d1 _ from R1.keep HW.out) (show Ints wr A2 m1 d2 _ from R2.keep HW.out))
      have HC := Lib.hid (And.intro (And.intro hbl C1) (And.intro hbl' C2))
      clear hcA hcB C1 C2 R1 R2
      go_wp2_with fail
      go_region_held (fun w' => w'.cell? ⟨b, off + i, none⟩ = some (.slice A1 m1 d1) ∧ w'.cell? ⟨b', off' + i, none⟩ = some (.slice A2 m1 d2))
        (first | exact ⟨c1, c2⟩ | exact ⟨((HW.out.drew.trans (hb9.mono HW.out.size)).cell (p := ⟨b, off + i, none⟩) HC.out.1.1).trans HC.out.1.2, ((HW.out.drew.trans (hb9.mono HW.out.size)).cell (p := ⟨b', off' + i, none⟩) HC.out.2.1).trans HC.out.2.2⟩)
        (first | (go_at_call 13; with_reducible refine (K.out).mono ?_; rintro e w9 ⟨rfl, hb9⟩))
      have HB := Lib.hid (HW.out.drew.trans (hb9.mono HW.out.size))
      clear hb9
      go_wp2_with fail
      go_roundw
      case rel => exact ⟨i + 1, by omega, by go_num, HB⟩
      case measure => simp [intOf]; omega
    · obtain rfl : i = n := by omega
      go_wp2_with fail
      go_ret
      exact ⟨rfl, HW.out⟩
end Go.Proofs.YtjfipijdjbbogaaDoor
