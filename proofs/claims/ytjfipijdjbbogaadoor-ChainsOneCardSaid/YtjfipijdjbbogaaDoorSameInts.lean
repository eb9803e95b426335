/-
  Contract of the reference's SameInts, of one list in two rows.
-/
import Derived.Test.YtjfipijdjbbogaaDoorInts
namespace Go.Proofs.YtjfipijdjbbogaaDoor
open Go.ChangeShapes Go.WideShapes Go.ChangeAt Go.RowKit
set_option linter.unusedVariables false
set_option linter.unusedSimpArgs false

set_option maxHeartbeats 1000000 in
/-- One list in two rows. -/
theorem refSame (A B : Option Addr) (n c d : Nat) (ls : List Int) (w : World) (h : Ints w A n c ls) (h' : Ints w B n d ls) :
    Calls Tryd.prog 13 #[.slice A n c, .slice B n d] w fun e w' => e = .returned (.bool true) ∧ Below w.heap.size w w' := by
  have hn := h.le
  have HH := Lib.hid h
  have HH' := Lib.hid h'
  have hb0 := Below.refl w.heap.size w
  clear h h'
  go_enter Tryd.func13, Tryd.ntmps13
  go_wp2_with fail
  go_loopw [5] (fun v wr => ∃ i : Nat, i ≤ n ∧ v = .int .i64 i ∧ Hid (Below w.heap.size w wr)) (fun v _ => n - (intOf v).toNat)
  case atStart => exact ⟨0, by omega, rfl, Lib.hid hb0⟩
  case round =>
    obtain ⟨i, hi, rfl, HW⟩ := hrel
    clear hb0
    by_cases hlt : i < n
    · have htj : (i : Int) < (n : Int) := by omega
      obtain ⟨b, off, rfl, hbl, hcA⟩ := HH.out.at_ (by omega)
      obtain ⟨b', off', rfl, hbl', hcB⟩ := HH'.out.at_ (by omega)
      obtain ⟨x, hx⟩ : ∃ x, ls.getD i 0 = x := ⟨_, rfl⟩
      have C1 := hcA i hlt
      have C2 := hcB i hlt
      rw [hx] at C1 C2
      have c1 := (HW.out.cell (p := ⟨b, off + i, none⟩) hbl).trans C1
      have c2 := (HW.out.cell (p := ⟨b', off' + i, none⟩) hbl').trans C2
      have hne : (x != x) = false := by simp
      clear hcA hcB C1 C2 hx
      go_wp2_with fail
      go_region
      go_wp2_with fail
      go_roundw
      case rel => exact ⟨i + 1, by omega, by go_num, Lib.hid HW.out.drew⟩
      case measure => simp [intOf]; omega
    · obtain rfl : i = n := by omega
      go_wp2_with fail
      go_ret
      exact ⟨rfl, HW.out⟩
end Go.Proofs.YtjfipijdjbbogaaDoor
