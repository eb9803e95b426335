/-
  What the laws of chapter 3 share: alive.
-/
import Derived.Test.YtoklakodogmdlaaDoorMacOf
namespace Go.Proofs.YtoklakodogmdlaaDoor
open Go.ChangeShapes Go.WideShapes Go.ChangeAt Go.RowKit
set_option linter.unusedVariables false
set_option linter.unusedSimpArgs false

theorem evMac : (macN [] []).take 4 = [0xb6, 0x13, 0x67, 0x9a] := by decide +kernel

namespace macLaw
set_option maxHeartbeats 400000 in
theorem alive (w : World) (hT : Tab w) : Calls Tryd.prog 6 #[] w fun e w' => e = .returned (.bool true) ∧ Below w.heap.size w w' := by
  have K0 := mac.Of none 0 0 [] none 0 0 [] w (Row.nil w) (Row.nil w) (by omega) hT
  obtain ⟨Ks, hKs⟩ : ∃ K, K = macN [] [] := ⟨_, rfl⟩
  have hKl : Ks.length = 32 := by rw [hKs, macN_len]
  have h4 : Ks.take 4 = [0xb6, 0x13, 0x67, 0x9a] := by rw [hKs, evMac]
  have hat : ∀ i, i < 4 → (Ks.map bv)[i]? = (([0xb6, 0x13, 0x67, 0x9a] : List UInt8).map bv)[i]? := fun i hi => by rw [← h4, List.map_take, List.getElem?_take, if_pos hi]
  rw [← hKs] at K0
  have K := Lib.hid K0
  have Hat := Lib.hid hat
  have HL := Lib.hid hKl
  clear K0 hKs hKl h4 hat
  go_enter Tryd.func6, Tryd.ntmps6
  go_wp2_with fail
  refine (K.out).mono ?_
  rintro e w2 ⟨rfl, hb⟩
  have H0 := newKey w2
  have hb2 := newKey_below hb hb.size
  have hB := hb.size
  clear K
  go_wp2_with ((with_reducible refine wpList_store_key rfl (.tmp 1) (.tmp 2) rfl w2.heap.size rfl Ks HL.out rfl zkey H0 rfl ?_); intro w3 o3 H3; have c0 : w3.cell? ⟨w2.heap.size, 0, none⟩ = some (.int .u8 182) := (H3.cell 0).trans (Hat.out 0 (by omega)); have c1 : w3.cell? ⟨w2.heap.size, 1, none⟩ = some (.int .u8 19) := (H3.cell 1).trans (Hat.out 1 (by omega)); have c2 : w3.cell? ⟨w2.heap.size, 2, none⟩ = some (.int .u8 103) := (H3.cell 2).trans (Hat.out 2 (by omega)); have c3 : w3.cell? ⟨w2.heap.size, 3, none⟩ = some (.int .u8 154) := (H3.cell 3).trans (Hat.out 3 (by omega)))
  go_ret
  exact ⟨rfl, o3.below hb2 hB⟩
end macLaw
end Go.Proofs.YtoklakodogmdlaaDoor
