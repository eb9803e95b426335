/-
  What the laws of chapter 2 share: equal keys are equal; alive.
-/
import Derived.Test.YtikmhhhnegdfoaaDoorShaSum
import Derived.Test.YtikmhhhnegdfoaaDoorRefSha
import Derived.Stop.BytesEq
import Derived.Lib.LaidTab
import Derived.LaidMore
namespace Go.Proofs.YtikmhhhnegdfoaaDoor
open Go.ChangeShapes Go.WideShapes Go.ChangeAt Go.RowKit
set_option linter.unusedVariables false
set_option linter.unusedSimpArgs false

theorem eq_key (l : List UInt8) (hl : l.length = 32) (w : World) : (Op.equalIn 10000 26 (.agg (l.map bv).toArray) (.agg (l.map bv).toArray)).run Tryd.prog w = .ok true w := by
  have h := run_equalIn_bytes (P := Tryd.prog) w 9998 26 5 32 Tryd.underlying26 Tryd.underlying5 (fun u => by kernel_rfl) l l hl hl
  have e : (l == l) = true := by simp
  rw [e] at h
  exact h
theorem shaN_len (l : List UInt8) : (shaN l).length = 32 := sha.keyN_len _

/-- The row's condition on the table gives the walks' fact. -/
theorem Tab.of_laid {w : World} (h : laidMetH Tryd.prog [("courierbag/sha.roundWords", Rows.laid_courierbag_sha_roundWords)] w) : Tab w := by
  rw [MakeChecks.laidMetH_plain _ _ _ (by kernel_rfl)] at h
  have h' : laidMet Tryd.prog [("courierbag/sha.roundWords", Lib.tabData .u32 (kN.map Int.ofNat))] w := h
  have hT := Lib.tabIs_of_head (show Tryd.prog.globalNamed "courierbag/sha.roundWords" = some 0 by kernel_rfl) (show (Tryd.prog.globals[0]?).map (·.type) = some 49 by kernel_rfl) Tryd.underlying49 Tryd.underlying37 (by kernel_rfl) (by kernel_rfl) h'
  intro i hi
  have hc := hT.cell (show Tryd.prog.globalNamed "courierbag/sha.roundWords" = some 0 by kernel_rfl) i (by rw [List.length_map]; exact hi)
  rw [hc]
  have hi' : i < kN.length := hi
  simp [hi']

namespace shaLaw
set_option maxHeartbeats 400000 in
theorem alive (w : World) (hT : Tab w) : Calls Tryd.prog 8 #[] w fun e w' => e = .returned (.bool true) ∧ Below w.heap.size w w' := by
  have K0 := sha.Sum none 0 0 [] w (Row.nil w) hT
  obtain ⟨Ks, hKs⟩ : ∃ K, K = (shaN []).map bv := ⟨_, rfl⟩
  have hKl : Ks.length = 32 := by rw [hKs, List.length_map, shaN_len]
  have h8 : Ks.take 8 = [(0xe3 : UInt8), 0xb0, 0xc4, 0x42, 0x98, 0xfc, 0x1c, 0x14].map bv := by rw [hKs, ← List.map_take, ev0]
  have hat : ∀ i, i < 8 → Ks[i]? = ([(0xe3 : UInt8), 0xb0, 0xc4, 0x42, 0x98, 0xfc, 0x1c, 0x14].map bv)[i]? := fun i hi => by rw [← h8, List.getElem?_take, if_pos hi]
  rw [← hKs] at K0
  have K := Lib.hid K0
  have SZ := Lib.hid (show (Tryd.prog.info? 26).map (·.size) = some Ks.length by rw [hKl]; kernel_rfl)
  have LL := Lib.hid (show ((List.replicate 32 0 : List UInt8).map bv).length = Ks.length by rw [List.length_map, hKl, List.length_replicate])
  have OC := Lib.hid (show ∀ u ∈ Ks, u.oneCell' = true from hKs ▸ one_bv _)
  have Hat := Lib.hid hat
  clear K0 hKs hKl h8 hat
  go_enter Tryd.func8, Tryd.ntmps8
  go_wp2_with fail
  refine (K.out).mono ?_
  rintro e w2 ⟨rfl, hb⟩
  have H0 : Has (w2.alloc (.cells #[.int .u8 0, .int .u8 0, .int .u8 0, .int .u8 0, .int .u8 0, .int .u8 0, .int .u8 0, .int .u8 0, .int .u8 0, .int .u8 0, .int .u8 0, .int .u8 0, .int .u8 0, .int .u8 0, .int .u8 0, .int .u8 0, .int .u8 0, .int .u8 0, .int .u8 0, .int .u8 0, .int .u8 0, .int .u8 0, .int .u8 0, .int .u8 0, .int .u8 0, .int .u8 0, .int .u8 0, .int .u8 0, .int .u8 0, .int .u8 0, .int .u8 0, .int .u8 0] 26)) w2.heap.size 26 ((List.replicate 32 0 : List UInt8).map bv) := Has.new w2 26 ((List.replicate 32 0 : List UInt8).map bv)
  have hb2 := hb.alloc hb.size (.cells #[.int .u8 0, .int .u8 0, .int .u8 0, .int .u8 0, .int .u8 0, .int .u8 0, .int .u8 0, .int .u8 0, .int .u8 0, .int .u8 0, .int .u8 0, .int .u8 0, .int .u8 0, .int .u8 0, .int .u8 0, .int .u8 0, .int .u8 0, .int .u8 0, .int .u8 0, .int .u8 0, .int .u8 0, .int .u8 0, .int .u8 0, .int .u8 0, .int .u8 0, .int .u8 0, .int .u8 0, .int .u8 0, .int .u8 0, .int .u8 0, .int .u8 0, .int .u8 0] 26)
  have hB := hb.size
  clear K
  go_wp2_with ((with_reducible refine wpList_store_has rfl 26 (.tmp 1) (.tmp 2) rfl w2.heap.size rfl Ks rfl 26 _ H0 SZ.out LL.out OC.out ?_); intro w3 o3 H3; have c0 : w3.cell? ⟨w2.heap.size, 0, none⟩ = some (.int .u8 227) := (H3.cell 0).trans (Hat.out 0 (by omega)); have c1 : w3.cell? ⟨w2.heap.size, 1, none⟩ = some (.int .u8 176) := (H3.cell 1).trans (Hat.out 1 (by omega)); have c2 : w3.cell? ⟨w2.heap.size, 2, none⟩ = some (.int .u8 196) := (H3.cell 2).trans (Hat.out 2 (by omega)); have c3 : w3.cell? ⟨w2.heap.size, 3, none⟩ = some (.int .u8 66) := (H3.cell 3).trans (Hat.out 3 (by omega)))
  go_ret
  exact ⟨rfl, o3.below hb2 hB⟩

set_option maxHeartbeats 400000 in
theorem lengthsOut (n c : Int) (w : World) (hT : Tab w) (h : n < 0 ∨ 300 < n) : Calls Tryd.prog 4 #[.int .i64 n, .int .u8 c] w fun e w' => e = .returned (.bool true) ∧ Below w.heap.size w w' := by
  have K := Lib.hid (alive w hT)
  rcases h with h | h
  · go_enter Tryd.func4, Tryd.ntmps4
    go_wp2_with fail
    refine (K.out).mono ?_
    rintro e w2 ⟨rfl, hb⟩
    go_wp2_with fail
    go_ret
    exact ⟨rfl, hb⟩
  · have h0 : ¬ n < 0 := by omega
    go_enter Tryd.func4, Tryd.ntmps4
    go_wp2_with fail
    refine (K.out).mono ?_
    rintro e w2 ⟨rfl, hb⟩
    go_wp2_with fail
    go_ret
    exact ⟨rfl, hb⟩
set_option maxHeartbeats 800000 in
theorem lengthsIn (n c : Nat) (w : World) (hT : Tab w) (h : n ≤ 300) (hc : c < 256) : Calls Tryd.prog 4 #[.int .i64 (n : Int), .int .u8 (c : Int)] w fun e w' => e = .returned (.bool true) ∧ Below w.heap.size w w' := by
  have K := Lib.hid (alive w hT)
  have h0 : ¬ (n : Int) < 0 := by omega
  have h1 : ¬ (300 : Int) < (n : Int) := by omega
  have hmk := fun u => run_make8 n n (Nat.le_refl _) (by omega) u
  obtain ⟨cb, hcb⟩ : ∃ cb : UInt8, cb = UInt8.ofNat c := ⟨_, rfl⟩
  have hcv : bv cb = .int .u8 (c : Int) := by rw [hcb]; simp [bv]; omega
  have HC := Lib.hid hcv
  clear hcb hcv
  go_enter Tryd.func4, Tryd.ntmps4
  go_wp2_with fail
  refine (K.out).mono ?_
  rintro e w2 ⟨rfl, hb⟩
  have HN := Has.new w2 5 (noughts n)
  have hb2 := hb.alloc hb.size (.cells (noughts n).toArray 5)
  have hB := hb.size
  clear K hb
  go_wp2
  go_loopw [7] (fun i wr => ∃ j : Nat, j ≤ n ∧ i = .int .i64 j ∧ Has wr w2.heap.size 5 ((List.replicate j cb ++ List.replicate (n - j) 0).map bv) ∧ Below w.heap.size w wr) (fun i _ => n - (intOf i).toNat)
  case atStart => exact ⟨0, by omega, rfl, by simpa [noughts, bv] using HN, hb2⟩
  case round =>
    clear HN hb2
    obtain ⟨j, hj, rfl, H, hbr⟩ := hrel
    by_cases hlt : j < n
    · have cj := (H.cell j).trans (List.getElem?_eq_getElem (by simp; omega))
      have fj := H.froz j
      go_wp2
      go_roundw
      case rel =>
        refine ⟨j + 1, by omega, by go_num, ?_, hbr.setCell hB _⟩
        have h := H.set j (.int .u8 (c : Int))
        rw [show n - j = (n - (j + 1)) + 1 by omega, List.replicate_succ, List.map_append, List.map_cons, List.set_append_right _ _ (by simp), List.length_map, List.length_replicate, Nat.sub_self, List.set_cons_zero, ← HC.out] at h
        rw [List.replicate_succ', List.map_append, List.map_append, List.append_assoc, ← HC.out]
        exact h
      case measure => simp [intOf]; omega
    · obtain rfl : j = n := by omega
      have hr := Has.row H 0 j j (by simp) (Nat.le_refl _) (by simp [maxLen]; omega)
      rw [List.drop_zero, List.take_of_length_le (by simp)] at hr
      obtain ⟨lb, hlb⟩ : ∃ l : List UInt8, l = List.replicate j cb ++ List.replicate (j - j) 0 := ⟨_, rfl⟩
      rw [← hlb] at hr
      have hTr := hT.keep hbr
      have K1 := Lib.hid (sha.Sum _ j j lb wr hr hTr)
      have K2 := Lib.hid (fun (u : World) (hb : Below wr.heap.size wr u) => refSha.Sha _ j j lb u (Row.keep hr hb) (by omega))
      have heq := eq_key (shaN lb) (shaN_len lb)
      obtain ⟨X, hX⟩ : ∃ X, X = ((shaN lb).map bv).toArray := ⟨_, rfl⟩
      rw [← hX] at heq
      have HX := Lib.hid hX
      clear hX hlb hr H hlt hmk
      go_wp2_with fail
      refine (K1.out).mono ?_
      rintro e w4 ⟨rfl, hb4⟩
      rw [← HX.out]
      go_wp2_with fail
      refine (K2.out w4 hb4).mono ?_
      rintro e w5 ⟨rfl, hb5⟩
      rw [← HX.out]
      go_wp2_with fail
      go_ret
      exact ⟨rfl, (hbr.trans (hb4.mono hbr.size)).trans (hb5.mono (Nat.le_trans hbr.size hb4.size))⟩
end shaLaw
end Go.Proofs.YtikmhhhnegdfoaaDoor
