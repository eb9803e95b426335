/-
  Contract of seal.Seal.
-/
import Derived.Test.YtekpekmfddbiaaaDoorSealXor
import Derived.Test.YtekpekmfddbiaaaDoorSealTag
namespace Go.Proofs.YtekpekmfddbiaaaDoor
open Go.ChangeShapes Go.WideShapes Go.ChangeAt Go.RowKit
set_option linter.unusedVariables false
set_option linter.unusedSimpArgs false

theorem noughts_bv'' (m : Nat) : noughts m = (List.replicate m 0 : List UInt8).map bv := by simp [noughts, bv]
theorem size_u8' : (Tryd.prog.info? 5).map (·.size) = some 1 := by kernel_rfl

namespace sealing
set_option maxRecDepth 10000 in
set_option maxHeartbeats 1000000 in
theorem Seal (k : List UInt8) (hk : k.length = 32) (A : Option Addr) (n c : Nat) (l : List UInt8) (B : Option Addr) (m d : Nat) (l' : List UInt8) (hn : n ≤ 8796093022208) (hm : m ≤ 8796093022208) (w : World) (hl : Bytes w A n c l) (hl' : Bytes w B m d l') (hT : Tab w) :
    Calls Tryd.prog 7 #[.agg (k.map bv).toArray, .slice A n c, .slice B m d] w fun e w' => ∃ g, e = .returned (.slice (some ⟨g, 0, none⟩) (m + 16) (m + 16)) ∧ w.heap.size ≤ g ∧ Has w' g 5 ((sealN k l l').map bv) ∧ Below w.heap.size w w' := by
  have hG : 0 < w.heap.size := World.block_lt_of_cell? w _ (hT 0 (by omega))
  have hb1 := (Below.refl w.heap.size w).alloc (Nat.le_refl _) (.cells (k.map bv).toArray 23)
  have hb2 := hb1.alloc hb1.size (.cells (noughts (m + 16)).toArray 5)
  have HQ2 := (Has.new w 23 (k.map bv)).alloc (.cells (noughts (m + 16)).toArray 5)
  have HO2 := (Has.new (w.alloc (.cells (k.map bv).toArray 23)) 5 (noughts (m + 16))).at_ (show _ = w.heap.size + 1 by simp)
  have hmk := fun u => run_make8 (m + 16) (m + 16) (Nat.le_refl _) (by omega) u
  rw [show ((m + 16 : Nat) : Int) = (m : Int) + 16 by omega] at hmk
  have hl2 := hl.keep hb2
  have hl2' := hl'.keep hb2
  have HKL := Lib.hid hk
  have HLL := Lib.hid (And.intro hl.len hl'.len)
  have HK1 := Lib.hid (show m = Nat.min m (m + 16) from (Nat.min_eq_left (by omega)).symm)
  have HF1 := Lib.hid (show 0 + m ≤ (noughts (m + 16)).length by rw [noughts_len]; omega)
  have HO1 := Lib.hid (one_bv l')
  have HL1 := Lib.hid (show Row _ B m d (l'.map bv) from hl2')
  clear hb1
  go_enter Tryd.func7, Tryd.ntmps7
  go_wp2_with (first
    | ((with_reducible refine wpList_copy_has rfl (.tmp 15) (.tmp 16) 24 24 rfl 5 Tryd.underlying24 size_u8' (w.heap.size + 1) 0 (m + 16) (m + 16) rfl B m d rfl (l'.map bv) HL1.out 5 (noughts (m + 16)) HO2 m HK1.out HF1.out HO1.out ?_); intro w3 o3 H3; have HQ3 := HQ2.only o3 (by omega); have hb3 := o3.below hb2 (by omega))
    | ((with_reducible refine wpList_load_key rfl (.tmp 3) rfl w.heap.size rfl k HKL.out HQ3 ?_)))
  have hl3 := hl.keep hb3
  have hsp : splice (noughts (m + 16)) 0 (List.take m (l'.map bv)) = l'.map bv ++ noughts 16 := by
    have h1 := HLL.out.2
    rw [splice, List.take_zero, List.nil_append, List.take_of_length_le (by rw [List.length_map]; omega), List.length_map, h1, noughts, List.drop_replicate, noughts]
    congr 2
    omega
  rw [hsp] at H3
  have KX := Lib.hid (xorHas k hk (w.heap.size + 1) m (m + 16) l' (noughts 16) HLL.out.2 (by omega) (by omega) w3 H3 (hT.keep hb3) (by omega))
  clear hmk hl2 hl2' HK1 HF1 HO1 HL1 HO2 H3 hsp HQ2 hb2 o3
  refine (KX.out).mono ?_
  rintro e w4 ⟨rfl, H4, hS4⟩
  have hb4 := hS4.below hb3 (by omega) hb3.size
  have HQ4 := HQ3.save hS4 (by omega)
  obtain ⟨C, hC⟩ : ∃ C, C = xorN k l' := ⟨_, rfl⟩
  have hCl : C.length = m := by rw [hC, xorN_len, HLL.out.2]
  rw [← hC] at H4
  have hc4 : Bytes w4 (some ⟨w.heap.size + 1, 0, none⟩) m (m + 16) C := by
    have h := H4.row 0 m (m + 16) (by rw [List.length_append, List.length_map]; omega) (by omega) (by unfold maxLen; omega)
    rw [List.drop_zero, List.take_left' (by rw [List.length_map, hCl])] at h
    exact h
  obtain ⟨T, hTg⟩ : ∃ T, T = tagN k l C := ⟨_, rfl⟩
  have hTl : T.length = 16 := by rw [hTg, tagN_len]
  have KT0 := tagOf k hk A n c l (some ⟨w.heap.size + 1, 0, none⟩) m (m + 16) C (by omega) (by omega) w4 (hl.keep hb4) hc4 (hT.keep hb4)
  rw [← hTg] at KT0
  have KT := Lib.hid KT0
  have HC := Lib.hid (And.intro hC hCl)
  have HT := Lib.hid (And.intro hTg hTl)
  clear KX hC hCl hTg hTl KT0 hc4 hS4 hb3 HQ3 hl3
  go_wp2_with ((with_reducible refine wpList_load_key rfl (.tmp 3) rfl w.heap.size rfl k HKL.out HQ4 ?_))
  refine (KT.out).mono ?_
  rintro e w5 ⟨rfl, hb5⟩
  have H5 := (H4.keep hb5 H4.lt).alloc (.cells #[.int .u8 0, .int .u8 0, .int .u8 0, .int .u8 0, .int .u8 0, .int .u8 0, .int .u8 0, .int .u8 0, .int .u8 0, .int .u8 0, .int .u8 0, .int .u8 0, .int .u8 0, .int .u8 0, .int .u8 0, .int .u8 0] 33)
  have HT5 : Has (w5.alloc (.cells #[.int .u8 0, .int .u8 0, .int .u8 0, .int .u8 0, .int .u8 0, .int .u8 0, .int .u8 0, .int .u8 0, .int .u8 0, .int .u8 0, .int .u8 0, .int .u8 0, .int .u8 0, .int .u8 0, .int .u8 0, .int .u8 0] 33)) w5.heap.size 33 ztag := Has.new w5 33 ztag
  have hbw5 := hb4.trans (hb5.mono hb4.size)
  have hb6 := hbw5.alloc hbw5.size (.cells #[.int .u8 0, .int .u8 0, .int .u8 0, .int .u8 0, .int .u8 0, .int .u8 0, .int .u8 0, .int .u8 0, .int .u8 0, .int .u8 0, .int .u8 0, .int .u8 0, .int .u8 0, .int .u8 0, .int .u8 0, .int .u8 0] 33)
  have h4lt := H4.lt
  have h5s := hb5.size
  have S16 := Lib.hid (show (Tryd.prog.info? 33).map (·.size) = some (T.map bv).length by rw [List.length_map, HT.out.2]; exact size_tag)
  have L16 := Lib.hid (show ztag.length = (T.map bv).length by rw [List.length_map, HT.out.2]; rfl)
  clear KT H4 HQ4 hb4 hb5
  go_wp2_with ((with_reducible refine wpList_store_has rfl 33 (.tmp 9) (.tmp 25) rfl w5.heap.size rfl (T.map bv) rfl 33 ztag HT5 S16.out L16.out (one_bv _) ?_); intro w7 o7 HT7)
  have H7 := H5.only o7 (by omega)
  have hb7 := o7.below hb6 hbw5.size
  have hT7 := HT7.bytes 16 HT.out.2 (by simp [maxLen])
  have HF := Lib.hid (show m + 16 ≤ (C.map bv ++ noughts 16).length by rw [List.length_append, List.length_map, HC.out.2, noughts_len]; exact Nat.le_refl _)
  have hsp : splice (C.map bv ++ noughts 16) m ((T.map bv).take 16) = (sealN k l l').map bv := by
    rw [List.take_of_length_le (by rw [List.length_map, HT.out.2]; exact Nat.le_refl _), splice, List.take_left' (by rw [List.length_map, HC.out.2]), List.drop_of_length_le (by rw [List.length_append, List.length_map, List.length_map, HC.out.2, HT.out.2, noughts_len]; exact Nat.le_refl _), List.append_nil, sealN, ← HC.out.1, ← HT.out.1, List.map_append]
  have HSP := Lib.hid hsp
  clear hsp o7 HT7 H5 HT5 hb6
  go_region_law ((refine step_copy_has (by rfl) (.tmp 29) (.tmp 30) 24 24 (by rfl) 5 Tryd.underlying24 size_u8' (w.heap.size + 1) m 16 16 (by rfl) (some ⟨w5.heap.size, 0, none⟩) 16 16 (by rfl) (T.map bv) hT7 5 (C.map bv ++ noughts 16) H7 16 (by rfl) HF.out (one_bv T) ?_; intro w8 o8 H8))
  all_goals
    rw [HSP.out] at H8
    have hb8 := o8.below hb7.drew (by omega)
    go_wp2_with fail
    go_ret
    exact ⟨w.heap.size + 1, rfl, by omega, H8, hb8⟩
end sealing
end Go.Proofs.YtekpekmfddbiaaaDoor
