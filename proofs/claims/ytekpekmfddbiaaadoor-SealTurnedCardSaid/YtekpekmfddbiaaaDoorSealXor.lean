/-
  Contract of seal.xorStream.
-/
import Derived.Test.YtekpekmfddbiaaaDoorSealKs
namespace Go.Proofs.YtekpekmfddbiaaaDoor
open Go.ChangeShapes Go.WideShapes Go.ChangeAt Go.RowKit
set_option linter.unusedVariables false
set_option linter.unusedSimpArgs false

theorem xor_uu (x y : UInt8) : (.int .u8 (bits .xor .u8 (x.toNat : Int) (y.toNat : Int)) : Value) = bv (x ^^^ y) := by
  rw [xor_u8 x.toNat y.toNat (UInt8.toNat_lt x) (UInt8.toNat_lt y), UInt8.ofNat_toNat, UInt8.ofNat_toNat]
  rfl

namespace sealing
set_option maxRecDepth 10000 in
set_option maxHeartbeats 1000000 in
theorem xorHas (k : List UInt8) (hk : k.length = 32) (g n c : Nat) (l : List UInt8) (Z : List Value) (hl : l.length = n) (hn : n ≤ 70368744177664) (hc : n ≤ c) (w : World) (H : Has w g 5 (l.map bv ++ Z)) (hT : Tab w) (hG : 0 ≠ g) :
    Calls Tryd.prog 11 #[.agg (k.map bv).toArray, .slice (some ⟨g, 0, none⟩) n c] w fun e w' => e = .returned (.tuple #[]) ∧ Has w' g 5 ((xorN k l).map bv ++ Z) ∧ Save g w w' := by
  have hg := H.lt
  have HL := Lib.hid hl
  have HK := Lib.hid hk
  have hb1 := (Below.refl w.heap.size w).alloc (Nat.le_refl _) (.cells (k.map bv).toArray 23)
  have hb2 := newKey_below hb1 hb1.size
  have H2 := (H.alloc (.cells (k.map bv).toArray 23)).alloc (.cells #[.int .u8 0, .int .u8 0, .int .u8 0, .int .u8 0, .int .u8 0, .int .u8 0, .int .u8 0, .int .u8 0, .int .u8 0, .int .u8 0, .int .u8 0, .int .u8 0, .int .u8 0, .int .u8 0, .int .u8 0, .int .u8 0, .int .u8 0, .int .u8 0, .int .u8 0, .int .u8 0, .int .u8 0, .int .u8 0, .int .u8 0, .int .u8 0, .int .u8 0, .int .u8 0, .int .u8 0, .int .u8 0, .int .u8 0, .int .u8 0, .int .u8 0, .int .u8 0] 23)
  have HQ2 := (Has.new w 23 (k.map bv)).alloc (.cells #[.int .u8 0, .int .u8 0, .int .u8 0, .int .u8 0, .int .u8 0, .int .u8 0, .int .u8 0, .int .u8 0, .int .u8 0, .int .u8 0, .int .u8 0, .int .u8 0, .int .u8 0, .int .u8 0, .int .u8 0, .int .u8 0, .int .u8 0, .int .u8 0, .int .u8 0, .int .u8 0, .int .u8 0, .int .u8 0, .int .u8 0, .int .u8 0, .int .u8 0, .int .u8 0, .int .u8 0, .int .u8 0, .int .u8 0, .int .u8 0, .int .u8 0, .int .u8 0] 23)
  have HB2 := (newKey (w.alloc (.cells (k.map bv).toArray 23))).at_ (show _ = w.heap.size + 1 by simp)
  have hS2 := Save.of_below (g := g) hb2
  clear hb1 hb2
  go_enter Tryd.func11, Tryd.ntmps11
  go_wp2
  change Code.wp _ _ _ _ ((w.alloc (.cells (k.map bv).toArray 23)).alloc (.cells #[.int .u8 0, .int .u8 0, .int .u8 0, .int .u8 0, .int .u8 0, .int .u8 0, .int .u8 0, .int .u8 0, .int .u8 0, .int .u8 0, .int .u8 0, .int .u8 0, .int .u8 0, .int .u8 0, .int .u8 0, .int .u8 0, .int .u8 0, .int .u8 0, .int .u8 0, .int .u8 0, .int .u8 0, .int .u8 0, .int .u8 0, .int .u8 0, .int .u8 0, .int .u8 0, .int .u8 0, .int .u8 0, .int .u8 0, .int .u8 0, .int .u8 0, .int .u8 0] 23))
  generalize ((w.alloc (.cells (k.map bv).toArray 23)).alloc (.cells #[.int .u8 0, .int .u8 0, .int .u8 0, .int .u8 0, .int .u8 0, .int .u8 0, .int .u8 0, .int .u8 0, .int .u8 0, .int .u8 0, .int .u8 0, .int .u8 0, .int .u8 0, .int .u8 0, .int .u8 0, .int .u8 0, .int .u8 0, .int .u8 0, .int .u8 0, .int .u8 0, .int .u8 0, .int .u8 0, .int .u8 0, .int .u8 0, .int .u8 0, .int .u8 0, .int .u8 0, .int .u8 0, .int .u8 0, .int .u8 0, .int .u8 0, .int .u8 0] 23)) = w2 at *
  go_loopw [8] (fun i wr => ∃ (j : Nat) (B : List UInt8), j ≤ n ∧ i = .int .i64 j ∧ B.length = 32 ∧ (j % 32 ≠ 0 → B = ksN k (j / 32)) ∧ Has wr g 5 ((halfX k l j).map bv ++ Z) ∧ Has wr w.heap.size 23 (k.map bv) ∧ Has wr (w.heap.size + 1) 23 (B.map bv) ∧ Save g w wr) (fun i _ => n - (intOf i).toNat)
  case atStart => exact ⟨0, List.replicate 32 0, by omega, rfl, by simp, fun h => absurd rfl h, by rw [halfX_zero]; exact H2, HQ2, HB2, hS2⟩
  case round =>
    clear H2 HQ2 HB2 hS2
    obtain ⟨j, B, hj, rfl, hB, hBk, H, HQ, HB, hS⟩ := hrel
    by_cases hlt : j < n
    · obtain ⟨r, hr⟩ : ∃ r, r = j % 32 := ⟨_, rfl⟩
      have hrI : (j : Int) % 32 = (r : Int) := by omega
      have hr32 : r < 32 := by omega
      have HJ := Lib.hid (And.intro hr (show j < l.length by rw [HL.out]; exact hlt))
      by_cases hm : r = 0
      · subst hm
        have hmi : (j : Int) % 32 = 0 := hrI
        obtain ⟨R, hR⟩ : ∃ R, R = ksN k (j / 32) := ⟨_, rfl⟩
        have hRl : R.length = 32 := by rw [hR, ksN_len]
        have KS0 := streamBlock k HK.out (j / 32) (by omega) wr (hT.save hS hG)
        rw [← hR, show ((j / 32 : Nat) : Int) = (j : Int) / 32 by omega] at KS0
        have KS := Lib.hid KS0
        have HR := Lib.hid (And.intro hR hRl)
        clear hR hRl KS0 hr hBk
        go_wp2_with ((with_reducible refine wpList_load_key rfl (.tmp 2) rfl w.heap.size rfl k HK.out HQ ?_))
        refine (KS.out).mono ?_
        rintro e w4 ⟨rfl, hb4⟩
        have H4 := H.keep hb4 H.lt
        have HQ4 := HQ.keep hb4 HQ.lt
        have HB4 := HB.keep hb4 HB.lt
        have hS4 := hS.trans (Save.of_below hb4)
        clear KS H HQ HB hS hb4
        go_wp2_with ((with_reducible refine wpList_store_key rfl (.tmp 4) (.tmp 17) rfl (w.heap.size + 1) rfl R HR.out.2 rfl (B.map bv) HB4 (by rw [List.length_map, hB]) ?_); intro w5 o5 HB5)
        have H5 := H4.only o5 (by omega)
        have HQ5 := HQ4.only o5 (by omega)
        have hS5 := hS4.new o5 (by omega)
        have HBL := Lib.hid HR.out.2
        clear o5 H4 HQ4 HB4 hS4
        obtain ⟨x, hx⟩ : ∃ x, x = l.getD j 0 := ⟨_, rfl⟩
        obtain ⟨y, hy⟩ : ∃ y, y = R.getD 0 0 := ⟨_, rfl⟩
        have cx : w5.cell? ⟨g, j, none⟩ = some (.int .u8 (x.toNat : Int)) := by
          rw [H5.cell, List.getElem?_append_left (by rw [List.length_map, halfX_len]; exact HJ.out.2), List.getElem?_map, halfX_at k l j HJ.out.2, ← hx]
          rfl
        have fx := H5.froz j
        have cy : w5.cell? ⟨w.heap.size + 1, 0, none⟩ = some (.int .u8 (y.toNat : Int)) := by
          rw [HB5.cell, List.getElem?_map, hy, List.getD_eq_getElem?_getD, List.getElem?_eq_getElem (by rw [HBL.out]; omega)]
          rfl
        have hbk : R = ksN k (j / 32) := HR.out.1
        have hset : ((halfX k l j).map bv ++ Z).set j (.int .u8 (bits .xor .u8 (x.toNat : Int) (y.toNat : Int))) = (halfX k l (j + 1)).map bv ++ Z := by
          rw [xor_uu, List.set_append_left _ _ (by rw [List.length_map, halfX_len]; exact HJ.out.2), ← List.map_set, ← halfX_set k l j HJ.out.2, xorAt, ← hx, ← hbk, show j % 32 = 0 from HJ.out.1.symm, ← hy]
        have H6 := H5.set j (.int .u8 (bits .xor .u8 (x.toNat : Int) (y.toNat : Int)))
        rw [hset] at H6
        have HQ6 := HQ5.far ⟨g, j, none⟩ (by show w.heap.size ≠ g; omega) (.int .u8 (bits .xor .u8 (x.toNat : Int) (y.toNat : Int)))
        have HB6 := HB5.far ⟨g, j, none⟩ (by show w.heap.size + 1 ≠ g; omega) (.int .u8 (bits .xor .u8 (x.toNat : Int) (y.toNat : Int)))
        have hS6 := hS5.trans (Only.setCell w5 g j (.int .u8 (bits .xor .u8 (x.toNat : Int) (y.toNat : Int)))).save
        have HEND := Lib.hid (show (j + 1) % 32 ≠ 0 → R = ksN k ((j + 1) / 32) from fun h => by rw [hbk]; congr 1; have := HJ.out.1; omega)
        clear hx hy hset hbk H5 HQ5 HB5 hS5
        try go_simp
        go_region
        go_wp2
        go_roundw
        case rel => exact ⟨j + 1, R, by omega, by go_num, HBL.out, HEND.out, H6, HQ6, HB6, hS6.drew⟩
        case measure => simp [intOf]; omega
      · have hmi : ¬ (j : Int) % 32 = 0 := by omega
        have HBK := Lib.hid (hBk (by omega))
        have HBL := Lib.hid hB
        clear hr hBk
        go_wp2
        obtain ⟨w5, hw5⟩ : ∃ x : World, x = wr := ⟨_, rfl⟩
        rw [← hw5] at H HQ HB hS ⊢
        have H5 := H
        have HQ5 := HQ
        have HB5 := HB
        have hS5 := hS
        clear H HQ HB hS hw5
        obtain ⟨x, hx⟩ : ∃ x, x = l.getD j 0 := ⟨_, rfl⟩
        obtain ⟨y, hy⟩ : ∃ y, y = B.getD r 0 := ⟨_, rfl⟩
        have cx : w5.cell? ⟨g, j, none⟩ = some (.int .u8 (x.toNat : Int)) := by
          rw [H5.cell, List.getElem?_append_left (by rw [List.length_map, halfX_len]; exact HJ.out.2), List.getElem?_map, halfX_at k l j HJ.out.2, ← hx]
          rfl
        have fx := H5.froz j
        have cy : w5.cell? ⟨w.heap.size + 1, r, none⟩ = some (.int .u8 (y.toNat : Int)) := by
          rw [HB5.cell, List.getElem?_map, hy, List.getD_eq_getElem?_getD, List.getElem?_eq_getElem (by rw [HBL.out]; omega)]
          rfl
        have hbk : B = ksN k (j / 32) := HBK.out
        have hset : ((halfX k l j).map bv ++ Z).set j (.int .u8 (bits .xor .u8 (x.toNat : Int) (y.toNat : Int))) = (halfX k l (j + 1)).map bv ++ Z := by
          rw [xor_uu, List.set_append_left _ _ (by rw [List.length_map, halfX_len]; exact HJ.out.2), ← List.map_set, ← halfX_set k l j HJ.out.2, xorAt, ← hx, ← hbk, show j % 32 = r from HJ.out.1.symm, ← hy]
        have H6 := H5.set j (.int .u8 (bits .xor .u8 (x.toNat : Int) (y.toNat : Int)))
        rw [hset] at H6
        have HQ6 := HQ5.far ⟨g, j, none⟩ (by show w.heap.size ≠ g; omega) (.int .u8 (bits .xor .u8 (x.toNat : Int) (y.toNat : Int)))
        have HB6 := HB5.far ⟨g, j, none⟩ (by show w.heap.size + 1 ≠ g; omega) (.int .u8 (bits .xor .u8 (x.toNat : Int) (y.toNat : Int)))
        have hS6 := hS5.trans (Only.setCell w5 g j (.int .u8 (bits .xor .u8 (x.toNat : Int) (y.toNat : Int)))).save
        have HEND := Lib.hid (show (j + 1) % 32 ≠ 0 → B = ksN k ((j + 1) / 32) from fun h => by rw [hbk]; congr 1; have := HJ.out.1; omega)
        clear hx hy hset hbk H5 HQ5 HB5 hS5
        try go_simp
        go_region
        go_wp2
        go_roundw
        case rel => exact ⟨j + 1, B, by omega, by go_num, HBL.out, HEND.out, H6, HQ6, HB6, hS6.drew⟩
        case measure => simp [intOf]; omega
    · obtain rfl : j = n := by omega
      rw [halfX_end k l j HL.out] at H
      clear hBk
      go_wp2
      go_end0
      exact ⟨rfl, H, hS⟩
set_option maxHeartbeats 400000 in
theorem xorNil (k : List UInt8) (w : World) :
    Calls Tryd.prog 11 #[.agg (k.map bv).toArray, .slice none 0 0] w fun e w' => e = .returned (.tuple #[]) ∧ Below w.heap.size w w' := by
  have hb1 := (Below.refl w.heap.size w).alloc (Nat.le_refl _) (.cells (k.map bv).toArray 23)
  have hb2 := newKey_below hb1 hb1.size
  clear hb1
  go_enter Tryd.func11, Tryd.ntmps11
  go_wp2
  change Code.wp _ _ _ _ ((w.alloc (.cells (k.map bv).toArray 23)).alloc (.cells #[.int .u8 0, .int .u8 0, .int .u8 0, .int .u8 0, .int .u8 0, .int .u8 0, .int .u8 0, .int .u8 0, .int .u8 0, .int .u8 0, .int .u8 0, .int .u8 0, .int .u8 0, .int .u8 0, .int .u8 0, .int .u8 0, .int .u8 0, .int .u8 0, .int .u8 0, .int .u8 0, .int .u8 0, .int .u8 0, .int .u8 0, .int .u8 0, .int .u8 0, .int .u8 0, .int .u8 0, .int .u8 0, .int .u8 0, .int .u8 0, .int .u8 0, .int .u8 0] 23))
  generalize ((w.alloc (.cells (k.map bv).toArray 23)).alloc (.cells #[.int .u8 0, .int .u8 0, .int .u8 0, .int .u8 0, .int .u8 0, .int .u8 0, .int .u8 0, .int .u8 0, .int .u8 0, .int .u8 0, .int .u8 0, .int .u8 0, .int .u8 0, .int .u8 0, .int .u8 0, .int .u8 0, .int .u8 0, .int .u8 0, .int .u8 0, .int .u8 0, .int .u8 0, .int .u8 0, .int .u8 0, .int .u8 0, .int .u8 0, .int .u8 0, .int .u8 0, .int .u8 0, .int .u8 0, .int .u8 0, .int .u8 0, .int .u8 0] 23)) = w2 at *
  go_loopw [8] (fun i wr => i = .int .i64 0 ∧ Below w.heap.size w wr) (fun i _ => 0)
  case atStart => exact ⟨rfl, hb2⟩
  case round =>
    obtain ⟨rfl, hb⟩ := hrel
    go_wp2
    go_end0
    exact ⟨rfl, hb⟩
theorem xorOwn (k : List UInt8) (hk : k.length = 32) (base n : Nat) (v : Value) (l : List UInt8) (hn : n ≤ 70368744177664) (w : World) (hown : w.ownsRow base 5 1 v n (l.map bv)) (hbase : base ≤ w.heap.size) (hT : Tab w) (hG : 0 < base) :
    Calls Tryd.prog 11 #[.agg (k.map bv).toArray, v] w fun e w' => e = .returned (.tuple #[]) ∧ w'.ownsRow base 5 1 v n ((xorN k l).map bv) ∧ Below base w w' := by
  have hln : l.length = n := by simpa using hown.1
  rcases hown.2 with ⟨rfl, h0⟩ | ⟨g, cap, cur, rfl, h2, h3, h4, h5, h6, h7⟩
  · subst h0
    obtain rfl : l = [] := List.eq_nil_of_length_eq_zero hln
    refine (xorNil k w).mono ?_
    rintro e w' ⟨he, hb⟩
    exact ⟨he, by simpa [xorN] using World.ownsRow_nil w' base 5 1, hb.mono hbase⟩
  · rw [Nat.mul_one] at h6 h7
    have H : Has w g 5 (l.map bv ++ cur.toList.drop n) := by
      rw [Has, h3, ← h7, List.take_append_drop]
    refine (xorHas k hk g n cap l _ hln hn h4 w H hT (by omega)).mono ?_
    rintro e w' ⟨he, H', hS⟩
    refine ⟨he, ⟨by simp [xorN_len, hln], .inr ⟨g, cap, _, rfl, h2, H', h4, h5, ?_, ?_⟩⟩, Save.below (Below.refl _ _) hS h2 hbase⟩
    · simp [xorN_len, hln]; omega
    · rw [Nat.mul_one, List.take_left' (by rw [List.length_map, xorN_len, hln])]
end sealing
end Go.Proofs.YtekpekmfddbiaaaDoor
