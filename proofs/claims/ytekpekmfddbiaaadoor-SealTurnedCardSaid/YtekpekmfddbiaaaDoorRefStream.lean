/-
  Contracts of the reference's stream and tag.
-/
import Derived.Test.YtekpekmfddbiaaaDoorSealXor
import Derived.Test.YtekpekmfddbiaaaDoorSealTag
import Derived.Test.YtekpekmfddbiaaaDoorRefMac
namespace Go.Proofs.YtekpekmfddbiaaaDoor
open Go.ChangeShapes Go.WideShapes Go.ChangeAt Go.RowKit
set_option linter.unusedVariables false
set_option linter.unusedSimpArgs false

theorem own_keep' {w w' : World} {base : Nat} {e : TypeId} {v : Value} {n : Nat} {xs : List Value} (h : w.ownsRow base e 1 v n xs) (hb : Below w.heap.size w w') : w'.ownsRow base e 1 v n xs :=
  h.kept (row := none) ⟨hb.os, hb.tape, hb.output, hb.size, fun k hk _ => hb.block k hk⟩ (by cases hv : v.ownBlock <;> simp)
/-- A row of the call's own as a block that is known whole. -/
theorem own_block {w : World} {base n g c : Nat} {e : TypeId} {xs : List Value} (h : w.ownsRow base e 1 (.slice (some ⟨g, 0, none⟩) n c) n xs) : ∃ Z, Has w g e (xs ++ Z) ∧ n ≤ c ∧ c ≤ maxLen ∧ n + Z.length = c := by
  have h1 := h.1
  rw [Nat.mul_one] at h1
  rcases h.2 with ⟨h2, _⟩ | ⟨g', cap, cur, h2, h3, h4, h5, h6, h7, h8⟩
  · cases h2
  · cases h2
    rw [Nat.mul_one] at h7 h8
    refine ⟨cur.toList.drop n, ?_, h5, h6, ?_⟩
    · rw [Has, h4, ← h8, List.take_append_drop]
    · rw [List.length_drop, Array.length_toList]; omega
/-- And back. -/
theorem block_own {w : World} {base n g c : Nat} {e : TypeId} {xs Z : List Value} (H : Has w g e (xs ++ Z)) (hx : xs.length = n) (hc : n ≤ c) (hm : c ≤ maxLen) (hz : n + Z.length = c) (hg : base ≤ g) : w.ownsRow base e 1 (.slice (some ⟨g, 0, none⟩) n c) n xs :=
  ⟨by rw [Nat.mul_one, hx], .inr ⟨g, c, _, rfl, hg, H, hc, hm, by simp; omega, by rw [Nat.mul_one, List.take_left' hx]⟩⟩

theorem splice_all {α : Type} (L r : List α) (h : r.length = L.length) : splice L 0 r = r := by
  rw [splice, List.take_zero, List.nil_append, List.drop_of_length_le (by omega), List.append_nil]

namespace refSeal
set_option maxRecDepth 10000 in
set_option maxHeartbeats 1000000 in
theorem streamNil (k : List UInt8) (A : Option Addr) (c : Nat) (w : World) (hl : Bytes w A 0 c []) :
    Calls Tryd.prog 14 #[.agg (k.map bv).toArray, .slice A 0 c] w fun e w' => ∃ v, e = .returned v ∧ w'.ownsRow w.heap.size 5 1 v 0 [] ∧ Below w.heap.size w w' := by
  have hb1 := (Below.refl w.heap.size w).alloc (Nat.le_refl _) (.cells (k.map bv).toArray 23)
  have hl1 := hl.keep hb1
  go_enter Tryd.func14, Tryd.ntmps14
  go_wp2_with (at_builtin; (refine app8 rfl (.const (.slice none 0 0)) (.tmp 8) rfl w.heap.size (.slice none 0 0) 0 [] rfl (World.ownsRow_nil _ _ _ _) A 0 c [] rfl hl1 (by omega) hb1.size ?_); intro v2 w2 hown2 hg2)
  obtain ⟨A2, c2, rfl, hr2⟩ := Row.own hown2
  have hb2 : Below w.heap.size w w2 := hb1.grown hg2 hb1.size (fun k hk => by cases hk)
  have hb3 := newKey_below hb2 hb2.size
  have hown3 : (w2.alloc (.cells #[.int .u8 0, .int .u8 0, .int .u8 0, .int .u8 0, .int .u8 0, .int .u8 0, .int .u8 0, .int .u8 0, .int .u8 0, .int .u8 0, .int .u8 0, .int .u8 0, .int .u8 0, .int .u8 0, .int .u8 0, .int .u8 0, .int .u8 0, .int .u8 0, .int .u8 0, .int .u8 0, .int .u8 0, .int .u8 0, .int .u8 0, .int .u8 0, .int .u8 0, .int .u8 0, .int .u8 0, .int .u8 0, .int .u8 0, .int .u8 0, .int .u8 0, .int .u8 0] 23)).ownsRow w.heap.size 5 1 (.slice A2 0 c2) 0 [] := own_keep' hown2 (newKey_below (Below.refl _ _) (Nat.le_refl _))
  go_loopw [7] (fun i wr => i = .int .i64 0 ∧ wr = w2.alloc (.cells #[.int .u8 0, .int .u8 0, .int .u8 0, .int .u8 0, .int .u8 0, .int .u8 0, .int .u8 0, .int .u8 0, .int .u8 0, .int .u8 0, .int .u8 0, .int .u8 0, .int .u8 0, .int .u8 0, .int .u8 0, .int .u8 0, .int .u8 0, .int .u8 0, .int .u8 0, .int .u8 0, .int .u8 0, .int .u8 0, .int .u8 0, .int .u8 0, .int .u8 0, .int .u8 0, .int .u8 0, .int .u8 0, .int .u8 0, .int .u8 0, .int .u8 0, .int .u8 0] 23)) (fun i _ => 0)
  case atStart => exact ⟨rfl, rfl⟩
  case round =>
    obtain ⟨rfl, rfl⟩ := hrel
    go_wp2
    go_ret
    exact ⟨_, rfl, hown3, hb3⟩
set_option maxRecDepth 10000 in
set_option maxHeartbeats 1000000 in
theorem streamSome (k : List UInt8) (hk : k.length = 32) (A : Option Addr) (n c : Nat) (l : List UInt8) (h0 : 0 < n) (hn : n ≤ 70368744177600) (w : World) (hl : Bytes w A n c l) :
    Calls Tryd.prog 14 #[.agg (k.map bv).toArray, .slice A n c] w fun e w' => ∃ v, e = .returned v ∧ w'.ownsRow w.heap.size 5 1 v n ((xorN k l).map bv) ∧ Below w.heap.size w w' := by
  have hb1 := (Below.refl w.heap.size w).alloc (Nat.le_refl _) (.cells (k.map bv).toArray 23)
  have HQ1 := Has.new w 23 (k.map bv)
  have hl1 := hl.keep hb1
  have HL := Lib.hid hl.len
  have HKL := Lib.hid hk
  have HB := Lib.hid (show 0 + n ≤ 140737488355328 by omega)
  have HN := Lib.hid (show 0 < 0 + n by omega)
  go_enter Tryd.func14, Tryd.ntmps14
  go_wp2_with (at_builtin; (refine app8 rfl (.const (.slice none 0 0)) (.tmp 8) rfl (w.heap.size + 1) (.slice none 0 0) 0 [] rfl (World.ownsRow_nil _ _ _ _) A n c l rfl hl1 HB.out (by simp) ?_); intro v2 w2 hown2 hg2; have hb2 : Below w.heap.size w w2 := hb1.grown hg2 hb1.size (fun k hk => by cases hk); have HQ2 := HQ1.grown hg2 (fun e => by cases e); obtain ⟨g2, c2, rfl, hgb2, hgs2, hr2⟩ := own_some hown2 HN.out)
  rw [Nat.zero_add, List.nil_append] at hown2
  obtain ⟨Z, H2, hc2, hcm2, hz2⟩ := own_block hown2
  have HQ3 := HQ2.alloc (.cells #[.int .u8 0, .int .u8 0, .int .u8 0, .int .u8 0, .int .u8 0, .int .u8 0, .int .u8 0, .int .u8 0, .int .u8 0, .int .u8 0, .int .u8 0, .int .u8 0, .int .u8 0, .int .u8 0, .int .u8 0, .int .u8 0, .int .u8 0, .int .u8 0, .int .u8 0, .int .u8 0, .int .u8 0, .int .u8 0, .int .u8 0, .int .u8 0, .int .u8 0, .int .u8 0, .int .u8 0, .int .u8 0, .int .u8 0, .int .u8 0, .int .u8 0, .int .u8 0] 23)
  have H3 := H2.alloc (.cells #[.int .u8 0, .int .u8 0, .int .u8 0, .int .u8 0, .int .u8 0, .int .u8 0, .int .u8 0, .int .u8 0, .int .u8 0, .int .u8 0, .int .u8 0, .int .u8 0, .int .u8 0, .int .u8 0, .int .u8 0, .int .u8 0, .int .u8 0, .int .u8 0, .int .u8 0, .int .u8 0, .int .u8 0, .int .u8 0, .int .u8 0, .int .u8 0, .int .u8 0, .int .u8 0, .int .u8 0, .int .u8 0, .int .u8 0, .int .u8 0, .int .u8 0, .int .u8 0] 23)
  have HB3 := newKey w2
  have hb3 := newKey_below hb2 hb2.size
  have HW := Lib.hid (And.intro hc2 (And.intro hcm2 hz2))
  have h2s := hb2.size
  have hq2 := HQ2.lt
  have hzn : ((0 + n : Nat) : Int) = (n : Int) := by omega
  clear hown2 hg2 hr2 hb1 HQ1 hl1 hb2 HQ2 H2 hcm2 hz2
  try simp only [Nat.zero_add]
  change Code.wp _ _ _ _ (w2.alloc (.cells #[.int .u8 0, .int .u8 0, .int .u8 0, .int .u8 0, .int .u8 0, .int .u8 0, .int .u8 0, .int .u8 0, .int .u8 0, .int .u8 0, .int .u8 0, .int .u8 0, .int .u8 0, .int .u8 0, .int .u8 0, .int .u8 0, .int .u8 0, .int .u8 0, .int .u8 0, .int .u8 0, .int .u8 0, .int .u8 0, .int .u8 0, .int .u8 0, .int .u8 0, .int .u8 0, .int .u8 0, .int .u8 0, .int .u8 0, .int .u8 0, .int .u8 0, .int .u8 0] 23))
  generalize (w2.alloc (.cells #[.int .u8 0, .int .u8 0, .int .u8 0, .int .u8 0, .int .u8 0, .int .u8 0, .int .u8 0, .int .u8 0, .int .u8 0, .int .u8 0, .int .u8 0, .int .u8 0, .int .u8 0, .int .u8 0, .int .u8 0, .int .u8 0, .int .u8 0, .int .u8 0, .int .u8 0, .int .u8 0, .int .u8 0, .int .u8 0, .int .u8 0, .int .u8 0, .int .u8 0, .int .u8 0, .int .u8 0, .int .u8 0, .int .u8 0, .int .u8 0, .int .u8 0, .int .u8 0] 23)) = w3 at *
  generalize w2.heap.size = gb at *
  go_loopw [7] (fun i wr => ∃ (j : Nat) (B : List UInt8), j ≤ n ∧ i = .int .i64 j ∧ B.length = 32 ∧ (j % 32 ≠ 0 → B = ksN k (j / 32)) ∧ Has wr g2 5 ((halfX k l j).map bv ++ Z) ∧ Has wr w.heap.size 23 (k.map bv) ∧ Has wr gb 23 (B.map bv) ∧ Below w.heap.size w wr) (fun i _ => n - (intOf i).toNat)
  case atStart => exact ⟨0, List.replicate 32 0, by omega, rfl, by simp, fun h => absurd rfl h, by rw [halfX_zero]; exact H3, HQ3, HB3, hb3⟩
  case round =>
    clear H3 HQ3 HB3 hb3
    obtain ⟨j, B, hj, rfl, hB, hBk, H, HQ, HB, hb⟩ := hrel
    by_cases hlt : j < n
    · obtain ⟨r, hr⟩ : ∃ r, r = j % 32 := ⟨_, rfl⟩
      have hrI : (j : Int) % 32 = (r : Int) := by omega
      have hr32 : r < 32 := by omega
      have HJ := Lib.hid (And.intro hr (show j < l.length by rw [HL.out]; exact hlt))
      by_cases hm : r = 0
      · subst hm
        have hmi : (j : Int) % 32 = 0 := hrI
        clear hr hBk
        go_wp2
        have hbl : Below wr.heap.size wr (wr.alloc (.cells #[.int .u8 115] 5)).drew := ((Below.refl _ _).alloc (Nat.le_refl _) _).drew
        have ew : IntKind.u64.wrap ((j : Int) / 32) = (j : Int) / 32 := by simp only [IntKind.wrap_u64]; omega
        have ew2 : IntKind.i64.wrap ((j : Int) / 32) = (j : Int) / 32 := by rw [IntKind.wrap_i64]; omega
        have KP0 := refPut.put64 (some ⟨wr.heap.size, 0, none⟩) 1 1 [115] (j / 32) (wr.alloc (.cells #[.int .u8 115] 5)).drew ((litK wr 115 (by omega)).keep (Below.refl _ _).drew) (by omega) (by omega)
        rw [show ((j / 32 : Nat) : Int) = (j : Int) / 32 by omega] at KP0
        have KP := Lib.hid KP0
        obtain ⟨R, hR⟩ : ∃ R, R = ksN k (j / 32) := ⟨_, rfl⟩
        have hRl : R.length = 32 := by rw [hR, ksN_len]
        have KM := Lib.hid (fun (A9 : Option Addr) (c9 : Nat) (u : World) (hu : Below wr.heap.size wr u) (h : Row u A9 9 c9 (([115] ++ be64 (j / 32)).map bv)) => show Calls Tryd.prog 20 #[.slice (some ⟨w.heap.size, 0, none⟩) 32 32, .slice A9 9 c9] u fun e w' => e = .returned (.agg (R.map bv).toArray) ∧ Below u.heap.size u w' by
          rw [hR]
          exact refMac.Mac _ 32 32 k A9 9 c9 _ u ((HQ.bytes 32 HKL.out (by simp [maxLen])).keep hu) h (by omega) (by omega))
        have HBL0 := Lib.hid hbl
        have HZ := Lib.hid (fun (u : World) (hu : Below wr.heap.size wr u) => HB.keep hu HB.lt)
        have HCT := Lib.hid (fun (u : World) (h : Has u gb 23 (B.map bv)) => Has.there h 0 (R.map bv).length (by rw [List.length_map, List.length_map, hRl, hB]; decide))
        have hu2 := Tryd.underlying23
        have hi2 : (Tryd.prog.info? 23).map (·.size) = some (R.map bv).length := by rw [List.length_map, hRl]; exact size_key
        have hone2 := one_bv R
        have HR := Lib.hid (And.intro hR hRl)
        have H' := Lib.hid H
        have HQ' := Lib.hid HQ
        have hb' := Lib.hid hb
        clear hR hRl hbl KP0 H HQ HB hb
        go_region_held (fun _ => True) (trivial)
          (first
          | (go_at_call 21; with_reducible refine (KP.out).mono ?_; rintro e w9 ⟨v9, rfl, hown9, hb9⟩; obtain ⟨A9, c9, rfl, hr9⟩ := Row.own hown9; have hB9 := HBL0.out.trans (hb9.mono HBL0.out.size))
          | (go_at_call 20; with_reducible refine (KM.out A9 c9 w9 hB9 hr9).mono ?_; rintro e w10 ⟨rfl, hb10⟩; have hB10 := hB9.trans (hb10.mono hB9.size); have HB10 := HZ.out w10 hB10; have hth := HCT.out w10 HB10))
        have HBL := Lib.hid HR.out.2
        have o5 := Only.setCells gb (R.map bv) 0 w10
        have HB5 := Has.setCells (R.map bv) 0 w10 _ HB10 (by rw [List.length_map, List.length_map, HR.out.2, hB]; decide)
        rw [splice_all _ _ (by rw [List.length_map, List.length_map, HR.out.2, hB])] at HB5
        have H5 := (H'.out.keep hB10 H'.out.lt).only o5 (by omega)
        have HQ5 := (HQ'.out.keep hB10 HQ'.out.lt).only o5 (by omega)
        have hb5 := o5.below (hb'.out.trans (hB10.mono hb'.out.size)) h2s
        clear hth HB10 hu2 hi2 hone2 KP KM HZ HCT HBL0 H' HQ' hb' ew ew2 hb10 hB10 hb9 hB9 hown9 hr9 o5
        go_wp2
        change Code.wp _ _ _ _ (w10.setCells gb 0 (R.map bv))
        generalize w10.setCells gb 0 (R.map bv) = w5 at *
        obtain ⟨x, hx⟩ : ∃ x, x = l.getD j 0 := ⟨_, rfl⟩
        obtain ⟨y, hy⟩ : ∃ y, y = R.getD 0 0 := ⟨_, rfl⟩
        have cx : w5.cell? ⟨g2, j, none⟩ = some (.int .u8 (x.toNat : Int)) := by
          rw [H5.cell, List.getElem?_append_left (by rw [List.length_map, halfX_len]; exact HJ.out.2), List.getElem?_map, halfX_at k l j HJ.out.2, ← hx]
          rfl
        have fx := H5.froz j
        have cy : w5.cell? ⟨gb, 0, none⟩ = some (.int .u8 (y.toNat : Int)) := by
          rw [HB5.cell, List.getElem?_map, hy, List.getD_eq_getElem?_getD, List.getElem?_eq_getElem (by rw [HBL.out]; omega)]
          rfl
        have hbk : R = ksN k (j / 32) := HR.out.1
        have hset : ((halfX k l j).map bv ++ Z).set j (.int .u8 (bits .xor .u8 (x.toNat : Int) (y.toNat : Int))) = (halfX k l (j + 1)).map bv ++ Z := by
          rw [xor_uu, List.set_append_left _ _ (by rw [List.length_map, halfX_len]; exact HJ.out.2), ← List.map_set, ← halfX_set k l j HJ.out.2, xorAt, ← hx, ← hbk, show j % 32 = 0 from HJ.out.1.symm, ← hy]
        have H6 := H5.set j (.int .u8 (bits .xor .u8 (x.toNat : Int) (y.toNat : Int)))
        rw [hset] at H6
        have HQ6 := HQ5.far ⟨g2, j, none⟩ (by show w.heap.size ≠ g2; omega) (.int .u8 (bits .xor .u8 (x.toNat : Int) (y.toNat : Int)))
        have HB6 := HB5.far ⟨g2, j, none⟩ (by show gb ≠ g2; omega) (.int .u8 (bits .xor .u8 (x.toNat : Int) (y.toNat : Int)))
        have hb6 := hb5.setCell (p := ⟨g2, j, none⟩) (by show w.heap.size ≤ g2; omega) (.int .u8 (bits .xor .u8 (x.toNat : Int) (y.toNat : Int)))
        have HEND := Lib.hid (show (j + 1) % 32 ≠ 0 → R = ksN k ((j + 1) / 32) from fun h => by rw [hbk]; congr 1; have := HJ.out.1; omega)
        clear hx hy hset hbk H5 HQ5 HB5 hb5
        try go_simp
        go_region
        go_wp2
        go_roundw
        case rel => exact ⟨j + 1, R, by omega, by go_num, HBL.out, HEND.out, H6, HQ6, HB6, hb6.drew⟩
        case measure => simp [intOf]; omega
      · have hmi : ¬ (j : Int) % 32 = 0 := by omega
        have HBK := Lib.hid (hBk (by omega))
        have HBL := Lib.hid hB
        clear hr hBk
        go_wp2
        obtain ⟨w5, hw5⟩ : ∃ x : World, x = wr := ⟨_, rfl⟩
        rw [← hw5] at H HQ HB hb ⊢
        have H5 := H
        have HQ5 := HQ
        have HB5 := HB
        have hb5 := hb
        clear H HQ HB hb hw5
        obtain ⟨x, hx⟩ : ∃ x, x = l.getD j 0 := ⟨_, rfl⟩
        obtain ⟨y, hy⟩ : ∃ y, y = B.getD r 0 := ⟨_, rfl⟩
        have cx : w5.cell? ⟨g2, j, none⟩ = some (.int .u8 (x.toNat : Int)) := by
          rw [H5.cell, List.getElem?_append_left (by rw [List.length_map, halfX_len]; exact HJ.out.2), List.getElem?_map, halfX_at k l j HJ.out.2, ← hx]
          rfl
        have fx := H5.froz j
        have cy : w5.cell? ⟨gb, r, none⟩ = some (.int .u8 (y.toNat : Int)) := by
          rw [HB5.cell, List.getElem?_map, hy, List.getD_eq_getElem?_getD, List.getElem?_eq_getElem (by rw [HBL.out]; omega)]
          rfl
        have hbk : B = ksN k (j / 32) := HBK.out
        have hset : ((halfX k l j).map bv ++ Z).set j (.int .u8 (bits .xor .u8 (x.toNat : Int) (y.toNat : Int))) = (halfX k l (j + 1)).map bv ++ Z := by
          rw [xor_uu, List.set_append_left _ _ (by rw [List.length_map, halfX_len]; exact HJ.out.2), ← List.map_set, ← halfX_set k l j HJ.out.2, xorAt, ← hx, ← hbk, show j % 32 = r from HJ.out.1.symm, ← hy]
        have H6 := H5.set j (.int .u8 (bits .xor .u8 (x.toNat : Int) (y.toNat : Int)))
        rw [hset] at H6
        have HQ6 := HQ5.far ⟨g2, j, none⟩ (by show w.heap.size ≠ g2; omega) (.int .u8 (bits .xor .u8 (x.toNat : Int) (y.toNat : Int)))
        have HB6 := HB5.far ⟨g2, j, none⟩ (by show gb ≠ g2; omega) (.int .u8 (bits .xor .u8 (x.toNat : Int) (y.toNat : Int)))
        have hb6 := hb5.setCell (p := ⟨g2, j, none⟩) (by show w.heap.size ≤ g2; omega) (.int .u8 (bits .xor .u8 (x.toNat : Int) (y.toNat : Int)))
        have HEND := Lib.hid (show (j + 1) % 32 ≠ 0 → B = ksN k ((j + 1) / 32) from fun h => by rw [hbk]; congr 1; have := HJ.out.1; omega)
        clear hx hy hset hbk H5 HQ5 HB5 hb5
        try go_simp
        go_region
        go_wp2
        go_roundw
        case rel => exact ⟨j + 1, B, by omega, by go_num, HBL.out, HEND.out, H6, HQ6, HB6, hb6.drew⟩
        case measure => simp [intOf]; omega
    · obtain rfl : j = n := by omega
      rw [halfX_end k l j HL.out] at H
      clear hBk
      go_wp2
      go_ret
      exact ⟨_, rfl, block_own H (by rw [List.length_map, xorN_len, HL.out]) HW.out.1 HW.out.2.1 HW.out.2.2 (by omega), hb⟩
theorem stream (k : List UInt8) (hk : k.length = 32) (A : Option Addr) (n c : Nat) (l : List UInt8) (hn : n ≤ 70368744177600) (w : World) (hl : Bytes w A n c l) :
    Calls Tryd.prog 14 #[.agg (k.map bv).toArray, .slice A n c] w fun e w' => ∃ v, e = .returned v ∧ w'.ownsRow w.heap.size 5 1 v n ((xorN k l).map bv) ∧ Below w.heap.size w w' := by
  by_cases h0 : 0 < n
  · exact streamSome k hk A n c l h0 hn w hl
  · obtain rfl : n = 0 := by omega
    obtain rfl : l = [] := List.eq_nil_of_length_eq_zero hl.len
    exact streamNil k A c w hl
end refSeal
end Go.Proofs.YtekpekmfddbiaaaDoor
