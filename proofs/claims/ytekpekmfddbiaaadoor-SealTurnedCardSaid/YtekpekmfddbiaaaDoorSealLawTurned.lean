/-
  SealTurned: the walk.
-/
import Derived.Test.YtekpekmfddbiaaaDoorSealLaw
import Derived.Deep.Cut
import Derived.Laws.Bits128
namespace Go.Proofs.YtekpekmfddbiaaaDoor
open Go.ChangeShapes Go.WideShapes Go.ChangeAt Go.RowKit
set_option linter.unusedVariables false
set_option linter.unusedSimpArgs false

theorem and7 (y : Int) : ∃ r : Nat, bits .and .i64 y 7 = (r : Int) ∧ r < 8 := by
  have e : bits .and .i64 y 7 = y % 8 := by
    have h7 : (BitVec.ofInt 64 7).toNat = 2 ^ 3 - 1 := by decide
    have key : (BitVec.ofInt 64 y &&& BitVec.ofInt 64 7).toNat = (y % ((2 ^ 64 : Nat) : Int)).toNat % 2 ^ 3 := by
      rw [BitVec.toNat_and, BitVec.toNat_ofInt, h7, Nat.and_two_pow_sub_one_eq_mod]
    show IntKind.i64.wrap ((BitVec.ofInt 64 y &&& BitVec.ofInt 64 7).toNat : Nat) = y % 8
    rw [key, IntKind.wrap_i64]
    omega
  exact ⟨(y % 8).toNat, by rw [e]; omega, by omega⟩

theorem Has.type {w : World} {g : Nat} {t t' : TypeId} {cs cs' : List Value} (h : Has w g t cs) (h' : Has w g t' cs') : t = t' := by
  have e := h.symm.trans h'
  injection e with e1
  injection e1

/-- A row of the call's own lies off a key. -/
theorem own_off_key {w : World} {base n c g : Nat} {A : Option Addr} {xs cs : List Value} (h : w.ownsRow base 5 1 (.slice A n c) n xs) (H : Has w g 23 cs) : Off g A n := by
  intro _ p hp e
  subst hp
  rcases h.2 with ⟨h1, _⟩ | ⟨g', cap, cur, h1, _, hg, _⟩
  · cases h1
  · cases h1
    obtain rfl : g' = g := e
    rw [Has, hg] at H
    cases H

namespace sealTurnedLaw
set_option maxHeartbeats 400000 in
theorem out (k : List UInt8) (hk : k.length = 32) (A : Option Addr) (n c : Nat) (B : Option Addr) (m d : Nat) (z y : Int) (w : World) (hT : Tab w) (h : 100 < n ∨ 100 < m ∨ z < 0) :
    Calls Tryd.prog 5 #[.agg (k.map bv).toArray, .slice A n c, .slice B m d, .int .i64 z, .int .i64 y] w fun e w' => e = .returned (.bool true) ∧ Below w.heap.size w w' := by
  have hb0 := (Below.refl w.heap.size w).alloc (Nat.le_refl _) (.cells (k.map bv).toArray 23)
  have K := Lib.hid (sealLaw.alive _ (hT.keep hb0))
  by_cases h1 : 100 < n
  · have h1' : (100 : Int) < (n : Int) := by omega
    go_enter Tryd.func5, Tryd.ntmps5
    go_wp2_with fail
    refine (K.out).mono ?_
    rintro e w2 ⟨rfl, hb⟩
    go_wp2_with fail
    go_ret
    exact ⟨rfl, hb0.trans (hb.mono hb0.size)⟩
  · have h1' : ¬ (100 : Int) < (n : Int) := by omega
    by_cases h2 : 100 < m
    · have h2' : (100 : Int) < (m : Int) := by omega
      go_enter Tryd.func5, Tryd.ntmps5
      go_wp2_with fail
      refine (K.out).mono ?_
      rintro e w2 ⟨rfl, hb⟩
      go_wp2_with fail
      go_ret
      exact ⟨rfl, hb0.trans (hb.mono hb0.size)⟩
    · have h2' : ¬ (100 : Int) < (m : Int) := by omega
      have h3' : z < 0 := by omega
      go_enter Tryd.func5, Tryd.ntmps5
      go_wp2_with fail
      refine (K.out).mono ?_
      rintro e w2 ⟨rfl, hb⟩
      go_wp2_with fail
      go_ret
      exact ⟨rfl, hb0.trans (hb.mono hb0.size)⟩
set_option maxRecDepth 10000 in
set_option maxHeartbeats 4000000 in
theorem inn (k : List UInt8) (hk : k.length = 32) (A : Option Addr) (n c : Nat) (l : List UInt8) (B : Option Addr) (m d : Nat) (l' : List UInt8) (t : Nat) (y : Int) (w : World) (hl : Bytes w A n c l) (hl' : Bytes w B m d l') (hT : Tab w) (hn : n ≤ 100) (hm : m ≤ 100) (ht : t ≤ 9223372036854775807) :
    Calls Tryd.prog 5 #[.agg (k.map bv).toArray, .slice A n c, .slice B m d, .int .i64 (t : Int), .int .i64 y] w fun e w' => e = .returned (.bool true) ∧ Below w.heap.size w w' := by
  have hb0 := (Below.refl w.heap.size w).alloc (Nat.le_refl _) (.cells (k.map bv).toArray 23)
  have HQ0 := Has.new w 23 (k.map bv)
  have K := Lib.hid (sealLaw.alive _ (hT.keep hb0))
  have h1' : ¬ (100 : Int) < (n : Int) := by omega
  have h2' : ¬ (100 : Int) < (m : Int) := by omega
  have h3' : ¬ (t : Int) < 0 := by omega
  have HKL := Lib.hid hk
  have HT := Lib.hid hT
  have HL := Lib.hid (And.intro hl hl')
  have HNM := Lib.hid (And.intro hn hm)
  have HBA := Lib.hid (show 0 + n ≤ 140737488355328 by omega)
  obtain ⟨X, hX⟩ : ∃ X, X = sealN k l l' := ⟨_, rfl⟩
  have hXl : X.length = m + 16 := by rw [hX, sealN_len, hl'.len]
  go_enter Tryd.func5, Tryd.ntmps5
  go_wp2_with fail
  refine (K.out).mono ?_
  rintro e w2 ⟨rfl, hb⟩
  have HQ2 := HQ0.keep hb HQ0.lt
  have hb2 := hb0.trans (hb.mono hb0.size)
  have KS0 := sealing.Seal k HKL.out A n c l B m d l' (by omega) (by omega) w2 (hl.keep hb2) (hl'.keep hb2) (hT.keep hb2)
  rw [← hX] at KS0
  have KS := Lib.hid KS0
  have HX := Lib.hid hXl
  clear K HQ0 hb hb0 KS0 hX hXl
  go_wp2_with ((with_reducible refine wpList_load_key rfl (.tmp 5) rfl w.heap.size rfl k HKL.out HQ2 ?_))
  refine (KS.out).mono ?_
  rintro e w3 ⟨g, rfl, hg3, H3, hb3⟩
  have hbw3 := hb2.trans (hb3.mono hb2.size)
  have HQ3 := HQ2.keep hb3 HQ2.lt
  have HLA := Lib.hid (hl.keep hbw3)
  have h3s := hb3.size
  have hg3l := H3.lt
  have h2s := hb2.size
  have hq2 := HQ2.lt
  clear KS HQ2 hb2 hb3 hl hl'
  obtain ⟨r, hbit, hr8⟩ := and7 y
  have ewr : IntKind.u64.wrap (r : Int) = (r : Int) := by rw [IntKind.wrap_u64]; omega
  go_upto_region 9 with (first
    | (at_builtin; (refine app8 rfl (.const (.slice none 0 0)) (.tmp 48) rfl w3.heap.size (.slice none 0 0) 0 [] rfl (World.ownsRow_nil _ _ _ _) A n c l rfl HLA.out HBA.out (Nat.le_refl _) ?_); intro v4 w4 hown4 hg4; rw [Nat.zero_add, List.nil_append] at hown4; have hb34 : Below w3.heap.size w3 w4 := (Below.refl _ _).grown hg4 (Nat.le_refl _) (fun k hk => by cases hk); have hbw4 := hbw3.trans (hb34.mono hbw3.size); have H4 := H3.keep hb34 H3.lt; have HQ4 := HQ3.keep hb34 HQ3.lt; obtain ⟨A4, c4, rfl, hr4⟩ := Row.own hown4)
    | ((with_reducible refine wpList_load_key rfl (.tmp 5) rfl w.heap.size rfl k HKL.out HQ4 ?_); have HZ5 := newKey w4; have H5 := H4.alloc (.cells #[.int .u8 0, .int .u8 0, .int .u8 0, .int .u8 0, .int .u8 0, .int .u8 0, .int .u8 0, .int .u8 0, .int .u8 0, .int .u8 0, .int .u8 0, .int .u8 0, .int .u8 0, .int .u8 0, .int .u8 0, .int .u8 0, .int .u8 0, .int .u8 0, .int .u8 0, .int .u8 0, .int .u8 0, .int .u8 0, .int .u8 0, .int .u8 0, .int .u8 0, .int .u8 0, .int .u8 0, .int .u8 0, .int .u8 0, .int .u8 0, .int .u8 0, .int .u8 0] 23); have hb5 := newKey_below hbw4 hbw4.size; have hown5 := own_keep' hown4 (newKey_below (Below.refl _ _) (Nat.le_refl _)))
    | ((with_reducible refine wpList_store_key rfl (.tmp 14) (.tmp 50) rfl w4.heap.size rfl k HKL.out rfl zkey HZ5 rfl ?_); intro w6 o6 HK6))
  have H6 := H5.only o6 (by have := hb34.size; omega)
  have hb6 := o6.below hb5 hbw4.size
  have hown6 : w6.ownsRow w3.heap.size 5 1 (.slice A4 n c4) n (l.map bv) := hown5.kept (row := some w4.heap.size) ⟨o6.os, o6.tape, o6.output, Nat.le_of_eq o6.size.symm, fun k _ hne => o6.block k (fun e => hne (by rw [e]))⟩ (by
    cases hv : (Value.slice A4 n c4).ownBlock with
    | none => exact Or.inl rfl
    | some q => exact Or.inr (fun e => by have := (hown4.lt q hv).2; cases e; omega))
  have hs34 := hb34.size
  have hgne : g ≠ w4.heap.size := by omega
  clear H5 HZ5 hb5 hown5 o6 H4 HQ4 hbw4 hb34 hr4 hown4 hg4 H3 HQ3 hbw3
  go_upto_region 10 with fail
  obtain ⟨tt, htt⟩ : ∃ tt : UInt8, ((2 : Int) ^ r % 256) = (tt.toNat : Int) := ⟨UInt8.ofNat (2 ^ r), by simp⟩
  rw [htt]
  obtain ⟨a, ha⟩ : ∃ a, a = t % (m + 16 + n + 32) := ⟨_, rfl⟩
  have haN : a < m + 16 + n + 32 := by rw [ha]; exact Nat.mod_lt _ (by omega)
  have haI : (t : Int) % ((m : Int) + 16 + (n : Int) + 32) = (a : Int) := by rw [ha]; push_cast; rfl
  clear ha htt hbit ewr hr8
  by_cases h1 : a < m + 16
  · have h1I : (a : Int) < (m : Int) + 16 := by omega
    obtain ⟨x, hx⟩ : ∃ x, x = X.getD a 0 := ⟨_, rfl⟩
    have cx : w6.cell? ⟨g, a, none⟩ = some (.int .u8 (x.toNat : Int)) := by
      rw [H6.cell, List.getElem?_map, hx, List.getD_eq_getElem?_getD, List.getElem?_eq_getElem (by rw [HX.out]; omega)]
      rfl
    have fx := H6.froz a
    have H7 := H6.set a (.int .u8 (bits .xor .u8 (x.toNat : Int) (tt.toNat : Int)))
    have HK7 := HK6.far ⟨g, a, none⟩ (by show w4.heap.size ≠ g; omega) (.int .u8 (bits .xor .u8 (x.toNat : Int) (tt.toNat : Int)))
    have hbw7 := hb6.setCell (p := ⟨g, a, none⟩) (by show w.heap.size ≤ g; omega) (.int .u8 (bits .xor .u8 (x.toNat : Int) (tt.toNat : Int)))
    have hs7 : Bytes (w6.setCell ⟨g, a, none⟩ (.int .u8 (bits .xor .u8 (x.toNat : Int) (tt.toNat : Int)))) A4 n c4 l := by
      obtain ⟨A', c', hv, hr⟩ := Row.own hown6
      cases hv
      exact Row.only hr (Only.setCell w6 g a (.int .u8 (bits .xor .u8 (x.toNat : Int) (tt.toNat : Int)))) (own_off hown6 (by omega) n)
    rw [xor_uu, ← List.map_set] at H7
    rw [← xor_uu] at H7
    have hx7 := H7.bytes (m + 16) (by rw [List.length_set, HX.out]) (by simp [maxLen]; omega)
    generalize X.set a (x ^^^ tt) = X2 at *
    clear H7 H6 HK6 hb6 hx hown6
    have HKK := HKL
    go_upto_region 16 with fail
    change Code.wp _ _ _ _ (w6.setCell ⟨g, a, none⟩ (.int .u8 (bits .xor .u8 (x.toNat : Int) (tt.toNat : Int))))
    generalize (w6.setCell ⟨g, a, none⟩ (.int .u8 (bits .xor .u8 (x.toNat : Int) (tt.toNat : Int)))) = w7 at *
    have HK7' := Lib.hid HK7
    have hbw7' := Lib.hid hbw7
    obtain ⟨o, ho⟩ : ∃ o, o = openOk k l X2 := ⟨_, rfl⟩
    obtain ⟨P, hP⟩ : ∃ P, P = openN k l X2 := ⟨_, rfl⟩
    have KO := Lib.hid (show Calls Tryd.prog 8 #[.agg ((k).map bv).toArray, .slice A4 n c4, .slice (some ⟨g, 0, none⟩) (m + 16) (m + 16)] w7 fun e w' => ∃ A' n' c', e = .returned (.tuple #[.slice A' n' c', .bool o]) ∧ Bytes w' A' n' c' P ∧ Below w7.heap.size w7 w' by
      rw [ho, hP]
      exact sealing.Open k HKK.out A4 n c4 l (some ⟨g, 0, none⟩) (m + 16) (m + 16) X2 (by have := HNM.out; omega) (by have := HNM.out; omega) w7 hs7 hx7 (HT.out.keep hbw7))
    have KR := Lib.hid (fun (u : World) (hu : Below w7.heap.size w7 u) => show Calls Tryd.prog 10 #[.agg ((k).map bv).toArray, .slice A4 n c4, .slice (some ⟨g, 0, none⟩) (m + 16) (m + 16)] u fun e w' => ∃ A' n' c', e = .returned (.tuple #[.slice A' n' c', .bool o]) ∧ Bytes w' A' n' c' P ∧ Below u.heap.size u w' by
      rw [ho, hP]
      exact refSeal.Open k HKK.out A4 n c4 l (some ⟨g, 0, none⟩) (m + 16) (m + 16) X2 (by have := HNM.out; omega) (by have := HNM.out; omega) u (hs7.keep hu) (hx7.keep hu))
    clear ho hP hs7 hx7 HK7 hbw7
    go_wp2_with ((with_reducible refine wpList_load_key rfl (.tmp 14) rfl w4.heap.size rfl (k) HKK.out HK7'.out ?_))
    refine (KO.out).mono ?_
    rintro e w8 ⟨A8, n8, c8, rfl, hr8', hb8⟩
    have HK8 := HK7'.out.keep hb8 HK7'.out.lt
    have HR8 := Lib.hid hr8'
    clear hr8' KO
    go_wp2_with ((with_reducible refine wpList_load_key rfl (.tmp 14) rfl w4.heap.size rfl (k) HKK.out HK8 ?_))
    refine (KR.out w8 hb8).mono ?_
    rintro e w9 ⟨A9, n9, c9, rfl, hr9, hb9⟩
    have hst8 := run_str (P := Tryd.prog) Tryd.underlying24 Tryd.underlying5 Tryd.underlying9 (HR8.out.keep hb9)
    have hst9 := run_str (P := Tryd.prog) Tryd.underlying24 Tryd.underlying5 Tryd.underlying9 hr9
    clear KR HR8 HK8
    go_wp2_with fail
    go_ret
    exact ⟨rfl, hbw7'.out.trans ((hb8.trans (hb9.mono hb8.size)).mono hbw7'.out.size)⟩
  · have h1I : ¬ (a : Int) < (m : Int) + 16 := by omega
    by_cases h2 : a < m + 16 + n
    · have h2I : (a : Int) < (m : Int) + 16 + (n : Int) := by omega
      obtain ⟨j, hj⟩ : ∃ j, j = a - (m + 16) := ⟨_, rfl⟩
      have hjI : (a : Int) - ((m : Int) + 16) = (j : Int) := by omega
      have hjn : j < n := by omega
      have hjnI : (j : Int) < (n : Int) := by omega
      obtain ⟨gs, cs, hv, hgs, hgl, hr⟩ := own_some hown6 (by omega)
      cases hv
      obtain ⟨Z, HS, hnc, hcm, hzl⟩ := own_block hown6
      have hne : gs ≠ w4.heap.size := fun e => by
        exact absurd (Has.type (e ▸ HS) HK6) (by decide)
      have hll := HL.out.1.len
      obtain ⟨x, hx⟩ : ∃ x, x = l.getD j 0 := ⟨_, rfl⟩
      have cx : w6.cell? ⟨gs, j, none⟩ = some (.int .u8 (x.toNat : Int)) := by
        rw [HS.cell, List.getElem?_append_left (by rw [List.length_map]; omega), List.getElem?_map, hx, List.getD_eq_getElem?_getD, List.getElem?_eq_getElem (by omega)]
        rfl
      have fx := HS.froz j
      have HS7 := HS.set j (.int .u8 (bits .xor .u8 (x.toNat : Int) (tt.toNat : Int)))
      have HK7 := HK6.far ⟨gs, j, none⟩ (by show w4.heap.size ≠ gs; omega) (.int .u8 (bits .xor .u8 (x.toNat : Int) (tt.toNat : Int)))
      have H7 := H6.far ⟨gs, j, none⟩ (by show g ≠ gs; omega) (.int .u8 (bits .xor .u8 (x.toNat : Int) (tt.toNat : Int)))
      have hbw7 := hb6.setCell (p := ⟨gs, j, none⟩) (by show w.heap.size ≤ gs; omega) (.int .u8 (bits .xor .u8 (x.toNat : Int) (tt.toNat : Int)))
      rw [xor_uu, List.set_append_left _ _ (by rw [List.length_map]; omega), ← List.map_set] at HS7
      rw [← xor_uu] at HS7
      have hx7 := H7.bytes (m + 16) HX.out (by simp [maxLen]; omega)
      obtain ⟨l2, hl2⟩ : ∃ l2, l2 = l.set j (x ^^^ tt) := ⟨_, rfl⟩
      have hll2 : l2.length = n := by rw [hl2, List.length_set, hll]
      rw [← hl2] at HS7
      have hs7 : Bytes (w6.setCell ⟨gs, j, none⟩ (.int .u8 (bits .xor .u8 (x.toNat : Int) (tt.toNat : Int)))) (some ⟨gs, 0, none⟩) n c4 l2 := by
        have h := HS7.row 0 n c4 (by rw [List.length_append, List.length_map]; omega) hnc hcm
        rw [List.drop_zero, List.take_left' (by rw [List.length_map, hll2])] at h
        exact h
      clear HS7 HS H7 H6 HK6 hb6 hx hown6 hr hj hll hzl hl2 hll2
      have HKK := HKL
      go_upto_region 16 with fail
      change Code.wp _ _ _ _ (w6.setCell ⟨gs, j, none⟩ (.int .u8 (bits .xor .u8 (x.toNat : Int) (tt.toNat : Int))))
      generalize (w6.setCell ⟨gs, j, none⟩ (.int .u8 (bits .xor .u8 (x.toNat : Int) (tt.toNat : Int)))) = w7 at *
      have HK7' := Lib.hid HK7
      have hbw7' := Lib.hid hbw7
      obtain ⟨o, ho⟩ : ∃ o, o = openOk k l2 X := ⟨_, rfl⟩
      obtain ⟨P, hP⟩ : ∃ P, P = openN k l2 X := ⟨_, rfl⟩
      have KO := Lib.hid (show Calls Tryd.prog 8 #[.agg ((k).map bv).toArray, .slice (some ⟨gs, 0, none⟩) n c4, .slice (some ⟨g, 0, none⟩) (m + 16) (m + 16)] w7 fun e w' => ∃ A' n' c', e = .returned (.tuple #[.slice A' n' c', .bool o]) ∧ Bytes w' A' n' c' P ∧ Below w7.heap.size w7 w' by
        rw [ho, hP]
        exact sealing.Open k HKK.out (some ⟨gs, 0, none⟩) n c4 l2 (some ⟨g, 0, none⟩) (m + 16) (m + 16) X (by have := HNM.out; omega) (by have := HNM.out; omega) w7 hs7 hx7 (HT.out.keep hbw7))
      have KR := Lib.hid (fun (u : World) (hu : Below w7.heap.size w7 u) => show Calls Tryd.prog 10 #[.agg ((k).map bv).toArray, .slice (some ⟨gs, 0, none⟩) n c4, .slice (some ⟨g, 0, none⟩) (m + 16) (m + 16)] u fun e w' => ∃ A' n' c', e = .returned (.tuple #[.slice A' n' c', .bool o]) ∧ Bytes w' A' n' c' P ∧ Below u.heap.size u w' by
        rw [ho, hP]
        exact refSeal.Open k HKK.out (some ⟨gs, 0, none⟩) n c4 l2 (some ⟨g, 0, none⟩) (m + 16) (m + 16) X (by have := HNM.out; omega) (by have := HNM.out; omega) u (hs7.keep hu) (hx7.keep hu))
      clear ho hP hs7 hx7 HK7 hbw7
      go_wp2_with ((with_reducible refine wpList_load_key rfl (.tmp 14) rfl w4.heap.size rfl (k) HKK.out HK7'.out ?_))
      refine (KO.out).mono ?_
      rintro e w8 ⟨A8, n8, c8, rfl, hr8', hb8⟩
      have HK8 := HK7'.out.keep hb8 HK7'.out.lt
      have HR8 := Lib.hid hr8'
      clear hr8' KO
      go_wp2_with ((with_reducible refine wpList_load_key rfl (.tmp 14) rfl w4.heap.size rfl (k) HKK.out HK8 ?_))
      refine (KR.out w8 hb8).mono ?_
      rintro e w9 ⟨A9, n9, c9, rfl, hr9, hb9⟩
      have hst8 := run_str (P := Tryd.prog) Tryd.underlying24 Tryd.underlying5 Tryd.underlying9 (HR8.out.keep hb9)
      have hst9 := run_str (P := Tryd.prog) Tryd.underlying24 Tryd.underlying5 Tryd.underlying9 hr9
      clear KR HR8 HK8
      go_wp2_with fail
      go_ret
      exact ⟨rfl, hbw7'.out.trans ((hb8.trans (hb9.mono hb8.size)).mono hbw7'.out.size)⟩
    · have h2I : ¬ (a : Int) < (m : Int) + 16 + (n : Int) := by omega
      obtain ⟨i, hi⟩ : ∃ i, i = a - (m + 16) := ⟨_, rfl⟩
      obtain ⟨j, hj⟩ : ∃ j, j = i - n := ⟨_, rfl⟩
      have hiI : (a : Int) - ((m : Int) + 16) = (i : Int) := by omega
      have hjI : (i : Int) - (n : Int) = (j : Int) := by omega
      have hj32 : j < 32 := by omega
      have hj32I : (j : Int) < 32 := by omega
      obtain ⟨x, hx⟩ : ∃ x, x = k.getD j 0 := ⟨_, rfl⟩
      have cx : w6.cell? ⟨w4.heap.size, j, none⟩ = some (.int .u8 (x.toNat : Int)) := by
        rw [HK6.cell, List.getElem?_map, hx, List.getD_eq_getElem?_getD, List.getElem?_eq_getElem (by rw [hk]; omega)]
        rfl
      have fx := HK6.froz j
      have HK7 := HK6.set j (.int .u8 (bits .xor .u8 (x.toNat : Int) (tt.toNat : Int)))
      have H7 := H6.far ⟨w4.heap.size, j, none⟩ (by show g ≠ w4.heap.size; omega) (.int .u8 (bits .xor .u8 (x.toNat : Int) (tt.toNat : Int)))
      have hbw7 := hb6.setCell (p := ⟨w4.heap.size, j, none⟩) (by show w.heap.size ≤ w4.heap.size; omega) (.int .u8 (bits .xor .u8 (x.toNat : Int) (tt.toNat : Int)))
      have hs7 : Bytes (w6.setCell ⟨w4.heap.size, j, none⟩ (.int .u8 (bits .xor .u8 (x.toNat : Int) (tt.toNat : Int)))) A4 n c4 l := by
        obtain ⟨A', c', hv, hr⟩ := Row.own hown6
        cases hv
        exact Row.only hr (Only.setCell w6 w4.heap.size j (.int .u8 (bits .xor .u8 (x.toNat : Int) (tt.toNat : Int)))) (own_off_key hown6 HK6)
      rw [xor_uu, ← List.map_set] at HK7
      rw [← xor_uu] at HK7
      have hk2 : (k.set j (x ^^^ tt)).length = 32 := by rw [List.length_set, hk]
      generalize k.set j (x ^^^ tt) = k2 at *
      have hx7 := H7.bytes (m + 16) HX.out (by simp [maxLen]; omega)
      clear H7 H6 HK6 hb6 hx hown6 hi hj
      have HKK := Lib.hid hk2
      go_upto_region 16 with fail
      change Code.wp _ _ _ _ (w6.setCell ⟨w4.heap.size, j, none⟩ (.int .u8 (bits .xor .u8 (x.toNat : Int) (tt.toNat : Int))))
      generalize (w6.setCell ⟨w4.heap.size, j, none⟩ (.int .u8 (bits .xor .u8 (x.toNat : Int) (tt.toNat : Int)))) = w7 at *
      have HK7' := Lib.hid HK7
      have hbw7' := Lib.hid hbw7
      obtain ⟨o, ho⟩ : ∃ o, o = openOk k2 l X := ⟨_, rfl⟩
      obtain ⟨P, hP⟩ : ∃ P, P = openN k2 l X := ⟨_, rfl⟩
      have KO := Lib.hid (show Calls Tryd.prog 8 #[.agg ((k2).map bv).toArray, .slice A4 n c4, .slice (some ⟨g, 0, none⟩) (m + 16) (m + 16)] w7 fun e w' => ∃ A' n' c', e = .returned (.tuple #[.slice A' n' c', .bool o]) ∧ Bytes w' A' n' c' P ∧ Below w7.heap.size w7 w' by
        rw [ho, hP]
        exact sealing.Open k2 HKK.out A4 n c4 l (some ⟨g, 0, none⟩) (m + 16) (m + 16) X (by have := HNM.out; omega) (by have := HNM.out; omega) w7 hs7 hx7 (HT.out.keep hbw7))
      have KR := Lib.hid (fun (u : World) (hu : Below w7.heap.size w7 u) => show Calls Tryd.prog 10 #[.agg ((k2).map bv).toArray, .slice A4 n c4, .slice (some ⟨g, 0, none⟩) (m + 16) (m + 16)] u fun e w' => ∃ A' n' c', e = .returned (.tuple #[.slice A' n' c', .bool o]) ∧ Bytes w' A' n' c' P ∧ Below u.heap.size u w' by
        rw [ho, hP]
        exact refSeal.Open k2 HKK.out A4 n c4 l (some ⟨g, 0, none⟩) (m + 16) (m + 16) X (by have := HNM.out; omega) (by have := HNM.out; omega) u (hs7.keep hu) (hx7.keep hu))
      clear ho hP hs7 hx7 HK7 hbw7
      go_wp2_with ((with_reducible refine wpList_load_key rfl (.tmp 14) rfl w4.heap.size rfl k2 HKK.out HK7'.out ?_))
      refine (KO.out).mono ?_
      rintro e w8 ⟨A8, n8, c8, rfl, hr8', hb8⟩
      have HK8 := HK7'.out.keep hb8 HK7'.out.lt
      have HR8 := Lib.hid hr8'
      clear hr8' KO
      go_wp2_with ((with_reducible refine wpList_load_key rfl (.tmp 14) rfl w4.heap.size rfl k2 HKK.out HK8 ?_))
      refine (KR.out w8 hb8).mono ?_
      rintro e w9 ⟨A9, n9, c9, rfl, hr9, hb9⟩
      have hst8 := run_str (P := Tryd.prog) Tryd.underlying24 Tryd.underlying5 Tryd.underlying9 (HR8.out.keep hb9)
      have hst9 := run_str (P := Tryd.prog) Tryd.underlying24 Tryd.underlying5 Tryd.underlying9 hr9
      clear KR HR8 HK8
      go_wp2_with fail
      go_ret
      exact ⟨rfl, hbw7'.out.trans ((hb8.trans (hb9.mono hb8.size)).mono hbw7'.out.size)⟩
theorem all (k : List UInt8) (hk : k.length = 32) (A : Option Addr) (n c : Nat) (l : List UInt8) (B : Option Addr) (m d : Nat) (l' : List UInt8) (z y : Int) (hz : (Lit.int .i64 z).wf = true) (w : World) (hl : Bytes w A n c l) (hl' : Bytes w B m d l') (hT : Tab w) :
    Calls Tryd.prog 5 #[.agg (k.map bv).toArray, .slice A n c, .slice B m d, .int .i64 z, .int .i64 y] w fun e w' => e = .returned (.bool true) ∧ Below w.heap.size w w' := by
  by_cases h : 100 < n ∨ 100 < m ∨ z < 0
  · exact out k hk A n c B m d z y w hT h
  · have h1 : -9223372036854775808 ≤ z ∧ z ≤ 9223372036854775807 := by simpa [Lit.wf, IntKind.min, IntKind.max, IntKind.signed, IntKind.bits] using hz
    obtain ⟨t, rfl⟩ := Int.eq_ofNat_of_zero_le (show 0 ≤ z by omega)
    exact inn k hk A n c l B m d l' t y w hl hl' hT (by omega) (by omega) (by omega)
end sealTurnedLaw
end Go.Proofs.YtekpekmfddbiaaaDoor
