/-
  MacDefined: the walk.
-/
import Derived.Test.YtoklakodogmdlaaDoorMacLaw
import Derived.Test.YtoklakodogmdlaaDoorRefMac
import Derived.Test.YtoklakodogmdlaaDoorStepApp
namespace Go.Proofs.YtoklakodogmdlaaDoor
open Go.ChangeShapes Go.WideShapes Go.ChangeAt Go.RowKit
set_option linter.unusedVariables false
set_option linter.unusedSimpArgs false

theorem ownsRow_keep {w w' : World} {base : Nat} {e : TypeId} {v : Value} {n : Nat} {xs : List Value} (h : w.ownsRow base e 1 v n xs) (hb : Below w.heap.size w w') : w'.ownsRow base e 1 v n xs :=
  h.kept (row := none) ⟨hb.os, hb.tape, hb.output, hb.size, fun k hk _ => hb.block k hk⟩ (by cases hv : v.ownBlock <;> simp)

namespace macDefinedLaw
set_option maxHeartbeats 400000 in
theorem out (k : List UInt8) (hk : k.length = 32) (B : Option Addr) (m d : Nat) (w : World) (hT : Tab w) (h : 200 < m) :
    Calls Tryd.prog 5 #[.agg (k.map bv).toArray, .slice B m d] w fun e w' => e = .returned (.bool true) ∧ Below w.heap.size w w' := by
  have hb0 := (Below.refl w.heap.size w).alloc (Nat.le_refl _) (.cells (k.map bv).toArray 25)
  have K := Lib.hid (macLaw.alive _ (hT.keep hb0))
  have h1' : (200 : Int) < (m : Int) := by omega
  go_enter Tryd.func5, Tryd.ntmps5
  go_wp2_with fail
  refine (K.out).mono ?_
  rintro e w2 ⟨rfl, hb⟩
  go_wp2_with fail
  go_ret
  exact ⟨rfl, hb0.trans (hb.mono hb0.size)⟩
set_option maxRecDepth 10000 in
set_option maxHeartbeats 1000000 in
theorem inn (k : List UInt8) (hk : k.length = 32) (B : Option Addr) (m d : Nat) (l' : List UInt8) (w : World) (hl' : Bytes w B m d l') (hT : Tab w) (hm : m ≤ 200) :
    Calls Tryd.prog 5 #[.agg (k.map bv).toArray, .slice B m d] w fun e w' => e = .returned (.bool true) ∧ Below w.heap.size w w' := by
  have hb0 := (Below.refl w.heap.size w).alloc (Nat.le_refl _) (.cells (k.map bv).toArray 25)
  have HQ := Has.new w 25 (k.map bv)
  have K := Lib.hid (macLaw.alive _ (hT.keep hb0))
  have h1' : ¬ (200 : Int) < (m : Int) := by omega
  obtain ⟨X, hX⟩ : ∃ X, X = mblk k := ⟨_, rfl⟩
  have hXl : X.length = 64 := by rw [hX, mblk_len]
  have hXat : ∀ j, X.getD j 0 = k.getD j 0 := fun j => by rw [hX, mblk_at, mkey, if_neg (by omega)]
  have HX := Lib.hid (And.intro hX (And.intro hXl hXat))
  have HKL := Lib.hid hk
  clear hX hXl hXat
  go_enter Tryd.func5, Tryd.ntmps5
  go_wp2_with fail
  refine (K.out).mono ?_
  rintro e wA ⟨rfl, hbA0⟩
  have hbA := hb0.trans (hbA0.mono hb0.size)
  have HRA := HQ.keep hbA0 HQ.lt
  clear hb0 hbA0 HQ K
  have hrA := HRA.lt
  have hb1 := hbA.alloc hbA.size (.cells (noughts 64).toArray 5)
  have hb2 := hb1.alloc hb1.size (.cells (noughts 64).toArray 5)
  have HR2 := (HRA.alloc (.cells (noughts 64).toArray 5)).alloc (.cells (noughts 64).toArray 5)
  have HI2 := (Has.new wA 5 (noughts 64)).alloc (.cells (noughts 64).toArray 5)
  have HO2 := (Has.new (wA.alloc (.cells (noughts 64).toArray 5)) 5 (noughts 64)).at_ (show _ = wA.heap.size + 1 by simp)
  have hbk : Below wA.heap.size wA ((wA.alloc (.cells (noughts 64).toArray 5)).alloc (.cells (noughts 64).toArray 5)) := ((Below.refl _ _).alloc (Nat.le_refl _) _).alloc (by simp) _
  have hmk : ∀ u, (Instr.makeSlice 22 (.int .i64 64) (.int .i64 64)).run Tryd.prog u = .ok (.slice (some ⟨u.heap.size, 0, none⟩) 64 64) (u.alloc (.cells (noughts 64).toArray 5)) := fun u => run_make8 64 64 (Nat.le_refl _) (by omega) u
  clear hb1
  go_wp2
  clear hmk
  change Code.wp _ _ _ _ ((wA.alloc (.cells (noughts 64).toArray 5)).alloc (.cells (noughts 64).toArray 5))
  generalize ((wA.alloc (.cells (noughts 64).toArray 5)).alloc (.cells (noughts 64).toArray 5)) = w2 at *
  go_loopw [8] (fun i wr => ∃ j : Nat, j ≤ 64 ∧ i = .int .i64 j ∧ Has wr wA.heap.size 5 ((mask 54 (X.take j) ++ List.replicate (64 - j) 0).map bv) ∧ Has wr (wA.heap.size + 1) 5 ((mask 92 (X.take j) ++ List.replicate (64 - j) 0).map bv) ∧ Has wr w.heap.size 25 (k.map bv) ∧ Below w.heap.size w wr ∧ Below wA.heap.size wA wr) (fun i _ => 64 - (intOf i).toNat)
  case atStart => exact ⟨0, by omega, rfl, by simpa [mask, noughts, bv] using HI2, by simpa [mask, noughts, bv] using HO2, HR2, hb2, hbk⟩
  case round =>
    clear HI2 HO2 HR2 hb2 hbk
    obtain ⟨j, hj, rfl, HI, HO, HR, hb, hbk⟩ := hrel
    by_cases hlt : j < 64
    · have hlen1 : (mask 54 (X.take j) ++ List.replicate (64 - j) 0).length = 64 := by rw [List.length_append, mask_len, List.length_take, HX.out.2.1, List.length_replicate]; omega
      have hlen2 : (mask 92 (X.take j) ++ List.replicate (64 - j) 0).length = 64 := by rw [List.length_append, mask_len, List.length_take, HX.out.2.1, List.length_replicate]; omega
      obtain ⟨vi, ci⟩ : ∃ v, wr.cell? ⟨wA.heap.size, j, none⟩ = some v := ⟨_, (HI.cell j).trans (List.getElem?_eq_getElem (by rw [List.length_map]; omega))⟩
      have fi := HI.froz j
      obtain ⟨vo, co⟩ : ∃ v, wr.cell? ⟨wA.heap.size + 1, j, none⟩ = some v := ⟨_, (HO.cell j).trans (List.getElem?_eq_getElem (by rw [List.length_map]; omega))⟩
      have fo := HO.froz j
      clear hlen1 hlen2
      by_cases hjn : j < 32
      · have cx : wr.cell? ⟨w.heap.size, j, none⟩ = some (.int .u8 ((k.getD j 0).toNat : Int)) := by
          rw [HR.cell j]
          have hjk : j < k.length := by rw [HKL.out]; exact hjn
          simp [hjk, bv]
        obtain ⟨x, hx⟩ : ∃ x, x = k.getD j 0 := ⟨_, rfl⟩
        rw [← hx] at cx
        have HXX := Lib.hid hx
        clear hx
        go_wp2
        go_roundw
        case rel =>
          have e1 := mask_set 54 X HX.out.2.1 j hlt (.int .u8 (bits .xor .u8 (x.toNat : Int) 54)) (by rw [HX.out.2.2, ← HXX.out]; exact xor_bv x 54 (by omega))
          have e2 := mask_set 92 X HX.out.2.1 j hlt (.int .u8 (bits .xor .u8 (x.toNat : Int) 92)) (by rw [HX.out.2.2, ← HXX.out]; exact xor_bv x 92 (by omega))
          have H1 := (HI.set j (.int .u8 (bits .xor .u8 (x.toNat : Int) 54))).far ⟨wA.heap.size + 1, j, none⟩ (by show wA.heap.size ≠ wA.heap.size + 1; omega) (.int .u8 (bits .xor .u8 (x.toNat : Int) 92))
          have H2 := (HO.far ⟨wA.heap.size, j, none⟩ (by show wA.heap.size + 1 ≠ wA.heap.size; omega) (.int .u8 (bits .xor .u8 (x.toNat : Int) 54))).set j (.int .u8 (bits .xor .u8 (x.toNat : Int) 92))
          rw [e1] at H1
          rw [e2] at H2
          exact ⟨j + 1, by omega, by go_num, H1, H2, (HR.far ⟨wA.heap.size, j, none⟩ (by show w.heap.size ≠ wA.heap.size; omega) _).far ⟨wA.heap.size + 1, j, none⟩ (by show w.heap.size ≠ wA.heap.size + 1; omega) _, (hb.setCell (by show w.heap.size ≤ wA.heap.size; omega) _).setCell (by show w.heap.size ≤ wA.heap.size + 1; omega) _, (hbk.setCell (Nat.le_refl _) _).setCell (by show wA.heap.size ≤ wA.heap.size + 1; omega) _⟩
        case measure => simp [intOf]; omega
      · have hx0 : k.getD j 0 = 0 := by
          have := HKL.out
          rw [List.getD_eq_getElem?_getD, List.getElem?_eq_none (by omega)]
          rfl
        have HXX := Lib.hid hx0
        clear hx0
        have k54 : bits .xor .u8 0 54 = 54 := by rfl
        have k92 : bits .xor .u8 0 92 = 92 := by rfl
        go_wp2
        go_roundw
        case rel =>
          have e1 := mask_set 54 X HX.out.2.1 j hlt (.int .u8 54) (by rw [HX.out.2.2, HXX.out]; rfl)
          have e2 := mask_set 92 X HX.out.2.1 j hlt (.int .u8 92) (by rw [HX.out.2.2, HXX.out]; rfl)
          have H1 := (HI.set j (.int .u8 54)).far ⟨wA.heap.size + 1, j, none⟩ (by show wA.heap.size ≠ wA.heap.size + 1; omega) (.int .u8 92)
          have H2 := (HO.far ⟨wA.heap.size, j, none⟩ (by show wA.heap.size + 1 ≠ wA.heap.size; omega) (.int .u8 54)).set j (.int .u8 92)
          rw [e1] at H1
          rw [e2] at H2
          exact ⟨j + 1, by omega, by go_num, H1, H2, (HR.far ⟨wA.heap.size, j, none⟩ (by show w.heap.size ≠ wA.heap.size; omega) _).far ⟨wA.heap.size + 1, j, none⟩ (by show w.heap.size ≠ wA.heap.size + 1; omega) _, (hb.setCell (by show w.heap.size ≤ wA.heap.size; omega) _).setCell (by show w.heap.size ≤ wA.heap.size + 1; omega) _, (hbk.setCell (Nat.le_refl _) _).setCell (by show wA.heap.size ≤ wA.heap.size + 1; omega) _⟩
        case measure => simp [intOf]; omega
    · obtain rfl : j = 64 := by omega
      rw [List.take_of_length_le (Nat.le_of_eq HX.out.2.1), Nat.sub_self, List.replicate_zero, List.append_nil] at HI HO
      have hownI := own_has HI (Nat.le_refl _) (by rw [mask_len, HX.out.2.1]) (by simp [maxLen])
      have HB1 := Lib.hid (show 64 + m ≤ 140737488355328 by omega)
      have hl3 := hl'.keep hb
      have hrO := HO.lt
      clear hlt
      go_wp2_with (at_builtin; (refine app8 rfl (.tmp 41) (.tmp 42) rfl wA.heap.size (.slice (some ⟨wA.heap.size, 0, none⟩) 64 64) 64 (mask 54 X) rfl hownI B m d l' rfl hl3 HB1.out (by omega) ?_); intro v3 w3 hown3 hg3)
      have hbk3 : Below wA.heap.size wA w3 := hbk.grown hg3 hbk.size (fun k hk => (hownI.lt k hk).1)
      have hb3 : Below w.heap.size w w3 := hb.grown hg3 hb.size (fun k hk => by have := (hownI.lt k hk).1; omega)
      have HO3 := HO.grown hg3 (by show some (wA.heap.size + 1) ≠ some wA.heap.size; intro h; have := Option.some.inj h; omega)
      obtain ⟨A3, c3, rfl, hr3⟩ := Row.own hown3
      clear hownI hown3 hg3 HI HO HR hb hbk
      obtain ⟨I, hI⟩ : ∃ I, I = shaN (mask 54 X ++ l') := ⟨_, rfl⟩
      have hIl : I.length = 32 := by rw [hI, shaN_len]
      have KS0 := sha.Sum A3 (64 + m) c3 (mask 54 X ++ l') w3 hr3 (hT.keep hb3)
      rw [← hI] at KS0
      have KS := Lib.hid KS0
      have HII := Lib.hid (And.intro hI hIl)
      clear hI hIl KS0 hr3
      refine (KS.out).mono ?_
      rintro e w4 ⟨rfl, hb4⟩
      have hO3 := HO3.lt
      have HO4 := HO3.keep hb4 HO3.lt
      have hbk4 := hbk3.trans (hb4.mono hbk3.size)
      have hbw4 := hb3.trans (hb4.mono hb3.size)
      have HK := newKey w4
      have HO5 := HO4.alloc (.cells #[.int .u8 0, .int .u8 0, .int .u8 0, .int .u8 0, .int .u8 0, .int .u8 0, .int .u8 0, .int .u8 0, .int .u8 0, .int .u8 0, .int .u8 0, .int .u8 0, .int .u8 0, .int .u8 0, .int .u8 0, .int .u8 0, .int .u8 0, .int .u8 0, .int .u8 0, .int .u8 0, .int .u8 0, .int .u8 0, .int .u8 0, .int .u8 0, .int .u8 0, .int .u8 0, .int .u8 0, .int .u8 0, .int .u8 0, .int .u8 0, .int .u8 0, .int .u8 0] 25)
      have hb5 := newKey_below hbk4 hbk4.size
      have hO4 := HO4.lt
      clear KS hb4 hbk3 hb3 HO3 HO4 hbw4
      go_wp2_with ((with_reducible refine wpList_store_key rfl (.tmp 10) (.tmp 44) rfl w4.heap.size rfl I HII.out.2 rfl zkey HK rfl ?_); intro w6 o6 H6)
      have HO6 := HO5.only o6 (by omega)
      have hb6 := o6.below hb5 hbk4.size
      have hown6 := own_has (base := wA.heap.size) HO6 (by omega) (by rw [mask_len, HX.out.2.1]) (by simp [maxLen])
      have hI6 := H6.bytes 32 HII.out.2 (by simp [maxLen])
      obtain ⟨R, hR⟩ : ∃ R, R = ((macN k l').map bv).toArray := ⟨_, rfl⟩
      have hR2 : R = ((shaN (mask 92 X ++ I)).map bv).toArray := by rw [hR, macN, HII.out.1, HX.out.1]
      have heq1 := eq_key (macN k l') (macN_len _ _)
      rw [← hR] at heq1
      have hlA := hl'.keep hbA
      have hTA := hT.keep hbA
      have hQA := HRA.bytes 32 HKL.out (by simp [maxLen])
      have hneO : some w4.heap.size ≠ Value.ownBlock (.slice (some ⟨wA.heap.size + 1, 0, none⟩) 64 64) := by show some w4.heap.size ≠ some (wA.heap.size + 1); intro h; have := Option.some.inj h; omega
      have KO := Lib.hid (fun (u : World) (hu : Below wA.heap.size wA u) => show Calls Tryd.prog 7 #[.slice (some ⟨w.heap.size, 0, none⟩) 32 32, .slice B m d] u fun e w' => e = .returned (.agg R) ∧ Below u.heap.size u w' by
        rw [hR]
        exact mac.Of _ 32 32 k B m d l' u (hQA.keep hu) (hlA.keep hu) (by omega) (hTA.keep hu))
      have KS := Lib.hid (fun (A9 : Option Addr) (c9 : Nat) (u : World) (hu : Below wA.heap.size wA u) (h : Row u A9 96 c9 ((mask 92 X ++ I).map bv)) => show Calls Tryd.prog 9 #[.slice A9 96 c9] u fun e w' => e = .returned (.agg R) ∧ Below u.heap.size u w' by
        rw [hR2]
        exact sha.Sum A9 96 c9 _ u h (hTA.keep hu))
      have HB6 := Lib.hid hb6
      have HOW := Lib.hid hown6
      have HI6 := Lib.hid H6
      have HIB := Lib.hid (fun (u : World) (h : Has u w4.heap.size 25 (I.map bv)) => h.bytes 32 HII.out.2 (by simp [maxLen]))
      have HNE := Lib.hid hneO
      have HHR := Lib.hid hR
      clear hR hR2 hlA hTA hQA hneO hb6 hown6 H6 hI6 HO6 HO5 hb5 HK hbk4 o6 HRA
      go_region_held_law (fun _ => True) (trivial)
        (first
        | (go_simp; go_at_call 7; refine (KO.out w6.drew HB6.out.drew).mono ?_; rintro e w7 ⟨rfl, hb7⟩; have hb7A := HB6.out.drew.trans (hb7.mono HB6.out.size); have hown7 := ownsRow_keep (w := w6.drew) HOW.out hb7; have hI7 := HIB.out w7 (Has.keep (w := w6.drew) HI6.out hb7 HI6.out.lt))
        | ((refine step_app8 (by rfl) (.tmp 48) (.tmp 49) (by rfl) wA.heap.size (.slice (some ⟨wA.heap.size + 1, 0, none⟩) 64 64) 64 (mask 92 X) (by rfl) hown7 (some ⟨w4.heap.size, 0, none⟩) 32 32 I (by rfl) hI7 (by omega) hb7A.size ?_); intro v8 w8 hown8 hg8; obtain ⟨A8, c8, rfl, hr8⟩ := Row.own hown8; have hb8 := hb7A.grown hg8 hb7A.size (fun k hk => (hown7.lt k hk).1))
        | (go_simp; go_at_call 9; refine (KS.out A8 c8 w8 hb8 hr8).mono ?_; rintro e w9 ⟨rfl, hb9⟩))
      go_wp2
      go_ret
      exact ⟨rfl, hbA.trans ((hb8.trans (hb9.mono hb8.size)).mono hbA.size)⟩
theorem all (k : List UInt8) (hk : k.length = 32) (B : Option Addr) (m d : Nat) (l' : List UInt8) (w : World) (hl' : Bytes w B m d l') (hT : Tab w) :
    Calls Tryd.prog 5 #[.agg (k.map bv).toArray, .slice B m d] w fun e w' => e = .returned (.bool true) ∧ Below w.heap.size w w' := by
  by_cases h : 200 < m
  · exact out k hk B m d w hT h
  · exact inn k hk B m d l' w hl' hT (by omega)
end macDefinedLaw
end Go.Proofs.YtoklakodogmdlaaDoor
