/-
  ShaNumbers: the walk.
-/
import Derived.Test.YtikmhhhnegdfoaaDoorShaLaw
import Derived.Test.YtikmhhhnegdfoaaDoorRefNumbers
import Derived.BigQuiet
import Derived.Deep.QuietTactic
namespace Go.Proofs.YtikmhhhnegdfoaaDoor
open Go.ChangeShapes Go.WideShapes Go.ChangeAt Go.RowKit
set_option linter.unusedVariables false
set_option linter.unusedSimpArgs false

theorem eq_h0 (w : World) : (Op.equalIn 10000 38 (.agg #[.int .u32 1779033703, .int .u32 3144134277, .int .u32 1013904242, .int .u32 2773480762, .int .u32 1359893119, .int .u32 2600822924, .int .u32 528734635, .int .u32 1541459225]) (.agg #[.int .u32 1779033703, .int .u32 3144134277, .int .u32 1013904242, .int .u32 2773480762, .int .u32 1359893119, .int .u32 2600822924, .int .u32 528734635, .int .u32 1541459225])).run Tryd.prog w = .ok true w := by kernel_rfl

namespace shaNumbersLaw
set_option maxHeartbeats 400000 in
theorem out (A : Option Addr) (n c : Nat) (w : World) (hT : Tab w) (h : 200 < n) :
    Calls Tryd.prog 7 #[.slice A n c] w fun e w' => e = .returned (.bool true) ∧ Below w.heap.size w w' := by
  have K := Lib.hid (shaLaw.alive w hT)
  have h1' : (200 : Int) < (n : Int) := by omega
  go_enter Tryd.func7, Tryd.ntmps7
  go_wp2_with fail
  refine (K.out).mono ?_
  rintro e w2 ⟨rfl, hb⟩
  go_wp2_with fail
  go_ret
  exact ⟨rfl, hb⟩
set_option maxRecDepth 10000 in
set_option maxHeartbeats 1000000 in
theorem inn (A : Option Addr) (n c : Nat) (l : List UInt8) (w : World) (hl : Bytes w A n c l) (hT : Tab w) (h : n ≤ 200) :
    Calls Tryd.prog 7 #[.slice A n c] w fun e w' => e = .returned (.bool true) ∧ Below w.heap.size w w' := by
  have K := Lib.hid (shaLaw.alive w hT)
  have KW := Lib.hid (fun u => refSha.written u)
  have KN := Lib.hid (fun u => refWide.Numbers u)
  have h1' : ¬ (200 : Int) < (n : Int) := by omega
  obtain ⟨h0l, hh0⟩ : ∃ x, x = h0N.list.map uv := ⟨_, rfl⟩
  have hh8 : h0l.length = 8 := by rw [hh0]; rfl
  have Hh0 := Lib.hid hh0
  have OC := Lib.hid (show ∀ u ∈ h0l, u.oneCell' = true from hh0 ▸ one_uv _)
  have SZ := Lib.hid (show (Tryd.prog.info? 38).map (·.size) = some h0l.length by rw [hh8]; kernel_rfl)
  have LL := Lib.hid (show (wN 8 fun _ => 0).length = h0l.length by rw [hh8]; rfl)
  have hcell : ∀ (u : World) (g : Nat), Has u g 38 h0l → u.cell? ⟨g, 0, none⟩ = some (.int .u32 1779033703) ∧ u.cell? ⟨g, 1, none⟩ = some (.int .u32 3144134277) ∧ u.cell? ⟨g, 2, none⟩ = some (.int .u32 1013904242) ∧ u.cell? ⟨g, 3, none⟩ = some (.int .u32 2773480762) ∧ u.cell? ⟨g, 4, none⟩ = some (.int .u32 1359893119) ∧ u.cell? ⟨g, 5, none⟩ = some (.int .u32 2600822924) ∧ u.cell? ⟨g, 6, none⟩ = some (.int .u32 528734635) ∧ u.cell? ⟨g, 7, none⟩ = some (.int .u32 1541459225) := by
    intro u g H
    rw [hh0] at H
    exact ⟨H.cell 0, H.cell 1, H.cell 2, H.cell 3, H.cell 4, H.cell 5, H.cell 6, H.cell 7⟩
  have HCELL := Lib.hid hcell
  clear hh0 hh8 hcell
  have HEQ := eq_h0
  have hl' := Lib.hid hl
  have hT' := Lib.hid hT
  clear hl hT
  go_enter Tryd.func7, Tryd.ntmps7
  go_wp2_with fail
  refine (K.out).mono ?_
  rintro e w2 ⟨rfl, hb⟩
  go_wp2_with fail
  refine (KW.out _).mono ?_
  rintro e w3 ⟨gk, rfl, HK, hb3⟩
  rw [← Hh0.out]
  have hbw3 := hb.trans (hb3.mono hb.size)
  have Z3 : Has (w3.alloc (.cells #[.int .u32 0, .int .u32 0, .int .u32 0, .int .u32 0, .int .u32 0, .int .u32 0, .int .u32 0, .int .u32 0] 38)) w3.heap.size 38 (wN 8 fun _ => 0) := Has.new w3 38 (wN 8 fun _ => 0)
  have HK3 := HK.alloc (.cells #[.int .u32 0, .int .u32 0, .int .u32 0, .int .u32 0, .int .u32 0, .int .u32 0, .int .u32 0, .int .u32 0] 38)
  have hb3a := hbw3.alloc hbw3.size (.cells #[.int .u32 0, .int .u32 0, .int .u32 0, .int .u32 0, .int .u32 0, .int .u32 0, .int .u32 0, .int .u32 0] 38)
  have hk3 := HK.lt
  have hB3 := hbw3.size
  clear K KW hb hb3 HK hbw3
  go_wp2_with ((with_reducible refine wpList_store_has rfl 38 (.tmp 5) (.tmp 21) rfl w3.heap.size rfl h0l rfl 38 (wN 8 fun _ => 0) Z3 SZ.out LL.out OC.out ?_); intro w4 o4 H4)
  have hb4 := o4.below hb3a hB3
  have HK4 := HK3.only o4 (by omega)
  clear Z3 HK3 hb3a
  refine (KN.out _).mono ?_
  rintro e w5 ⟨A5, c5, rfl, hr5, hb5⟩
  rw [← Hh0.out]
  have H45 := H4.keep hb5 H4.lt
  have HK5 := HK4.keep hb5 HK4.lt
  have hbw5 := hb4.trans (hb5.mono hb4.size)
  have Z5 : Has (w5.alloc (.cells #[.int .u32 0, .int .u32 0, .int .u32 0, .int .u32 0, .int .u32 0, .int .u32 0, .int .u32 0, .int .u32 0] 38)) w5.heap.size 38 (wN 8 fun _ => 0) := Has.new w5 38 (wN 8 fun _ => 0)
  have HK6 := HK5.alloc (.cells #[.int .u32 0, .int .u32 0, .int .u32 0, .int .u32 0, .int .u32 0, .int .u32 0, .int .u32 0, .int .u32 0] 38)
  have H46 := H45.alloc (.cells #[.int .u32 0, .int .u32 0, .int .u32 0, .int .u32 0, .int .u32 0, .int .u32 0, .int .u32 0, .int .u32 0] 38)
  have hb6 := hbw5.alloc hbw5.size (.cells #[.int .u32 0, .int .u32 0, .int .u32 0, .int .u32 0, .int .u32 0, .int .u32 0, .int .u32 0, .int .u32 0] 38)
  have hr6 := hr5.keep ((Below.refl _ _).alloc (Nat.le_refl _) (.cells #[.int .u32 0, .int .u32 0, .int .u32 0, .int .u32 0, .int .u32 0, .int .u32 0, .int .u32 0, .int .u32 0] 38))
  have hk5 := HK5.lt
  have h45 := H45.lt
  have hB5 := hbw5.size
  have hoff := Off.of_row hr5 (Nat.le_refl _)
  obtain ⟨pb, po, rfl, hpb, hpc⟩ := hr5.2.2.2.2 (by omega)
  have HR6 := Lib.hid hr6
  have NE := Lib.hid (show w3.heap.size ≠ w5.heap.size by omega)
  clear KN o4 H4 HK4 hb4 hb5 H45 HK5 hbw5 hr5 hr6 hpc hk3 hB3
  go_wp2_with ((with_reducible refine wpList_store_has rfl 38 (.tmp 7) (.tmp 25) rfl w5.heap.size rfl h0l rfl 38 (wN 8 fun _ => 0) Z5 SZ.out LL.out OC.out ?_); intro w7 o7 H7; have H47 := H46.only o7 NE.out; obtain ⟨ca0, ca1, ca2, ca3, ca4, ca5, ca6, ca7⟩ := HCELL.out w7 _ H47; obtain ⟨da0, da1, da2, da3, da4, da5, da6, da7⟩ := HCELL.out w7 _ H7)
  clear ca0 ca1 ca2 ca3 ca4 ca5 ca6 ca7 da0 da1 da2 da3 da4 da5 da6 da7
  have HK7 := HK6.only o7 (by omega)
  have hr7 := HR6.out.only o7 hoff
  have hb7 := o7.below hb6 hB5
  obtain ⟨pb', po', e, hpb', hpc⟩ := hr7.2.2.2.2 (by omega)
  injection e with e
  injection e with e1 e2
  subst e1 e2
  have HPC := Lib.hid hpc
  clear hpc hr7 o7 HK6 HR6 hb6 H7 H47 H46 Z5
  go_loopw [8] (fun i wr => ∃ (j nq : Nat), j ≤ 64 ∧ i = .int .i64 j ∧ wr = w7.drewN nq) (fun i _ => 64 - (intOf i).toNat)
  case atStart => exact ⟨0, 0, by omega, rfl, rfl⟩
  case round =>
    obtain ⟨j, nq, hj, rfl, rfl⟩ := hrel
    by_cases hlt : j < 64
    · obtain ⟨y, hy⟩ : ∃ y, y = kN.getD j 0 := ⟨_, rfl⟩
      have hjl : j < kN.length := hlt
      have e : (kN.map uv)[j]? = some (.int .u32 (y : Int)) := by rw [hy]; simp [uv, hjl]
      have ck : w7.cell? ⟨gk, j, none⟩ = some (.int .u32 (y : Int)) := (HK7.cell j).trans e
      have cp : w7.cell? ⟨pb, po + j, none⟩ = some (.int .u32 (y : Int)) := (HPC.out j hlt).trans e
      have hj64 : (j : Int) < 64 := by omega
      clear hy e hjl
      go_wp2
      go_quiet (fail)
      go_wp2
      go_roundw
      case rel => exact ⟨j + 1, _, by omega, by go_num, rfl⟩
      case measure => simp [intOf]; omega
    · obtain rfl : j = 64 := by omega
      have hb8 := below_drewN hb7 nq
      obtain ⟨w8, hw8⟩ : ∃ x, x = w7.drewN nq := ⟨_, rfl⟩
      rw [← hw8] at hb8 ⊢
      clear hw8 HK7 HPC hb7
      have K1 := Lib.hid (sha.Sum A n c l w8 (Row.keep hl'.out hb8) (hT'.out.keep hb8))
      have K2 := Lib.hid (fun (u : World) (hb : Below w8.heap.size w8 u) => refSha.Sha A n c l u (Row.keep hl'.out (hb8.trans (hb.mono hb8.size))) (by omega))
      have heq := eq_key (shaN l) (shaN_len l)
      obtain ⟨X, hX⟩ : ∃ X, X = ((shaN l).map bv).toArray := ⟨_, rfl⟩
      rw [← hX] at heq
      have HX := Lib.hid hX
      clear hX HEQ
      go_wp2_with fail
      refine (K1.out).mono ?_
      rintro e w4 ⟨rfl, hb4⟩
      rw [← HX.out]
      go_wp2_with fail
      refine (K2.out _ hb4).mono ?_
      rintro e w5 ⟨rfl, hb5⟩
      rw [← HX.out]
      go_wp2_with fail
      go_ret
      exact ⟨rfl, (hb8.trans (hb4.mono hb8.size)).trans (hb5.mono (Nat.le_trans hb8.size hb4.size))⟩
theorem all (A : Option Addr) (n c : Nat) (l : List UInt8) (w : World) (hl : Bytes w A n c l) (hT : Tab w) :
    Calls Tryd.prog 7 #[.slice A n c] w fun e w' => e = .returned (.bool true) ∧ Below w.heap.size w w' := by
  by_cases h : 200 < n
  · exact out A n c w hT h
  · exact inn A n c l w hl hT (by omega)
end shaNumbersLaw
end Go.Proofs.YtikmhhhnegdfoaaDoor
