/-
  SealCloses: the walk.
-/
import Derived.Test.YtekpekmfddbiaaaDoorSealLaw
import Derived.Test.YtekpekmfddbiaaaDoorStepApp
import Derived.Deep.RegionHeldLaw
namespace Go.Proofs.YtekpekmfddbiaaaDoor
open Go.ChangeShapes Go.WideShapes Go.ChangeAt Go.RowKit
set_option linter.unusedVariables false
set_option linter.unusedSimpArgs false

namespace sealClosesLaw
set_option maxHeartbeats 400000 in
theorem out (k : List UInt8) (hk : k.length = 32) (A : Option Addr) (n c : Nat) (B : Option Addr) (m d : Nat) (w : World) (hT : Tab w) (h : 200 < n ∨ 300 < m) :
    Calls Tryd.prog 3 #[.agg (k.map bv).toArray, .slice A n c, .slice B m d] w fun e w' => e = .returned (.bool true) ∧ Below w.heap.size w w' := by
  have hb0 := (Below.refl w.heap.size w).alloc (Nat.le_refl _) (.cells (k.map bv).toArray 23)
  have K := Lib.hid (sealLaw.alive _ (hT.keep hb0))
  by_cases h1 : 200 < n
  · have h1' : (200 : Int) < (n : Int) := by omega
    go_enter Tryd.func3, Tryd.ntmps3
    go_wp2_with fail
    refine (K.out).mono ?_
    rintro e w2 ⟨rfl, hb⟩
    go_wp2_with fail
    go_ret
    exact ⟨rfl, hb0.trans (hb.mono hb0.size)⟩
  · have h2 : 300 < m := by omega
    have h1' : ¬ (200 : Int) < (n : Int) := by omega
    have h2' : (300 : Int) < (m : Int) := by omega
    go_enter Tryd.func3, Tryd.ntmps3
    go_wp2_with fail
    refine (K.out).mono ?_
    rintro e w2 ⟨rfl, hb⟩
    go_wp2_with fail
    go_ret
    exact ⟨rfl, hb0.trans (hb.mono hb0.size)⟩
set_option maxRecDepth 10000 in
set_option maxHeartbeats 1600000 in
theorem inn (k : List UInt8) (hk : k.length = 32) (A : Option Addr) (n c : Nat) (l : List UInt8) (B : Option Addr) (m d : Nat) (l' : List UInt8) (w : World) (hl : Bytes w A n c l) (hl' : Bytes w B m d l') (hT : Tab w) (hn : n ≤ 200) (hm : m ≤ 300) :
    Calls Tryd.prog 3 #[.agg (k.map bv).toArray, .slice A n c, .slice B m d] w fun e w' => e = .returned (.bool true) ∧ Below w.heap.size w w' := by
  have hb0 := (Below.refl w.heap.size w).alloc (Nat.le_refl _) (.cells (k.map bv).toArray 23)
  have HQ0 := Has.new w 23 (k.map bv)
  have K := Lib.hid (sealLaw.alive _ (hT.keep hb0))
  have h1' : ¬ (200 : Int) < (n : Int) := by omega
  have h2' : ¬ (300 : Int) < (m : Int) := by omega
  have HKL := Lib.hid hk
  have HT := Lib.hid hT
  have HL := Lib.hid (And.intro hl hl')
  have HNM := Lib.hid (And.intro hn hm)
  go_enter Tryd.func3, Tryd.ntmps3
  go_wp2_with fail
  refine (K.out).mono ?_
  rintro e w2 ⟨rfl, hb⟩
  have HQ2 := HQ0.keep hb HQ0.lt
  have hb2 := hb0.trans (hb.mono hb0.size)
  clear K HQ0 hb hb0
  go_wp2_with fail
  have HBA := Lib.hid (show 0 + n ≤ 140737488355328 by omega)
  have HBB := Lib.hid (show 0 + m ≤ 140737488355328 by omega)
  have HLA := Lib.hid (show Bytes w2.drew A n c l from (hl.keep hb2).keep (Below.refl _ _).drew)
  have HLB := Lib.hid (show Bytes w2.drew B m d l' from (hl'.keep hb2).keep (Below.refl _ _).drew)
  have HS0 := Lib.hid (Below.refl w2.drew.heap.size w2.drew)
  have HRG := Lib.hid (fun (u : World) (h : Below w2.drew.heap.size w2.drew u) => Has.range (Has.keep (w := w2.drew) HQ2 h HQ2.lt) 0 (k.map bv) (by rw [List.drop_zero, List.take_length]))
  have KS := Lib.hid (fun (A3 : Option Addr) (c3 : Nat) (B3 : Option Addr) (d3 : Nat) (u : World) (hu : Below w2.drew.heap.size w2.drew u) (hA : Row u A3 n c3 (l.map bv)) (hB : Row u B3 m d3 (l'.map bv)) =>
    sealing.Seal k HKL.out A3 n c3 l B3 m d3 l' (by have := HNM.out; omega) (by have := HNM.out; omega) u hA hB (HT.out.keep (hb2.drew.trans (hu.mono hb2.size))))
  have hu2 := Tryd.underlying23
  have hi2 : (Tryd.prog.info? 23).map (·.size) = some (k.map bv).length := by rw [List.length_map, hk]; exact size_key
  have HQ2' := Lib.hid HQ2
  have hb2' := Lib.hid hb2
  clear HQ2 hb2 hl hl'
  go_region_held_law (fun w' => w'.rangeAt w.heap.size 0 (k.map bv)) (first | exact HRG.out _ HS0.out | exact HRG.out _ hb4 | exact HRG.out _ hb3 | exact HRG.out _ (hb4.trans (hb5.mono hb4.size)))
    (first
    | ((refine step_app8 (by rfl) (.const (.slice none 0 0)) (.tmp 26) (by rfl) w2.drew.heap.size (.slice none 0 0) 0 [] (by rfl) (World.ownsRow_nil _ _ _ _) A n c l (by rfl) HLA.out HBA.out (Nat.le_refl _) ?_); intro vA w3 hownA hgA; have hb3 := HS0.out.grown hgA (Nat.le_refl _) (fun k hk => by cases hk); rw [Nat.zero_add, List.nil_append] at hownA; obtain ⟨A3, c3, rfl, hrA⟩ := Row.own hownA)
    | ((refine step_app8 (by rfl) (.const (.slice none 0 0)) (.tmp 28) (by rfl) w3.heap.size (.slice none 0 0) 0 [] (by rfl) (World.ownsRow_nil _ _ _ _) B m d l' (by rfl) (HLB.out.keep hb3) HBB.out (Nat.le_refl _) ?_); intro vB w4 hownB hgB; have hb34 := (Below.refl w3.heap.size w3).grown hgB (Nat.le_refl _) (fun k hk => by cases hk); have hb4 := hb3.trans (hb34.mono hb3.size); rw [Nat.zero_add, List.nil_append] at hownB; obtain ⟨B3, d3, rfl, hrB⟩ := Row.own hownB; have hrA4 := hrA.keep hb34; have hrB4 := hrB)
    | ((refine step_app8 (by rfl) (.const (.slice none 0 0)) (.tmp 28) (by rfl) w2.drew.heap.size (.slice none 0 0) 0 [] (by rfl) (World.ownsRow_nil _ _ _ _) B m d l' (by rfl) HLB.out HBB.out (Nat.le_refl _) ?_); intro vB w3 hownB hgB; have hb3 := HS0.out.grown hgB (Nat.le_refl _) (fun k hk => by cases hk); rw [Nat.zero_add, List.nil_append] at hownB; obtain ⟨B3, d3, rfl, hrB⟩ := Row.own hownB)
    | ((refine step_app8 (by rfl) (.const (.slice none 0 0)) (.tmp 26) (by rfl) w3.heap.size (.slice none 0 0) 0 [] (by rfl) (World.ownsRow_nil _ _ _ _) A n c l (by rfl) (HLA.out.keep hb3) HBA.out (Nat.le_refl _) ?_); intro vA w4 hownA hgA; have hb34 := (Below.refl w3.heap.size w3).grown hgA (Nat.le_refl _) (fun k hk => by cases hk); have hb4 := hb3.trans (hb34.mono hb3.size); rw [Nat.zero_add, List.nil_append] at hownA; obtain ⟨A3, c3, rfl, hrA⟩ := Row.own hownA; have hrB4 := hrB.keep hb34; have hrA4 := hrA)
    | (go_simp; go_at_call 7; refine (KS.out A3 c3 B3 d3 w4 hb4 hrA4 hrB4).mono ?_; rintro e w5 ⟨g, rfl, hg5, H5, hb5⟩))
  all_goals (
    have hb25 := hb4.trans (hb5.mono hb4.size)
    have hbw5 := hb2'.out.drew.trans (hb25.mono hb2'.out.size)
    have HQ5 := Has.keep (w := w2.drew) HQ2'.out hb25 HQ2'.out.lt
    have hr5 := H5.bytes (m + 16) (by rw [sealN_len, HL.out.2.len]) (by simp [maxLen]; omega)
    have KO := Lib.hid (open_of_seal k HKL.out A n c l (some ⟨g, 0, none⟩) (m + 16) (m + 16) l' (by omega) (by omega) w5 (HL.out.1.keep hbw5) hr5 (HT.out.keep hbw5))
    obtain ⟨X, hX⟩ : ∃ X, X = sealN k l l' := ⟨_, rfl⟩
    rw [← hX] at hr5
    have HX := Lib.hid hX
    have HR5 := Lib.hid hr5
    have hbw5' := Lib.hid hbw5
    clear hX hr5 H5 hrA4 hrB4 hrA hrB hownA hownB hgA hgB hb3 hb34 hb4 hb5 hb25 KS HRG hbw5
    go_wp2_with ((with_reducible refine wpList_load_key rfl (.tmp 3) rfl w.heap.size rfl k HKL.out HQ5 ?_))
    refine (KO.out).mono ?_
    rintro e w6 ⟨A6, n6, c6, rfl, hr6, hb6⟩
    have hbw6 := hbw5'.out.trans (hb6.mono hbw5'.out.size)
    have HQ6 := HQ5.keep hb6 HQ5.lt
    have HR6 := Lib.hid (HR5.out.keep hb6)
    have HP6 := Lib.hid hr6
    have hbw6' := Lib.hid hbw6
    have HST := Lib.hid (fun (u : World) (A9 : Option Addr) (n9 c9 : Nat) (l9 : List UInt8) (h : Bytes u A9 n9 c9 l9) => run_str (P := Tryd.prog) Tryd.underlying24 Tryd.underlying5 Tryd.underlying9 h)
    have HSX := Lib.hid (fun (u : World) (A9 : Option Addr) (c9 : Nat) (h : Row u A9 (m + 16) c9 (X.map bv)) => HST.out u A9 (m + 16) c9 X h)
    have HRG := Lib.hid (fun (u : World) (h : Below w6.drew.heap.size w6.drew u) => And.intro (Has.range (Has.keep (w := w6.drew) HQ6 h HQ6.lt) 0 (k.map bv) (by rw [List.drop_zero, List.take_length]))
      (And.intro (HST.out u _ _ _ _ ((HR6.out.keep (Below.refl _ _).drew).keep h)) (And.intro (HST.out u _ _ _ _ ((HP6.out.keep (Below.refl _ _).drew).keep h)) (HST.out u _ _ _ _ (((HL.out.2.keep hbw6'.out).keep (Below.refl _ _).drew).keep h)))))
    have HS6 := Lib.hid (Below.refl w6.drew.heap.size w6.drew)
    have KR := Lib.hid (show Calls Tryd.prog 9 #[.agg (k.map bv).toArray, .slice A n c, .slice B m d] w6.drew fun e w' => ∃ A' c', e = .returned (.slice A' (m + 16) c') ∧ Row w' A' (m + 16) c' (X.map bv) ∧ Below w6.drew.heap.size w6.drew w' by
      rw [HX.out]
      exact refSeal.Seal k HKL.out A n c l B m d l' (by have := HNM.out; omega) (by have := HNM.out; omega) w6.drew ((HL.out.1.keep hbw6'.out).keep (Below.refl _ _).drew) ((HL.out.2.keep hbw6'.out).keep (Below.refl _ _).drew))
    clear KO hr6 hb6 hbw6 HQ5 HQ6
    go_wp2_with fail
    go_region_held (fun w' => w'.rangeAt w.heap.size 0 (k.map bv) ∧ (convert 24 9 (.slice (some ⟨g, 0, none⟩) (m + 16) (m + 16))).run Tryd.prog w' = .ok (.string (str X)) w' ∧ (convert 24 9 (.slice A6 n6 c6)).run Tryd.prog w' = .ok (.string (str l')) w' ∧ (convert 24 9 (.slice B m d)).run Tryd.prog w' = .ok (.string (str l')) w')
      (first | exact HRG.out _ HS6.out | exact HRG.out _ hb7)
      ((go_at_call 9; with_reducible refine (KR.out).mono ?_; rintro e w7 ⟨A7, c7, rfl, hr7, hb7⟩; have hst7 := HSX.out w7 A7 c7 hr7))
    go_wp2_with fail
    go_ret
    exact ⟨rfl, hbw6'.out.drew.trans (hb7.mono hbw6'.out.size)⟩)
theorem all (k : List UInt8) (hk : k.length = 32) (A : Option Addr) (n c : Nat) (l : List UInt8) (B : Option Addr) (m d : Nat) (l' : List UInt8) (w : World) (hl : Bytes w A n c l) (hl' : Bytes w B m d l') (hT : Tab w) :
    Calls Tryd.prog 3 #[.agg (k.map bv).toArray, .slice A n c, .slice B m d] w fun e w' => e = .returned (.bool true) ∧ Below w.heap.size w w' := by
  by_cases h : 200 < n ∨ 300 < m
  · exact out k hk A n c B m d w hT h
  · exact inn k hk A n c l B m d l' w hl hl' hT (by omega) (by omega)
end sealClosesLaw
end Go.Proofs.YtekpekmfddbiaaaDoor
