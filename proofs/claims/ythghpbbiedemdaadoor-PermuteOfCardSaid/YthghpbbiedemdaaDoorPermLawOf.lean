/-
  The law PermuteOf of chapter 13.
-/
import Derived.Test.YthghpbbiedemdaaDoorPermLaw
import Derived.Test.YthghpbbiedemdaaDoorRefOrd
import Derived.Test.YthghpbbiedemdaaDoorRefOrder
import Derived.Test.YthghpbbiedemdaaDoorRefNew
namespace Go.Proofs.YthghpbbiedemdaaDoor
open Go.ChangeShapes Go.WideShapes Go.ChangeAt Go.RowKit
set_option linter.unusedVariables false
set_option linter.unusedSimpArgs false

namespace permOfLaw
theorem right_nil : rightB [] = true := by decide
set_option maxHeartbeats 1000000 in
set_option maxRecDepth 10000 in
theorem all (n : Int) (z : List UInt8) (hz : z.length = 32) (w : World) (hT : Tab w) :
    Calls Tryd.prog 3 #[.int .i64 n, .agg (z.map bv).toArray] w fun e w' => e = .returned (.bool true) ∧ Below w.heap.size w w' := by
  have hb0 := (Below.refl w.heap.size w).alloc (Nat.le_refl _) (.cells (z.map bv).toArray 23)
  have K := Lib.hid (alive13 _ (hT.keep hb0))
  by_cases hm : 150 < n ∧ n ≤ 1000
  · have f0 : 150 < n := hm.1
    have f1 : n ≤ 1000 := hm.2
    clear hm hT
    go_enter Tryd.func3, Tryd.ntmps3
    go_wp2_with fail
    refine (K.out).mono ?_
    rintro e w2 ⟨rfl, hb⟩
    go_wp2_with fail
    go_ret
    exact ⟨rfl, hb0.trans (hb.mono hb0.size)⟩
  have H0 := Has.new w 23 (z.map bv)
  have HZ := Lib.hid hz
  have HT := Lib.hid (hT.keep hb0)
  obtain ⟨⟨p, k, j⟩, ho⟩ : ∃ r : List Int × Nat × Nat, orderB z [109] n 0 = r := ⟨_, rfl⟩
  have KA := Lib.hid (fun u => show Calls Tryd.prog 10 #[.agg (z.map bv).toArray, .string ⟨#[109]⟩] u _ from progNew' z [109] hz (by simp) u)
  have KR := Lib.hid (fun u => show Calls Tryd.prog 12 #[.agg (z.map bv).toArray, .string ⟨#[109]⟩] u _ from refNew' z [109] hz u)
  have KO := Lib.hid (fun (g : Nat) (u : World) (H : StrmP u g z [109] 0) (h : Tab u) => permOf g z [109] n 0 p k j ho (by omega) hz (by simp) u H h)
  have KP := Lib.hid (fun (g : Nat) (u : World) (H : StrmR u g z [109] 0) => refOrder g z [109] n 0 p k j ho (by omega) hz (by simp) u H)
  have hkp : k < 100 ∧ rightB p = true ∧ p.length ≤ 1000 := by
    by_cases hr : n < 0 ∨ 1000 < n
    · rw [orderB_out hr] at ho
      cases ho
      exact ⟨by omega, right_nil, by simp⟩
    · obtain ⟨n, rfl⟩ : ∃ m : Nat, n = (m : Int) := ⟨n.toNat, by omega⟩
      have hor := orderB_in (seed := z) (name := [109]) (show n ≤ 1000 by omega) 0
      rw [ho] at hor
      rcases hor with ⟨h1, h2⟩ | ⟨h1, h2⟩
      · have h1' : k = 0 := h1
        have h2' : Ord p n := h2
        exact ⟨by omega, h2'.right, by rw [h2'.1]; omega⟩
      · have h1' : k = 9 := h1
        have h2' : p = [] := h2
        exact ⟨by omega, by rw [h2']; exact right_nil, by rw [h2']; simp⟩
  have KN := Lib.hid (fun u => num13 (k : Int) u (by have := hkp.1; omega))
  have HP := Lib.hid hkp.2
  have hkk : ((k : Int) == (k : Int)) = true := by simp
  have f0 : 150 < n → ¬ n ≤ 1000 := fun h1 h2 => hm ⟨h1, h2⟩
  have HB0 := Lib.hid hb0
  clear hm hT hz ho hkp hb0
  by_cases h150 : 150 < n
  · have f1 : ¬ n ≤ 1000 := f0 h150
    clear f0
    go_enter Tryd.func3, Tryd.ntmps3
    go_wp2_with fail
    refine (K.out).mono ?_
    rintro e w2 ⟨rfl, hb20⟩
    have HS2 := H0.keep hb20 (by simp)
    have hb2 := HB0.out.trans (hb20.mono HB0.out.size)
    have hs2 := hb2.size
    have hT2 := HT.out.keep hb20
    have hlt0 : w.heap.size < w2.heap.size := by have := hb20.size; simp at this; omega
    clear H0 hb20
    go_wp2_with ((with_reducible refine wpList_load_key rfl (.tmp 3) rfl w.heap.size rfl z HZ.out HS2 ?_))
    refine (KA.out w2).mono ?_
    rintro e w3 ⟨g1, rfl, X3, hg1, hb30⟩
    have HS3 := HS2.keep hb30 (by omega)
    have hb3 := hb2.trans (hb30.mono hs2)
    have hT3 := hT2.keep hb30
    go_wp2_with fail
    refine (KO.out g1 w3 X3 hT3).mono ?_
    rintro e w4 ⟨A, m, c, rfl, H4, P4, S4⟩
    have hb4 := Save.below hb3 S4 (by omega) hb3.size
    have HS4 := HS3.save S4 (by omega)
    clear HS2 hb2 hT2 hb30 HS3 hb3 hT3 X3 P4 S4
    go_wp2_with ((with_reducible refine wpList_load_key rfl (.tmp 3) rfl w.heap.size rfl z HZ.out HS4 ?_))
    refine (KR.out w4).mono ?_
    rintro e w5 ⟨g2, rfl, X5, hg2, hb50⟩
    have hb5 := hb4.trans (hb50.mono hb4.size)
    have H5 := H4.keep hb50
    have HSZ := hb50.size
    have HOF := fun g (hg : w4.heap.size ≤ g) (mm : Nat) => (Off.of_row H4 hg : Off g A m)
    clear H4 HS4
    go_wp2_with fail
    refine (KP.out g2 w5 X5).mono ?_
    rintro e w6 ⟨B, m2, d, rfl, R6, P6, S6⟩
    have hb6 := Save.below hb5 S6 (Nat.le_trans hb4.size hg2) hb5.size
    have H6 : Ints w6 A m c p := Row.save H5 S6 (HOF g2 hg2 0)
    obtain rfl : m2 = m := by rw [← R6.len, ← H5.len]
    have KS := Lib.hid (refSame A B m2 c d p w6 H6 R6)
    have HML := Lib.hid H6.len
    have HB6 := Lib.hid hb6
    have HH6 := Lib.hid H6
    clear hb4 hb5 H5 HSZ R6 P6 S6 hb6 H6 hb50 hg2 X5
    go_wp2_with fail
    refine (KS.out).mono ?_
    rintro e w7 ⟨rfl, hb7⟩
    have KRR := permRight A m2 c p w7 (HH6.out.keep hb7) (by have := HML.out; have := HP.out.2; omega)
    rw [HP.out.1] at KRR
    have KRH := Lib.hid KRR
    have HB7 := Lib.hid (HB6.out.trans (hb7.mono HB6.out.size))
    clear hb7 KRR
    go_wp2_with (go_at_call 14; with_reducible refine (KN.out _).mono ?_; rintro e w' ⟨rfl, rfl⟩)
    refine (KRH.out).mono ?_
    rintro e w8 ⟨rfl, hb8⟩
    have HB8 := Lib.hid (HB7.out.trans (hb8.mono HB7.out.size))
    clear hb8
    go_wp2_with fail
    go_ret
    exact ⟨rfl, HB8.out⟩
  · clear f0
    go_enter Tryd.func3, Tryd.ntmps3
    go_wp2_with fail
    refine (K.out).mono ?_
    rintro e w2 ⟨rfl, hb20⟩
    have HS2 := H0.keep hb20 (by simp)
    have hb2 := HB0.out.trans (hb20.mono HB0.out.size)
    have hs2 := hb2.size
    have hT2 := HT.out.keep hb20
    have hlt0 : w.heap.size < w2.heap.size := by have := hb20.size; simp at this; omega
    clear H0 hb20
    go_wp2_with ((with_reducible refine wpList_load_key rfl (.tmp 3) rfl w.heap.size rfl z HZ.out HS2 ?_))
    refine (KA.out w2).mono ?_
    rintro e w3 ⟨g1, rfl, X3, hg1, hb30⟩
    have HS3 := HS2.keep hb30 (by omega)
    have hb3 := hb2.trans (hb30.mono hs2)
    have hT3 := hT2.keep hb30
    go_wp2_with fail
    refine (KO.out g1 w3 X3 hT3).mono ?_
    rintro e w4 ⟨A, m, c, rfl, H4, P4, S4⟩
    have hb4 := Save.below hb3 S4 (by omega) hb3.size
    have HS4 := HS3.save S4 (by omega)
    clear HS2 hb2 hT2 hb30 HS3 hb3 hT3 X3 P4 S4
    go_wp2_with ((with_reducible refine wpList_load_key rfl (.tmp 3) rfl w.heap.size rfl z HZ.out HS4 ?_))
    refine (KR.out w4).mono ?_
    rintro e w5 ⟨g2, rfl, X5, hg2, hb50⟩
    have hb5 := hb4.trans (hb50.mono hb4.size)
    have H5 := H4.keep hb50
    have HSZ := hb50.size
    have HOF := fun g (hg : w4.heap.size ≤ g) (mm : Nat) => (Off.of_row H4 hg : Off g A m)
    clear H4 HS4
    go_wp2_with fail
    refine (KP.out g2 w5 X5).mono ?_
    rintro e w6 ⟨B, m2, d, rfl, R6, P6, S6⟩
    have hb6 := Save.below hb5 S6 (Nat.le_trans hb4.size hg2) hb5.size
    have H6 : Ints w6 A m c p := Row.save H5 S6 (HOF g2 hg2 0)
    obtain rfl : m2 = m := by rw [← R6.len, ← H5.len]
    have KS := Lib.hid (refSame A B m2 c d p w6 H6 R6)
    have HML := Lib.hid H6.len
    have HB6 := Lib.hid hb6
    have HH6 := Lib.hid H6
    clear hb4 hb5 H5 HSZ R6 P6 S6 hb6 H6 hb50 hg2 X5
    go_wp2_with fail
    refine (KS.out).mono ?_
    rintro e w7 ⟨rfl, hb7⟩
    have KRR := permRight A m2 c p w7 (HH6.out.keep hb7) (by have := HML.out; have := HP.out.2; omega)
    rw [HP.out.1] at KRR
    have KRH := Lib.hid KRR
    have HB7 := Lib.hid (HB6.out.trans (hb7.mono HB6.out.size))
    clear hb7 KRR
    go_wp2_with (go_at_call 14; with_reducible refine (KN.out _).mono ?_; rintro e w' ⟨rfl, rfl⟩)
    refine (KRH.out).mono ?_
    rintro e w8 ⟨rfl, hb8⟩
    have HB8 := Lib.hid (HB7.out.trans (hb8.mono HB7.out.size))
    clear hb8
    go_wp2_with fail
    go_ret
    exact ⟨rfl, HB8.out⟩
end permOfLaw
end Go.Proofs.YthghpbbiedemdaaDoor
