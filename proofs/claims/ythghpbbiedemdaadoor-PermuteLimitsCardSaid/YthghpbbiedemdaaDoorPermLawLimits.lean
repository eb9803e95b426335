/-
  The law PermuteLimits of chapter 13.
-/
import Derived.Test.YthghpbbiedemdaaDoorPermLaw
namespace Go.Proofs.YthghpbbiedemdaaDoor
open Go.ChangeShapes Go.WideShapes Go.ChangeAt Go.RowKit
set_option linter.unusedVariables false
set_option linter.unusedSimpArgs false

namespace permLimitsLaw
set_option maxHeartbeats 1000000 in
set_option maxRecDepth 10000 in
theorem all (n : Int) (w : World) (hT : Tab w) :
    Calls Tryd.prog 6 #[.int .i64 n] w fun e w' => e = .returned (.bool true) ∧ Below w.heap.size w w' := by
  have K := Lib.hid (alive13 w hT)
  obtain ⟨z, hz⟩ : ∃ z : List UInt8, List.replicate 32 0 = z := ⟨_, rfl⟩
  have hzl : z.length = 32 := by rw [← hz, List.length_replicate]
  have K1 := Lib.hid (fun u => show Calls Tryd.prog 10 #[.agg #[.int .u8 0, .int .u8 0, .int .u8 0, .int .u8 0, .int .u8 0, .int .u8 0, .int .u8 0, .int .u8 0, .int .u8 0, .int .u8 0, .int .u8 0, .int .u8 0, .int .u8 0, .int .u8 0, .int .u8 0, .int .u8 0, .int .u8 0, .int .u8 0, .int .u8 0, .int .u8 0, .int .u8 0, .int .u8 0, .int .u8 0, .int .u8 0, .int .u8 0, .int .u8 0, .int .u8 0, .int .u8 0, .int .u8 0, .int .u8 0, .int .u8 0, .int .u8 0], .string ⟨#[109]⟩] u fun e w' => ∃ g, e = .returned (.pointer (some ⟨g, 0, none⟩)) ∧ StrmP w' g z [109] 0 ∧ u.heap.size ≤ g ∧ Below u.heap.size u w' by
    rw [← hz]
    exact progNew' (List.replicate 32 0) [109] rfl (by simp) u)
  have HT := Lib.hid hT
  obtain ⟨⟨p, k, j⟩, ho⟩ : ∃ r : List Int × Nat × Nat, orderB z [109] n 0 = r := ⟨_, rfl⟩
  have K2 := Lib.hid (fun (g : Nat) (u : World) (H : StrmP u g z [109] 0) (h : Tab u) => permOf g z [109] n 0 p k j ho (by omega) hzl (by simp) u H h)
  by_cases hm : 0 ≤ n ∧ n < 999
  · have f0 : 0 ≤ n := hm.1
    have f1 : n < 999 := hm.2
    clear hz hT hm ho
    go_enter Tryd.func6, Tryd.ntmps6
    go_wp2_with fail
    refine (K.out).mono ?_
    rintro e w2 ⟨rfl, hb⟩
    go_wp2_with fail
    go_ret
    exact ⟨rfl, hb⟩
  by_cases hr : n < 0 ∨ 1000 < n
  · rw [orderB_out hr] at ho
    cases ho
    have KN := Lib.hid (fun u => num13 1 u (by omega))
    rcases hr with h0 | h1
    · have f0 : ¬ 0 ≤ n := by omega
      have f1 : n < 0 := h0
      clear hz hT hm h0
      go_enter Tryd.func6, Tryd.ntmps6
      go_wp2_with fail
      refine (K.out).mono ?_
      rintro e w2 ⟨rfl, hb⟩
      go_wp2_with fail
      refine (K1.out w2).mono ?_
      rintro e w3 ⟨g, rfl, X3, hg, hb3⟩
      have hb03 := hb.trans (hb3.mono hb.size)
      go_wp2_with fail
      refine (K2.out g w3 X3 (HT.out.keep hb03)).mono ?_
      rintro e w4 ⟨A, m, c, rfl, H4, P4, S4⟩
      obtain rfl : m = 0 := H4.len.symm
      have HB := Lib.hid (Save.below hb03 S4 (Nat.le_trans hb.size hg) hb03.size)
      clear hb hb3 hb03 X3 hg H4 P4 S4
      go_wp2_with (go_at_call 14; with_reducible refine (KN.out _).mono ?_; rintro e w' ⟨rfl, rfl⟩)
      go_ret
      exact ⟨rfl, HB.out⟩
    · have f0 : 0 ≤ n := by omega
      have f0' : ¬ n < 0 := by omega
      have f1 : ¬ n < 999 := by omega
      have f2 : 1000 < n := h1
      clear hz hT hm h1
      go_enter Tryd.func6, Tryd.ntmps6
      go_wp2_with fail
      refine (K.out).mono ?_
      rintro e w2 ⟨rfl, hb⟩
      go_wp2_with fail
      refine (K1.out w2).mono ?_
      rintro e w3 ⟨g, rfl, X3, hg, hb3⟩
      have hb03 := hb.trans (hb3.mono hb.size)
      go_wp2_with fail
      refine (K2.out g w3 X3 (HT.out.keep hb03)).mono ?_
      rintro e w4 ⟨A, m, c, rfl, H4, P4, S4⟩
      obtain rfl : m = 0 := H4.len.symm
      have HB := Lib.hid (Save.below hb03 S4 (Nat.le_trans hb.size hg) hb03.size)
      clear hb hb3 hb03 X3 hg H4 P4 S4
      go_wp2_with (go_at_call 14; with_reducible refine (KN.out _).mono ?_; rintro e w' ⟨rfl, rfl⟩)
      go_ret
      exact ⟨rfl, HB.out⟩
  · obtain ⟨n, rfl⟩ : ∃ m : Nat, n = (m : Int) := ⟨n.toNat, by omega⟩
    have f0 : (0 : Int) ≤ (n : Int) := by omega
    have f0' : ¬ (n : Int) < 0 := by omega
    have f1 : ¬ (n : Int) < 999 := by omega
    have f2 : ¬ 1000 < (n : Int) := by omega
    have hor := orderB_in (seed := z) (name := [109]) (show n ≤ 1000 by omega) 0
    rw [ho] at hor
    rcases hor with ⟨h1, h2⟩ | ⟨h1, h2⟩
    · obtain rfl : k = 0 := h1
      have KN := Lib.hid (fun u => num13 0 u (by omega))
      have HO := Lib.hid (show Ord p n from h2)
      have hnb : n ≤ 1000 := by omega
      clear hz hT hm hr ho h2
      go_enter Tryd.func6, Tryd.ntmps6
      go_wp2_with fail
      refine (K.out).mono ?_
      rintro e w2 ⟨rfl, hb⟩
      go_wp2_with fail
      refine (K1.out w2).mono ?_
      rintro e w3 ⟨g, rfl, X3, hg, hb3⟩
      have hb03 := hb.trans (hb3.mono hb.size)
      go_wp2_with fail
      refine (K2.out g w3 X3 (HT.out.keep hb03)).mono ?_
      rintro e w4 ⟨A, m, c, rfl, H4, P4, S4⟩
      obtain rfl : m = n := by rw [← H4.len]; exact HO.out.1
      have HB := Lib.hid (Save.below hb03 S4 (Nat.le_trans hb.size hg) hb03.size)
      have KR0 := permRight A m c p w4 H4 (by omega)
      rw [HO.out.right] at KR0
      have KR := Lib.hid KR0
      clear hb hb3 hb03 X3 hg H4 P4 S4 KR0
      go_wp2_with (go_at_call 14; with_reducible refine (KN.out _).mono ?_; rintro e w' ⟨rfl, rfl⟩)
      refine (KR.out).mono ?_
      rintro e w5 ⟨rfl, hb5⟩
      have HE := Lib.hid (HB.out.trans (hb5.mono HB.out.size))
      clear hb5
      go_wp2_with fail
      go_ret
      exact ⟨rfl, HE.out⟩
    · obtain rfl : k = 9 := h1
      have KN := Lib.hid (fun u => num13 9 u (by omega))
      clear hz hT hm hr ho h2
      go_enter Tryd.func6, Tryd.ntmps6
      go_wp2_with fail
      refine (K.out).mono ?_
      rintro e w2 ⟨rfl, hb⟩
      go_wp2_with fail
      refine (K1.out w2).mono ?_
      rintro e w3 ⟨g, rfl, X3, hg, hb3⟩
      have hb03 := hb.trans (hb3.mono hb.size)
      go_wp2_with fail
      refine (K2.out g w3 X3 (HT.out.keep hb03)).mono ?_
      rintro e w4 ⟨A, m, c, rfl, H4, P4, S4⟩
      have HB := Lib.hid (Save.below hb03 S4 (Nat.le_trans hb.size hg) hb03.size)
      clear hb hb3 hb03 X3 hg H4 P4 S4
      go_wp2_with (go_at_call 14; with_reducible refine (KN.out _).mono ?_; rintro e w' ⟨rfl, rfl⟩)
      go_ret
      exact ⟨rfl, HB.out⟩
end permLimitsLaw
end Go.Proofs.YthghpbbiedemdaaDoor
