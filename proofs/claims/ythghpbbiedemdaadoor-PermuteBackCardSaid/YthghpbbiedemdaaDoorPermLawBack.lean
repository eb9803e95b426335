/-
  The law PermuteBack of chapter 13.
-/
import Derived.Test.YthghpbbiedemdaaDoorPermLaw
import Derived.Test.YthghpbbiedemdaaDoorRefOrd
namespace Go.Proofs.YthghpbbiedemdaaDoor
open Go.ChangeShapes Go.WideShapes Go.ChangeAt Go.RowKit
set_option linter.unusedVariables false
set_option linter.unusedSimpArgs false

namespace permBackLaw
set_option maxHeartbeats 1000000 in
theorem out (n : Int) (z : List UInt8) (hz : z.length = 32) (w : World) (hT : Tab w) (hm : n < 0 ∨ 100 < n) :
    Calls Tryd.prog 5 #[.int .i64 n, .agg (z.map bv).toArray] w fun e w' => e = .returned (.bool true) ∧ Below w.heap.size w w' := by
  have hb0 := (Below.refl w.heap.size w).alloc (Nat.le_refl _) (.cells (z.map bv).toArray 23)
  have K := Lib.hid (alive13 _ (hT.keep hb0))
  rcases hm with h | h
  · clear hT hz
    go_enter Tryd.func5, Tryd.ntmps5
    go_wp2_with fail
    refine (K.out).mono ?_
    rintro e w2 ⟨rfl, hb⟩
    go_wp2_with fail
    go_ret
    exact ⟨rfl, hb0.trans (hb.mono hb0.size)⟩
  · have h0 : ¬ n < 0 := by omega
    clear hT hz
    go_enter Tryd.func5, Tryd.ntmps5
    go_wp2_with fail
    refine (K.out).mono ?_
    rintro e w2 ⟨rfl, hb⟩
    go_wp2_with fail
    go_ret
    exact ⟨rfl, hb0.trans (hb.mono hb0.size)⟩
set_option maxHeartbeats 1000000 in
set_option maxRecDepth 10000 in
theorem inn (n : Nat) (z : List UInt8) (hz : z.length = 32) (w : World) (hT : Tab w) (hn : n ≤ 100) :
    Calls Tryd.prog 5 #[.int .i64 (n : Int), .agg (z.map bv).toArray] w fun e w' => e = .returned (.bool true) ∧ Below w.heap.size w w' := by
  have hb0 := (Below.refl w.heap.size w).alloc (Nat.le_refl _) (.cells (z.map bv).toArray 23)
  have K := Lib.hid (alive13 _ (hT.keep hb0))
  have f0 : ¬ (n : Int) < 0 := by omega
  have f1 : ¬ 100 < (n : Int) := by omega
  have H0 := Has.new w 23 (z.map bv)
  have HZ := Lib.hid hz
  have HT := Lib.hid (hT.keep hb0)
  obtain ⟨⟨p, k, j⟩, ho⟩ : ∃ r : List Int × Nat × Nat, orderB z [109] n 0 = r := ⟨_, rfl⟩
  have KA := Lib.hid (fun u => show Calls Tryd.prog 10 #[.agg (z.map bv).toArray, .string ⟨#[109]⟩] u _ from progNew' z [109] hz (by simp) u)
  have KO := Lib.hid (fun (g : Nat) (u : World) (H : StrmP u g z [109] 0) (h : Tab u) => permOf g z [109] n 0 p k j ho (by omega) hz (by simp) u H h)
  have hor := orderB_in (seed := z) (name := [109]) (show n ≤ 1000 by omega) 0
  rw [ho] at hor
  have HB0 := Lib.hid hb0
  rcases hor with ⟨h1, h2⟩ | ⟨h1, h2⟩
  · obtain rfl : k = 0 := h1
    have h2 : Ord p n := h2
    have HP := Lib.hid h2
    have HQ := Lib.hid h2.back
    obtain ⟨q, hq⟩ : ∃ q, invL p = q := ⟨_, rfl⟩
    have hi1 : backL p = q := by rw [← hq]; exact backL_ord h2
    have hi2 : backL q = p := by rw [← hq, backL_ord h2.back]; exact h2.back_back
    rw [hq] at HQ
    have KI := Lib.hid (fun (B : Option Addr) (d : Nat) (u : World) (hu : Ints u B n d p) => show Calls Tryd.prog 16 #[.slice B n d] u fun e w' => ∃ C m d', e = .returned (.tuple #[.slice C m d', .bool true]) ∧ Ints w' C m d' q ∧ Below u.heap.size u w' from h2.right ▸ hi1 ▸ permInverse B n d p u hu (by omega))
    have KJ := Lib.hid (fun (B : Option Addr) (d : Nat) (u : World) (hu : Ints u B n d q) => show Calls Tryd.prog 16 #[.slice B n d] u fun e w' => ∃ C m d', e = .returned (.tuple #[.slice C m d', .bool true]) ∧ Ints w' C m d' p ∧ Below u.heap.size u w' from by
      have := permInverse B n d q u hu (by omega)
      rw [HQ.out.right, hi2] at this
      exact this)
    have HAT := Lib.hid (fun (i : Nat) (hi : i < n) => show q.getD (p.getD i 0).toNat 0 = (i : Int) from hq ▸ h2.back_at hi)
    have HTA := Lib.hid (fun (i : Nat) (hi : i < n) => show p.getD (q.getD i 0).toNat 0 = (i : Int) from hq ▸ h2.at_back hi)
    have KN := Lib.hid (fun u => num13 0 u (by omega))
    clear hT hz ho h2 hq hi1 hi2 hb0
    go_enter Tryd.func5, Tryd.ntmps5
    go_wp2_with fail
    refine (K.out).mono ?_
    rintro e w2 ⟨rfl, hb20⟩
    have HS2 := H0.keep hb20 (by simp)
    have hb2 := HB0.out.trans (hb20.mono HB0.out.size)
    have hs2 := hb2.size
    have hT2 := HT.out.keep hb20
    clear H0 hb20
    go_wp2_with ((with_reducible refine wpList_load_key rfl (.tmp 3) rfl w.heap.size rfl z HZ.out HS2 ?_))
    refine (KA.out w2).mono ?_
    rintro e w3 ⟨g1, rfl, X3, hg1, hb30⟩
    have hb3 := hb2.trans (hb30.mono hs2)
    have hT3 := hT2.keep hb30
    go_wp2_with fail
    refine (KO.out g1 w3 X3 hT3).mono ?_
    rintro e w4 ⟨A, m, c, rfl, H4, P4, S4⟩
    obtain rfl : m = n := by rw [← H4.len]; exact HP.out.1
    have hb4 := Save.below hb3 S4 (by omega) hb3.size
    clear HS2 hb2 hT2 hb30 hb3 hT3 X3 P4 S4
    go_wp2_with fail
    refine (KI.out A c w4 H4).mono ?_
    rintro e w5 ⟨B, m2, d, rfl, H5, hb50⟩
    obtain rfl : m2 = m := by rw [← H5.len]; exact HQ.out.1
    have G5 := H4.keep hb50
    have hb5 := hb4.trans (hb50.mono hb4.size)
    clear H4 hb4 hb50
    go_wp2_with fail
    refine (KJ.out B d w5 H5).mono ?_
    rintro e w6 ⟨C, m3, d3, rfl, H6, hb60⟩
    obtain rfl : m3 = m2 := by rw [← H6.len]; exact HP.out.1
    have G6 := G5.keep hb60
    have F6 := H5.keep hb60
    have hb6 := hb5.trans (hb60.mono hb5.size)
    have KS := Lib.hid (refSame A C m3 c d3 p w6 G6 H6)
    have HG6 := Lib.hid G6
    have HF6 := Lib.hid F6
    have HB6 := Lib.hid hb6
    clear hb6 G5 H5 hb5 hb60 G6 F6 H6
    go_wp2_with (go_at_call 14; with_reducible refine (KN.out _).mono ?_; rintro e w' ⟨rfl, rfl⟩)
    refine (KS.out).mono ?_
    rintro e w7 ⟨rfl, hb7⟩
    have HG7 := Lib.hid (HG6.out.keep hb7)
    have HF7 := Lib.hid (HF6.out.keep hb7)
    have HB7 := Lib.hid (HB6.out.trans (hb7.mono HB6.out.size))
    clear hb7
    go_wp2_with fail
    go_loopw [12] (fun v wr => ∃ i : Nat, i ≤ m3 ∧ v = .int .i64 i ∧ wr = w7) (fun v _ => m3 - (intOf v).toNat)
    case atStart => exact ⟨0, by omega, rfl, rfl⟩
    case round =>
      obtain ⟨i, hi, rfl, rfl⟩ := hrel
      by_cases hlt : i < m3
      · have htj : (i : Int) < (m3 : Int) := by omega
        obtain ⟨b, off, rfl, hbl, hcA⟩ := HG7.out.at_ (by omega)
        obtain ⟨b', off', rfl, hbl', hcB⟩ := HF7.out.at_ (by omega)
        have hx := HP.out.pos hlt
        have hy := HQ.out.pos hlt
        have e1 := HAT.out i hlt
        have e2 := HTA.out i hlt
        have c1 := hcA i hlt
        have c2 := hcB i hlt
        obtain ⟨x, hxx⟩ : ∃ x : Nat, p.getD i 0 = (x : Int) := ⟨(p.getD i 0).toNat, by omega⟩
        obtain ⟨y, hyy⟩ : ∃ y : Nat, q.getD i 0 = (y : Int) := ⟨(q.getD i 0).toNat, by omega⟩
        rw [hxx] at hx c1 e1
        rw [hyy] at hy c2 e2
        rw [Int.toNat_natCast] at e1 e2
        have hxn : (x : Int) < (m3 : Int) := hx.2
        have hyn : (y : Int) < (m3 : Int) := hy.2
        have c3 := hcB x (by omega)
        have c4 := hcA y (by omega)
        rw [e1] at c3
        rw [e2] at c4
        have hne : ((i : Int) != (i : Int)) = false := by simp
        clear hcA hcB hx hy hxx hyy e1 e2
        go_wp2_with fail
        go_roundw
        case rel => exact ⟨i + 1, by omega, by go_num, trivial⟩
        case measure => simp [intOf]; omega
      · obtain rfl : i = m3 := by omega
        go_wp2_with fail
        go_ret
        exact ⟨rfl, HB7.out⟩
  · obtain rfl : k = 9 := h1
    obtain rfl : p = [] := h2
    have KI := Lib.hid (fun (B : Option Addr) (d : Nat) (u : World) (hu : Ints u B 0 d []) => show Calls Tryd.prog 16 #[.slice B 0 d] u fun e w' => ∃ C m d', e = .returned (.tuple #[.slice C m d', .bool true]) ∧ Ints w' C m d' [] ∧ Below u.heap.size u w' from permInverse B 0 d [] u hu (by omega))
    have KN := Lib.hid (fun u => num13 9 u (by omega))
    clear hT hz ho hb0
    go_enter Tryd.func5, Tryd.ntmps5
    go_wp2_with fail
    refine (K.out).mono ?_
    rintro e w2 ⟨rfl, hb20⟩
    have HS2 := H0.keep hb20 (by simp)
    have hb2 := HB0.out.trans (hb20.mono HB0.out.size)
    have hs2 := hb2.size
    have hT2 := HT.out.keep hb20
    clear H0 hb20
    go_wp2_with ((with_reducible refine wpList_load_key rfl (.tmp 3) rfl w.heap.size rfl z HZ.out HS2 ?_))
    refine (KA.out w2).mono ?_
    rintro e w3 ⟨g1, rfl, X3, hg1, hb30⟩
    have hb3 := hb2.trans (hb30.mono hs2)
    have hT3 := hT2.keep hb30
    go_wp2_with fail
    refine (KO.out g1 w3 X3 hT3).mono ?_
    rintro e w4 ⟨A, m, c, rfl, H4, P4, S4⟩
    obtain rfl : m = 0 := H4.len.symm
    have hb4 := Save.below hb3 S4 (by omega) hb3.size
    clear HS2 hb2 hT2 hb30 hb3 hT3 X3 P4 S4
    go_wp2_with fail
    refine (KI.out A c w4 H4).mono ?_
    rintro e w5 ⟨B, m2, d, rfl, H5, hb50⟩
    obtain rfl : m2 = 0 := H5.len.symm
    have hb5 := hb4.trans (hb50.mono hb4.size)
    clear H4 hb4 hb50
    go_wp2_with fail
    refine (KI.out B d w5 H5).mono ?_
    rintro e w6 ⟨C, m3, d3, rfl, H6, hb60⟩
    have HB6 := Lib.hid (hb5.trans (hb60.mono hb5.size))
    clear H5 hb5 hb60 H6
    go_wp2_with (go_at_call 14; with_reducible refine (KN.out _).mono ?_; rintro e w' ⟨rfl, rfl⟩)
    go_ret
    exact ⟨rfl, HB6.out⟩
theorem all (n : Int) (z : List UInt8) (hz : z.length = 32) (w : World) (hT : Tab w) :
    Calls Tryd.prog 5 #[.int .i64 n, .agg (z.map bv).toArray] w fun e w' => e = .returned (.bool true) ∧ Below w.heap.size w w' := by
  by_cases hm : n < 0 ∨ 100 < n
  · exact out n z hz w hT hm
  · obtain ⟨n, rfl⟩ : ∃ m : Nat, n = (m : Int) := ⟨n.toNat, by omega⟩
    exact inn n z hz w hT (by omega)
end permBackLaw
end Go.Proofs.YthghpbbiedemdaaDoor
