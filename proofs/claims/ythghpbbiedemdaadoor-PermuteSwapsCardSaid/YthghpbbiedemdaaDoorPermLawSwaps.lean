/-
  The law PermuteSwaps of chapter 13.
-/
import Derived.Test.YthghpbbiedemdaaDoorPermLaw
import Derived.Test.YthghpbbiedemdaaDoorRefOrd
import Derived.Test.YthghpbbiedemdaaDoorRefOrder
namespace Go.Proofs.YthghpbbiedemdaaDoor
open Go.ChangeShapes Go.WideShapes Go.ChangeAt Go.RowKit
set_option linter.unusedVariables false
set_option linter.unusedSimpArgs false

namespace permSwapsLaw
set_option maxHeartbeats 1000000 in
theorem out (n : Int) (z : List UInt8) (hz : z.length = 32) (w : World) (hT : Tab w) (hm : n < 0 ∨ 60 < n) :
    Calls Tryd.prog 7 #[.int .i64 n, .agg (z.map bv).toArray] w fun e w' => e = .returned (.bool true) ∧ Below w.heap.size w w' := by
  have hb0 := (Below.refl w.heap.size w).alloc (Nat.le_refl _) (.cells (z.map bv).toArray 23)
  have K := Lib.hid (alive13 _ (hT.keep hb0))
  rcases hm with h | h
  · clear hT hz
    go_enter Tryd.func7, Tryd.ntmps7
    go_wp2_with fail
    refine (K.out).mono ?_
    rintro e w2 ⟨rfl, hb⟩
    go_wp2_with fail
    go_ret
    exact ⟨rfl, hb0.trans (hb.mono hb0.size)⟩
  · have h0 : ¬ n < 0 := by omega
    clear hT hz
    go_enter Tryd.func7, Tryd.ntmps7
    go_wp2_with fail
    refine (K.out).mono ?_
    rintro e w2 ⟨rfl, hb⟩
    go_wp2_with fail
    go_ret
    exact ⟨rfl, hb0.trans (hb.mono hb0.size)⟩
set_option maxHeartbeats 2000000 in
set_option maxRecDepth 10000 in
theorem inn (n : Nat) (z : List UInt8) (hz : z.length = 32) (w : World) (hT : Tab w) (hn : n ≤ 60) :
    Calls Tryd.prog 7 #[.int .i64 (n : Int), .agg (z.map bv).toArray] w fun e w' => e = .returned (.bool true) ∧ Below w.heap.size w w' := by
  have hb0 := (Below.refl w.heap.size w).alloc (Nat.le_refl _) (.cells (z.map bv).toArray 23)
  have K := Lib.hid (alive13 _ (hT.keep hb0))
  have f0 : ¬ (n : Int) < 0 := by omega
  have f1 : ¬ 60 < (n : Int) := by omega
  have H0 := Has.new w 23 (z.map bv)
  have HZ := Lib.hid hz
  have HT := Lib.hid (hT.keep hb0)
  obtain ⟨⟨p, k, j⟩, ho⟩ : ∃ r : List Int × Nat × Nat, orderB z [115] n 0 = r := ⟨_, rfl⟩
  have KA := Lib.hid (fun u => show Calls Tryd.prog 10 #[.agg (z.map bv).toArray, .string ⟨#[115]⟩] u _ from progNew' z [115] hz (by simp) u)
  have KO := Lib.hid (fun (g : Nat) (u : World) (H : StrmP u g z [115] 0) (h : Tab u) => permOf g z [115] n 0 p k j ho (by omega) hz (by simp) u H h)
  have KX := Lib.hid (fun (g v i x k j : Nat) (h : nextB z [115] v i = (x, k, j)) (hn : v < 18446744073709551616) (hi : i ≤ 1000000) (u : World) (H : StrmP u g z [115] i) (h' : Tab u) => progNext' g z [115] v i x k j h hn (by omega) hz (by simp) u H h')
  have hor := orderB_in (seed := z) (name := [115]) (show n ≤ 1000 by omega) 0
  rw [ho] at hor
  have HB0 := Lib.hid hb0
  rcases hor with ⟨h1, h2⟩ | ⟨h1, h2⟩
  · obtain rfl : k = 0 := h1
    have h2 : Ord p n := h2
    have HP := Lib.hid h2
    have KN := Lib.hid (fun u => num13 0 u (by omega))
    rw [orderB, if_neg (by omega), Int.toNat_natCast] at ho
    have HD := Lib.hid ho
    clear hT hz ho h2 hb0
    go_enter Tryd.func7, Tryd.ntmps7
    go_wp2_with fail
    refine (K.out).mono ?_
    rintro e w2 ⟨rfl, hb20⟩
    have HS2 := H0.keep hb20 (by simp)
    have hb2 := HB0.out.trans (hb20.mono HB0.out.size)
    have hs2 := hb2.size
    have hT2 := HT.out.keep hb20
    have hlt0 : w.heap.size < w2.heap.size := by have := hb20.size; simp at this; omega
    clear H0 hb20
    go_wp2_with ((with_reducible refine wpList_load_key rfl (.tmp 3) rfl w.heap.size rfl z HZ.out HS2 ?_))
    refine (KA.out w2).mono ?_
    rintro e w3 ⟨g1, rfl, X3, hg1, hb30⟩
    have HS3 := HS2.keep hb30 (by omega)
    have hb3 := hb2.trans (hb30.mono hs2)
    have hT3 := hT2.keep hb30
    go_wp2_with fail
    refine (KO.out g1 w3 X3 hT3).mono ?_
    rintro e w4 ⟨A, m, c, rfl, H4, P4, S4⟩
    obtain rfl : m = n := by rw [← H4.len]; exact HP.out.1
    have hb4 := Save.below hb3 S4 (by omega) hb3.size
    have HS4 := HS3.save S4 (by omega)
    have hT4 := hT3.save S4 (strm_off HZ.out hT3 X3)
    clear HS2 hb2 hT2 hb30 HS3 hb3 hT3 X3 P4 S4
    go_wp2_with ((with_reducible refine wpList_load_key rfl (.tmp 3) rfl w.heap.size rfl z HZ.out HS4 ?_))
    refine (KA.out w4).mono ?_
    rintro e w5 ⟨g2, rfl, X5, hg2, hb50⟩
    have H5 := Lib.hid (H4.keep hb50)
    have hT5 := Lib.hid (hT4.keep hb50)
    have hb5 := Lib.hid (hb4.trans (hb50.mono hb4.size))
    have HG2 := Lib.hid (And.intro X5.lt (show w.heap.size ≤ g2 from Nat.le_trans hb4.size hg2))
    have HOF := Lib.hid (Off.of_row H4 hg2)
    have XH := Lib.hid X5
    have hb00 := Below.refl w5.heap.size w5
    clear H4 HS4 hT4 hb4 hb50 hg2 X5 hs2 hlt0 hg1
    go_wp2_with (go_at_call 14; with_reducible refine (KN.out _).mono ?_; rintro e w' ⟨rfl, rfl⟩)
    go_loopw [9, 10] (fun v6 v7 wr => ∃ i : Nat, i ≤ m ∧ v7 = .int .i64 i ∧ wr.ownsRow w5.heap.size 3 1 v6 i ((firstL i).map iv) ∧ Below w5.heap.size w5 wr) (fun _ v _ => m - (intOf v).toNat)
    case atStart => exact ⟨0, by omega, rfl, World.ownsRow_nil _ _ _ _, hb00⟩
    case round =>
      obtain ⟨i, hi, rfl, hown, hb⟩ := hrel
      clear hb00
      by_cases hlt : i < m
      · have htj : (i : Int) < (m : Int) := by omega
        obtain ⟨q, hq⟩ : ∃ q, firstL i = q := ⟨_, rfl⟩
        have HQ := Lib.hid (show firstL (i + 1) = q ++ [(i : Int)] by rw [firstL_snoc, hq])
        rw [hq] at hown
        clear hq
        obtain ⟨B, d, rfl, hr⟩ := Row.own hown
        go_wp2_with (at_builtin; (refine appI rfl (.tmp 47) (.tmp 49) rfl w5.heap.size (.slice B i d) i q rfl (hown.alloc _) (some ⟨wr.heap.size, 0, none⟩) 1 1 [(i : Int)] rfl (lit1I wr (i : Int)) (by omega) (Nat.le_trans hb.size (by simp)) ?_); intro v8 w8 hown8 hg8)
        go_roundw
        case rel => exact ⟨i + 1, by omega, by go_num, by rw [HQ.out]; exact hown8, (hb.alloc hb.size _).grown hg8 (Nat.le_trans hb.size (by simp)) (fun k hk => (hown.lt k hk).1)⟩
        case measure => simp [intOf]; omega
      · obtain rfl : i = m := by omega
        have HA := Lib.hid (Ord.first i)
        generalize firstL i = p0 at *
        by_cases hz : i = 0
        · subst hz
          obtain ⟨B, d, rfl, hr⟩ := Row.own hown
          have e1 : p0 = p := (Prod.mk.inj HD.out).1
          rw [e1] at hr
          have HB := Lib.hid (hb5.out.trans (hb.mono hb5.out.size))
          have KS := Lib.hid (refSame A B 0 c d p wr (H5.out.keep hb) hr)
          clear hr hb hown e1
          go_wp2_with fail
          go_loopw [11] (fun v wq => v = .int .i64 (-1) ∧ wq = wr) (fun _ _ => 0)
          case atStart => exact ⟨by go_num, rfl⟩
          case round =>
            obtain ⟨rfl, rfl⟩ := hrel
            go_wp2_with fail
            refine (KS.out).mono ?_
            rintro e w7 ⟨rfl, hb7⟩
            have HE := Lib.hid (HB.out.trans (hb7.mono HB.out.size))
            clear hb7
            go_wp2_with fail
            go_ret
            exact ⟨rfl, HE.out⟩
        obtain ⟨gq, d, Z, rfl, hgq, HB, hic, hcm, hpl⟩ := own_hasI hown (by omega)
        have HB := Lib.hid HB
        have HXS := Lib.hid (XH.out.keep hb)
        have HTS := Lib.hid (hT5.out.keep hb)
        have H5S := Lib.hid (H5.out.keep hb)
        have HV := Lib.hid (hb5.out.trans (hb.mono hb5.out.size))
        have HC := Lib.hid (And.intro hic (And.intro hcm hgq))
        have HLQ := Lib.hid (show g2 < gq from Nat.lt_of_lt_of_le HG2.out.1 hgq)
        have HTL := Lib.hid (Nat.lt_of_lt_of_le hT5.out.block hgq)
        have HOQ := Lib.hid (Off.of_row H5.out hgq)
        have HWQ := Lib.hid (Nat.le_trans hb5.out.size hgq)
        clear hown hb hic hcm hgq
        go_wp2_with fail
        go_loopw [11] (fun v wr => ∃ (k : Nat) (q : List Int) (j0 : Nat), v = .int .i64 k ∧ k ≤ 100 ∧ Hid (k < i) ∧ Hid (mixB z [115] k q j0 = (p, 0, j)) ∧ Hid (j0 + 64 * k ≤ 10000) ∧ Hid (q.length = i) ∧ Hid (Has wr gq 3 (q.map iv ++ Z)) ∧ Hid (StrmP wr g2 z [115] j0) ∧ Hid (Tab wr) ∧ Hid (Ints wr A i c p) ∧ Hid (Below w.heap.size w wr)) (fun v _ => (intOf v).toNat)
        case atStart => exact ⟨i - 1, p0, 0, by go_num, by omega, Lib.hid (by omega), HD, Lib.hid (by omega), Lib.hid HA.out.1, HB, HXS, HTS, H5S, HV⟩
        case round =>
          clear HB HXS HTS H5S HV
          obtain ⟨k, q, j0, rfl, hk1, HK, HM, HJ0, HL, HB, HX, HT6, HI, HV⟩ := hrel
          by_cases hge : 0 < (k : Int)
          · obtain ⟨k0, hk0⟩ : ∃ k0, k = k0 + 1 := ⟨k - 1, by omega⟩
            obtain ⟨⟨x, e, j1⟩, hx⟩ : ∃ r : Nat × Nat × Nat, nextB z [115] (k + 1) j0 = r := ⟨_, rfl⟩
            have KX1 := KX.out g2 (k + 1) j0 x e j1 hx (by omega) (by have := HJ0.out; omega) wr HX.out HT6.out
            rw [show ((k + 1 : Nat) : Int) = (k : Int) + 1 by omega] at KX1
            have hu : IntKind.u64.wrap ((k : Int) + 1) = (k : Int) + 1 := by rw [IntKind.wrap_u64]; omega
            have hv : IntKind.u64.wrap (k : Int) = (k : Int) := by rw [IntKind.wrap_u64]; omega
            have OF := Lib.hid (strm_off HZ.out HT6.out HX.out)
            have HMM := HM.out
            rw [hk0] at hx HMM
            obtain rfl : e = 0 := by
              by_cases he : e = 0
              · exact he
              · rw [mixB_miss hx he] at HMM
                obtain ⟨_, h2⟩ := Prod.mk.inj HMM
                exact absurd (Prod.mk.inj h2).1 he
            have KXH := Lib.hid KX1
            rw [mixB_hit (e := 0) hx] at HMM
            have hxl := nextB_lt (seed := z) (name := [115]) (n := k0 + 2) (i := j0)
            rw [show k0 + 1 + 1 = k0 + 2 from rfl] at hx
            rw [hx] at hxl
            have hxk : x < k + 1 := by have : x < k0 + 2 := hxl rfl; omega
            have hj1 := (nextB_at (seed := z) (name := [115]) (n := k0 + 2) (i := j0)).2
            rw [hx] at hj1
            have HJ1 := Lib.hid (show j1 + 64 * k0 ≤ 10000 by have : j1 ≤ j0 + 64 := hj1; have := HJ0.out; omega)
            rw [← hk0] at HMM
            have HM1 := Lib.hid HMM
            have hki : (k : Int) < (i : Int) := by have := HK.out; omega
            have hxi : (x : Int) < (i : Int) := by omega
            have hxk' : ¬ (k : Int) < (x : Int) := by omega
            have HXK := Lib.hid hk0
            clear hx hxl hj1 HMM hk0 KX1 HM
            go_wp2_with fail
            refine (KXH.out).mono ?_
            rintro e w6 ⟨rfl, P3, S3⟩
            have HB3 := HB.out.save S3 (by have := HLQ.out; omega)
            have ca := cell_room HB3 (i := k) (by rw [HL.out]; omega)
            have cb := cell_room HB3 (i := x) (by rw [HL.out]; omega)
            have fa := HB3.froz k
            obtain ⟨a, ha⟩ : ∃ a, q.getD k 0 = a := ⟨_, rfl⟩
            obtain ⟨b, hb⟩ : ∃ b, q.getD x 0 = b := ⟨_, rfl⟩
            have HBM := HB3.set k (.int .i64 b)
            have cb2 : (w6.setCell ⟨gq, k, none⟩ (.int .i64 b)).cell? ⟨gq, x, none⟩ = some (.int .i64 b) := by
              rw [HBM.cell, List.getElem?_set, List.length_append, List.length_map]
              by_cases hkx : k = x
              · rw [if_pos hkx, if_pos (by rw [HL.out]; omega)]
              · rw [if_neg hkx, ← HB3.cell, cb, hb]
            have fb2 := HBM.froz x
            have HB4 := HBM.set x (.int .i64 a)
            rw [← ha, ← hb, swap_room (by rw [HL.out]; omega) (by rw [HL.out]; omega)] at HB4
            rw [ha, hb] at HB4
            rw [ha] at ca
            rw [hb] at cb
            clear ha hb HBM
            have O := (Only.setCell w6 gq k (.int .i64 b)).trans (Only.setCell (w6.setCell ⟨gq, k, none⟩ (.int .i64 b)) gq x (.int .i64 a))
            have HBH := Lib.hid HB4
            have HX4 := Lib.hid (P3.save (k := gq) O.save (by have := HLQ.out; omega) (fun b hb => hb.ne HB3 (by decide)))
            have HT4 := Lib.hid ((HT6.out.save S3 OF.out).save O.save (by have := HTL.out; omega))
            have HI4 := Lib.hid (show Ints _ A i c p from Row.only (Row.save HI.out S3 HOF.out) O HOQ.out)
            have HV4 := Lib.hid (Only.below (Save.below HV.out S3 HG2.out.2 HV.out.size) O HWQ.out)
            clear HB4 O P3 S3 HB3 HB HX HT6 HI HV
            go_wp2_with (go_at_call 14; with_reducible refine (KN.out _).mono ?_; rintro e w' ⟨rfl, rfl⟩)
            go_roundw
            case rel => exact ⟨k0, swapL q k x, j1, by have := HXK.out; go_num, by have := HXK.out; omega, Lib.hid (by have := HXK.out; have := HK.out; omega), HM1, HJ1, Lib.hid (by rw [swapL_len]; exact HL.out), HBH, HX4, HT4, HI4, HV4⟩
            case measure => simp [intOf]; omega
          · have hk0 : k = 0 := by omega
            have HE := HM.out
            rw [hk0, mixB] at HE
            have e1 : q = p := (Prod.mk.inj HE).1
            have hr := HB.out.intsZ HL.out HC.out.1 HC.out.2.1
            rw [e1] at hr
            have KS := Lib.hid (refSame A _ i c d p wr HI.out hr)
            clear HE hk0 hr e1
            go_wp2_with fail
            refine (KS.out).mono ?_
            rintro e w7 ⟨rfl, hb7⟩
            have HE := Lib.hid (HV.out.trans (hb7.mono HV.out.size))
            clear hb7
            go_wp2_with fail
            go_ret
            exact ⟨rfl, HE.out⟩
  · obtain rfl : k = 9 := h1
    have KN := Lib.hid (fun u => num13 9 u (by omega))
    clear hT hz ho hb0 h2
    go_enter Tryd.func7, Tryd.ntmps7
    go_wp2_with fail
    refine (K.out).mono ?_
    rintro e w2 ⟨rfl, hb20⟩
    have HS2 := H0.keep hb20 (by simp)
    have hb2 := HB0.out.trans (hb20.mono HB0.out.size)
    have hs2 := hb2.size
    have hT2 := HT.out.keep hb20
    have hlt0 : w.heap.size < w2.heap.size := by have := hb20.size; simp at this; omega
    clear H0 hb20
    go_wp2_with ((with_reducible refine wpList_load_key rfl (.tmp 3) rfl w.heap.size rfl z HZ.out HS2 ?_))
    refine (KA.out w2).mono ?_
    rintro e w3 ⟨g1, rfl, X3, hg1, hb30⟩
    have HS3 := HS2.keep hb30 (by omega)
    have hb3 := hb2.trans (hb30.mono hs2)
    have hT3 := hT2.keep hb30
    go_wp2_with fail
    refine (KO.out g1 w3 X3 hT3).mono ?_
    rintro e w4 ⟨A, m, c, rfl, H4, P4, S4⟩
    have hb4 := Save.below hb3 S4 (by omega) hb3.size
    have HS4 := HS3.save S4 (by omega)
    clear HS2 hb2 hT2 hb30 HS3 hb3 hT3 X3 P4 S4
    go_wp2_with ((with_reducible refine wpList_load_key rfl (.tmp 3) rfl w.heap.size rfl z HZ.out HS4 ?_))
    refine (KA.out w4).mono ?_
    rintro e w5 ⟨g2, rfl, X5, hg2, hb50⟩
    have HE := Lib.hid (hb4.trans (hb50.mono hb4.size))
    clear HS4 hb4 hb50 X5 hg2 H4
    go_wp2_with (go_at_call 14; with_reducible refine (KN.out _).mono ?_; rintro e w' ⟨rfl, rfl⟩)
    go_ret
    exact ⟨rfl, HE.out⟩
theorem all (n : Int) (z : List UInt8) (hz : z.length = 32) (w : World) (hT : Tab w) :
    Calls Tryd.prog 7 #[.int .i64 n, .agg (z.map bv).toArray] w fun e w' => e = .returned (.bool true) ∧ Below w.heap.size w w' := by
  by_cases hm : n < 0 ∨ 60 < n
  · exact out n z hz w hT hm
  · obtain ⟨n, rfl⟩ : ∃ m : Nat, n = (m : Int) := ⟨n.toNat, by omega⟩
    exact inn n z hz w hT (by omega)
end permSwapsLaw
end Go.Proofs.YthghpbbiedemdaaDoor
