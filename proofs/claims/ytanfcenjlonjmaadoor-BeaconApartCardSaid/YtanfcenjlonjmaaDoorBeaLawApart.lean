/-
  The law BeaconApart of chapter 12.
-/
import Derived.Test.YtanfcenjlonjmaaDoorBeaLaw
namespace Go.Proofs.YtanfcenjlonjmaaDoor
open Go.ChangeShapes Go.WideShapes Go.ChangeAt Go.RowKit
set_option linter.unusedVariables false
set_option linter.unusedSimpArgs false

namespace beaApartLaw
theorem out1 (z a b : List UInt8) (hz : z.length = 32) (ma mb : Nat) (hma : (str a).size = ma) (hmb : (str b).size = mb) (t : Int) (w : World) (hT : Tab w) (h : 30 < ma) :
    Calls Tryd.prog 6 #[.agg (z.map bv).toArray, .string (str a), .string (str b), .int .i64 t] w fun e w' => e = .returned (.bool true) ∧ Below w.heap.size w w' := by
  have hb0 := (Below.refl w.heap.size w).alloc (Nat.le_refl _) (.cells (z.map bv).toArray 23)
  have K := Lib.hid (alive12 _ (hT.keep hb0))
  have f0 : (30 : Int) < (ma : Int) := by omega
  clear h
  go_enter Tryd.func6, Tryd.ntmps6
  go_wp2_with fail
  refine (K.out).mono ?_
  rintro e w2 ⟨rfl, hb⟩
  go_wp2_with fail
  go_ret
  exact ⟨rfl, hb0.trans (hb.mono hb0.size)⟩
theorem out2 (z a b : List UInt8) (hz : z.length = 32) (ma mb : Nat) (hma : (str a).size = ma) (hmb : (str b).size = mb) (t : Int) (w : World) (hT : Tab w) (h : ma ≤ 30 ∧ 30 < mb) :
    Calls Tryd.prog 6 #[.agg (z.map bv).toArray, .string (str a), .string (str b), .int .i64 t] w fun e w' => e = .returned (.bool true) ∧ Below w.heap.size w w' := by
  have hb0 := (Below.refl w.heap.size w).alloc (Nat.le_refl _) (.cells (z.map bv).toArray 23)
  have K := Lib.hid (alive12 _ (hT.keep hb0))
  have f0 : ¬ (30 : Int) < (ma : Int) := by omega
  have f1 : (30 : Int) < (mb : Int) := by omega
  clear h
  go_enter Tryd.func6, Tryd.ntmps6
  go_wp2_with fail
  refine (K.out).mono ?_
  rintro e w2 ⟨rfl, hb⟩
  go_wp2_with fail
  go_ret
  exact ⟨rfl, hb0.trans (hb.mono hb0.size)⟩
theorem out3 (z a b : List UInt8) (hz : z.length = 32) (ma mb : Nat) (hma : (str a).size = ma) (hmb : (str b).size = mb) (t : Int) (w : World) (hT : Tab w) (h : ma ≤ 30 ∧ mb ≤ 30 ∧ t < 0) :
    Calls Tryd.prog 6 #[.agg (z.map bv).toArray, .string (str a), .string (str b), .int .i64 t] w fun e w' => e = .returned (.bool true) ∧ Below w.heap.size w w' := by
  have hb0 := (Below.refl w.heap.size w).alloc (Nat.le_refl _) (.cells (z.map bv).toArray 23)
  have K := Lib.hid (alive12 _ (hT.keep hb0))
  have f0 : ¬ (30 : Int) < (ma : Int) := by omega
  have f1 : ¬ (30 : Int) < (mb : Int) := by omega
  have f2 : t < 0 := by omega
  clear h
  go_enter Tryd.func6, Tryd.ntmps6
  go_wp2_with fail
  refine (K.out).mono ?_
  rintro e w2 ⟨rfl, hb⟩
  go_wp2_with fail
  go_ret
  exact ⟨rfl, hb0.trans (hb.mono hb0.size)⟩
theorem out4 (z a b : List UInt8) (hz : z.length = 32) (ma mb : Nat) (hma : (str a).size = ma) (hmb : (str b).size = mb) (t : Int) (w : World) (hT : Tab w) (h : ma ≤ 30 ∧ mb ≤ 30 ∧ 30 < t) :
    Calls Tryd.prog 6 #[.agg (z.map bv).toArray, .string (str a), .string (str b), .int .i64 t] w fun e w' => e = .returned (.bool true) ∧ Below w.heap.size w w' := by
  have hb0 := (Below.refl w.heap.size w).alloc (Nat.le_refl _) (.cells (z.map bv).toArray 23)
  have K := Lib.hid (alive12 _ (hT.keep hb0))
  have f0 : ¬ (30 : Int) < (ma : Int) := by omega
  have f1 : ¬ (30 : Int) < (mb : Int) := by omega
  have f2 : ¬ t < 0 := by omega
  have f3 : 30 < t := by omega
  clear h
  go_enter Tryd.func6, Tryd.ntmps6
  go_wp2_with fail
  refine (K.out).mono ?_
  rintro e w2 ⟨rfl, hb⟩
  go_wp2_with fail
  go_ret
  exact ⟨rfl, hb0.trans (hb.mono hb0.size)⟩
set_option maxHeartbeats 1000000 in
set_option maxRecDepth 10000 in
theorem inn (z a b : List UInt8) (hz : z.length = 32) (ma mb : Nat) (hma : (str a).size = ma) (hmb : (str b).size = mb) (t : Nat) (w : World) (hT : Tab w) (h1 : ma ≤ 30) (h2 : mb ≤ 30) (h3 : t ≤ 30) :
    Calls Tryd.prog 6 #[.agg (z.map bv).toArray, .string (str a), .string (str b), .int .i64 (t : Int)] w fun e w' => e = .returned (.bool true) ∧ Below w.heap.size w w' := by
  have hb0 := (Below.refl w.heap.size w).alloc (Nat.le_refl _) (.cells (z.map bv).toArray 23)
  have K := Lib.hid (alive12 _ (hT.keep hb0))
  have H0 := Has.new w 23 (z.map bv)
  have f0 : ¬ (30 : Int) < (ma : Int) := by omega
  have f1 : ¬ (30 : Int) < (mb : Int) := by omega
  have f2 : ¬ (t : Int) < 0 := by omega
  have f3 : ¬ (30 : Int) < (t : Int) := by omega
  have la : a.length ≤ 1099511627776 := by have : (str a).size = a.length := by simp [str, ByteArray.size]
                                           omega
  have lb : b.length ≤ 1099511627776 := by have : (str b).size = b.length := by simp [str, ByteArray.size]
                                           omega
  have KA := Lib.hid (fun u => progNew' z a hz la u)
  have KB := Lib.hid (fun u => progNew' z b hz lb u)
  have KW := Lib.hid (fun (g i : Nat) (u : World) (hi : i ≤ 1000000) (H : StrmP u g z a i) (h : Tab u) => progWord' g z a i (by omega) hz la u H h)
  have KX := Lib.hid (fun (g n i x k j : Nat) (h : nextB z b n i = (x, k, j)) (hn : n ≤ 30) (hi : i ≤ 1000000) (u : World) (H : StrmP u g z b i) (h' : Tab u) => progNext' g z b n i x k j h (by omega) (by omega) hz lb u H h')
  have HZ := Lib.hid hz
  have HT := Lib.hid (hT.keep hb0)
  clear hT la lb hz
  go_enter Tryd.func6, Tryd.ntmps6
  go_wp2_with fail
  refine (K.out).mono ?_
  rintro e w2 ⟨rfl, hb20⟩
  have HS2 := H0.keep hb20 (by simp)
  have hb2 := hb0.trans (hb20.mono hb0.size)
  have hs2 := hb2.size
  have hT2 := HT.out.keep hb20
  have hlt0 : w.heap.size < w2.heap.size := by have := hb20.size; simp at this; omega
  clear K HT H0 hb20 hb0
  go_wp2_with ((with_reducible refine wpList_load_key rfl (.tmp 4) rfl w.heap.size rfl z HZ.out HS2 ?_))
  refine (KA.out w2).mono ?_
  rintro e w3 ⟨g1, rfl, X3, hg1, hb30⟩
  have HS3 := HS2.keep hb30 (by omega)
  have hb3 := hb2.trans (hb30.mono hs2)
  have hT3 := hT2.keep hb30
  have hs3 := hb30.size
  have hl1 := StrmP.lt X3
  go_wp2_with ((with_reducible refine wpList_load_key rfl (.tmp 4) rfl w.heap.size rfl z HZ.out HS3 ?_))
  refine (KB.out w3).mono ?_
  rintro e w4 ⟨g2, rfl, Y4, hg2, hb40⟩
  have HS4 := HS3.keep hb40 (by omega)
  have hb4 := hb3.trans (hb40.mono (by omega))
  have hT4 := hT3.keep hb40
  have hs4 := hb40.size
  have hl2 := StrmP.lt Y4
  have X4 : StrmP w4 g1 z a 0 := StrmP.keep X3 hb40
  go_wp2_with ((with_reducible refine wpList_load_key rfl (.tmp 4) rfl w.heap.size rfl z HZ.out HS4 ?_))
  refine (KA.out w4).mono ?_
  rintro e w5 ⟨g3, rfl, Z5, hg3, hb50⟩
  have hb5 := hb4.trans (hb50.mono (by omega))
  have hT5 := hT4.keep hb50
  have X5 : StrmP w5 g1 z a 0 := StrmP.keep X4 hb50
  have Y5 : StrmP w5 g2 z b 0 := StrmP.keep Y4 hb50
  have HG := Lib.hid (And.intro (show g1 < g2 by omega) (And.intro (show g2 < g3 by omega) (show w.heap.size ≤ g1 by omega)))
  have HB5 := Lib.hid hb5
  have HX5 := Lib.hid X5
  have HY5 := Lib.hid Y5
  have HZ5 := Lib.hid Z5
  have HT5 := Lib.hid hT5
  clear X3 X4 X5 Y4 Y5 Z5 hT2 hT3 hT4 hT5 HS2 HS3 HS4 hb2 hb3 hb4 hb5 hb30 hb40 hb50 hs2 hs3 hs4 hl1 hl2 hlt0 hg1 hg2 hg3
  go_wp2_with fail
  go_loopw [13] (fun v wr => ∃ i : Nat, i ≤ t ∧ v = .int .i64 i ∧ Hid (StrmP wr g1 z a i) ∧ Hid (StrmP wr g3 z a i) ∧ Hid (∃ j : Nat, j ≤ 64 * i ∧ StrmP wr g2 z b j) ∧ Hid (Tab wr) ∧ Hid (Below w.heap.size w wr)) (fun v _ => 30 - (intOf v).toNat)
  case atStart => exact ⟨0, by omega, rfl, HX5, HZ5, Lib.hid ⟨0, by omega, HY5.out⟩, HT5, HB5⟩
  case round =>
    obtain ⟨i, hi, rfl, HX, HZZ, HY, HTT, HB⟩ := hrel
    by_cases hlt : i < t
    · have htj : (i : Int) < (t : Int) := by omega
      obtain ⟨j, hj, Yj⟩ := HY.out
      obtain ⟨⟨x, k, q⟩, hq⟩ : ∃ p : Nat × Nat × Nat, nextB z b i j = p := ⟨_, rfl⟩
      have hqj : q ≤ 64 * (i + 1) := by
        have := (nextB_at (seed := z) (name := b) (n := i) (i := j)).2
        rw [hq] at this
        have h' : q ≤ j + 64 := this
        omega
      have KN := Lib.hid (KX.out g2 i j x k q hq (by omega) (by omega) wr Yj HTT.out)
      have OF := Lib.hid (strm_off HZ.out HTT.out Yj)
      have OB := Lib.hid (StrmP.noB Yj)
      clear hq Yj
      obtain ⟨y, hy⟩ : ∃ y, wordB z a i = y := ⟨_, rfl⟩
      have hyy : ((y : Int) != (y : Int)) = false := by simp
      have K1 := Lib.hid (fun (g : Nat) (u : World) (H : StrmP u g z a i) (h : Tab u) => hy ▸ KW.out g i u (by omega) H h)
      clear hy
      go_wp2_with fail
      refine (KN.out).mono ?_
      rintro e w6 ⟨rfl, Y6, S6⟩
      have hT6 := HTT.out.save S6 OF.out
      have X6 : StrmP w6 g1 z a i := StrmP.save HX.out S6 (by have := HG.out; omega) OB.out
      have Z6 : StrmP w6 g3 z a i := StrmP.save HZZ.out S6 (by have := HG.out; omega) OB.out
      have hb6 := Save.below HB.out S6 (by have := HG.out; omega) HB.out.size
      go_wp2_with fail
      refine (K1.out g1 w6 X6 hT6).mono ?_
      rintro e w7 ⟨rfl, X7, S7⟩
      have hT7 := hT6.save S7 (strm_off HZ.out hT6 X6)
      have Y7 : StrmP w7 g2 z b q := StrmP.save Y6 S7 (by have := HG.out; omega) (StrmP.noB X6)
      have Z7 : StrmP w7 g3 z a i := StrmP.save Z6 S7 (by have := HG.out; omega) (StrmP.noB X6)
      have hb7 := Save.below hb6 S7 HG.out.2.2 hb6.size
      go_wp2_with fail
      refine (K1.out g3 w7 Z7 hT7).mono ?_
      rintro e w8 ⟨rfl, Z8, S8⟩
      have HT8 := Lib.hid (hT7.save S8 (strm_off HZ.out hT7 Z7))
      have HY8 := Lib.hid (show StrmP w8 g2 z b q from StrmP.save Y7 S8 (by have := HG.out; omega) (StrmP.noB Z7))
      have HX8 := Lib.hid (show StrmP w8 g1 z a (i + 1) from StrmP.save X7 S8 (by have := HG.out; omega) (StrmP.noB Z7))
      have HZ8 := Lib.hid Z8
      have HB8 := Lib.hid (Save.below hb7 S8 (by have := HG.out; omega) hb7.size)
      clear hT6 hT7 X6 X7 Y6 Y7 Z6 Z7 Z8 hb6 hb7 S6 S7 S8
      go_wp2_with fail
      go_roundw
      case rel => exact ⟨i + 1, by omega, by go_num, HX8, HZ8, Lib.hid ⟨q, hqj, HY8.out⟩, HT8, HB8⟩
      case measure => simp [intOf]; omega
    · obtain rfl : i = t := by omega
      go_wp2_with fail
      go_ret
      exact ⟨rfl, HB.out⟩
theorem all (z : List UInt8) (hz : z.length = 32) (a b : ByteArray) (t : Int) (w : World) (hT : Tab w) :
    Calls Tryd.prog 6 #[.agg (z.map bv).toArray, .string a, .string b, .int .i64 t] w fun e w' => e = .returned (.bool true) ∧ Below w.heap.size w w' := by
  obtain ⟨a, rfl⟩ : ∃ l, a = str l := ⟨a.data.toList, by simp [str]⟩
  obtain ⟨b, rfl⟩ : ∃ l, b = str l := ⟨b.data.toList, by simp [str]⟩
  by_cases h1 : 30 < (str a).size
  · exact out1 z a b hz _ _ rfl rfl t w hT h1
  by_cases h2 : 30 < (str b).size
  · exact out2 z a b hz _ _ rfl rfl t w hT ⟨by omega, h2⟩
  by_cases h3 : t < 0
  · exact out3 z a b hz _ _ rfl rfl t w hT ⟨by omega, by omega, h3⟩
  by_cases h4 : 30 < t
  · exact out4 z a b hz _ _ rfl rfl t w hT ⟨by omega, by omega, h4⟩
  obtain ⟨t, rfl⟩ := Int.eq_ofNat_of_zero_le (show 0 ≤ t by omega)
  exact inn z a b hz _ _ rfl rfl t w hT (by omega) (by omega) (by omega)
end beaApartLaw
end Go.Proofs.YtanfcenjlonjmaaDoor
