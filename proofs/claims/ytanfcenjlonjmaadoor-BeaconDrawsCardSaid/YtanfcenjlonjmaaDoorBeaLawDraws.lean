/-
  The law BeaconDraws of chapter 12.
-/
import Derived.Test.YtanfcenjlonjmaaDoorBeaLaw
import Derived.Test.YtanfcenjlonjmaaDoorRefNext
import Derived.Test.YtanfcenjlonjmaaDoorRefNew
namespace Go.Proofs.YtanfcenjlonjmaaDoor
open Go.ChangeShapes Go.WideShapes Go.ChangeAt Go.RowKit
set_option linter.unusedVariables false
set_option linter.unusedSimpArgs false

namespace beaDrawsLaw
theorem strx (a : List UInt8) : str a ++ (⟨#[120]⟩ : ByteArray) = str (a ++ [120]) := by
  apply ByteArray.ext
  simp [str]
theorem out1 (z a : List UInt8) (hz : z.length = 32) (A : Option Addr) (n c : Nat) (m : Nat) (hm : (str a).size = m) (w : World) (hT : Tab w) (h : 60 < n) :
    Calls Tryd.prog 3 #[.agg (z.map bv).toArray, .string (str a), .slice A n c] w fun e w' => e = .returned (.bool true) ∧ Below w.heap.size w w' := by
  have hb0 := (Below.refl w.heap.size w).alloc (Nat.le_refl _) (.cells (z.map bv).toArray 23)
  have K := Lib.hid (alive12 _ (hT.keep hb0))
  have f0 : (60 : Int) < (n : Int) := by omega
  clear h
  go_enter Tryd.func3, Tryd.ntmps3
  go_wp2_with fail
  refine (K.out).mono ?_
  rintro e w2 ⟨rfl, hb⟩
  go_wp2_with fail
  go_ret
  exact ⟨rfl, hb0.trans (hb.mono hb0.size)⟩
theorem out2 (z a : List UInt8) (hz : z.length = 32) (A : Option Addr) (n c : Nat) (m : Nat) (hm : (str a).size = m) (w : World) (hT : Tab w) (h : n ≤ 60 ∧ 50 < m) :
    Calls Tryd.prog 3 #[.agg (z.map bv).toArray, .string (str a), .slice A n c] w fun e w' => e = .returned (.bool true) ∧ Below w.heap.size w w' := by
  have hb0 := (Below.refl w.heap.size w).alloc (Nat.le_refl _) (.cells (z.map bv).toArray 23)
  have K := Lib.hid (alive12 _ (hT.keep hb0))
  have f0 : ¬ (60 : Int) < (n : Int) := by omega
  have f1 : (50 : Int) < (m : Int) := by omega
  clear h
  go_enter Tryd.func3, Tryd.ntmps3
  go_wp2_with fail
  refine (K.out).mono ?_
  rintro e w2 ⟨rfl, hb⟩
  go_wp2_with fail
  go_ret
  exact ⟨rfl, hb0.trans (hb.mono hb0.size)⟩
theorem tabOffR {w : World} {g i : Nat} {seed name : List UInt8} (hs : seed.length = 32) (hT : Tab w) (h : StrmR w g seed name i) : 0 ≠ g := by
  intro e
  have h0 := hT 33 (by omega)
  rw [e, Has.cell h, strm_33 hs] at h0
  exact absurd (Option.some.inj h0) (by simp)
set_option maxHeartbeats 2000000 in
set_option maxRecDepth 10000 in
theorem inn (z a : List UInt8) (hz : z.length = 32) (A : Option Addr) (n c : Nat) (ls : List Nat) (m : Nat) (hm : (str a).size = m) (w : World) (hT : Tab w) (hl : Nums w A n c ls) (h1 : n ≤ 60) (h2 : m ≤ 50) :
    Calls Tryd.prog 3 #[.agg (z.map bv).toArray, .string (str a), .slice A n c] w fun e w' => e = .returned (.bool true) ∧ Below w.heap.size w w' := by
  have hb0 := (Below.refl w.heap.size w).alloc (Nat.le_refl _) (.cells (z.map bv).toArray 23)
  have K := Lib.hid (alive12 _ (hT.keep hb0))
  have H0 := Has.new w 23 (z.map bv)
  have f0 : ¬ (60 : Int) < (n : Int) := by omega
  have f1 : ¬ (50 : Int) < (m : Int) := by omega
  have la0 : a.length ≤ 50 := by have : (str a).size = a.length := by simp [str, ByteArray.size]
                                 omega
  have la : a.length ≤ 1099511627776 := by omega
  have lb : (a ++ [120]).length ≤ 1099511627776 := by rw [List.length_append]; simp; omega
  have KA := Lib.hid (fun u => progNew' z a hz la u)
  have KB := Lib.hid (fun u => show Calls Tryd.prog 8 #[.agg (z.map bv).toArray, .string (str a ++ ⟨#[120]⟩)] u _ from strx a ▸ progNew' z (a ++ [120]) hz lb u)
  have KR := Lib.hid (fun u => refNew' z a hz u)
  have KW := Lib.hid (fun (g j : Nat) (u : World) (hi : j ≤ 1000000) (H : StrmP u g z a j) (h : Tab u) => progWord' g z a j (by omega) hz la u H h)
  have KO := Lib.hid (fun (g j : Nat) (u : World) (hi : j ≤ 1000000) (H : StrmP u g z (a ++ [120]) j) (h : Tab u) => progWord' g z (a ++ [120]) j (by omega) hz lb u H h)
  have KV := Lib.hid (fun (g j : Nat) (u : World) (hi : j ≤ 1000000) (H : StrmR u g z a j) => refWord' g z a j (by omega) hz la u H)
  have KX := Lib.hid (fun (g v i x k j : Nat) (h : nextB z a v i = (x, k, j)) (hn : v < 18446744073709551616) (hi : i ≤ 1000000) (u : World) (H : StrmP u g z a i) (h' : Tab u) => progNext' g z a v i x k j h hn (by omega) hz la u H h')
  have KY := Lib.hid (fun (g v i x k j : Nat) (h : nextB z a v i = (x, k, j)) (hn : v < 18446744073709551616) (hi : i ≤ 1000000) (u : World) (H : StrmR u g z a i) => refNext' g z a v i x k j h hn (by omega) hz la u H)
  have HZ := Lib.hid hz
  have HL := Lib.hid hl
  have HT := Lib.hid (hT.keep hb0)
  clear hT la lb la0 hz hl
  go_enter Tryd.func3, Tryd.ntmps3
  go_wp2_with fail
  refine (K.out).mono ?_
  rintro e w2 ⟨rfl, hb20⟩
  have HS2 := H0.keep hb20 (by simp)
  have hb2 := hb0.trans (hb20.mono hb0.size)
  have hs2 := hb2.size
  have hT2 := HT.out.keep hb20
  have hlt0 : w.heap.size < w2.heap.size := by have := hb20.size; simp at this; omega
  clear K HT H0 hb20 hb0
  go_wp2_with ((with_reducible refine wpList_load_key rfl (.tmp 3) rfl w.heap.size rfl z HZ.out HS2 ?_))
  refine (KA.out w2).mono ?_
  rintro e w3 ⟨g1, rfl, X3, hg1, hb30⟩
  have HS3 := HS2.keep hb30 (by omega)
  have hb3 := hb2.trans (hb30.mono hs2)
  have hT3 := hT2.keep hb30
  have hs3 := hb30.size
  have hl1 := StrmP.lt X3
  go_wp2_with ((with_reducible refine wpList_load_key rfl (.tmp 3) rfl w.heap.size rfl z HZ.out HS3 ?_))
  refine (KB.out w3).mono ?_
  rintro e w4 ⟨g2, rfl, Y4, hg2, hb40⟩
  have HS4 := HS3.keep hb40 (by omega)
  have hb4 := hb3.trans (hb40.mono (by omega))
  have hT4 := hT3.keep hb40
  have hs4 := hb40.size
  have hl2 := StrmP.lt Y4
  have X4 : StrmP w4 g1 z a 0 := StrmP.keep X3 hb40
  go_wp2_with ((with_reducible refine wpList_load_key rfl (.tmp 3) rfl w.heap.size rfl z HZ.out HS4 ?_))
  refine (KR.out w4).mono ?_
  rintro e w5 ⟨g3, rfl, Z5, hg3, hb50⟩
  have hb5 := hb4.trans (hb50.mono (by omega))
  have hT5 := hT4.keep hb50
  have X5 : StrmP w5 g1 z a 0 := StrmP.keep X4 hb50
  have Y5 : StrmP w5 g2 z (a ++ [120]) 0 := StrmP.keep Y4 hb50
  have HG := Lib.hid (And.intro (show g1 < g2 by omega) (And.intro (show g2 < g3 by omega) (show w.heap.size ≤ g1 by omega)))
  have HB5 := Lib.hid hb5
  have HX5 := Lib.hid X5
  have HY5 := Lib.hid Y5
  have HZ5 := Lib.hid Z5
  have HT5 := Lib.hid hT5
  clear X3 X4 X5 Y4 Y5 Z5 hT2 hT3 hT4 hT5 HS2 HS3 HS4 hb2 hb3 hb4 hb5 hb30 hb40 hb50 hs2 hs3 hs4 hl1 hl2 hlt0 hg1 hg2 hg3 KA KB KR
  go_wp2_with fail
  go_loopw [11] (fun v wr => ∃ i : Nat, i ≤ n ∧ v = .int .i64 i ∧ Hid (∃ j : Nat, j ≤ 64 * i ∧ StrmP wr g1 z a j ∧ StrmR wr g3 z a j) ∧ Hid (StrmP wr g2 z (a ++ [120]) i) ∧ Hid (Tab wr) ∧ Hid (Below w.heap.size w wr)) (fun v _ => 60 - (intOf v).toNat)
  case atStart => exact ⟨0, by omega, rfl, Lib.hid ⟨0, by omega, HX5.out, HZ5.out⟩, HY5, HT5, HB5⟩
  case round =>
    obtain ⟨i, hi, rfl, HX, HY, HTT, HB⟩ := hrel
    by_cases hlt : i < n
    · have htj : (i : Int) < (n : Int) := by omega
      obtain ⟨j, hj, Xj, Rj⟩ := HX.out
      have HXJ := Lib.hid Xj
      have HRJ := Lib.hid Rj
      clear Xj Rj
      obtain ⟨b, off, rfl, hbl, hcA⟩ := HL.out.at_ (by omega)
      obtain ⟨v, hv⟩ : ∃ v, ls.getD i 0 = v := ⟨_, rfl⟩
      have hv64 : v < 18446744073709551616 := by rw [← hv]; exact HL.out.lt i
      have HC0 := hcA i hlt
      rw [hv] at HC0
      have HC := Lib.hid HC0
      clear hv hcA HC0
      have KO1 := Lib.hid (KO.out g2 i wr (by omega) HY.out HTT.out)
      have OF := Lib.hid (strm_off HZ.out HTT.out HY.out)
      go_wp2_with fail
      refine (KO1.out).mono ?_
      rintro e w6 ⟨rfl, Y6, S6⟩
      have hT6 := HTT.out.save S6 OF.out
      have X6 : StrmP w6 g1 z a j := StrmP.save HXJ.out S6 (by have := HG.out; omega) (StrmP.noB HY.out)
      have R6 : StrmR w6 g3 z a j := Has.save HRJ.out S6 (by have := HG.out; omega)
      have hb6 := Save.below HB.out S6 (by have := HG.out; omega) HB.out.size
      have hcj : w6.cell? ⟨b, off + i, none⟩ = some (.int .u64 (v : Int)) := (hb6.cell (p := ⟨b, off + i, none⟩) hbl).trans HC.out
      have OF6 := strm_off HZ.out hT6 X6
      by_cases h4 : v % 5 = 4
      · have hm5 : (v : Int) % 5 = 4 := by omega
        have hm5t : Int.tmod (v : Int) 5 = 4 := by rw [Int.tmod_eq_emod_of_nonneg (by omega)]; exact hm5
        obtain ⟨y, hy⟩ : ∃ y, wordB z a j = y := ⟨_, rfl⟩
        have K1 := Lib.hid (fun (u : World) (H : StrmP u g1 z a j) (h : Tab u) => hy ▸ KW.out g1 j u (by omega) H h)
        have K2 := Lib.hid (fun (u : World) (H : StrmR u g3 z a j) => hy ▸ KV.out g3 j u (by omega) H)
        have hyy : ((y : Int) != (y : Int)) = false := by simp
        clear hy
        go_wp2_with fail
        refine (K1.out w6 X6 hT6).mono ?_
        rintro e w7 ⟨rfl, X7, S7⟩
        have hT7 := hT6.save S7 OF6
        have O7 : StrmP w7 g2 z (a ++ [120]) (i + 1) := StrmP.save Y6 S7 (by have := HG.out; omega) (StrmP.noB X6)
        have R7 : StrmR w7 g3 z a j := Has.save R6 S7 (by have := HG.out; omega)
        have hb7 := Save.below hb6 S7 HG.out.2.2 hb6.size
        go_wp2_with fail
        refine (K2.out w7 R7).mono ?_
        rintro e w8 ⟨rfl, R8, S8⟩
        have HT8 := Lib.hid (hT7.save S8 (tabOffR HZ.out hT7 R7))
        have HO8 := Lib.hid (show StrmP w8 g2 z (a ++ [120]) (i + 1) from StrmP.save O7 S8 (by have := HG.out; omega) (StrmR.noB R7))
        have HX8 := Lib.hid (show StrmP w8 g1 z a (j + 1) from StrmP.save X7 S8 (by have := HG.out; omega) (StrmR.noB R7))
        have HR8 := Lib.hid R8
        have HB8 := Lib.hid (Save.below hb7 S8 (by have := HG.out; omega) hb7.size)
        clear hT6 X6 Y6 R6 S6 hT7 X7 O7 R7 R8 hb6 hb7 S7 S8 hcj
        go_wp2_with fail
        go_roundw
        case rel => exact ⟨i + 1, by omega, by go_num, Lib.hid ⟨j + 1, by omega, HX8.out, HR8.out⟩, HO8, HT8, HB8⟩
        case measure => simp [intOf]; omega
      · obtain ⟨r5, hr5⟩ : ∃ r, v % 5 = r := ⟨_, rfl⟩
        have hm5 : (v : Int) % 5 = (r5 : Int) := by omega
        have hm5t : Int.tmod (v : Int) 5 = (r5 : Int) := by rw [Int.tmod_eq_emod_of_nonneg (by omega)]; exact hm5
        have hr4 : ((r5 : Int) == 4) = false := by simp; omega
        obtain ⟨⟨x, k, q⟩, hq⟩ : ∃ p : Nat × Nat × Nat, nextB z a v j = p := ⟨_, rfl⟩
        have hqj : q ≤ 64 * (i + 1) := by
          have := (nextB_at (seed := z) (name := a) (n := v) (i := j)).2
          rw [hq] at this
          have h' : q ≤ j + 64 := this
          omega
        have hk9 : k < 10 := by
          have := nextB_err (seed := z) (name := a) (n := v) (i := j)
          rw [hq] at this
          exact this
        have hxv : k = 0 → x < v := fun h0 => by
          have := nextB_lt (seed := z) (name := a) (n := v) (i := j)
          rw [hq] at this
          exact this h0
        have K1 := Lib.hid (fun (u : World) (H : StrmP u g1 z a j) (h : Tab u) => KX.out g1 v j x k q hq hv64 (by omega) u H h)
        have K2 := Lib.hid (fun (u : World) (H : StrmR u g3 z a j) => KY.out g3 v j x k q hq hv64 (by omega) u H)
        have KN := Lib.hid (fun u => num12 (k : Int) u (by omega))
        clear hq h4 hr5
        by_cases hk0 : k = 0
        · have hge : ¬ (v : Int) ≤ (x : Int) := by have := hxv hk0; omega
          subst hk0
          clear hxv KN
          have KN := Lib.hid (fun u => num12 0 u (by omega))
          go_wp2_with fail
          refine (K1.out w6 X6 hT6).mono ?_
          rintro e w7 ⟨rfl, X7, S7⟩
          have HT7 := Lib.hid (hT6.save S7 OF6)
          have O7 : StrmP w7 g2 z (a ++ [120]) (i + 1) := StrmP.save Y6 S7 (by have := HG.out; omega) (StrmP.noB X6)
          have R7 : StrmR w7 g3 z a j := Has.save R6 S7 (by have := HG.out; omega)
          have hb7 := Save.below hb6 S7 HG.out.2.2 hb6.size
          have hc7 : w7.cell? ⟨b, off + i, none⟩ = some (.int .u64 (v : Int)) := (hb7.cell (p := ⟨b, off + i, none⟩) hbl).trans HC.out
          have HX7 := Lib.hid X7
          clear hT6 X6 Y6 R6 S6 S7 hb6 hcj X7
          go_wp2_with fail
          refine (K2.out w7 R7).mono ?_
          rintro e w8 ⟨rfl, R8, S8⟩
          have HT8 := Lib.hid (HT7.out.save S8 (by have := strm_off HZ.out HT7.out HX7.out; intro h; exact tabOffR HZ.out HT7.out R7 h))
          have HO8 := Lib.hid (show StrmP w8 g2 z (a ++ [120]) (i + 1) from StrmP.save O7 S8 (by have := HG.out; omega) (StrmR.noB R7))
          have HX8 := Lib.hid (show StrmP w8 g1 z a q from StrmP.save HX7.out S8 (by have := HG.out; omega) (StrmR.noB R7))
          have HR8 := Lib.hid R8
          have hb8 := Save.below hb7 S8 (by have := HG.out; omega) hb7.size
          have hc8 : w8.cell? ⟨b, off + i, none⟩ = some (.int .u64 (v : Int)) := (hb8.cell (p := ⟨b, off + i, none⟩) hbl).trans HC.out
          have HB8 := Lib.hid hb8
          clear O7 R7 R8 hb7 hb8 S8 hc7
          go_wp2_with (go_at_call 14; with_reducible refine (KN.out _).mono ?_; rintro e w' ⟨rfl, rfl⟩)
          go_roundw
          case rel => exact ⟨i + 1, by omega, by go_num, Lib.hid ⟨q, hqj, HX8.out, HR8.out⟩, HO8, HT8, HB8⟩
          case measure => simp [intOf]; omega
        · have hkf : ((k : Int) == 0) = false := by simp; omega
          clear hxv
          go_wp2_with fail
          refine (K1.out w6 X6 hT6).mono ?_
          rintro e w7 ⟨rfl, X7, S7⟩
          have HT7 := Lib.hid (hT6.save S7 OF6)
          have O7 : StrmP w7 g2 z (a ++ [120]) (i + 1) := StrmP.save Y6 S7 (by have := HG.out; omega) (StrmP.noB X6)
          have R7 : StrmR w7 g3 z a j := Has.save R6 S7 (by have := HG.out; omega)
          have hb7 := Save.below hb6 S7 HG.out.2.2 hb6.size
          have hc7 : w7.cell? ⟨b, off + i, none⟩ = some (.int .u64 (v : Int)) := (hb7.cell (p := ⟨b, off + i, none⟩) hbl).trans HC.out
          have HX7 := Lib.hid X7
          clear hT6 X6 Y6 R6 S6 S7 hb6 hcj X7
          go_wp2_with fail
          refine (K2.out w7 R7).mono ?_
          rintro e w8 ⟨rfl, R8, S8⟩
          have HT8 := Lib.hid (HT7.out.save S8 (by have := strm_off HZ.out HT7.out HX7.out; intro h; exact tabOffR HZ.out HT7.out R7 h))
          have HO8 := Lib.hid (show StrmP w8 g2 z (a ++ [120]) (i + 1) from StrmP.save O7 S8 (by have := HG.out; omega) (StrmR.noB R7))
          have HX8 := Lib.hid (show StrmP w8 g1 z a q from StrmP.save HX7.out S8 (by have := HG.out; omega) (StrmR.noB R7))
          have HR8 := Lib.hid R8
          have hb8 := Save.below hb7 S8 (by have := HG.out; omega) hb7.size
          have hc8 : w8.cell? ⟨b, off + i, none⟩ = some (.int .u64 (v : Int)) := (hb8.cell (p := ⟨b, off + i, none⟩) hbl).trans HC.out
          have HB8 := Lib.hid hb8
          clear O7 R7 R8 hb7 hb8 S8 hc7
          go_wp2_with (go_at_call 14; with_reducible refine (KN.out _).mono ?_; rintro e w' ⟨rfl, rfl⟩)
          go_roundw
          case rel => exact ⟨i + 1, by omega, by go_num, Lib.hid ⟨q, hqj, HX8.out, HR8.out⟩, HO8, HT8, HB8⟩
          case measure => simp [intOf]; omega
    · obtain rfl : i = n := by omega
      go_wp2_with fail
      go_ret
      exact ⟨rfl, HB.out⟩
theorem all (z : List UInt8) (hz : z.length = 32) (a : ByteArray) (A : Option Addr) (n c : Nat) (ls : List Nat) (w : World) (hT : Tab w) (hl : Nums w A n c ls) :
    Calls Tryd.prog 3 #[.agg (z.map bv).toArray, .string a, .slice A n c] w fun e w' => e = .returned (.bool true) ∧ Below w.heap.size w w' := by
  obtain ⟨a, rfl⟩ : ∃ l, a = str l := ⟨a.data.toList, by simp [str]⟩
  by_cases h1 : 60 < n
  · exact out1 z a hz A n c _ rfl w hT h1
  by_cases h2 : 50 < (str a).size
  · exact out2 z a hz A n c _ rfl w hT ⟨by omega, h2⟩
  exact inn z a hz A n c ls _ rfl w hT hl (by omega) (by omega)
end beaDrawsLaw
end Go.Proofs.YtanfcenjlonjmaaDoor
