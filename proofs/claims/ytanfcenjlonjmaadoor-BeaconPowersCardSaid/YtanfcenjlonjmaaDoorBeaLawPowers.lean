/-
  The law BeaconPowers of chapter 12.
-/
import Derived.Test.YtanfcenjlonjmaaDoorBeaLaw
import Derived.Laws.Bits64b
namespace Go.Proofs.YtanfcenjlonjmaaDoor
open Go.ChangeShapes Go.WideShapes Go.ChangeAt Go.RowKit
set_option linter.unusedVariables false
set_option linter.unusedSimpArgs false

namespace beaPowersLaw
theorem out1 (z : List UInt8) (hz : z.length = 32) (k t : Int) (w : World) (hT : Tab w) (h : k < 0) :
    Calls Tryd.prog 5 #[.agg (z.map bv).toArray, .int .i64 k, .int .i64 t] w fun e w' => e = .returned (.bool true) ∧ Below w.heap.size w w' := by
  have hb0 := (Below.refl w.heap.size w).alloc (Nat.le_refl _) (.cells (z.map bv).toArray 23)
  have K := Lib.hid (alive12 _ (hT.keep hb0))
  have f0 : k < 0 := by omega
  clear h
  go_enter Tryd.func5, Tryd.ntmps5
  go_wp2_with fail
  refine (K.out).mono ?_
  rintro e w2 ⟨rfl, hb⟩
  go_wp2_with fail
  go_ret
  exact ⟨rfl, hb0.trans (hb.mono hb0.size)⟩
theorem out2 (z : List UInt8) (hz : z.length = 32) (k t : Int) (w : World) (hT : Tab w) (h : 0 ≤ k ∧ 63 < k) :
    Calls Tryd.prog 5 #[.agg (z.map bv).toArray, .int .i64 k, .int .i64 t] w fun e w' => e = .returned (.bool true) ∧ Below w.heap.size w w' := by
  have hb0 := (Below.refl w.heap.size w).alloc (Nat.le_refl _) (.cells (z.map bv).toArray 23)
  have K := Lib.hid (alive12 _ (hT.keep hb0))
  have f0 : ¬ k < 0 := by omega
  have f1 : 63 < k := by omega
  clear h
  go_enter Tryd.func5, Tryd.ntmps5
  go_wp2_with fail
  refine (K.out).mono ?_
  rintro e w2 ⟨rfl, hb⟩
  go_wp2_with fail
  go_ret
  exact ⟨rfl, hb0.trans (hb.mono hb0.size)⟩
theorem out3 (z : List UInt8) (hz : z.length = 32) (k t : Int) (w : World) (hT : Tab w) (h : 0 ≤ k ∧ k ≤ 63 ∧ t < 1) :
    Calls Tryd.prog 5 #[.agg (z.map bv).toArray, .int .i64 k, .int .i64 t] w fun e w' => e = .returned (.bool true) ∧ Below w.heap.size w w' := by
  have hb0 := (Below.refl w.heap.size w).alloc (Nat.le_refl _) (.cells (z.map bv).toArray 23)
  have K := Lib.hid (alive12 _ (hT.keep hb0))
  have f0 : ¬ k < 0 := by omega
  have f1 : ¬ 63 < k := by omega
  have f2 : t < 1 := by omega
  clear h
  go_enter Tryd.func5, Tryd.ntmps5
  go_wp2_with fail
  refine (K.out).mono ?_
  rintro e w2 ⟨rfl, hb⟩
  go_wp2_with fail
  go_ret
  exact ⟨rfl, hb0.trans (hb.mono hb0.size)⟩
theorem out4 (z : List UInt8) (hz : z.length = 32) (k t : Int) (w : World) (hT : Tab w) (h : 0 ≤ k ∧ k ≤ 63 ∧ 20 < t) :
    Calls Tryd.prog 5 #[.agg (z.map bv).toArray, .int .i64 k, .int .i64 t] w fun e w' => e = .returned (.bool true) ∧ Below w.heap.size w w' := by
  have hb0 := (Below.refl w.heap.size w).alloc (Nat.le_refl _) (.cells (z.map bv).toArray 23)
  have K := Lib.hid (alive12 _ (hT.keep hb0))
  have f0 : ¬ k < 0 := by omega
  have f1 : ¬ 63 < k := by omega
  have f2 : ¬ t < 1 := by omega
  have f3 : 20 < t := by omega
  clear h
  go_enter Tryd.func5, Tryd.ntmps5
  go_wp2_with fail
  refine (K.out).mono ?_
  rintro e w2 ⟨rfl, hb⟩
  go_wp2_with fail
  go_ret
  exact ⟨rfl, hb0.trans (hb.mono hb0.size)⟩
set_option maxHeartbeats 1000000 in
set_option maxRecDepth 10000 in
theorem inn (z : List UInt8) (hz : z.length = 32) (k t : Nat) (w : World) (hT : Tab w) (h1 : k ≤ 63) (h2 : 1 ≤ t) (h3 : t ≤ 20) :
    Calls Tryd.prog 5 #[.agg (z.map bv).toArray, .int .i64 (k : Int), .int .i64 (t : Int)] w fun e w' => e = .returned (.bool true) ∧ Below w.heap.size w w' := by
  have hb0 := (Below.refl w.heap.size w).alloc (Nat.le_refl _) (.cells (z.map bv).toArray 23)
  have K := Lib.hid (alive12 _ (hT.keep hb0))
  have H0 := Has.new w 23 (z.map bv)
  have f0 : ¬ (k : Int) < 0 := by omega
  have f1 : ¬ (63 : Int) < (k : Int) := by omega
  have f2 : ¬ (t : Int) < 1 := by omega
  have f3 : ¬ (20 : Int) < (t : Int) := by omega
  obtain ⟨p, hp⟩ : ∃ p, p = [(112 : UInt8)] := ⟨_, rfl⟩
  have hpl : p.length ≤ 1099511627776 := by rw [hp]; simp
  obtain ⟨n, hn⟩ : ∃ n, 2 ^ k = n := ⟨_, rfl⟩
  have hn64 : n ≤ 9223372036854775808 := by rw [← hn]; exact Nat.pow_le_pow_right (show 0 < 2 by omega) h1
  have hn0 : 0 < n := by rw [← hn]; exact Nat.pow_pos (by omega)
  have KA := Lib.hid (fun u => show Calls Tryd.prog 8 #[.agg (z.map bv).toArray, .string ⟨#[112]⟩] u fun e w' => ∃ g, e = .returned (.pointer (some ⟨g, 0, none⟩)) ∧ StrmP w' g z p 0 ∧ u.heap.size ≤ g ∧ Below u.heap.size u w' from hp ▸ progNew' z [112] hz (by simp) u)
  have KW := Lib.hid (fun (g i : Nat) (u : World) (hi : i ≤ 1000000) (H : StrmP u g z p i) (h : Tab u) => progWord' g z p i (by omega) hz hpl u H h)
  have KX := Lib.hid (fun (g i : Nat) (hi : i ≤ 1000000) (u : World) (H : StrmP u g z p i) (h' : Tab u) => progNext' g z p n i (wordB z p i % n) 0 (i + 1) (by rw [← hn]; exact nextB_pow z p i k h1) (by omega) (by omega) hz hpl u H h')
  have KN := Lib.hid (fun u => num12 0 u (by omega))
  have HZ := Lib.hid hz
  have HT := Lib.hid (hT.keep hb0)
  have HNN := Lib.hid hn
  have hsh : IntKind.u64.wrap ((2 : Int) ^ k) = (n : Int) := by
    rw [show ((2 : Int) ^ k) = (n : Int) by rw [← hn]; exact (Int.natCast_pow 2 k).symm, IntKind.wrap_u64]
    omega
  clear hT hz hp hpl hn
  go_enter Tryd.func5, Tryd.ntmps5
  go_wp2_with fail
  refine (K.out).mono ?_
  rintro e w2 ⟨rfl, hb20⟩
  have HS2 := H0.keep hb20 (by simp)
  have hb2 := hb0.trans (hb20.mono hb0.size)
  have hs2 := hb2.size
  have hT2 := HT.out.keep hb20
  have hlt0 : w.heap.size < w2.heap.size := by have := hb20.size; simp at this; omega
  clear K HT H0 hb20 hb0
  go_wp2_with ((with_reducible refine wpList_load_key rfl (.tmp 3) rfl w.heap.size rfl z HZ.out HS2 ?_))
  refine (KA.out w2).mono ?_
  rintro e w3 ⟨g1, rfl, X3, hg1, hb30⟩
  have HS3 := HS2.keep hb30 (by omega)
  have hb3 := hb2.trans (hb30.mono hs2)
  have hT3 := hT2.keep hb30
  have hs3 := hb30.size
  have hl1 := StrmP.lt X3
  go_wp2_with ((with_reducible refine wpList_load_key rfl (.tmp 3) rfl w.heap.size rfl z HZ.out HS3 ?_))
  refine (KA.out w3).mono ?_
  rintro e w4 ⟨g2, rfl, Y4, hg2, hb40⟩
  have hb4 := hb3.trans (hb40.mono (by omega))
  have hT4 := hT3.keep hb40
  have X4 : StrmP w4 g1 z p 0 := StrmP.keep X3 hb40
  have HG := Lib.hid (And.intro (show g1 < g2 by omega) (show w.heap.size ≤ g1 by omega))
  have HB4 := Lib.hid hb4
  have HX4 := Lib.hid X4
  have HY4 := Lib.hid Y4
  have HT4 := Lib.hid hT4
  clear X3 X4 Y4 hT2 hT3 hT4 HS2 HS3 hb2 hb3 hb4 hb30 hb40 hs2 hs3 hl1 hlt0 hg1 hg2
  go_wp2_with fail
  go_loopw [11] (fun v wr => ∃ i : Nat, i ≤ t ∧ v = .int .i64 i ∧ Hid (StrmP wr g1 z p i) ∧ Hid (StrmP wr g2 z p i) ∧ Hid (Tab wr) ∧ Hid (Below w.heap.size w wr)) (fun v _ => 20 - (intOf v).toNat)
  case atStart => exact ⟨0, by omega, rfl, HX4, HY4, HT4, HB4⟩
  case round =>
    obtain ⟨i, hi, rfl, HX, HY, HTT, HB⟩ := hrel
    by_cases hlt : i < t
    · have htj : (i : Int) < (t : Int) := by omega
      obtain ⟨y, hy⟩ : ∃ y, wordB z p i = y := ⟨_, rfl⟩
      have K1 := Lib.hid (fun (g : Nat) (u : World) (H : StrmP u g z p i) (h : Tab u) => hy ▸ KW.out g i u (by omega) H h)
      have K2 := Lib.hid (fun (g : Nat) (u : World) (H : StrmP u g z p i) (h : Tab u) => hy ▸ KX.out g i (by omega) u H h)
      have hy64 : y < 18446744073709551616 := by rw [← hy]; exact wordB_lt _ _ _
      clear hy
      obtain ⟨x, hx⟩ : ∃ x, y % n = x := ⟨_, rfl⟩
      rw [hx] at K2
      have hw1 : IntKind.u64.wrap ((n : Int) - 1) = ((n - 1 : Nat) : Int) := by rw [IntKind.wrap_u64]; omega
      have hand : bits .and .u64 (y : Int) ((n - 1 : Nat) : Int) = (x : Int) := by
        rw [bits_and_u64_nat y (n - 1) hy64 (by omega), ← hx, ← HNN.out, Nat.and_two_pow_sub_one_eq_mod y k]
      have hxx : ((x : Int) != (x : Int)) = false := by simp
      have HXX := Lib.hid hx
      clear hx
      go_wp2_with fail
      refine (K2.out g1 wr HX.out HTT.out).mono ?_
      rintro e w6 ⟨rfl, X6, S6⟩
      have hT6 := HTT.out.save S6 (strm_off HZ.out HTT.out HX.out)
      have Y6 : StrmP w6 g2 z p i := StrmP.save HY.out S6 (by have := HG.out; omega) (StrmP.noB HX.out)
      have hb6 := Save.below HB.out S6 HG.out.2 HB.out.size
      go_wp2_with (go_at_call 14; with_reducible refine (KN.out _).mono ?_; rintro e w' ⟨rfl, rfl⟩)
      refine (K1.out g2 w6 Y6 hT6).mono ?_
      rintro e w7 ⟨rfl, Y7, S7⟩
      have HT7 := Lib.hid (hT6.save S7 (strm_off HZ.out hT6 Y6))
      have HX7 := Lib.hid (show StrmP w7 g1 z p (i + 1) from StrmP.save X6 S7 (by have := HG.out; omega) (StrmP.noB Y6))
      have HY7 := Lib.hid Y7
      have HB7 := Lib.hid (Save.below hb6 S7 (by have := HG.out; omega) hb6.size)
      clear hT6 X6 Y6 Y7 hb6 S6 S7
      go_wp2_with fail
      go_roundw
      case rel => exact ⟨i + 1, by omega, by go_num, HX7, HY7, HT7, HB7⟩
      case measure => simp [intOf]; omega
    · obtain rfl : i = t := by omega
      go_wp2_with fail
      go_ret
      exact ⟨rfl, HB.out⟩
theorem all (z : List UInt8) (hz : z.length = 32) (k t : Int) (w : World) (hT : Tab w) :
    Calls Tryd.prog 5 #[.agg (z.map bv).toArray, .int .i64 k, .int .i64 t] w fun e w' => e = .returned (.bool true) ∧ Below w.heap.size w w' := by
  by_cases h1 : k < 0
  · exact out1 z hz k t w hT h1
  by_cases h2 : 63 < k
  · exact out2 z hz k t w hT ⟨by omega, h2⟩
  by_cases h3 : t < 1
  · exact out3 z hz k t w hT ⟨by omega, by omega, h3⟩
  by_cases h4 : 20 < t
  · exact out4 z hz k t w hT ⟨by omega, by omega, h4⟩
  obtain ⟨t, rfl⟩ := Int.eq_ofNat_of_zero_le (show 0 ≤ t by omega)
  obtain ⟨k, rfl⟩ := Int.eq_ofNat_of_zero_le (show 0 ≤ k by omega)
  exact inn z hz k t w hT (by omega) (by omega) (by omega)
end beaPowersLaw
end Go.Proofs.YtanfcenjlonjmaaDoor
