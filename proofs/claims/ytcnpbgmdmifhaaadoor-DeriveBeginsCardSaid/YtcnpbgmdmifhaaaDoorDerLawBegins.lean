/-
  DeriveBegins: the walk.
-/
import Derived.Test.YtcnpbgmdmifhaaaDoorDerLaw
import Derived.Test.YtcnpbgmdmifhaaaDoorRefExpKey
import Derived.Deep.RegionHeld
import Derived.Deep.RegionHeldLaw
import Derived.Deep.RegionHeld3
namespace Go.Proofs.YtcnpbgmdmifhaaaDoor
open Go.ChangeShapes Go.WideShapes Go.ChangeAt Go.RowKit
set_option linter.unusedVariables false
set_option linter.unusedSimpArgs false

/-! ### A literal of one byte and a new key, in either order -/
theorem hasL (u : World) : Has (u.alloc (.cells #[.int .u8 2] 5)) u.heap.size 5 (([2] : List UInt8).map bv) := Has.new u 5 (([2] : List UInt8).map bv)
theorem hasLZ (u : World) : Has ((u.alloc (.cells #[.int .u8 2] 5)).alloc (.cells #[.int .u8 0, .int .u8 0, .int .u8 0, .int .u8 0, .int .u8 0, .int .u8 0, .int .u8 0, .int .u8 0, .int .u8 0, .int .u8 0, .int .u8 0, .int .u8 0, .int .u8 0, .int .u8 0, .int .u8 0, .int .u8 0, .int .u8 0, .int .u8 0, .int .u8 0, .int .u8 0, .int .u8 0, .int .u8 0, .int .u8 0, .int .u8 0, .int .u8 0, .int .u8 0, .int .u8 0, .int .u8 0, .int .u8 0, .int .u8 0, .int .u8 0, .int .u8 0] 23)) u.heap.size 5 (([2] : List UInt8).map bv) := (hasL u).alloc (.cells #[.int .u8 0, .int .u8 0, .int .u8 0, .int .u8 0, .int .u8 0, .int .u8 0, .int .u8 0, .int .u8 0, .int .u8 0, .int .u8 0, .int .u8 0, .int .u8 0, .int .u8 0, .int .u8 0, .int .u8 0, .int .u8 0, .int .u8 0, .int .u8 0, .int .u8 0, .int .u8 0, .int .u8 0, .int .u8 0, .int .u8 0, .int .u8 0, .int .u8 0, .int .u8 0, .int .u8 0, .int .u8 0, .int .u8 0, .int .u8 0, .int .u8 0, .int .u8 0] 23)
theorem hasZL (u : World) : Has ((u.alloc (.cells #[.int .u8 0, .int .u8 0, .int .u8 0, .int .u8 0, .int .u8 0, .int .u8 0, .int .u8 0, .int .u8 0, .int .u8 0, .int .u8 0, .int .u8 0, .int .u8 0, .int .u8 0, .int .u8 0, .int .u8 0, .int .u8 0, .int .u8 0, .int .u8 0, .int .u8 0, .int .u8 0, .int .u8 0, .int .u8 0, .int .u8 0, .int .u8 0, .int .u8 0, .int .u8 0, .int .u8 0, .int .u8 0, .int .u8 0, .int .u8 0, .int .u8 0, .int .u8 0] 23)).alloc (.cells #[.int .u8 2] 5)) (u.heap.size + 1) 5 (([2] : List UInt8).map bv) := (hasL (u.alloc (.cells #[.int .u8 0, .int .u8 0, .int .u8 0, .int .u8 0, .int .u8 0, .int .u8 0, .int .u8 0, .int .u8 0, .int .u8 0, .int .u8 0, .int .u8 0, .int .u8 0, .int .u8 0, .int .u8 0, .int .u8 0, .int .u8 0, .int .u8 0, .int .u8 0, .int .u8 0, .int .u8 0, .int .u8 0, .int .u8 0, .int .u8 0, .int .u8 0, .int .u8 0, .int .u8 0, .int .u8 0, .int .u8 0, .int .u8 0, .int .u8 0, .int .u8 0, .int .u8 0] 23))).at_ (by simp)
theorem keyZ (u : World) : Has (u.alloc (.cells #[.int .u8 0, .int .u8 0, .int .u8 0, .int .u8 0, .int .u8 0, .int .u8 0, .int .u8 0, .int .u8 0, .int .u8 0, .int .u8 0, .int .u8 0, .int .u8 0, .int .u8 0, .int .u8 0, .int .u8 0, .int .u8 0, .int .u8 0, .int .u8 0, .int .u8 0, .int .u8 0, .int .u8 0, .int .u8 0, .int .u8 0, .int .u8 0, .int .u8 0, .int .u8 0, .int .u8 0, .int .u8 0, .int .u8 0, .int .u8 0, .int .u8 0, .int .u8 0] 23)) u.heap.size 23 zkey := newKey u
theorem keyLZ (u : World) : Has ((u.alloc (.cells #[.int .u8 2] 5)).alloc (.cells #[.int .u8 0, .int .u8 0, .int .u8 0, .int .u8 0, .int .u8 0, .int .u8 0, .int .u8 0, .int .u8 0, .int .u8 0, .int .u8 0, .int .u8 0, .int .u8 0, .int .u8 0, .int .u8 0, .int .u8 0, .int .u8 0, .int .u8 0, .int .u8 0, .int .u8 0, .int .u8 0, .int .u8 0, .int .u8 0, .int .u8 0, .int .u8 0, .int .u8 0, .int .u8 0, .int .u8 0, .int .u8 0, .int .u8 0, .int .u8 0, .int .u8 0, .int .u8 0] 23)) (u.heap.size + 1) 23 zkey := (newKey (u.alloc (.cells #[.int .u8 2] 5))).at_ (by simp)
theorem keyZL (u : World) : Has ((u.alloc (.cells #[.int .u8 0, .int .u8 0, .int .u8 0, .int .u8 0, .int .u8 0, .int .u8 0, .int .u8 0, .int .u8 0, .int .u8 0, .int .u8 0, .int .u8 0, .int .u8 0, .int .u8 0, .int .u8 0, .int .u8 0, .int .u8 0, .int .u8 0, .int .u8 0, .int .u8 0, .int .u8 0, .int .u8 0, .int .u8 0, .int .u8 0, .int .u8 0, .int .u8 0, .int .u8 0, .int .u8 0, .int .u8 0, .int .u8 0, .int .u8 0, .int .u8 0, .int .u8 0] 23)).alloc (.cells #[.int .u8 2] 5)) u.heap.size 23 zkey := (newKey u).alloc (.cells #[.int .u8 2] 5)
theorem belL (u : World) : Below u.heap.size u (u.alloc (.cells #[.int .u8 2] 5)) := (Below.refl _ _).alloc (Nat.le_refl _) _
theorem belZ (u : World) : Below u.heap.size u (u.alloc (.cells #[.int .u8 0, .int .u8 0, .int .u8 0, .int .u8 0, .int .u8 0, .int .u8 0, .int .u8 0, .int .u8 0, .int .u8 0, .int .u8 0, .int .u8 0, .int .u8 0, .int .u8 0, .int .u8 0, .int .u8 0, .int .u8 0, .int .u8 0, .int .u8 0, .int .u8 0, .int .u8 0, .int .u8 0, .int .u8 0, .int .u8 0, .int .u8 0, .int .u8 0, .int .u8 0, .int .u8 0, .int .u8 0, .int .u8 0, .int .u8 0, .int .u8 0, .int .u8 0] 23)) := (Below.refl _ _).alloc (Nat.le_refl _) _
theorem belLZ (u : World) : Below u.heap.size u ((u.alloc (.cells #[.int .u8 2] 5)).alloc (.cells #[.int .u8 0, .int .u8 0, .int .u8 0, .int .u8 0, .int .u8 0, .int .u8 0, .int .u8 0, .int .u8 0, .int .u8 0, .int .u8 0, .int .u8 0, .int .u8 0, .int .u8 0, .int .u8 0, .int .u8 0, .int .u8 0, .int .u8 0, .int .u8 0, .int .u8 0, .int .u8 0, .int .u8 0, .int .u8 0, .int .u8 0, .int .u8 0, .int .u8 0, .int .u8 0, .int .u8 0, .int .u8 0, .int .u8 0, .int .u8 0, .int .u8 0, .int .u8 0] 23)) := ((Below.refl _ _).alloc (Nat.le_refl _) _).alloc (by simp) _
theorem belZL (u : World) : Below u.heap.size u ((u.alloc (.cells #[.int .u8 0, .int .u8 0, .int .u8 0, .int .u8 0, .int .u8 0, .int .u8 0, .int .u8 0, .int .u8 0, .int .u8 0, .int .u8 0, .int .u8 0, .int .u8 0, .int .u8 0, .int .u8 0, .int .u8 0, .int .u8 0, .int .u8 0, .int .u8 0, .int .u8 0, .int .u8 0, .int .u8 0, .int .u8 0, .int .u8 0, .int .u8 0, .int .u8 0, .int .u8 0, .int .u8 0, .int .u8 0, .int .u8 0, .int .u8 0, .int .u8 0, .int .u8 0] 23)).alloc (.cells #[.int .u8 2] 5)) := ((Below.refl _ _).alloc (Nat.le_refl _) _).alloc (by simp) _
theorem own_ne_key {w : World} {base n g : Nat} {v : Value} {xs cs : List Value} (h : w.ownsRow base 5 1 v n xs) (H : Has w g 23 cs) : some g ≠ v.ownBlock := by
  intro e
  rcases h.2 with ⟨rfl, _⟩ | ⟨g', cap, cur, rfl, _, hg, _⟩
  · cases e
  · obtain rfl : g = g' := Option.some.inj e
    rw [Has] at H
    rw [hg] at H
    cases H
theorem hasB {w : World} {g : Nat} (h : Has w g 5 (([2] : List UInt8).map bv)) : Bytes w (some ⟨g, 0, none⟩) 1 1 [2] := h.bytes 1 rfl (by simp [maxLen])

namespace derBeginsLaw
set_option maxHeartbeats 400000 in
theorem out1 (k : List UInt8) (hk : k.length = 32) (s : ByteArray) (m : Nat) (hs : s.size = m) (z y : Int) (w : World) (hT : Tab w) (h : 100 < m) :
    Calls Tryd.prog 5 #[.agg (k.map bv).toArray, .string s, .int .i64 z, .int .i64 y] w fun e w' => e = .returned (.bool true) ∧ Below w.heap.size w w' := by
  have hb0 := (Below.refl w.heap.size w).alloc (Nat.le_refl _) (.cells (k.map bv).toArray 23)
  have K := Lib.hid (derLaw.alive _ (hT.keep hb0))
  have f1 : (100 : Int) < (m : Int) := by omega
  go_enter Tryd.func5, Tryd.ntmps5
  go_wp2_with fail
  refine (K.out).mono ?_
  rintro e w2 ⟨rfl, hb⟩
  go_wp2_with fail
  go_ret
  exact ⟨rfl, hb0.trans (hb.mono hb0.size)⟩
set_option maxHeartbeats 400000 in
theorem out2 (k : List UInt8) (hk : k.length = 32) (s : ByteArray) (m : Nat) (hs : s.size = m) (z y : Int) (w : World) (hT : Tab w) (h0 : m ≤ 100) (h : z < 1) :
    Calls Tryd.prog 5 #[.agg (k.map bv).toArray, .string s, .int .i64 z, .int .i64 y] w fun e w' => e = .returned (.bool true) ∧ Below w.heap.size w w' := by
  have hb0 := (Below.refl w.heap.size w).alloc (Nat.le_refl _) (.cells (k.map bv).toArray 23)
  have K := Lib.hid (derLaw.alive _ (hT.keep hb0))
  have f1 : ¬ (100 : Int) < (m : Int) := by omega
  go_enter Tryd.func5, Tryd.ntmps5
  go_wp2_with fail
  refine (K.out).mono ?_
  rintro e w2 ⟨rfl, hb⟩
  go_wp2_with fail
  go_ret
  exact ⟨rfl, hb0.trans (hb.mono hb0.size)⟩
set_option maxHeartbeats 400000 in
theorem out3 (k : List UInt8) (hk : k.length = 32) (s : ByteArray) (m : Nat) (hs : s.size = m) (z y : Int) (w : World) (hT : Tab w) (h0 : m ≤ 100) (h : 300 < z) :
    Calls Tryd.prog 5 #[.agg (k.map bv).toArray, .string s, .int .i64 z, .int .i64 y] w fun e w' => e = .returned (.bool true) ∧ Below w.heap.size w w' := by
  have hb0 := (Below.refl w.heap.size w).alloc (Nat.le_refl _) (.cells (k.map bv).toArray 23)
  have K := Lib.hid (derLaw.alive _ (hT.keep hb0))
  have f1 : ¬ (100 : Int) < (m : Int) := by omega
  have f2 : ¬ z < 1 := by omega
  go_enter Tryd.func5, Tryd.ntmps5
  go_wp2_with fail
  refine (K.out).mono ?_
  rintro e w2 ⟨rfl, hb⟩
  go_wp2_with fail
  go_ret
  exact ⟨rfl, hb0.trans (hb.mono hb0.size)⟩
set_option maxHeartbeats 400000 in
theorem out4 (k : List UInt8) (hk : k.length = 32) (s : ByteArray) (m : Nat) (hs : s.size = m) (z y : Int) (w : World) (hT : Tab w) (h0 : m ≤ 100) (h1 : 1 ≤ z) (h2 : z ≤ 300) (h : y < 1) :
    Calls Tryd.prog 5 #[.agg (k.map bv).toArray, .string s, .int .i64 z, .int .i64 y] w fun e w' => e = .returned (.bool true) ∧ Below w.heap.size w w' := by
  have hb0 := (Below.refl w.heap.size w).alloc (Nat.le_refl _) (.cells (k.map bv).toArray 23)
  have K := Lib.hid (derLaw.alive _ (hT.keep hb0))
  have f1 : ¬ (100 : Int) < (m : Int) := by omega
  have f2 : ¬ z < 1 := by omega
  have f3 : ¬ 300 < z := by omega
  go_enter Tryd.func5, Tryd.ntmps5
  go_wp2_with fail
  refine (K.out).mono ?_
  rintro e w2 ⟨rfl, hb⟩
  go_wp2_with fail
  go_ret
  exact ⟨rfl, hb0.trans (hb.mono hb0.size)⟩
set_option maxHeartbeats 400000 in
theorem out5 (k : List UInt8) (hk : k.length = 32) (s : ByteArray) (m : Nat) (hs : s.size = m) (z y : Int) (w : World) (hT : Tab w) (h0 : m ≤ 100) (h1 : 1 ≤ z) (h2 : z ≤ 300) (h3 : 1 ≤ y) (h : z < y) :
    Calls Tryd.prog 5 #[.agg (k.map bv).toArray, .string s, .int .i64 z, .int .i64 y] w fun e w' => e = .returned (.bool true) ∧ Below w.heap.size w w' := by
  have hb0 := (Below.refl w.heap.size w).alloc (Nat.le_refl _) (.cells (k.map bv).toArray 23)
  have K := Lib.hid (derLaw.alive _ (hT.keep hb0))
  have f1 : ¬ (100 : Int) < (m : Int) := by omega
  have f2 : ¬ z < 1 := by omega
  have f3 : ¬ 300 < z := by omega
  have f4 : ¬ y < 1 := by omega
  go_enter Tryd.func5, Tryd.ntmps5
  go_wp2_with fail
  refine (K.out).mono ?_
  rintro e w2 ⟨rfl, hb⟩
  go_wp2_with fail
  go_ret
  exact ⟨rfl, hb0.trans (hb.mono hb0.size)⟩
theorem own_size {w : World} {base n : Nat} {e : TypeId} {v : Value} {xs : List Value} (h : w.ownsRow base e 1 v n xs) (hn : 0 < n) : base ≤ w.heap.size := by
  obtain ⟨g, c, _, h1, h2, _⟩ := own_addr h hn
  omega
set_option maxRecDepth 20000 in
set_option maxHeartbeats 8000000 in
theorem inn (k : List UInt8) (hk : k.length = 32) (l : List UInt8) (m : Nat) (hl : l.length = m) (n q : Nat) (w : World) (hT : Tab w) (hm : m ≤ 100) (hn1 : 1 ≤ n) (hn2 : n ≤ 300) (hq1 : 1 ≤ q) (hq2 : q ≤ n) :
    Calls Tryd.prog 5 #[.agg (k.map bv).toArray, .string (str l), .int .i64 (n : Int), .int .i64 (q : Int)] w fun e w' => e = .returned (.bool true) ∧ Below w.heap.size w w' := by
  have hsz : (str l).size = m := by rw [str_size, hl]
  have hb0 := (Below.refl w.heap.size w).alloc (Nat.le_refl _) (.cells (k.map bv).toArray 23)
  have HQ := Has.new w 23 (k.map bv)
  have K := Lib.hid (derLaw.alive _ (hT.keep hb0))
  have f1 : ¬ (100 : Int) < (m : Int) := by omega
  have f2 : ¬ (n : Int) < 1 := by omega
  have f3 : ¬ (300 : Int) < (n : Int) := by omega
  have f4 : ¬ (q : Int) < 1 := by omega
  have f5 : ¬ (n : Int) < (q : Int) := by omega
  have HKL := Lib.hid hk
  have HLM := Lib.hid hl
  have HT := Lib.hid hT
  clear hT
  go_enter Tryd.func5, Tryd.ntmps5
  go_wp2_with fail
  refine (K.out).mono ?_
  rintro e w2 ⟨rfl, hb⟩
  have HQ2 := HQ.keep hb HQ.lt
  have hb2 := hb0.trans (hb.mono hb0.size)
  clear K HQ hb hb0
  go_wp2_with ((with_reducible refine wpList_load_key rfl (.tmp 4) rfl w.heap.size rfl k HKL.out HQ2 ?_))
  refine (derive.ExpandIn k HKL.out l m HLM.out (by omega) n (by omega) (by omega) w2 (HT.out.keep hb2)).mono ?_
  rintro e w3 ⟨v3, rfl, hown3, hb3⟩
  have hbw3 := hb2.trans (hb3.mono hb2.size)
  have HQ3 := HQ2.keep hb3 HQ2.lt
  obtain ⟨ga, ca, rfl, _, _, hra⟩ := own_addr hown3 (by omega)
  clear HQ2 hb2 hb3 hown3
  go_wp2_with ((with_reducible refine wpList_load_key rfl (.tmp 4) rfl w.heap.size rfl k HKL.out HQ3 ?_))
  refine (derive.ExpandIn k HKL.out l m HLM.out (by omega) q (by omega) (by omega) w3 (HT.out.keep hbw3)).mono ?_
  rintro e w4 ⟨v4, rfl, hown4, hb4⟩
  have hbw4 := hbw3.trans (hb4.mono hbw3.size)
  have HQ4 := HQ3.keep hb4 HQ3.lt
  have hra4 := hra.keep hb4
  obtain ⟨gb, cb, rfl, _, _, hrb⟩ := own_addr hown4 (by omega)
  clear HQ3 hbw3 hra hb4 hown4
  obtain ⟨Y, hY⟩ : ∃ Y, Y = expN k l q := ⟨_, rfl⟩
  rw [← hY] at hrb
  have hya : Bytes w4.drew (some ⟨ga, 0, none⟩) q ca Y := by
    have h := Row.head hra4 q hq2
    rw [← List.map_take, expN_take n q hq2, ← hY] at h
    exact h
  have hc1 : (q : Int) ≤ (ca : Int) := by have := hra4.2.1; omega
  have hcv1 := run_str Tryd.underlying25 Tryd.underlying5 Tryd.underlying9 hya
  have hcv2 := run_str Tryd.underlying25 Tryd.underlying5 Tryd.underlying9 (show Bytes w4.drew (some ⟨gb, 0, none⟩) q cb Y from hrb)
  have HCV := Lib.hid (And.intro hcv1 hcv2)
  have HA4 := Lib.hid hra4
  have HQ4' := Lib.hid HQ4
  have hb4' := Lib.hid hbw4
  clear hY hya hcv1 hcv2 hra4 hrb HQ4 hbw4
  go_wp2_with fail
  first | go_region_held (fun w' => (convert 25 9 (.slice (some ⟨ga, 0, none⟩) q ca)).run Tryd.prog w' = .ok (.string (str Y)) w' ∧ (convert 25 9 (.slice (some ⟨gb, 0, none⟩) q cb)).run Tryd.prog w' = .ok (.string (str Y)) w') (exact HCV.out) (fail) | fail
  by_cases h64 : n < 64
  · have h64' : (n : Int) < 64 := by omega
    go_wp2_with fail
    go_ret
    exact ⟨rfl, hb4'.out.drew⟩
  · have h64' : ¬ (n : Int) < 64 := by omega
    have HA5 := Lib.hid (show Bytes w4.drew (some ⟨ga, 0, none⟩) n ca (expN k l n) from HA4.out)
    have HQ5 := Lib.hid (show Has w4.drew w.heap.size 23 (k.map bv) from HQ4'.out)
    have hb5 := Lib.hid (hb4'.out.drew)
    clear HCV HA4 HQ4' hb4' hc1
    go_upto_region 10 with fail
    change Code.wp _ _ _ _ w4.drew
    generalize w4.drew = w5 at *
    obtain ⟨T1, hT1⟩ : ∃ T, T = tN k l 1 := ⟨_, rfl⟩
    obtain ⟨R, hR⟩ : ∃ R, R = tN k l 2 := ⟨_, rfl⟩
    have hRl : R.length = 32 := by rw [hR, tN_len _ (by omega)]
    have hT1e : (expN k l n).take 32 = T1 := by
      have h := expN_part (key := k) (info := l) n 0 (by omega)
      rw [Nat.mul_zero, List.drop_zero] at h
      rw [hT1, h]
    have hRe : ((expN k l n).drop 32).take 32 = R := by
      have h := expN_part (key := k) (info := l) n 1 (by omega)
      rw [Nat.mul_one] at h
      rw [hR, h]
    have hRm : R = macN k (T1 ++ l ++ [2]) := by rw [hR, hT1]; rfl
    have hc32 : (32 : Int) ≤ (ca : Int) := by have := HA5.out.2.1; omega
    have hc64 : (64 : Int) ≤ (ca : Int) := by have := HA5.out.2.1; omega
    have hcne : ¬ ca = 32 := by have := HA5.out.2.1; omega
    obtain ⟨N, hN⟩ : ∃ N, N = 32 + m + 1 := ⟨_, rfl⟩
    have HN := Lib.hid hN
    have HA32 := Lib.hid (fun (u : World) (h : Below w5.heap.size w5 u) => show Bytes u (some ⟨ga, 0, none⟩) 32 ca T1 by
      rw [← hT1e]
      exact (HA5.out.head 32 (by omega)).keep h)
    have HC1 := Lib.hid (show 0 + 32 ≤ 140737488355328 by omega)
    have HC2 := Lib.hid (show 32 + m ≤ 140737488355328 by omega)
    have HC3 := Lib.hid (show 32 + m + 1 ≤ 140737488355328 by omega)
    have H32 := Lib.hid (show 0 < 32 by omega)
    have H32m := Lib.hid (show 0 < 32 + m by omega)
    have KM := Lib.hid (fun (A9 : Option Addr) (c9 : Nat) (u : World) (hu : Below w5.heap.size w5 u) (h : Row u A9 N c9 ((T1 ++ l ++ [2]).map bv)) => show Calls Tryd.prog 11 #[.slice (some ⟨w.heap.size, 0, none⟩) 32 32, .slice A9 N c9] u fun e w' => e = .returned (.agg (R.map bv).toArray) ∧ Below u.heap.size u w' by
      rw [hRm]
      exact mac.Of _ 32 32 k A9 N c9 _ u ((HQ5.out.bytes 32 HKL.out (by simp [maxLen])).keep hu) h (by omega) (HT.out.keep (hb5.out.trans (hu.mono hb5.out.size))))
    have hi2 : (Tryd.prog.info? 23).map (·.size) = some (R.map bv).length := by rw [List.length_map, hRl]; exact size_key
    have hal : ∀ u : World, (u.alloc (.cells #[.int .u8 0, .int .u8 0, .int .u8 0, .int .u8 0, .int .u8 0, .int .u8 0, .int .u8 0, .int .u8 0, .int .u8 0, .int .u8 0, .int .u8 0, .int .u8 0, .int .u8 0, .int .u8 0, .int .u8 0, .int .u8 0, .int .u8 0, .int .u8 0, .int .u8 0, .int .u8 0, .int .u8 0, .int .u8 0, .int .u8 0, .int .u8 0, .int .u8 0, .int .u8 0, .int .u8 0, .int .u8 0, .int .u8 0, .int .u8 0, .int .u8 0, .int .u8 0] 23)).there u.heap.size 0 (R.map bv).length := fun u => Has.there (newKey u) 0 (R.map bv).length (by rw [List.length_map, hRl]; decide)
    have hu2 := Tryd.underlying23
    have hone2 := one_bv R
    have HCT := Lib.hid (fun (u : World) (g : Nat) (h : Has u g 23 zkey) => Has.there h 0 (R.map bv).length (by rw [List.length_map, hRl]; decide))
    have HR := Lib.hid (And.intro hRe hRl)
    clear hT1 hR hRl hT1e hRe hRm hN
    go_region_held3 (fun _ => True) (trivial)
      (first
        | (have HBk := Lib.hid (show Below w5.heap.size w5 w5.drew from ((Below.refl w5.heap.size w5).drew)); have HSz := Lib.hid (show w5.heap.size + 0 ≤ w5.drew.heap.size by simp <;> omega); refine step_app8 (by rfl) (.const (.slice none 0 0)) (.tmp 70) (by rfl) (w5.heap.size + 0) (.slice none 0 0) 0 [] (by rfl) (World.ownsRow_nil _ _ _ _) (some ⟨ga, 0, none⟩) 32 ca T1 (by rfl) (HA32.out _ HBk.out) HC1.out HSz.out ?_; intro v1 w1 hown1 hg1; rw [Nat.zero_add, List.nil_append] at hown1; have hk1 : Below w5.drew.heap.size w5.drew w1 := (Below.refl _ _).grown hg1 (Nat.le_refl _) (fun k hk => by cases hk); have hB1 := HBk.out.trans (hk1.mono HBk.out.size))
        | (have HBk := Lib.hid (show Below w5.heap.size w5 (w5.alloc (.cells #[.int .u8 2] 5)).drew from ((belL w5).drew)); have HSz := Lib.hid (show w5.heap.size + 1 ≤ (w5.alloc (.cells #[.int .u8 2] 5)).drew.heap.size by simp <;> omega); refine step_app8 (by rfl) (.const (.slice none 0 0)) (.tmp 70) (by rfl) (w5.heap.size + 1) (.slice none 0 0) 0 [] (by rfl) (World.ownsRow_nil _ _ _ _) (some ⟨ga, 0, none⟩) 32 ca T1 (by rfl) (HA32.out _ HBk.out) HC1.out HSz.out ?_; intro v1 w1 hown1 hg1; rw [Nat.zero_add, List.nil_append] at hown1; have hk1 : Below (w5.alloc (.cells #[.int .u8 2] 5)).drew.heap.size (w5.alloc (.cells #[.int .u8 2] 5)).drew w1 := (Below.refl _ _).grown hg1 (Nat.le_refl _) (fun k hk => by cases hk); have hB1 := HBk.out.trans (hk1.mono HBk.out.size); have HLa := (show Has (w5.alloc (.cells #[.int .u8 2] 5)).drew (w5.heap.size) 5 (([2] : List UInt8).map bv) from hasL w5).keep hk1 (show Has (w5.alloc (.cells #[.int .u8 2] 5)).drew (w5.heap.size) 5 (([2] : List UInt8).map bv) from hasL w5).lt; have hLa : ∀ g, v1.ownBlock = some g → some (w5.heap.size) ≠ v1.ownBlock := fun g hg e => (by have := (hown1.lt _ e.symm).1; omega))
        | (have HBk := Lib.hid (show Below w5.heap.size w5 (w5.alloc (.cells #[.int .u8 0, .int .u8 0, .int .u8 0, .int .u8 0, .int .u8 0, .int .u8 0, .int .u8 0, .int .u8 0, .int .u8 0, .int .u8 0, .int .u8 0, .int .u8 0, .int .u8 0, .int .u8 0, .int .u8 0, .int .u8 0, .int .u8 0, .int .u8 0, .int .u8 0, .int .u8 0, .int .u8 0, .int .u8 0, .int .u8 0, .int .u8 0, .int .u8 0, .int .u8 0, .int .u8 0, .int .u8 0, .int .u8 0, .int .u8 0, .int .u8 0, .int .u8 0] 23)).drew from ((belZ w5).drew)); have HSz := Lib.hid (show w5.heap.size + 1 ≤ (w5.alloc (.cells #[.int .u8 0, .int .u8 0, .int .u8 0, .int .u8 0, .int .u8 0, .int .u8 0, .int .u8 0, .int .u8 0, .int .u8 0, .int .u8 0, .int .u8 0, .int .u8 0, .int .u8 0, .int .u8 0, .int .u8 0, .int .u8 0, .int .u8 0, .int .u8 0, .int .u8 0, .int .u8 0, .int .u8 0, .int .u8 0, .int .u8 0, .int .u8 0, .int .u8 0, .int .u8 0, .int .u8 0, .int .u8 0, .int .u8 0, .int .u8 0, .int .u8 0, .int .u8 0] 23)).drew.heap.size by simp <;> omega); refine step_app8 (by rfl) (.const (.slice none 0 0)) (.tmp 70) (by rfl) (w5.heap.size + 1) (.slice none 0 0) 0 [] (by rfl) (World.ownsRow_nil _ _ _ _) (some ⟨ga, 0, none⟩) 32 ca T1 (by rfl) (HA32.out _ HBk.out) HC1.out HSz.out ?_; intro v1 w1 hown1 hg1; rw [Nat.zero_add, List.nil_append] at hown1; have hk1 : Below (w5.alloc (.cells #[.int .u8 0, .int .u8 0, .int .u8 0, .int .u8 0, .int .u8 0, .int .u8 0, .int .u8 0, .int .u8 0, .int .u8 0, .int .u8 0, .int .u8 0, .int .u8 0, .int .u8 0, .int .u8 0, .int .u8 0, .int .u8 0, .int .u8 0, .int .u8 0, .int .u8 0, .int .u8 0, .int .u8 0, .int .u8 0, .int .u8 0, .int .u8 0, .int .u8 0, .int .u8 0, .int .u8 0, .int .u8 0, .int .u8 0, .int .u8 0, .int .u8 0, .int .u8 0] 23)).drew.heap.size (w5.alloc (.cells #[.int .u8 0, .int .u8 0, .int .u8 0, .int .u8 0, .int .u8 0, .int .u8 0, .int .u8 0, .int .u8 0, .int .u8 0, .int .u8 0, .int .u8 0, .int .u8 0, .int .u8 0, .int .u8 0, .int .u8 0, .int .u8 0, .int .u8 0, .int .u8 0, .int .u8 0, .int .u8 0, .int .u8 0, .int .u8 0, .int .u8 0, .int .u8 0, .int .u8 0, .int .u8 0, .int .u8 0, .int .u8 0, .int .u8 0, .int .u8 0, .int .u8 0, .int .u8 0] 23)).drew w1 := (Below.refl _ _).grown hg1 (Nat.le_refl _) (fun k hk => by cases hk); have hB1 := HBk.out.trans (hk1.mono HBk.out.size); have HZa := (show Has (w5.alloc (.cells #[.int .u8 0, .int .u8 0, .int .u8 0, .int .u8 0, .int .u8 0, .int .u8 0, .int .u8 0, .int .u8 0, .int .u8 0, .int .u8 0, .int .u8 0, .int .u8 0, .int .u8 0, .int .u8 0, .int .u8 0, .int .u8 0, .int .u8 0, .int .u8 0, .int .u8 0, .int .u8 0, .int .u8 0, .int .u8 0, .int .u8 0, .int .u8 0, .int .u8 0, .int .u8 0, .int .u8 0, .int .u8 0, .int .u8 0, .int .u8 0, .int .u8 0, .int .u8 0] 23)).drew (w5.heap.size) 23 zkey from keyZ w5).keep hk1 (show Has (w5.alloc (.cells #[.int .u8 0, .int .u8 0, .int .u8 0, .int .u8 0, .int .u8 0, .int .u8 0, .int .u8 0, .int .u8 0, .int .u8 0, .int .u8 0, .int .u8 0, .int .u8 0, .int .u8 0, .int .u8 0, .int .u8 0, .int .u8 0, .int .u8 0, .int .u8 0, .int .u8 0, .int .u8 0, .int .u8 0, .int .u8 0, .int .u8 0, .int .u8 0, .int .u8 0, .int .u8 0, .int .u8 0, .int .u8 0, .int .u8 0, .int .u8 0, .int .u8 0, .int .u8 0] 23)).drew (w5.heap.size) 23 zkey from keyZ w5).lt)
        | (have HBk := Lib.hid (show Below w5.heap.size w5 ((w5.alloc (.cells #[.int .u8 2] 5)).alloc (.cells #[.int .u8 0, .int .u8 0, .int .u8 0, .int .u8 0, .int .u8 0, .int .u8 0, .int .u8 0, .int .u8 0, .int .u8 0, .int .u8 0, .int .u8 0, .int .u8 0, .int .u8 0, .int .u8 0, .int .u8 0, .int .u8 0, .int .u8 0, .int .u8 0, .int .u8 0, .int .u8 0, .int .u8 0, .int .u8 0, .int .u8 0, .int .u8 0, .int .u8 0, .int .u8 0, .int .u8 0, .int .u8 0, .int .u8 0, .int .u8 0, .int .u8 0, .int .u8 0] 23)).drew from ((belLZ w5).drew)); have HSz := Lib.hid (show w5.heap.size + 2 ≤ ((w5.alloc (.cells #[.int .u8 2] 5)).alloc (.cells #[.int .u8 0, .int .u8 0, .int .u8 0, .int .u8 0, .int .u8 0, .int .u8 0, .int .u8 0, .int .u8 0, .int .u8 0, .int .u8 0, .int .u8 0, .int .u8 0, .int .u8 0, .int .u8 0, .int .u8 0, .int .u8 0, .int .u8 0, .int .u8 0, .int .u8 0, .int .u8 0, .int .u8 0, .int .u8 0, .int .u8 0, .int .u8 0, .int .u8 0, .int .u8 0, .int .u8 0, .int .u8 0, .int .u8 0, .int .u8 0, .int .u8 0, .int .u8 0] 23)).drew.heap.size by simp <;> omega); refine step_app8 (by rfl) (.const (.slice none 0 0)) (.tmp 70) (by rfl) (w5.heap.size + 2) (.slice none 0 0) 0 [] (by rfl) (World.ownsRow_nil _ _ _ _) (some ⟨ga, 0, none⟩) 32 ca T1 (by rfl) (HA32.out _ HBk.out) HC1.out HSz.out ?_; intro v1 w1 hown1 hg1; rw [Nat.zero_add, List.nil_append] at hown1; have hk1 : Below ((w5.alloc (.cells #[.int .u8 2] 5)).alloc (.cells #[.int .u8 0, .int .u8 0, .int .u8 0, .int .u8 0, .int .u8 0, .int .u8 0, .int .u8 0, .int .u8 0, .int .u8 0, .int .u8 0, .int .u8 0, .int .u8 0, .int .u8 0, .int .u8 0, .int .u8 0, .int .u8 0, .int .u8 0, .int .u8 0, .int .u8 0, .int .u8 0, .int .u8 0, .int .u8 0, .int .u8 0, .int .u8 0, .int .u8 0, .int .u8 0, .int .u8 0, .int .u8 0, .int .u8 0, .int .u8 0, .int .u8 0, .int .u8 0] 23)).drew.heap.size ((w5.alloc (.cells #[.int .u8 2] 5)).alloc (.cells #[.int .u8 0, .int .u8 0, .int .u8 0, .int .u8 0, .int .u8 0, .int .u8 0, .int .u8 0, .int .u8 0, .int .u8 0, .int .u8 0, .int .u8 0, .int .u8 0, .int .u8 0, .int .u8 0, .int .u8 0, .int .u8 0, .int .u8 0, .int .u8 0, .int .u8 0, .int .u8 0, .int .u8 0, .int .u8 0, .int .u8 0, .int .u8 0, .int .u8 0, .int .u8 0, .int .u8 0, .int .u8 0, .int .u8 0, .int .u8 0, .int .u8 0, .int .u8 0] 23)).drew w1 := (Below.refl _ _).grown hg1 (Nat.le_refl _) (fun k hk => by cases hk); have hB1 := HBk.out.trans (hk1.mono HBk.out.size); have HLa := (show Has ((w5.alloc (.cells #[.int .u8 2] 5)).alloc (.cells #[.int .u8 0, .int .u8 0, .int .u8 0, .int .u8 0, .int .u8 0, .int .u8 0, .int .u8 0, .int .u8 0, .int .u8 0, .int .u8 0, .int .u8 0, .int .u8 0, .int .u8 0, .int .u8 0, .int .u8 0, .int .u8 0, .int .u8 0, .int .u8 0, .int .u8 0, .int .u8 0, .int .u8 0, .int .u8 0, .int .u8 0, .int .u8 0, .int .u8 0, .int .u8 0, .int .u8 0, .int .u8 0, .int .u8 0, .int .u8 0, .int .u8 0, .int .u8 0] 23)).drew (w5.heap.size) 5 (([2] : List UInt8).map bv) from hasLZ w5).keep hk1 (show Has ((w5.alloc (.cells #[.int .u8 2] 5)).alloc (.cells #[.int .u8 0, .int .u8 0, .int .u8 0, .int .u8 0, .int .u8 0, .int .u8 0, .int .u8 0, .int .u8 0, .int .u8 0, .int .u8 0, .int .u8 0, .int .u8 0, .int .u8 0, .int .u8 0, .int .u8 0, .int .u8 0, .int .u8 0, .int .u8 0, .int .u8 0, .int .u8 0, .int .u8 0, .int .u8 0, .int .u8 0, .int .u8 0, .int .u8 0, .int .u8 0, .int .u8 0, .int .u8 0, .int .u8 0, .int .u8 0, .int .u8 0, .int .u8 0] 23)).drew (w5.heap.size) 5 (([2] : List UInt8).map bv) from hasLZ w5).lt; have hLa : ∀ g, v1.ownBlock = some g → some (w5.heap.size) ≠ v1.ownBlock := fun g hg e => (by have := (hown1.lt _ e.symm).1; omega); have HZa := (show Has ((w5.alloc (.cells #[.int .u8 2] 5)).alloc (.cells #[.int .u8 0, .int .u8 0, .int .u8 0, .int .u8 0, .int .u8 0, .int .u8 0, .int .u8 0, .int .u8 0, .int .u8 0, .int .u8 0, .int .u8 0, .int .u8 0, .int .u8 0, .int .u8 0, .int .u8 0, .int .u8 0, .int .u8 0, .int .u8 0, .int .u8 0, .int .u8 0, .int .u8 0, .int .u8 0, .int .u8 0, .int .u8 0, .int .u8 0, .int .u8 0, .int .u8 0, .int .u8 0, .int .u8 0, .int .u8 0, .int .u8 0, .int .u8 0] 23)).drew (w5.heap.size + 1) 23 zkey from keyLZ w5).keep hk1 (show Has ((w5.alloc (.cells #[.int .u8 2] 5)).alloc (.cells #[.int .u8 0, .int .u8 0, .int .u8 0, .int .u8 0, .int .u8 0, .int .u8 0, .int .u8 0, .int .u8 0, .int .u8 0, .int .u8 0, .int .u8 0, .int .u8 0, .int .u8 0, .int .u8 0, .int .u8 0, .int .u8 0, .int .u8 0, .int .u8 0, .int .u8 0, .int .u8 0, .int .u8 0, .int .u8 0, .int .u8 0, .int .u8 0, .int .u8 0, .int .u8 0, .int .u8 0, .int .u8 0, .int .u8 0, .int .u8 0, .int .u8 0, .int .u8 0] 23)).drew (w5.heap.size + 1) 23 zkey from keyLZ w5).lt)
        | (have HBk := Lib.hid (show Below w5.heap.size w5 ((w5.alloc (.cells #[.int .u8 0, .int .u8 0, .int .u8 0, .int .u8 0, .int .u8 0, .int .u8 0, .int .u8 0, .int .u8 0, .int .u8 0, .int .u8 0, .int .u8 0, .int .u8 0, .int .u8 0, .int .u8 0, .int .u8 0, .int .u8 0, .int .u8 0, .int .u8 0, .int .u8 0, .int .u8 0, .int .u8 0, .int .u8 0, .int .u8 0, .int .u8 0, .int .u8 0, .int .u8 0, .int .u8 0, .int .u8 0, .int .u8 0, .int .u8 0, .int .u8 0, .int .u8 0] 23)).alloc (.cells #[.int .u8 2] 5)).drew from ((belZL w5).drew)); have HSz := Lib.hid (show w5.heap.size + 2 ≤ ((w5.alloc (.cells #[.int .u8 0, .int .u8 0, .int .u8 0, .int .u8 0, .int .u8 0, .int .u8 0, .int .u8 0, .int .u8 0, .int .u8 0, .int .u8 0, .int .u8 0, .int .u8 0, .int .u8 0, .int .u8 0, .int .u8 0, .int .u8 0, .int .u8 0, .int .u8 0, .int .u8 0, .int .u8 0, .int .u8 0, .int .u8 0, .int .u8 0, .int .u8 0, .int .u8 0, .int .u8 0, .int .u8 0, .int .u8 0, .int .u8 0, .int .u8 0, .int .u8 0, .int .u8 0] 23)).alloc (.cells #[.int .u8 2] 5)).drew.heap.size by simp <;> omega); refine step_app8 (by rfl) (.const (.slice none 0 0)) (.tmp 70) (by rfl) (w5.heap.size + 2) (.slice none 0 0) 0 [] (by rfl) (World.ownsRow_nil _ _ _ _) (some ⟨ga, 0, none⟩) 32 ca T1 (by rfl) (HA32.out _ HBk.out) HC1.out HSz.out ?_; intro v1 w1 hown1 hg1; rw [Nat.zero_add, List.nil_append] at hown1; have hk1 : Below ((w5.alloc (.cells #[.int .u8 0, .int .u8 0, .int .u8 0, .int .u8 0, .int .u8 0, .int .u8 0, .int .u8 0, .int .u8 0, .int .u8 0, .int .u8 0, .int .u8 0, .int .u8 0, .int .u8 0, .int .u8 0, .int .u8 0, .int .u8 0, .int .u8 0, .int .u8 0, .int .u8 0, .int .u8 0, .int .u8 0, .int .u8 0, .int .u8 0, .int .u8 0, .int .u8 0, .int .u8 0, .int .u8 0, .int .u8 0, .int .u8 0, .int .u8 0, .int .u8 0, .int .u8 0] 23)).alloc (.cells #[.int .u8 2] 5)).drew.heap.size ((w5.alloc (.cells #[.int .u8 0, .int .u8 0, .int .u8 0, .int .u8 0, .int .u8 0, .int .u8 0, .int .u8 0, .int .u8 0, .int .u8 0, .int .u8 0, .int .u8 0, .int .u8 0, .int .u8 0, .int .u8 0, .int .u8 0, .int .u8 0, .int .u8 0, .int .u8 0, .int .u8 0, .int .u8 0, .int .u8 0, .int .u8 0, .int .u8 0, .int .u8 0, .int .u8 0, .int .u8 0, .int .u8 0, .int .u8 0, .int .u8 0, .int .u8 0, .int .u8 0, .int .u8 0] 23)).alloc (.cells #[.int .u8 2] 5)).drew w1 := (Below.refl _ _).grown hg1 (Nat.le_refl _) (fun k hk => by cases hk); have hB1 := HBk.out.trans (hk1.mono HBk.out.size); have HLa := (show Has ((w5.alloc (.cells #[.int .u8 0, .int .u8 0, .int .u8 0, .int .u8 0, .int .u8 0, .int .u8 0, .int .u8 0, .int .u8 0, .int .u8 0, .int .u8 0, .int .u8 0, .int .u8 0, .int .u8 0, .int .u8 0, .int .u8 0, .int .u8 0, .int .u8 0, .int .u8 0, .int .u8 0, .int .u8 0, .int .u8 0, .int .u8 0, .int .u8 0, .int .u8 0, .int .u8 0, .int .u8 0, .int .u8 0, .int .u8 0, .int .u8 0, .int .u8 0, .int .u8 0, .int .u8 0] 23)).alloc (.cells #[.int .u8 2] 5)).drew (w5.heap.size + 1) 5 (([2] : List UInt8).map bv) from hasZL w5).keep hk1 (show Has ((w5.alloc (.cells #[.int .u8 0, .int .u8 0, .int .u8 0, .int .u8 0, .int .u8 0, .int .u8 0, .int .u8 0, .int .u8 0, .int .u8 0, .int .u8 0, .int .u8 0, .int .u8 0, .int .u8 0, .int .u8 0, .int .u8 0, .int .u8 0, .int .u8 0, .int .u8 0, .int .u8 0, .int .u8 0, .int .u8 0, .int .u8 0, .int .u8 0, .int .u8 0, .int .u8 0, .int .u8 0, .int .u8 0, .int .u8 0, .int .u8 0, .int .u8 0, .int .u8 0, .int .u8 0] 23)).alloc (.cells #[.int .u8 2] 5)).drew (w5.heap.size + 1) 5 (([2] : List UInt8).map bv) from hasZL w5).lt; have hLa : ∀ g, v1.ownBlock = some g → some (w5.heap.size + 1) ≠ v1.ownBlock := fun g hg e => (by have := (hown1.lt _ e.symm).1; omega); have HZa := (show Has ((w5.alloc (.cells #[.int .u8 0, .int .u8 0, .int .u8 0, .int .u8 0, .int .u8 0, .int .u8 0, .int .u8 0, .int .u8 0, .int .u8 0, .int .u8 0, .int .u8 0, .int .u8 0, .int .u8 0, .int .u8 0, .int .u8 0, .int .u8 0, .int .u8 0, .int .u8 0, .int .u8 0, .int .u8 0, .int .u8 0, .int .u8 0, .int .u8 0, .int .u8 0, .int .u8 0, .int .u8 0, .int .u8 0, .int .u8 0, .int .u8 0, .int .u8 0, .int .u8 0, .int .u8 0] 23)).alloc (.cells #[.int .u8 2] 5)).drew (w5.heap.size) 23 zkey from keyZL w5).keep hk1 (show Has ((w5.alloc (.cells #[.int .u8 0, .int .u8 0, .int .u8 0, .int .u8 0, .int .u8 0, .int .u8 0, .int .u8 0, .int .u8 0, .int .u8 0, .int .u8 0, .int .u8 0, .int .u8 0, .int .u8 0, .int .u8 0, .int .u8 0, .int .u8 0, .int .u8 0, .int .u8 0, .int .u8 0, .int .u8 0, .int .u8 0, .int .u8 0, .int .u8 0, .int .u8 0, .int .u8 0, .int .u8 0, .int .u8 0, .int .u8 0, .int .u8 0, .int .u8 0, .int .u8 0, .int .u8 0] 23)).alloc (.cells #[.int .u8 2] 5)).drew (w5.heap.size) 23 zkey from keyZL w5).lt)
        | (have HBk := Lib.hid (show Below w1.heap.size w1 w1 from (Below.refl w1.heap.size w1)); refine step_app_str (by rfl) (.tmp 71) (.tmp 72) (by rfl) _ v1 32 T1 (by rfl) (own_keep hown1 HBk.out) m l (by rfl) HLM.out HC2.out (Nat.le_trans (own_size hown1 H32.out) HBk.out.size) ?_; intro v2 w2 hown2 hg2; have hB2 := (hB1.trans (HBk.out.mono hB1.size)).grown hg2 (hB1.trans (HBk.out.mono hB1.size)).size (fun k hk => by have := (hown1.lt k hk).1; omega); (try have HLb := (HLa.keep HBk.out HLa.lt).grown hg2 (fun e => hLa _ e.symm e)); (try have HZb := (HZa.keep HBk.out HZa.lt).grown hg2 (own_ne_key (own_keep hown1 HBk.out) (HZa.keep HBk.out HZa.lt))))
        | (have HBk := Lib.hid (show Below w1.heap.size w1 (w1.alloc (.cells #[.int .u8 2] 5)) from (belL w1)); refine step_app_str (by rfl) (.tmp 71) (.tmp 72) (by rfl) _ v1 32 T1 (by rfl) (own_keep hown1 HBk.out) m l (by rfl) HLM.out HC2.out (Nat.le_trans (own_size hown1 H32.out) HBk.out.size) ?_; intro v2 w2 hown2 hg2; have hB2 := (hB1.trans (HBk.out.mono hB1.size)).grown hg2 (hB1.trans (HBk.out.mono hB1.size)).size (fun k hk => by have := (hown1.lt k hk).1; omega); have HLb := (show Has (w1.alloc (.cells #[.int .u8 2] 5)) (w1.heap.size) 5 (([2] : List UInt8).map bv) from hasL w1).grown hg2 (fun e => (by have := (hown1.lt _ e.symm).2; omega)); (try have HZb := (HZa.keep HBk.out HZa.lt).grown hg2 (own_ne_key (own_keep hown1 HBk.out) (HZa.keep HBk.out HZa.lt))))
        | (have HBk := Lib.hid (show Below w1.heap.size w1 (w1.alloc (.cells #[.int .u8 0, .int .u8 0, .int .u8 0, .int .u8 0, .int .u8 0, .int .u8 0, .int .u8 0, .int .u8 0, .int .u8 0, .int .u8 0, .int .u8 0, .int .u8 0, .int .u8 0, .int .u8 0, .int .u8 0, .int .u8 0, .int .u8 0, .int .u8 0, .int .u8 0, .int .u8 0, .int .u8 0, .int .u8 0, .int .u8 0, .int .u8 0, .int .u8 0, .int .u8 0, .int .u8 0, .int .u8 0, .int .u8 0, .int .u8 0, .int .u8 0, .int .u8 0] 23)) from (belZ w1)); refine step_app_str (by rfl) (.tmp 71) (.tmp 72) (by rfl) _ v1 32 T1 (by rfl) (own_keep hown1 HBk.out) m l (by rfl) HLM.out HC2.out (Nat.le_trans (own_size hown1 H32.out) HBk.out.size) ?_; intro v2 w2 hown2 hg2; have hB2 := (hB1.trans (HBk.out.mono hB1.size)).grown hg2 (hB1.trans (HBk.out.mono hB1.size)).size (fun k hk => by have := (hown1.lt k hk).1; omega); (try have HLb := (HLa.keep HBk.out HLa.lt).grown hg2 (fun e => hLa _ e.symm e)); have HZb := (show Has (w1.alloc (.cells #[.int .u8 0, .int .u8 0, .int .u8 0, .int .u8 0, .int .u8 0, .int .u8 0, .int .u8 0, .int .u8 0, .int .u8 0, .int .u8 0, .int .u8 0, .int .u8 0, .int .u8 0, .int .u8 0, .int .u8 0, .int .u8 0, .int .u8 0, .int .u8 0, .int .u8 0, .int .u8 0, .int .u8 0, .int .u8 0, .int .u8 0, .int .u8 0, .int .u8 0, .int .u8 0, .int .u8 0, .int .u8 0, .int .u8 0, .int .u8 0, .int .u8 0, .int .u8 0] 23)) (w1.heap.size) 23 zkey from keyZ w1).grown hg2 (own_ne_key (own_keep hown1 HBk.out) (show Has (w1.alloc (.cells #[.int .u8 0, .int .u8 0, .int .u8 0, .int .u8 0, .int .u8 0, .int .u8 0, .int .u8 0, .int .u8 0, .int .u8 0, .int .u8 0, .int .u8 0, .int .u8 0, .int .u8 0, .int .u8 0, .int .u8 0, .int .u8 0, .int .u8 0, .int .u8 0, .int .u8 0, .int .u8 0, .int .u8 0, .int .u8 0, .int .u8 0, .int .u8 0, .int .u8 0, .int .u8 0, .int .u8 0, .int .u8 0, .int .u8 0, .int .u8 0, .int .u8 0, .int .u8 0] 23)) (w1.heap.size) 23 zkey from keyZ w1)))
        | (have HBk := Lib.hid (show Below w1.heap.size w1 ((w1.alloc (.cells #[.int .u8 2] 5)).alloc (.cells #[.int .u8 0, .int .u8 0, .int .u8 0, .int .u8 0, .int .u8 0, .int .u8 0, .int .u8 0, .int .u8 0, .int .u8 0, .int .u8 0, .int .u8 0, .int .u8 0, .int .u8 0, .int .u8 0, .int .u8 0, .int .u8 0, .int .u8 0, .int .u8 0, .int .u8 0, .int .u8 0, .int .u8 0, .int .u8 0, .int .u8 0, .int .u8 0, .int .u8 0, .int .u8 0, .int .u8 0, .int .u8 0, .int .u8 0, .int .u8 0, .int .u8 0, .int .u8 0] 23)) from (belLZ w1)); refine step_app_str (by rfl) (.tmp 71) (.tmp 72) (by rfl) _ v1 32 T1 (by rfl) (own_keep hown1 HBk.out) m l (by rfl) HLM.out HC2.out (Nat.le_trans (own_size hown1 H32.out) HBk.out.size) ?_; intro v2 w2 hown2 hg2; have hB2 := (hB1.trans (HBk.out.mono hB1.size)).grown hg2 (hB1.trans (HBk.out.mono hB1.size)).size (fun k hk => by have := (hown1.lt k hk).1; omega); have HLb := (show Has ((w1.alloc (.cells #[.int .u8 2] 5)).alloc (.cells #[.int .u8 0, .int .u8 0, .int .u8 0, .int .u8 0, .int .u8 0, .int .u8 0, .int .u8 0, .int .u8 0, .int .u8 0, .int .u8 0, .int .u8 0, .int .u8 0, .int .u8 0, .int .u8 0, .int .u8 0, .int .u8 0, .int .u8 0, .int .u8 0, .int .u8 0, .int .u8 0, .int .u8 0, .int .u8 0, .int .u8 0, .int .u8 0, .int .u8 0, .int .u8 0, .int .u8 0, .int .u8 0, .int .u8 0, .int .u8 0, .int .u8 0, .int .u8 0] 23)) (w1.heap.size) 5 (([2] : List UInt8).map bv) from hasLZ w1).grown hg2 (fun e => (by have := (hown1.lt _ e.symm).2; omega)); have HZb := (show Has ((w1.alloc (.cells #[.int .u8 2] 5)).alloc (.cells #[.int .u8 0, .int .u8 0, .int .u8 0, .int .u8 0, .int .u8 0, .int .u8 0, .int .u8 0, .int .u8 0, .int .u8 0, .int .u8 0, .int .u8 0, .int .u8 0, .int .u8 0, .int .u8 0, .int .u8 0, .int .u8 0, .int .u8 0, .int .u8 0, .int .u8 0, .int .u8 0, .int .u8 0, .int .u8 0, .int .u8 0, .int .u8 0, .int .u8 0, .int .u8 0, .int .u8 0, .int .u8 0, .int .u8 0, .int .u8 0, .int .u8 0, .int .u8 0] 23)) (w1.heap.size + 1) 23 zkey from keyLZ w1).grown hg2 (own_ne_key (own_keep hown1 HBk.out) (show Has ((w1.alloc (.cells #[.int .u8 2] 5)).alloc (.cells #[.int .u8 0, .int .u8 0, .int .u8 0, .int .u8 0, .int .u8 0, .int .u8 0, .int .u8 0, .int .u8 0, .int .u8 0, .int .u8 0, .int .u8 0, .int .u8 0, .int .u8 0, .int .u8 0, .int .u8 0, .int .u8 0, .int .u8 0, .int .u8 0, .int .u8 0, .int .u8 0, .int .u8 0, .int .u8 0, .int .u8 0, .int .u8 0, .int .u8 0, .int .u8 0, .int .u8 0, .int .u8 0, .int .u8 0, .int .u8 0, .int .u8 0, .int .u8 0] 23)) (w1.heap.size + 1) 23 zkey from keyLZ w1)))
        | (have HBk := Lib.hid (show Below w1.heap.size w1 ((w1.alloc (.cells #[.int .u8 0, .int .u8 0, .int .u8 0, .int .u8 0, .int .u8 0, .int .u8 0, .int .u8 0, .int .u8 0, .int .u8 0, .int .u8 0, .int .u8 0, .int .u8 0, .int .u8 0, .int .u8 0, .int .u8 0, .int .u8 0, .int .u8 0, .int .u8 0, .int .u8 0, .int .u8 0, .int .u8 0, .int .u8 0, .int .u8 0, .int .u8 0, .int .u8 0, .int .u8 0, .int .u8 0, .int .u8 0, .int .u8 0, .int .u8 0, .int .u8 0, .int .u8 0] 23)).alloc (.cells #[.int .u8 2] 5)) from (belZL w1)); refine step_app_str (by rfl) (.tmp 71) (.tmp 72) (by rfl) _ v1 32 T1 (by rfl) (own_keep hown1 HBk.out) m l (by rfl) HLM.out HC2.out (Nat.le_trans (own_size hown1 H32.out) HBk.out.size) ?_; intro v2 w2 hown2 hg2; have hB2 := (hB1.trans (HBk.out.mono hB1.size)).grown hg2 (hB1.trans (HBk.out.mono hB1.size)).size (fun k hk => by have := (hown1.lt k hk).1; omega); have HLb := (show Has ((w1.alloc (.cells #[.int .u8 0, .int .u8 0, .int .u8 0, .int .u8 0, .int .u8 0, .int .u8 0, .int .u8 0, .int .u8 0, .int .u8 0, .int .u8 0, .int .u8 0, .int .u8 0, .int .u8 0, .int .u8 0, .int .u8 0, .int .u8 0, .int .u8 0, .int .u8 0, .int .u8 0, .int .u8 0, .int .u8 0, .int .u8 0, .int .u8 0, .int .u8 0, .int .u8 0, .int .u8 0, .int .u8 0, .int .u8 0, .int .u8 0, .int .u8 0, .int .u8 0, .int .u8 0] 23)).alloc (.cells #[.int .u8 2] 5)) (w1.heap.size + 1) 5 (([2] : List UInt8).map bv) from hasZL w1).grown hg2 (fun e => (by have := (hown1.lt _ e.symm).2; omega)); have HZb := (show Has ((w1.alloc (.cells #[.int .u8 0, .int .u8 0, .int .u8 0, .int .u8 0, .int .u8 0, .int .u8 0, .int .u8 0, .int .u8 0, .int .u8 0, .int .u8 0, .int .u8 0, .int .u8 0, .int .u8 0, .int .u8 0, .int .u8 0, .int .u8 0, .int .u8 0, .int .u8 0, .int .u8 0, .int .u8 0, .int .u8 0, .int .u8 0, .int .u8 0, .int .u8 0, .int .u8 0, .int .u8 0, .int .u8 0, .int .u8 0, .int .u8 0, .int .u8 0, .int .u8 0, .int .u8 0] 23)).alloc (.cells #[.int .u8 2] 5)) (w1.heap.size) 23 zkey from keyZL w1).grown hg2 (own_ne_key (own_keep hown1 HBk.out) (show Has ((w1.alloc (.cells #[.int .u8 0, .int .u8 0, .int .u8 0, .int .u8 0, .int .u8 0, .int .u8 0, .int .u8 0, .int .u8 0, .int .u8 0, .int .u8 0, .int .u8 0, .int .u8 0, .int .u8 0, .int .u8 0, .int .u8 0, .int .u8 0, .int .u8 0, .int .u8 0, .int .u8 0, .int .u8 0, .int .u8 0, .int .u8 0, .int .u8 0, .int .u8 0, .int .u8 0, .int .u8 0, .int .u8 0, .int .u8 0, .int .u8 0, .int .u8 0, .int .u8 0, .int .u8 0] 23)).alloc (.cells #[.int .u8 2] 5)) (w1.heap.size) 23 zkey from keyZL w1)))
        | (have HBk := Lib.hid (show Below w2.heap.size w2 w2 from (Below.refl w2.heap.size w2)); have HLc := Lib.hid ((hasB HLb).keep HBk.out); refine step_app8 (by rfl) (.tmp 73) (.tmp 74) (by rfl) _ v2 (32 + m) (T1 ++ l) (by rfl) (own_keep hown2 HBk.out) _ 1 1 [2] (by rfl) HLc.out HC3.out (Nat.le_trans (own_size hown2 H32m.out) HBk.out.size) ?_; intro v3 w3 hown3 hg3; rw [← HN.out] at hown3; have hB3 := (hB2.trans (HBk.out.mono hB2.size)).grown hg3 (hB2.trans (HBk.out.mono hB2.size)).size (fun k hk => by have := (hown2.lt k hk).1; omega); (try have HZc := (HZb.keep HBk.out HZb.lt).grown hg3 (own_ne_key (own_keep hown2 HBk.out) (HZb.keep HBk.out HZb.lt))); obtain ⟨A3, c3, rfl, hr3⟩ := Row.own hown3)
        | (have HBk := Lib.hid (show Below w2.heap.size w2 (w2.alloc (.cells #[.int .u8 2] 5)) from (belL w2)); have HLc := Lib.hid (hasB (show Has (w2.alloc (.cells #[.int .u8 2] 5)) (w2.heap.size) 5 (([2] : List UInt8).map bv) from hasL w2)); refine step_app8 (by rfl) (.tmp 73) (.tmp 74) (by rfl) _ v2 (32 + m) (T1 ++ l) (by rfl) (own_keep hown2 HBk.out) _ 1 1 [2] (by rfl) HLc.out HC3.out (Nat.le_trans (own_size hown2 H32m.out) HBk.out.size) ?_; intro v3 w3 hown3 hg3; rw [← HN.out] at hown3; have hB3 := (hB2.trans (HBk.out.mono hB2.size)).grown hg3 (hB2.trans (HBk.out.mono hB2.size)).size (fun k hk => by have := (hown2.lt k hk).1; omega); (try have HZc := (HZb.keep HBk.out HZb.lt).grown hg3 (own_ne_key (own_keep hown2 HBk.out) (HZb.keep HBk.out HZb.lt))); obtain ⟨A3, c3, rfl, hr3⟩ := Row.own hown3)
        | (have HBk := Lib.hid (show Below w2.heap.size w2 (w2.alloc (.cells #[.int .u8 0, .int .u8 0, .int .u8 0, .int .u8 0, .int .u8 0, .int .u8 0, .int .u8 0, .int .u8 0, .int .u8 0, .int .u8 0, .int .u8 0, .int .u8 0, .int .u8 0, .int .u8 0, .int .u8 0, .int .u8 0, .int .u8 0, .int .u8 0, .int .u8 0, .int .u8 0, .int .u8 0, .int .u8 0, .int .u8 0, .int .u8 0, .int .u8 0, .int .u8 0, .int .u8 0, .int .u8 0, .int .u8 0, .int .u8 0, .int .u8 0, .int .u8 0] 23)) from (belZ w2)); have HLc := Lib.hid ((hasB HLb).keep HBk.out); refine step_app8 (by rfl) (.tmp 73) (.tmp 74) (by rfl) _ v2 (32 + m) (T1 ++ l) (by rfl) (own_keep hown2 HBk.out) _ 1 1 [2] (by rfl) HLc.out HC3.out (Nat.le_trans (own_size hown2 H32m.out) HBk.out.size) ?_; intro v3 w3 hown3 hg3; rw [← HN.out] at hown3; have hB3 := (hB2.trans (HBk.out.mono hB2.size)).grown hg3 (hB2.trans (HBk.out.mono hB2.size)).size (fun k hk => by have := (hown2.lt k hk).1; omega); have HZc := (show Has (w2.alloc (.cells #[.int .u8 0, .int .u8 0, .int .u8 0, .int .u8 0, .int .u8 0, .int .u8 0, .int .u8 0, .int .u8 0, .int .u8 0, .int .u8 0, .int .u8 0, .int .u8 0, .int .u8 0, .int .u8 0, .int .u8 0, .int .u8 0, .int .u8 0, .int .u8 0, .int .u8 0, .int .u8 0, .int .u8 0, .int .u8 0, .int .u8 0, .int .u8 0, .int .u8 0, .int .u8 0, .int .u8 0, .int .u8 0, .int .u8 0, .int .u8 0, .int .u8 0, .int .u8 0] 23)) (w2.heap.size) 23 zkey from keyZ w2).grown hg3 (own_ne_key (own_keep hown2 HBk.out) (show Has (w2.alloc (.cells #[.int .u8 0, .int .u8 0, .int .u8 0, .int .u8 0, .int .u8 0, .int .u8 0, .int .u8 0, .int .u8 0, .int .u8 0, .int .u8 0, .int .u8 0, .int .u8 0, .int .u8 0, .int .u8 0, .int .u8 0, .int .u8 0, .int .u8 0, .int .u8 0, .int .u8 0, .int .u8 0, .int .u8 0, .int .u8 0, .int .u8 0, .int .u8 0, .int .u8 0, .int .u8 0, .int .u8 0, .int .u8 0, .int .u8 0, .int .u8 0, .int .u8 0, .int .u8 0] 23)) (w2.heap.size) 23 zkey from keyZ w2)); obtain ⟨A3, c3, rfl, hr3⟩ := Row.own hown3)
        | (have HBk := Lib.hid (show Below w2.heap.size w2 ((w2.alloc (.cells #[.int .u8 2] 5)).alloc (.cells #[.int .u8 0, .int .u8 0, .int .u8 0, .int .u8 0, .int .u8 0, .int .u8 0, .int .u8 0, .int .u8 0, .int .u8 0, .int .u8 0, .int .u8 0, .int .u8 0, .int .u8 0, .int .u8 0, .int .u8 0, .int .u8 0, .int .u8 0, .int .u8 0, .int .u8 0, .int .u8 0, .int .u8 0, .int .u8 0, .int .u8 0, .int .u8 0, .int .u8 0, .int .u8 0, .int .u8 0, .int .u8 0, .int .u8 0, .int .u8 0, .int .u8 0, .int .u8 0] 23)) from (belLZ w2)); have HLc := Lib.hid (hasB (show Has ((w2.alloc (.cells #[.int .u8 2] 5)).alloc (.cells #[.int .u8 0, .int .u8 0, .int .u8 0, .int .u8 0, .int .u8 0, .int .u8 0, .int .u8 0, .int .u8 0, .int .u8 0, .int .u8 0, .int .u8 0, .int .u8 0, .int .u8 0, .int .u8 0, .int .u8 0, .int .u8 0, .int .u8 0, .int .u8 0, .int .u8 0, .int .u8 0, .int .u8 0, .int .u8 0, .int .u8 0, .int .u8 0, .int .u8 0, .int .u8 0, .int .u8 0, .int .u8 0, .int .u8 0, .int .u8 0, .int .u8 0, .int .u8 0] 23)) (w2.heap.size) 5 (([2] : List UInt8).map bv) from hasLZ w2)); refine step_app8 (by rfl) (.tmp 73) (.tmp 74) (by rfl) _ v2 (32 + m) (T1 ++ l) (by rfl) (own_keep hown2 HBk.out) _ 1 1 [2] (by rfl) HLc.out HC3.out (Nat.le_trans (own_size hown2 H32m.out) HBk.out.size) ?_; intro v3 w3 hown3 hg3; rw [← HN.out] at hown3; have hB3 := (hB2.trans (HBk.out.mono hB2.size)).grown hg3 (hB2.trans (HBk.out.mono hB2.size)).size (fun k hk => by have := (hown2.lt k hk).1; omega); have HZc := (show Has ((w2.alloc (.cells #[.int .u8 2] 5)).alloc (.cells #[.int .u8 0, .int .u8 0, .int .u8 0, .int .u8 0, .int .u8 0, .int .u8 0, .int .u8 0, .int .u8 0, .int .u8 0, .int .u8 0, .int .u8 0, .int .u8 0, .int .u8 0, .int .u8 0, .int .u8 0, .int .u8 0, .int .u8 0, .int .u8 0, .int .u8 0, .int .u8 0, .int .u8 0, .int .u8 0, .int .u8 0, .int .u8 0, .int .u8 0, .int .u8 0, .int .u8 0, .int .u8 0, .int .u8 0, .int .u8 0, .int .u8 0, .int .u8 0] 23)) (w2.heap.size + 1) 23 zkey from keyLZ w2).grown hg3 (own_ne_key (own_keep hown2 HBk.out) (show Has ((w2.alloc (.cells #[.int .u8 2] 5)).alloc (.cells #[.int .u8 0, .int .u8 0, .int .u8 0, .int .u8 0, .int .u8 0, .int .u8 0, .int .u8 0, .int .u8 0, .int .u8 0, .int .u8 0, .int .u8 0, .int .u8 0, .int .u8 0, .int .u8 0, .int .u8 0, .int .u8 0, .int .u8 0, .int .u8 0, .int .u8 0, .int .u8 0, .int .u8 0, .int .u8 0, .int .u8 0, .int .u8 0, .int .u8 0, .int .u8 0, .int .u8 0, .int .u8 0, .int .u8 0, .int .u8 0, .int .u8 0, .int .u8 0] 23)) (w2.heap.size + 1) 23 zkey from keyLZ w2)); obtain ⟨A3, c3, rfl, hr3⟩ := Row.own hown3)
        | (have HBk := Lib.hid (show Below w2.heap.size w2 ((w2.alloc (.cells #[.int .u8 0, .int .u8 0, .int .u8 0, .int .u8 0, .int .u8 0, .int .u8 0, .int .u8 0, .int .u8 0, .int .u8 0, .int .u8 0, .int .u8 0, .int .u8 0, .int .u8 0, .int .u8 0, .int .u8 0, .int .u8 0, .int .u8 0, .int .u8 0, .int .u8 0, .int .u8 0, .int .u8 0, .int .u8 0, .int .u8 0, .int .u8 0, .int .u8 0, .int .u8 0, .int .u8 0, .int .u8 0, .int .u8 0, .int .u8 0, .int .u8 0, .int .u8 0] 23)).alloc (.cells #[.int .u8 2] 5)) from (belZL w2)); have HLc := Lib.hid (hasB (show Has ((w2.alloc (.cells #[.int .u8 0, .int .u8 0, .int .u8 0, .int .u8 0, .int .u8 0, .int .u8 0, .int .u8 0, .int .u8 0, .int .u8 0, .int .u8 0, .int .u8 0, .int .u8 0, .int .u8 0, .int .u8 0, .int .u8 0, .int .u8 0, .int .u8 0, .int .u8 0, .int .u8 0, .int .u8 0, .int .u8 0, .int .u8 0, .int .u8 0, .int .u8 0, .int .u8 0, .int .u8 0, .int .u8 0, .int .u8 0, .int .u8 0, .int .u8 0, .int .u8 0, .int .u8 0] 23)).alloc (.cells #[.int .u8 2] 5)) (w2.heap.size + 1) 5 (([2] : List UInt8).map bv) from hasZL w2)); refine step_app8 (by rfl) (.tmp 73) (.tmp 74) (by rfl) _ v2 (32 + m) (T1 ++ l) (by rfl) (own_keep hown2 HBk.out) _ 1 1 [2] (by rfl) HLc.out HC3.out (Nat.le_trans (own_size hown2 H32m.out) HBk.out.size) ?_; intro v3 w3 hown3 hg3; rw [← HN.out] at hown3; have hB3 := (hB2.trans (HBk.out.mono hB2.size)).grown hg3 (hB2.trans (HBk.out.mono hB2.size)).size (fun k hk => by have := (hown2.lt k hk).1; omega); have HZc := (show Has ((w2.alloc (.cells #[.int .u8 0, .int .u8 0, .int .u8 0, .int .u8 0, .int .u8 0, .int .u8 0, .int .u8 0, .int .u8 0, .int .u8 0, .int .u8 0, .int .u8 0, .int .u8 0, .int .u8 0, .int .u8 0, .int .u8 0, .int .u8 0, .int .u8 0, .int .u8 0, .int .u8 0, .int .u8 0, .int .u8 0, .int .u8 0, .int .u8 0, .int .u8 0, .int .u8 0, .int .u8 0, .int .u8 0, .int .u8 0, .int .u8 0, .int .u8 0, .int .u8 0, .int .u8 0] 23)).alloc (.cells #[.int .u8 2] 5)) (w2.heap.size) 23 zkey from keyZL w2).grown hg3 (own_ne_key (own_keep hown2 HBk.out) (show Has ((w2.alloc (.cells #[.int .u8 0, .int .u8 0, .int .u8 0, .int .u8 0, .int .u8 0, .int .u8 0, .int .u8 0, .int .u8 0, .int .u8 0, .int .u8 0, .int .u8 0, .int .u8 0, .int .u8 0, .int .u8 0, .int .u8 0, .int .u8 0, .int .u8 0, .int .u8 0, .int .u8 0, .int .u8 0, .int .u8 0, .int .u8 0, .int .u8 0, .int .u8 0, .int .u8 0, .int .u8 0, .int .u8 0, .int .u8 0, .int .u8 0, .int .u8 0, .int .u8 0, .int .u8 0] 23)).alloc (.cells #[.int .u8 2] 5)) (w2.heap.size) 23 zkey from keyZL w2)); obtain ⟨A3, c3, rfl, hr3⟩ := Row.own hown3)
        | (go_simp; go_at_call 11; refine (KM.out A3 c3 w3 hB3 hr3).mono ?_; rintro e w6 ⟨rfl, hb6⟩; have hB6 := hB3.trans (hb6.mono hB3.size); have HZd := HZc.keep hb6 HZc.lt; have hth := HCT.out w6 _ HZd)
        | (go_simp; go_at_call 11; refine (KM.out A3 c3 (w3.alloc (.cells #[.int .u8 0, .int .u8 0, .int .u8 0, .int .u8 0, .int .u8 0, .int .u8 0, .int .u8 0, .int .u8 0, .int .u8 0, .int .u8 0, .int .u8 0, .int .u8 0, .int .u8 0, .int .u8 0, .int .u8 0, .int .u8 0, .int .u8 0, .int .u8 0, .int .u8 0, .int .u8 0, .int .u8 0, .int .u8 0, .int .u8 0, .int .u8 0, .int .u8 0, .int .u8 0, .int .u8 0, .int .u8 0, .int .u8 0, .int .u8 0, .int .u8 0, .int .u8 0] 23)) (hB3.trans ((belZ w3).mono hB3.size)) (hr3.keep (belZ w3))).mono ?_; rintro e w6 ⟨rfl, hb6⟩; have hB6 := (hB3.trans ((belZ w3).mono hB3.size)).trans (hb6.mono (hB3.trans ((belZ w3).mono hB3.size)).size); have HZd := (keyZ w3).keep hb6 (keyZ w3).lt; have hth := HCT.out w6 _ HZd)
        | (go_simp; go_at_call 11; refine (KM.out A3 c3 w3 hB3 hr3).mono ?_; rintro e w6 ⟨rfl, hb6⟩; have hB6 := hB3.trans (hb6.mono hB3.size)))
    all_goals go_upto_region 11 with fail
    all_goals (
        first
        | (change Code.wp _ _ _ _ ((w6.alloc (.cells #[.int .u8 0, .int .u8 0, .int .u8 0, .int .u8 0, .int .u8 0, .int .u8 0, .int .u8 0, .int .u8 0, .int .u8 0, .int .u8 0, .int .u8 0, .int .u8 0, .int .u8 0, .int .u8 0, .int .u8 0, .int .u8 0, .int .u8 0, .int .u8 0, .int .u8 0, .int .u8 0, .int .u8 0, .int .u8 0, .int .u8 0, .int .u8 0, .int .u8 0, .int .u8 0, .int .u8 0, .int .u8 0, .int .u8 0, .int .u8 0, .int .u8 0, .int .u8 0] 23)).setCells w6.heap.size 0 (R.map bv))
           have F := key_new (B := w5.heap.size) (a := w5) hB6 hB6.size HR.out.2
           have F2 := Lib.hid (And.intro F.2.1 (And.intro (HA5.out.keep F.2.2) (hb5.out.trans (F.2.2.mono hb5.out.size))))
           clear F
           generalize ((w6.alloc (.cells #[.int .u8 0, .int .u8 0, .int .u8 0, .int .u8 0, .int .u8 0, .int .u8 0, .int .u8 0, .int .u8 0, .int .u8 0, .int .u8 0, .int .u8 0, .int .u8 0, .int .u8 0, .int .u8 0, .int .u8 0, .int .u8 0, .int .u8 0, .int .u8 0, .int .u8 0, .int .u8 0, .int .u8 0, .int .u8 0, .int .u8 0, .int .u8 0, .int .u8 0, .int .u8 0, .int .u8 0, .int .u8 0, .int .u8 0, .int .u8 0, .int .u8 0, .int .u8 0] 23)).setCells w6.heap.size 0 (R.map bv)) = wx at *
           generalize w6.heap.size = g9 at *)
        | (change Code.wp _ _ _ _ (w6.setCells w5.heap.size 0 (R.map bv))
           have F := key_put (B := w5.heap.size) (a := w5) hB6 HZd (show w5.heap.size ≤ w5.heap.size by have s1 := hB1.size; have s2 := hB2.size; have s3 := hB3.size; omega) HR.out.2
           have F2 := Lib.hid (And.intro F.2.1 (And.intro (HA5.out.keep F.2.2) (hb5.out.trans (F.2.2.mono hb5.out.size))))
           clear F
           generalize (w6.setCells w5.heap.size 0 (R.map bv)) = wx at *
           generalize w5.heap.size = g9 at *)
        | (change Code.wp _ _ _ _ (w6.setCells (w5.heap.size + 1) 0 (R.map bv))
           have F := key_put (B := w5.heap.size) (a := w5) hB6 HZd (show w5.heap.size ≤ (w5.heap.size + 1) by have s1 := hB1.size; have s2 := hB2.size; have s3 := hB3.size; omega) HR.out.2
           have F2 := Lib.hid (And.intro F.2.1 (And.intro (HA5.out.keep F.2.2) (hb5.out.trans (F.2.2.mono hb5.out.size))))
           clear F
           generalize (w6.setCells (w5.heap.size + 1) 0 (R.map bv)) = wx at *
           generalize (w5.heap.size + 1) = g9 at *)
        | (change Code.wp _ _ _ _ (w6.setCells w1.heap.size 0 (R.map bv))
           have F := key_put (B := w5.heap.size) (a := w5) hB6 HZd (show w5.heap.size ≤ w1.heap.size by have s1 := hB1.size; have s2 := hB2.size; have s3 := hB3.size; omega) HR.out.2
           have F2 := Lib.hid (And.intro F.2.1 (And.intro (HA5.out.keep F.2.2) (hb5.out.trans (F.2.2.mono hb5.out.size))))
           clear F
           generalize (w6.setCells w1.heap.size 0 (R.map bv)) = wx at *
           generalize w1.heap.size = g9 at *)
        | (change Code.wp _ _ _ _ (w6.setCells (w1.heap.size + 1) 0 (R.map bv))
           have F := key_put (B := w5.heap.size) (a := w5) hB6 HZd (show w5.heap.size ≤ (w1.heap.size + 1) by have s1 := hB1.size; have s2 := hB2.size; have s3 := hB3.size; omega) HR.out.2
           have F2 := Lib.hid (And.intro F.2.1 (And.intro (HA5.out.keep F.2.2) (hb5.out.trans (F.2.2.mono hb5.out.size))))
           clear F
           generalize (w6.setCells (w1.heap.size + 1) 0 (R.map bv)) = wx at *
           generalize (w1.heap.size + 1) = g9 at *)
        | (change Code.wp _ _ _ _ (w6.setCells w2.heap.size 0 (R.map bv))
           have F := key_put (B := w5.heap.size) (a := w5) hB6 HZd (show w5.heap.size ≤ w2.heap.size by have s1 := hB1.size; have s2 := hB2.size; have s3 := hB3.size; omega) HR.out.2
           have F2 := Lib.hid (And.intro F.2.1 (And.intro (HA5.out.keep F.2.2) (hb5.out.trans (F.2.2.mono hb5.out.size))))
           clear F
           generalize (w6.setCells w2.heap.size 0 (R.map bv)) = wx at *
           generalize w2.heap.size = g9 at *)
        | (change Code.wp _ _ _ _ (w6.setCells (w2.heap.size + 1) 0 (R.map bv))
           have F := key_put (B := w5.heap.size) (a := w5) hB6 HZd (show w5.heap.size ≤ (w2.heap.size + 1) by have s1 := hB1.size; have s2 := hB2.size; have s3 := hB3.size; omega) HR.out.2
           have F2 := Lib.hid (And.intro F.2.1 (And.intro (HA5.out.keep F.2.2) (hb5.out.trans (F.2.2.mono hb5.out.size))))
           clear F
           generalize (w6.setCells (w2.heap.size + 1) 0 (R.map bv)) = wx at *
           generalize (w2.heap.size + 1) = g9 at *)
        | (change Code.wp _ _ _ _ (w6.setCells w3.heap.size 0 (R.map bv))
           have F := key_put (B := w5.heap.size) (a := w5) hB6 HZd (show w5.heap.size ≤ w3.heap.size by have s1 := hB1.size; have s2 := hB2.size; have s3 := hB3.size; omega) HR.out.2
           have F2 := Lib.hid (And.intro F.2.1 (And.intro (HA5.out.keep F.2.2) (hb5.out.trans (F.2.2.mono hb5.out.size))))
           clear F
           generalize (w6.setCells w3.heap.size 0 (R.map bv)) = wx at *
           generalize w3.heap.size = g9 at *)
        obtain ⟨H9, HA9, hb9⟩ := F2.out
        clear F2 hi2 hal hu2 hone2 HCT KM HA32 HC1 HC2 HC3 H32 H32m
        have hs1 := run_str Tryd.underlying25 Tryd.underlying5 Tryd.underlying9 (show Bytes wx.drew (some ⟨g9, 0, none⟩) 32 32 R from H9.bytes 32 HR.out.2 (by simp [maxLen]))
        have hs2 := run_str Tryd.underlying25 Tryd.underlying5 Tryd.underlying9 (show Bytes wx.drew (some ⟨ga, 32, none⟩) 32 (ca - 32) R by
          have h := ((show Bytes wx (some ⟨ga, 0, none⟩) n ca (expN k l n) from HA9).tail 32 (by omega)).head 32 (by omega)
          rw [HR.out.1] at h
          exact h)
        have HSS := Lib.hid (And.intro hs1 hs2)
        have hb9' := Lib.hid hb9
        clear hs1 hs2 H9 HA9 hb9
        first | go_region_held (fun w' => (convert 25 9 (.slice (some ⟨g9, 0, none⟩) 32 32)).run Tryd.prog w' = .ok (.string (str R)) w' ∧ (convert 25 9 (.slice (some ⟨ga, 32, none⟩) 32 (ca - 32))).run Tryd.prog w' = .ok (.string (str R)) w') (exact HSS.out) (fail) | fail
        go_wp2_with fail
        go_ret
        exact ⟨rfl, hb9'.out.drew⟩)
theorem all (k : List UInt8) (hk : k.length = 32) (s : ByteArray) (z y : Int) (w : World) (hT : Tab w) :
    Calls Tryd.prog 5 #[.agg (k.map bv).toArray, .string s, .int .i64 z, .int .i64 y] w fun e w' => e = .returned (.bool true) ∧ Below w.heap.size w w' := by
  by_cases h1 : 100 < s.size
  · exact out1 k hk s _ rfl z y w hT h1
  by_cases h2 : z < 1
  · exact out2 k hk s _ rfl z y w hT (by omega) h2
  by_cases h3 : 300 < z
  · exact out3 k hk s _ rfl z y w hT (by omega) h3
  by_cases h4 : y < 1
  · exact out4 k hk s _ rfl z y w hT (by omega) (by omega) (by omega) h4
  by_cases h5 : z < y
  · exact out5 k hk s _ rfl z y w hT (by omega) (by omega) (by omega) (by omega) h5
  obtain ⟨n, rfl⟩ := Int.eq_ofNat_of_zero_le (show 0 ≤ z by omega)
  obtain ⟨q, rfl⟩ := Int.eq_ofNat_of_zero_le (show 0 ≤ y by omega)
  exact inn k hk s.data.toList s.size rfl n q w hT (by omega) (by omega) (by omega) (by omega) (by omega)
end derBeginsLaw
end Go.Proofs.YtcnpbgmdmifhaaaDoor
