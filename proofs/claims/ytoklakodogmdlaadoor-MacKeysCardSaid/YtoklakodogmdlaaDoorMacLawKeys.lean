/-
  MacKeys: the walk.
-/
import Derived.Test.YtoklakodogmdlaaDoorMacLaw
import Derived.Test.YtoklakodogmdlaaDoorAppZero
import Derived.Deep.RegionHeld
namespace Go.Proofs.YtoklakodogmdlaaDoor
open Go.ChangeShapes Go.WideShapes Go.ChangeAt Go.RowKit
set_option linter.unusedVariables false
set_option linter.unusedSimpArgs false

theorem macN_long (l b : List UInt8) (h : 64 < l.length) : macN l b = macN (shaN l) b := by
  have e1 : mkey l = shaN l := by rw [mkey, if_pos h]
  have e2 : mkey (shaN l) = shaN l := by rw [mkey, shaN_len, if_neg (by omega)]
  rw [macN, macN, mblk, mblk, e1, e2]
theorem macN_zeros (l b : List UInt8) (z : Nat) (h : l.length + z ≤ 64) : macN (l ++ List.replicate z 0) b = macN l b := by
  have e1 : mkey l = l := by rw [mkey, if_neg (by omega)]
  have e2 : mkey (l ++ List.replicate z 0) = l ++ List.replicate z 0 := by rw [mkey, if_neg (by rw [List.length_append, List.length_replicate]; omega)]
  have e3 : mblk (l ++ List.replicate z 0) = mblk l := by
    rw [mblk, mblk, e1, e2, List.append_assoc, List.replicate_append_replicate, List.length_append, List.length_replicate]
    congr 2
    omega
  rw [macN, macN, e3]

namespace macKeysLaw
set_option maxHeartbeats 400000 in
theorem out (A : Option Addr) (n c : Nat) (B : Option Addr) (m d : Nat) (z : Int) (w : World) (hT : Tab w) (h : 200 < n ∨ 200 < m ∨ z < 0 ∨ 64 < z) :
    Calls Tryd.prog 4 #[.slice A n c, .slice B m d, .int .i64 z] w fun e w' => e = .returned (.bool true) ∧ Below w.heap.size w w' := by
  have K := Lib.hid (macLaw.alive w hT)
  by_cases h1 : 200 < n
  · have h1' : (200 : Int) < (n : Int) := by omega
    go_enter Tryd.func4, Tryd.ntmps4
    go_wp2_with fail
    refine (K.out).mono ?_
    rintro e w2 ⟨rfl, hb⟩
    go_wp2_with fail
    go_ret
    exact ⟨rfl, hb⟩
  have h1' : ¬ (200 : Int) < (n : Int) := by omega
  by_cases h2 : 200 < m
  · have h2' : (200 : Int) < (m : Int) := by omega
    go_enter Tryd.func4, Tryd.ntmps4
    go_wp2_with fail
    refine (K.out).mono ?_
    rintro e w2 ⟨rfl, hb⟩
    go_wp2_with fail
    go_ret
    exact ⟨rfl, hb⟩
  have h2' : ¬ (200 : Int) < (m : Int) := by omega
  by_cases h3 : z < 0
  · go_enter Tryd.func4, Tryd.ntmps4
    go_wp2_with fail
    refine (K.out).mono ?_
    rintro e w2 ⟨rfl, hb⟩
    go_wp2_with fail
    go_ret
    exact ⟨rfl, hb⟩
  have h4 : 64 < z := by omega
  go_enter Tryd.func4, Tryd.ntmps4
  go_wp2_with fail
  refine (K.out).mono ?_
  rintro e w2 ⟨rfl, hb⟩
  go_wp2_with fail
  go_ret
  exact ⟨rfl, hb⟩
set_option maxHeartbeats 400000 in
theorem far (A : Option Addr) (n c : Nat) (B : Option Addr) (m d : Nat) (z : Nat) (w : World) (hT : Tab w) (hn : n ≤ 64) (hm : m ≤ 200) (hz : z ≤ 64) (h : 64 < n + z) :
    Calls Tryd.prog 4 #[.slice A n c, .slice B m d, .int .i64 (z : Int)] w fun e w' => e = .returned (.bool true) ∧ Below w.heap.size w w' := by
  have K := Lib.hid (macLaw.alive w hT)
  have h1 : ¬ (200 : Int) < (n : Int) := by omega
  have h2 : ¬ (200 : Int) < (m : Int) := by omega
  have h3 : ¬ (z : Int) < 0 := by omega
  have h4 : ¬ (64 : Int) < (z : Int) := by omega
  have h5 : ¬ (64 : Int) < (n : Int) := by omega
  have h6 : (64 : Int) < (n : Int) + (z : Int) := by omega
  go_enter Tryd.func4, Tryd.ntmps4
  go_wp2_with fail
  refine (K.out).mono ?_
  rintro e w2 ⟨rfl, hb⟩
  go_wp2_with fail
  go_ret
  exact ⟨rfl, hb⟩
set_option maxHeartbeats 1000000 in
theorem near (A : Option Addr) (n c : Nat) (l : List UInt8) (B : Option Addr) (m d : Nat) (l' : List UInt8) (z : Nat) (w : World) (hl : Bytes w A n c l) (hl' : Bytes w B m d l') (hT : Tab w) (hm : m ≤ 200) (h : n + z ≤ 64) :
    Calls Tryd.prog 4 #[.slice A n c, .slice B m d, .int .i64 (z : Int)] w fun e w' => e = .returned (.bool true) ∧ Below w.heap.size w w' := by
  have K := Lib.hid (macLaw.alive w hT)
  have h1 : ¬ (200 : Int) < (n : Int) := by omega
  have h2 : ¬ (200 : Int) < (m : Int) := by omega
  have h3 : ¬ (z : Int) < 0 := by omega
  have h4 : ¬ (64 : Int) < (z : Int) := by omega
  have h5 : ¬ (64 : Int) < (n : Int) := by omega
  have h6 : ¬ (64 : Int) < (n : Int) + (z : Int) := by omega
  have heq1 := eq_key (macN l l') (macN_len _ _)
  obtain ⟨X, hX⟩ : ∃ X, X = ((macN l l').map bv).toArray := ⟨_, rfl⟩
  rw [← hX] at heq1
  have HZ := Lib.hid (macN_zeros l l' z (by rw [hl.len]; exact h))
  have HX := Lib.hid hX
  have HB := Lib.hid (show 0 + n ≤ 140737488355328 by omega)
  have HB2 := Lib.hid (show 0 + n + z ≤ 140737488355328 by omega)
  clear hX
  go_enter Tryd.func4, Tryd.ntmps4
  go_wp2_with fail
  refine (K.out).mono ?_
  rintro e w2 ⟨rfl, hb2⟩
  have hl2 := hl.keep hb2
  have hl2' := hl'.keep hb2
  clear K
  go_wp2_with (first
    | (at_builtin; (refine app8 rfl (.const (.slice none 0 0)) (.tmp 48) rfl w2.heap.size (.slice none 0 0) 0 [] rfl (World.ownsRow_nil _ _ _ _) A n c l rfl hl2 HB.out (Nat.le_refl _) ?_); intro v4 w4 hown4 hg4; have hb4 : Below w2.heap.size w2 w4 := (Below.refl _ _).grown hg4 (Nat.le_refl _) (fun k hk => by cases hk))
    | (at_builtin; (refine app0 rfl (.tmp 49) (.tmp 50) rfl w2.heap.size v4 (0 + n) ([] ++ l) rfl hown4 z rfl HB2.out hb4.size ?_); intro v5 w5 hown5 hg5; have hb5 : Below w2.heap.size w2 w5 := hb4.grown hg5 hb4.size (fun k hk => (hown4.lt k hk).1)))
  rw [Nat.zero_add, List.nil_append] at hown5
  obtain ⟨A5, c5, rfl, hr5⟩ := Row.own hown5
  have hT5 := (hT.keep hb2).keep hb5
  have hl5 := hl2.keep hb5
  have hl5' := hl2'.keep hb5
  clear hown4 hown5 hg4 hg5 hb4
  have K1 := mac.Of A5 (n + z) c5 (l ++ List.replicate z 0) B m d l' w5 hr5 hl5' (by omega) hT5
  rw [HZ.out, ← HX.out] at K1
  refine K1.mono ?_
  rintro e w6 ⟨rfl, hb6⟩
  clear K1
  go_wp2_with fail
  refine (mac.Of A n c l B m d l' w6 (hl5.keep hb6) (hl5'.keep hb6) (by omega) (hT5.keep hb6)).mono ?_
  rintro e w7 ⟨rfl, hb7⟩
  rw [← HX.out]
  go_wp2_with fail
  go_ret
  have hb67 := hb6.trans (hb7.mono hb6.size)
  have hbA := hb5.trans (hb67.mono hb5.size)
  exact ⟨rfl, hb2.trans (hbA.mono hb2.size)⟩
set_option maxHeartbeats 1000000 in
theorem long (A : Option Addr) (n c : Nat) (l : List UInt8) (B : Option Addr) (m d : Nat) (l' : List UInt8) (z : Nat) (w : World) (hl : Bytes w A n c l) (hl' : Bytes w B m d l') (hT : Tab w) (hm : m ≤ 200) (hz : z ≤ 64) (hn : n ≤ 200) (h : 64 < n) :
    Calls Tryd.prog 4 #[.slice A n c, .slice B m d, .int .i64 (z : Int)] w fun e w' => e = .returned (.bool true) ∧ Below w.heap.size w w' := by
  have K := Lib.hid (macLaw.alive w hT)
  have h1 : ¬ (200 : Int) < (n : Int) := by omega
  have h2 : ¬ (200 : Int) < (m : Int) := by omega
  have h3 : ¬ (z : Int) < 0 := by omega
  have h4 : ¬ (64 : Int) < (z : Int) := by omega
  have h5 : (64 : Int) < (n : Int) := by omega
  have heq1 := eq_key (macN l l') (macN_len _ _)
  obtain ⟨X, hX⟩ : ∃ X, X = ((macN l l').map bv).toArray := ⟨_, rfl⟩
  rw [← hX] at heq1
  obtain ⟨S, hS⟩ : ∃ S, S = shaN l := ⟨_, rfl⟩
  have hSl : S.length = 32 := by rw [hS, shaN_len]
  have HZ := Lib.hid (show macN l l' = macN S l' by rw [hS]; exact macN_long l l' (by rw [hl.len]; exact h))
  have HX := Lib.hid hX
  have HS := Lib.hid (And.intro hS hSl)
  clear hX hS hSl
  go_enter Tryd.func4, Tryd.ntmps4
  go_wp2_with fail
  refine (K.out).mono ?_
  rintro e w2 ⟨rfl, hb2⟩
  clear K
  go_wp2_with fail
  refine (sha.Sum A n c l w2 (hl.keep hb2) (hT.keep hb2)).mono ?_
  rintro e w3 ⟨rfl, hb3⟩
  rw [← HS.out.1]
  have hbw3 := hb2.trans (hb3.mono hb2.size)
  have HK := newKey w3
  have hb4 := newKey_below hbw3 hbw3.size
  clear hb2 hb3
  go_wp2_with ((with_reducible refine wpList_store_key rfl (.tmp 8) (.tmp 35) rfl w3.heap.size rfl S HS.out.2 rfl zkey HK rfl ?_); intro w5 o5 H5)
  have hb5 := o5.below hb4 hbw3.size
  have hl5 := (hl.keep hb5)
  have hl5' := hl'.keep hb5
  have hS5 := H5.bytes 32 HS.out.2 (by simp [maxLen])
  have hT5 := hT.keep hb5
  have K1 := Lib.hid (show Calls Tryd.prog 7 #[.slice A n c, .slice B m d] w5.drew fun e w' => e = .returned (.agg X) ∧ Below w5.drew.heap.size w5.drew w' by
    rw [HX.out]
    exact mac.Of A n c l B m d l' w5.drew (hl5.keep (Below.refl _ _).drew) (hl5'.keep (Below.refl _ _).drew) (by omega) (hT5.keep (Below.refl _ _).drew))
  have K2 := Lib.hid (fun (u : World) (hu : Below w5.drew.heap.size w5.drew u) => show Calls Tryd.prog 7 #[.slice (some ⟨w3.heap.size, 0, none⟩) 32 32, .slice B m d] u fun e w' => e = .returned (.agg X) ∧ Below u.heap.size u w' by
    rw [HX.out, HZ.out]
    exact mac.Of _ 32 32 S B m d l' u ((hS5.keep (Below.refl _ _).drew).keep hu) ((hl5'.keep (Below.refl _ _).drew).keep hu) (by omega) ((hT5.keep (Below.refl _ _).drew).keep hu))
  clear hS5 H5 o5 hb4 HK
  go_region_held (fun _ => True) (trivial)
    (first
    | (go_at_call 7; with_reducible refine (K1.out).mono ?_; rintro e w6 ⟨rfl, hb6⟩)
    | (go_at_call 7; with_reducible refine (K2.out w6 hb6).mono ?_; rintro e w7 ⟨rfl, hb7⟩))
  all_goals go_wp2
  all_goals go_ret
  all_goals exact ⟨rfl, hb5.drew.trans ((hb6.trans (hb7.mono hb6.size)).mono hb5.size)⟩
theorem all (A : Option Addr) (n c : Nat) (l : List UInt8) (B : Option Addr) (m d : Nat) (l' : List UInt8) (z : Int) (w : World) (hl : Bytes w A n c l) (hl' : Bytes w B m d l') (hT : Tab w) :
    Calls Tryd.prog 4 #[.slice A n c, .slice B m d, .int .i64 z] w fun e w' => e = .returned (.bool true) ∧ Below w.heap.size w w' := by
  by_cases h : 200 < n ∨ 200 < m ∨ z < 0 ∨ 64 < z
  · exact out A n c B m d z w hT h
  · obtain ⟨z, rfl⟩ := Int.eq_ofNat_of_zero_le (show 0 ≤ z by omega)
    by_cases h1 : 64 < n
    · exact long A n c l B m d l' z w hl hl' hT (by omega) (by omega) (by omega) h1
    · by_cases h2 : 64 < n + z
      · exact far A n c B m d z w hT (by omega) (by omega) (by omega) h2
      · exact near A n c l B m d l' z w hl hl' hT (by omega) (by omega)
end macKeysLaw
end Go.Proofs.YtoklakodogmdlaaDoor
