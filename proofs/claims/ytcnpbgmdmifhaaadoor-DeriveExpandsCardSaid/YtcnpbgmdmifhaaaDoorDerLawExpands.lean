/-
  DeriveExpands: the walk.
-/
import Derived.Test.YtcnpbgmdmifhaaaDoorDerLaw
import Derived.Test.YtcnpbgmdmifhaaaDoorRefExp
import Derived.Deep.RegionHeld
namespace Go.Proofs.YtcnpbgmdmifhaaaDoor
open Go.ChangeShapes Go.WideShapes Go.ChangeAt Go.RowKit
set_option linter.unusedVariables false
set_option linter.unusedSimpArgs false

namespace derExpandsLaw
set_option maxHeartbeats 400000 in
theorem out (k : List UInt8) (hk : k.length = 32) (s : ByteArray) (m : Nat) (hs : s.size = m) (z : Int) (w : World) (hT : Tab w) (h : 100 < m ∨ (700 < z ∧ z < 8000)) :
    Calls Tryd.prog 3 #[.agg (k.map bv).toArray, .string s, .int .i64 z] w fun e w' => e = .returned (.bool true) ∧ Below w.heap.size w w' := by
  have hb0 := (Below.refl w.heap.size w).alloc (Nat.le_refl _) (.cells (k.map bv).toArray 23)
  have K := Lib.hid (derLaw.alive _ (hT.keep hb0))
  by_cases h1 : 100 < m
  · have h1' : (100 : Int) < (m : Int) := by omega
    go_enter Tryd.func3, Tryd.ntmps3
    go_wp2_with fail
    refine (K.out).mono ?_
    rintro e w2 ⟨rfl, hb⟩
    go_wp2_with fail
    go_ret
    exact ⟨rfl, hb0.trans (hb.mono hb0.size)⟩
  · have h1' : ¬ (100 : Int) < (m : Int) := by omega
    have h2 : 700 < z := by omega
    have h3 : z < 8000 := by omega
    go_enter Tryd.func3, Tryd.ntmps3
    go_wp2_with fail
    refine (K.out).mono ?_
    rintro e w2 ⟨rfl, hb⟩
    go_wp2_with fail
    go_ret
    exact ⟨rfl, hb0.trans (hb.mono hb0.size)⟩
set_option maxRecDepth 10000 in
set_option maxHeartbeats 1000000 in
theorem low (k : List UInt8) (hk : k.length = 32) (s : ByteArray) (m : Nat) (hs : s.size = m) (z : Int) (hz : z < 1) (w : World) (hT : Tab w) (hm : m ≤ 100) (E : List UInt8)
    (CE : ∀ u, Tab u → Calls Tryd.prog 7 #[.agg (k.map bv).toArray, .string s, .int .i64 z] u fun e w' => ∃ A c, e = .returned (.slice A 0 c) ∧ Bytes w' A 0 c E ∧ Below u.heap.size u w')
    (CR : ∀ u, Calls Tryd.prog 8 #[.agg (k.map bv).toArray, .string s, .int .i64 z] u fun e w' => ∃ A c, e = .returned (.slice A 0 c) ∧ Bytes w' A 0 c E ∧ Below u.heap.size u w') :
    Calls Tryd.prog 3 #[.agg (k.map bv).toArray, .string s, .int .i64 z] w fun e w' => e = .returned (.bool true) ∧ Below w.heap.size w w' := by
  have hb0 := (Below.refl w.heap.size w).alloc (Nat.le_refl _) (.cells (k.map bv).toArray 23)
  have HQ := Has.new w 23 (k.map bv)
  have K := Lib.hid (derLaw.alive _ (hT.keep hb0))
  have h1' : ¬ (100 : Int) < (m : Int) := by omega
  have HKL := Lib.hid hk
  have HCE := Lib.hid CE
  have HCR := Lib.hid CR
  have HT := Lib.hid hT
  have h700 : ¬ (700 : Int) < z := by omega
  have hd1 : decide (z < 1) = true := decide_eq_true hz
  clear CE CR hT
  go_enter Tryd.func3, Tryd.ntmps3
  go_wp2_with fail
  refine (K.out).mono ?_
  rintro e w2 ⟨rfl, hb⟩
  have HQ2 := HQ.keep hb HQ.lt
  have hb2 := hb0.trans (hb.mono hb0.size)
  clear K HQ hb hb0
  go_wp2_with ((with_reducible refine wpList_load_key rfl (.tmp 3) rfl w.heap.size rfl k HKL.out HQ2 ?_))
  refine (HCE.out w2 (HT.out.keep hb2)).mono ?_
  rintro e w3 ⟨A3, c3, rfl, hr3, hb3⟩
  have hbw3 := hb2.trans (hb3.mono hb2.size)
  have HQ3 := HQ2.keep hb3 HQ2.lt
  clear HQ2 hb2 hb3
  go_wp2_with fail
  have hu2 := Tryd.underlying23
  have hi2 : (Tryd.prog.info? 23).map (·.size) = some (k.map bv).length := by rw [List.length_map, HKL.out]; exact size_key
  have hst : ∀ u, Bytes u A3 0 c3 E → (convert 25 9 (.slice A3 0 c3)).run Tryd.prog u = .ok (.string (str E)) u := fun u h => run_str Tryd.underlying25 Tryd.underlying5 Tryd.underlying9 h
  have HST := Lib.hid hst
  have HR3 := Lib.hid (show Has w3.drew w.heap.size 23 (k.map bv) from HQ3)
  have HB3 := Lib.hid (show Bytes w3.drew A3 0 c3 E from hr3)
  have HK := Lib.hid (HCR.out w3.drew)
  have HRG := Lib.hid (fun (u : World) (h : Has u w.heap.size 23 (k.map bv)) => Has.range h 0 (k.map bv) (by rw [List.drop_zero, List.take_length]))
  clear hst HQ3 hr3
  first | go_region_held (fun w' => w'.rangeAt w.heap.size 0 (k.map bv) ∧ (convert 25 9 (.slice A3 0 c3)).run Tryd.prog w' = .ok (.string (str E)) w')
    (first | exact ⟨HRG.out _ HR3.out, HST.out _ HB3.out⟩ | exact ⟨HRG.out _ (HR3.out.keep hb4 HR3.out.lt), HST.out _ (HB3.out.keep hb4)⟩)
    ((go_at_call 8; with_reducible refine (HK.out).mono ?_; rintro e w4 ⟨A4, c4, rfl, hr4, hb4⟩; have hst4 := run_str Tryd.underlying25 Tryd.underlying5 Tryd.underlying9 hr4)) | fail
  all_goals go_wp2_with fail
  all_goals go_ret
  all_goals exact ⟨rfl, hbw3.drew.trans (hb4.mono hbw3.size)⟩
set_option maxRecDepth 10000 in
set_option maxHeartbeats 1000000 in
theorem high (k : List UInt8) (hk : k.length = 32) (s : ByteArray) (m : Nat) (hs : s.size = m) (z : Int) (hz : 8160 < z) (w : World) (hT : Tab w) (hm : m ≤ 100) (E : List UInt8)
    (CE : ∀ u, Tab u → Calls Tryd.prog 7 #[.agg (k.map bv).toArray, .string s, .int .i64 z] u fun e w' => ∃ A c, e = .returned (.slice A 0 c) ∧ Bytes w' A 0 c E ∧ Below u.heap.size u w')
    (CR : ∀ u, Calls Tryd.prog 8 #[.agg (k.map bv).toArray, .string s, .int .i64 z] u fun e w' => ∃ A c, e = .returned (.slice A 0 c) ∧ Bytes w' A 0 c E ∧ Below u.heap.size u w') :
    Calls Tryd.prog 3 #[.agg (k.map bv).toArray, .string s, .int .i64 z] w fun e w' => e = .returned (.bool true) ∧ Below w.heap.size w w' := by
  have hb0 := (Below.refl w.heap.size w).alloc (Nat.le_refl _) (.cells (k.map bv).toArray 23)
  have HQ := Has.new w 23 (k.map bv)
  have K := Lib.hid (derLaw.alive _ (hT.keep hb0))
  have h1' : ¬ (100 : Int) < (m : Int) := by omega
  have HKL := Lib.hid hk
  have HCE := Lib.hid CE
  have HCR := Lib.hid CR
  have HT := Lib.hid hT
  have h700 : (700 : Int) < z := by omega
  have h8000 : ¬ z < 8000 := by omega
  have hd1 : decide (z < 1) = false := decide_eq_false (by omega)
  have hd2 : decide (8160 < z) = true := decide_eq_true hz
  clear CE CR hT
  go_enter Tryd.func3, Tryd.ntmps3
  go_wp2_with fail
  refine (K.out).mono ?_
  rintro e w2 ⟨rfl, hb⟩
  have HQ2 := HQ.keep hb HQ.lt
  have hb2 := hb0.trans (hb.mono hb0.size)
  clear K HQ hb hb0
  go_wp2_with ((with_reducible refine wpList_load_key rfl (.tmp 3) rfl w.heap.size rfl k HKL.out HQ2 ?_))
  refine (HCE.out w2 (HT.out.keep hb2)).mono ?_
  rintro e w3 ⟨A3, c3, rfl, hr3, hb3⟩
  have hbw3 := hb2.trans (hb3.mono hb2.size)
  have HQ3 := HQ2.keep hb3 HQ2.lt
  clear HQ2 hb2 hb3
  go_wp2_with fail
  have hu2 := Tryd.underlying23
  have hi2 : (Tryd.prog.info? 23).map (·.size) = some (k.map bv).length := by rw [List.length_map, HKL.out]; exact size_key
  have hst : ∀ u, Bytes u A3 0 c3 E → (convert 25 9 (.slice A3 0 c3)).run Tryd.prog u = .ok (.string (str E)) u := fun u h => run_str Tryd.underlying25 Tryd.underlying5 Tryd.underlying9 h
  have HST := Lib.hid hst
  have HR3 := Lib.hid (show Has w3.drew w.heap.size 23 (k.map bv) from HQ3)
  have HB3 := Lib.hid (show Bytes w3.drew A3 0 c3 E from hr3)
  have HK := Lib.hid (HCR.out w3.drew)
  have HRG := Lib.hid (fun (u : World) (h : Has u w.heap.size 23 (k.map bv)) => Has.range h 0 (k.map bv) (by rw [List.drop_zero, List.take_length]))
  clear hst HQ3 hr3
  first | go_region_held (fun w' => w'.rangeAt w.heap.size 0 (k.map bv) ∧ (convert 25 9 (.slice A3 0 c3)).run Tryd.prog w' = .ok (.string (str E)) w')
    (first | exact ⟨HRG.out _ HR3.out, HST.out _ HB3.out⟩ | exact ⟨HRG.out _ (HR3.out.keep hb4 HR3.out.lt), HST.out _ (HB3.out.keep hb4)⟩)
    ((go_at_call 8; with_reducible refine (HK.out).mono ?_; rintro e w4 ⟨A4, c4, rfl, hr4, hb4⟩; have hst4 := run_str Tryd.underlying25 Tryd.underlying5 Tryd.underlying9 hr4)) | fail
  all_goals go_wp2_with fail
  all_goals go_ret
  all_goals exact ⟨rfl, hbw3.drew.trans (hb4.mono hbw3.size)⟩
set_option maxRecDepth 10000 in
set_option maxHeartbeats 1000000 in
theorem some1 (k : List UInt8) (hk : k.length = 32) (s : ByteArray) (m : Nat) (hs : s.size = m) (n : Nat) (hn1 : 1 ≤ n) (hn2 : n ≤ 700) (w : World) (hT : Tab w) (hm : m ≤ 100) (E : List UInt8)
    (CE : ∀ u, Tab u → Calls Tryd.prog 7 #[.agg (k.map bv).toArray, .string s, .int .i64 (n : Int)] u fun e w' => ∃ A c, e = .returned (.slice A n c) ∧ Bytes w' A n c E ∧ Below u.heap.size u w')
    (CR : ∀ u, Calls Tryd.prog 8 #[.agg (k.map bv).toArray, .string s, .int .i64 (n : Int)] u fun e w' => ∃ A c, e = .returned (.slice A n c) ∧ Bytes w' A n c E ∧ Below u.heap.size u w') :
    Calls Tryd.prog 3 #[.agg (k.map bv).toArray, .string s, .int .i64 (n : Int)] w fun e w' => e = .returned (.bool true) ∧ Below w.heap.size w w' := by
  have hb0 := (Below.refl w.heap.size w).alloc (Nat.le_refl _) (.cells (k.map bv).toArray 23)
  have HQ := Has.new w 23 (k.map bv)
  have K := Lib.hid (derLaw.alive _ (hT.keep hb0))
  have h1' : ¬ (100 : Int) < (m : Int) := by omega
  have HKL := Lib.hid hk
  have HCE := Lib.hid CE
  have HCR := Lib.hid CR
  have HT := Lib.hid hT
  have h700 : ¬ (700 : Int) < (n : Int) := by omega
  have hd1 : decide ((n : Int) < 1) = false := decide_eq_false (by omega)
  have hd2 : decide ((8160 : Int) < (n : Int)) = false := decide_eq_false (by omega)
  clear CE CR hT
  go_enter Tryd.func3, Tryd.ntmps3
  go_wp2_with fail
  refine (K.out).mono ?_
  rintro e w2 ⟨rfl, hb⟩
  have HQ2 := HQ.keep hb HQ.lt
  have hb2 := hb0.trans (hb.mono hb0.size)
  clear K HQ hb hb0
  go_wp2_with ((with_reducible refine wpList_load_key rfl (.tmp 3) rfl w.heap.size rfl k HKL.out HQ2 ?_))
  refine (HCE.out w2 (HT.out.keep hb2)).mono ?_
  rintro e w3 ⟨A3, c3, rfl, hr3, hb3⟩
  have hbw3 := hb2.trans (hb3.mono hb2.size)
  have HQ3 := HQ2.keep hb3 HQ2.lt
  clear HQ2 hb2 hb3
  go_wp2_with fail
  have hu2 := Tryd.underlying23
  have hi2 : (Tryd.prog.info? 23).map (·.size) = some (k.map bv).length := by rw [List.length_map, HKL.out]; exact size_key
  have hst : ∀ u, Bytes u A3 n c3 E → (convert 25 9 (.slice A3 n c3)).run Tryd.prog u = .ok (.string (str E)) u := fun u h => run_str Tryd.underlying25 Tryd.underlying5 Tryd.underlying9 h
  have HST := Lib.hid hst
  have HR3 := Lib.hid (show Has w3.drew w.heap.size 23 (k.map bv) from HQ3)
  have HB3 := Lib.hid (show Bytes w3.drew A3 n c3 E from hr3)
  have HK := Lib.hid (HCR.out w3.drew)
  have HRG := Lib.hid (fun (u : World) (h : Has u w.heap.size 23 (k.map bv)) => Has.range h 0 (k.map bv) (by rw [List.drop_zero, List.take_length]))
  clear hst HQ3 hr3
  first | go_region_held (fun w' => w'.rangeAt w.heap.size 0 (k.map bv) ∧ (convert 25 9 (.slice A3 n c3)).run Tryd.prog w' = .ok (.string (str E)) w')
    (first | exact ⟨HRG.out _ HR3.out, HST.out _ HB3.out⟩ | exact ⟨HRG.out _ (HR3.out.keep hb4 HR3.out.lt), HST.out _ (HB3.out.keep hb4)⟩)
    ((go_at_call 8; with_reducible refine (HK.out).mono ?_; rintro e w4 ⟨A4, c4, rfl, hr4, hb4⟩; have hst4 := run_str Tryd.underlying25 Tryd.underlying5 Tryd.underlying9 hr4)) | fail
  all_goals go_wp2_with fail
  all_goals go_ret
  all_goals exact ⟨rfl, hbw3.drew.trans (hb4.mono hbw3.size)⟩
set_option maxRecDepth 10000 in
set_option maxHeartbeats 1000000 in
theorem some2 (k : List UInt8) (hk : k.length = 32) (s : ByteArray) (m : Nat) (hs : s.size = m) (n : Nat) (hn1 : 8000 ≤ n) (hn2 : n ≤ 8160) (w : World) (hT : Tab w) (hm : m ≤ 100) (E : List UInt8)
    (CE : ∀ u, Tab u → Calls Tryd.prog 7 #[.agg (k.map bv).toArray, .string s, .int .i64 (n : Int)] u fun e w' => ∃ A c, e = .returned (.slice A n c) ∧ Bytes w' A n c E ∧ Below u.heap.size u w')
    (CR : ∀ u, Calls Tryd.prog 8 #[.agg (k.map bv).toArray, .string s, .int .i64 (n : Int)] u fun e w' => ∃ A c, e = .returned (.slice A n c) ∧ Bytes w' A n c E ∧ Below u.heap.size u w') :
    Calls Tryd.prog 3 #[.agg (k.map bv).toArray, .string s, .int .i64 (n : Int)] w fun e w' => e = .returned (.bool true) ∧ Below w.heap.size w w' := by
  have hb0 := (Below.refl w.heap.size w).alloc (Nat.le_refl _) (.cells (k.map bv).toArray 23)
  have HQ := Has.new w 23 (k.map bv)
  have K := Lib.hid (derLaw.alive _ (hT.keep hb0))
  have h1' : ¬ (100 : Int) < (m : Int) := by omega
  have HKL := Lib.hid hk
  have HCE := Lib.hid CE
  have HCR := Lib.hid CR
  have HT := Lib.hid hT
  have h700 : (700 : Int) < (n : Int) := by omega
  have h8000 : ¬ (n : Int) < 8000 := by omega
  have hd1 : decide ((n : Int) < 1) = false := decide_eq_false (by omega)
  have hd2 : decide ((8160 : Int) < (n : Int)) = false := decide_eq_false (by omega)
  clear CE CR hT
  go_enter Tryd.func3, Tryd.ntmps3
  go_wp2_with fail
  refine (K.out).mono ?_
  rintro e w2 ⟨rfl, hb⟩
  have HQ2 := HQ.keep hb HQ.lt
  have hb2 := hb0.trans (hb.mono hb0.size)
  clear K HQ hb hb0
  go_wp2_with ((with_reducible refine wpList_load_key rfl (.tmp 3) rfl w.heap.size rfl k HKL.out HQ2 ?_))
  refine (HCE.out w2 (HT.out.keep hb2)).mono ?_
  rintro e w3 ⟨A3, c3, rfl, hr3, hb3⟩
  have hbw3 := hb2.trans (hb3.mono hb2.size)
  have HQ3 := HQ2.keep hb3 HQ2.lt
  clear HQ2 hb2 hb3
  go_wp2_with fail
  have hu2 := Tryd.underlying23
  have hi2 : (Tryd.prog.info? 23).map (·.size) = some (k.map bv).length := by rw [List.length_map, HKL.out]; exact size_key
  have hst : ∀ u, Bytes u A3 n c3 E → (convert 25 9 (.slice A3 n c3)).run Tryd.prog u = .ok (.string (str E)) u := fun u h => run_str Tryd.underlying25 Tryd.underlying5 Tryd.underlying9 h
  have HST := Lib.hid hst
  have HR3 := Lib.hid (show Has w3.drew w.heap.size 23 (k.map bv) from HQ3)
  have HB3 := Lib.hid (show Bytes w3.drew A3 n c3 E from hr3)
  have HK := Lib.hid (HCR.out w3.drew)
  have HRG := Lib.hid (fun (u : World) (h : Has u w.heap.size 23 (k.map bv)) => Has.range h 0 (k.map bv) (by rw [List.drop_zero, List.take_length]))
  clear hst HQ3 hr3
  first | go_region_held (fun w' => w'.rangeAt w.heap.size 0 (k.map bv) ∧ (convert 25 9 (.slice A3 n c3)).run Tryd.prog w' = .ok (.string (str E)) w')
    (first | exact ⟨HRG.out _ HR3.out, HST.out _ HB3.out⟩ | exact ⟨HRG.out _ (HR3.out.keep hb4 HR3.out.lt), HST.out _ (HB3.out.keep hb4)⟩)
    ((go_at_call 8; with_reducible refine (HK.out).mono ?_; rintro e w4 ⟨A4, c4, rfl, hr4, hb4⟩; have hst4 := run_str Tryd.underlying25 Tryd.underlying5 Tryd.underlying9 hr4)) | fail
  all_goals go_wp2_with fail
  all_goals go_ret
  all_goals exact ⟨rfl, hbw3.drew.trans (hb4.mono hbw3.size)⟩
theorem all (k : List UInt8) (hk : k.length = 32) (s : ByteArray) (z : Int) (w : World) (hT : Tab w) :
    Calls Tryd.prog 3 #[.agg (k.map bv).toArray, .string s, .int .i64 z] w fun e w' => e = .returned (.bool true) ∧ Below w.heap.size w w' := by
  by_cases h : 100 < s.size ∨ (700 < z ∧ z < 8000)
  · exact out k hk s _ rfl z w hT h
  · have CN : ∀ (z : Int) (h : z < 1 ∨ 8160 < z) u, Tab u → Calls Tryd.prog 7 #[.agg (k.map bv).toArray, .string s, .int .i64 z] u fun e w' => ∃ A c, e = .returned (.slice A 0 c) ∧ Bytes w' A 0 c [] ∧ Below u.heap.size u w' :=
      fun z h u _ => (derive.ExpandNone k hk s z h u).mono fun e w' ⟨he, hb⟩ => ⟨none, 0, he, Row.nil w', hb⟩
    have CN' : ∀ (z : Int) (h : z < 1 ∨ 8160 < z) u, Calls Tryd.prog 8 #[.agg (k.map bv).toArray, .string s, .int .i64 z] u fun e w' => ∃ A c, e = .returned (.slice A 0 c) ∧ Bytes w' A 0 c [] ∧ Below u.heap.size u w' :=
      fun z h u => (refExp.ExpandNone k hk s z h u).mono fun e w' ⟨he, hb⟩ => ⟨none, 0, he, Row.nil w', hb⟩
    have CI : ∀ n : Nat, 1 ≤ n → n ≤ 8160 → ∀ u, Tab u → Calls Tryd.prog 7 #[.agg (k.map bv).toArray, .string s, .int .i64 (n : Int)] u fun e w' => ∃ A c, e = .returned (.slice A n c) ∧ Bytes w' A n c (expN k s.data.toList n) ∧ Below u.heap.size u w' :=
      fun n h1 h2 u h => (derive.ExpandIn k hk s.data.toList s.size rfl (by omega) n h1 h2 u h).mono fun e w' ⟨v, he, hown, hb⟩ => by
        obtain ⟨A, c, rfl, hr⟩ := Row.own hown
        exact ⟨A, c, he, hr, hb⟩
    have CI' : ∀ n : Nat, 1 ≤ n → n ≤ 8160 → ∀ u, Calls Tryd.prog 8 #[.agg (k.map bv).toArray, .string s, .int .i64 (n : Int)] u fun e w' => ∃ A c, e = .returned (.slice A n c) ∧ Bytes w' A n c (expN k s.data.toList n) ∧ Below u.heap.size u w' :=
      fun n h1 h2 u => (refExp.ExpandIn k hk s.data.toList s.size rfl (by omega) n h1 h2 u).mono fun e w' ⟨v, he, hown, hb⟩ => by
        obtain ⟨A, c, rfl, hr⟩ := Row.own hown
        exact ⟨A, c, he, hr, hb⟩
    by_cases h1 : z < 1
    · exact low k hk s _ rfl z h1 w hT (by omega) [] (CN z (.inl h1)) (CN' z (.inl h1))
    by_cases h2 : 8160 < z
    · exact high k hk s _ rfl z h2 w hT (by omega) [] (CN z (.inr h2)) (CN' z (.inr h2))
    obtain ⟨n, rfl⟩ := Int.eq_ofNat_of_zero_le (show 0 ≤ z by omega)
    by_cases h3 : n ≤ 700
    · exact some1 k hk s _ rfl n (by omega) h3 w hT (by omega) _ (CI n (by omega) (by omega)) (CI' n (by omega) (by omega))
    · exact some2 k hk s _ rfl n (by omega) (by omega) w hT (by omega) _ (CI n (by omega) (by omega)) (CI' n (by omega) (by omega))
end derExpandsLaw
end Go.Proofs.YtcnpbgmdmifhaaaDoor
