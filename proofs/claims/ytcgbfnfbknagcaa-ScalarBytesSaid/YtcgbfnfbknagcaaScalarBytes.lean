/-
  ScalarBytes: the walk.
-/
import Derived.Test.YtcgbfnfbknagcaaScalarLaw
namespace Go.Proofs.Ytcgbfnfbknagcaa
open Go.ChangeShapes Go.WideShapes Go.ChangeAt Go.RowKit
set_option linter.unusedVariables false
set_option linter.unusedSimpArgs false

namespace scalarBytesLaw
theorem out (A : Option Addr) (n c : Nat) (x : Int) (w : World) (h : 300 < n) :
    Calls Try.prog 5 #[.slice A n c, .int .u8 x] w fun e w' => e = .returned (.bool true) ∧ Below w.heap.size w w' := by
  have h1 : (300 : Int) < (n : Int) := by omega
  go_enter Try.func5, Try.ntmps5
  go_wp2_with fail
  refine (alive7 _).mono ?_
  rintro e w' ⟨rfl, rfl⟩
  go_wp2_with fail
  go_ret
  exact ⟨rfl, Below.refl _ _⟩
set_option maxHeartbeats 1000000 in
theorem inn (A : Option Addr) (n c : Nat) (l : List UInt8) (x : Nat) (w : World) (hl : Bytes w A n c l) (hx : x < 256) (h : n ≤ 300) :
    Calls Try.prog 5 #[.slice A n c, .int .u8 (x : Int)] w fun e w' => e = .returned (.bool true) ∧ Below w.heap.size w w' := by
  have h1 : ¬ (300 : Int) < (n : Int) := by omega
  obtain ⟨N, hN⟩ : ∃ t, ofS l = t := ⟨_, rfl⟩
  have bN : N < 2305843009213693950 := by rw [← hN]; exact ofS_lt l
  obtain ⟨M, hM⟩ : ∃ t, mulS N 256 = t := ⟨_, rfl⟩
  have bM : M < 2305843009213693950 := by rw [← hM]; exact mulS_lt _ _
  obtain ⟨S, hS⟩ : ∃ t, addS M x = t := ⟨_, rfl⟩
  have O1 := Lib.hid (fun A n c w (hl : Bytes w A n c l) => hN ▸ scalarOfB A n c l w hl)
  have O2 := Lib.hid (fun A n c w (hl : Bytes w A n c (l ++ [UInt8.ofNat x])) => (show ofS (l ++ [UInt8.ofNat x]) = S by rw [ofS_snoc, hN, hM, ← hS]; congr 1; simp; omega) ▸ scalarOfB A n c _ w hl)
  have O3 := Lib.hid (fun A n c w (hl : Bytes w A n c ([0] ++ l)) => (show ofS ([0] ++ l) = N by rw [ofS_zero, hN]) ▸ scalarOfB A n c _ w hl)
  have R1 := Lib.hid (fun A n c w (hl : Bytes w A n c l) => hN ▸ refOfN A n c l w hl)
  have C1 := Lib.hid (fun w => scalarMul' (b := 256) hM (by omega) (by omega) rfl (y := 256) rfl w)
  have C2 := Lib.hid (fun w => scalarAdd' hS (by omega) (by omega) rfl rfl w)
  have HB := Lib.hid (show 0 + n ≤ 140737488355328 by omega)
  have HC := Lib.hid (show 0 + n + 1 ≤ 140737488355328 by omega)
  have HD := Lib.hid (show 1 + n ≤ 140737488355328 by omega)
  have HX := Lib.hid hx
  clear hN hM hS
  go_enter Try.func5, Try.ntmps5
  go_wp2_with fail
  refine (alive7 _).mono ?_
  rintro e w' ⟨rfl, rfl⟩
  go_wp2_with (at_builtin; (refine app8 rfl (.const (.slice none 0 0)) (.tmp 18) rfl w.heap.size (.slice none 0 0) 0 [] rfl (World.ownsRow_nil _ _ _ _) A n c l rfl hl HB.out (Nat.le_refl _) ?_); intro v2 w2 hown2 hg2)
  have hb2 : Below w.heap.size w w2 := (Below.refl _ _).grown hg2 (Nat.le_refl _) (fun k hk => by cases hk)
  rw [Nat.zero_add, List.nil_append] at hown2
  obtain ⟨A2, c2, rfl, hr2⟩ := Row.own hown2
  refine (O1.out _ _ _ _ hr2).mono ?_
  rintro e w' ⟨rfl, rfl⟩
  have hl2 := hl.keep hb2
  clear hown2 hr2 hg2
  go_wp2_with (at_builtin; first
    | ((refine app8 rfl (.const (.slice none 0 0)) (.tmp 21) rfl w2.heap.size (.slice none 0 0) 0 [] rfl (World.ownsRow_nil _ _ _ _) A n c l rfl hl2 HB.out (Nat.le_refl _) ?_); intro v3 w3 hown3 hg3; have hb3 : Below w2.heap.size w2 w3 := (Below.refl _ _).grown hg3 (Nat.le_refl _) (fun k hk => by cases hk))
    | ((refine app8 rfl (.tmp 22) (.tmp 24) rfl w2.heap.size v3 (0 + n) ([] ++ l) rfl (hown3.alloc _) (some ⟨w3.heap.size, 0, none⟩) 1 1 [UInt8.ofNat x] rfl (litK w3 x HX.out) HC.out (Nat.le_trans hb3.size (by simp)) ?_); intro v4 w4 hown4 hg4; have hb4 : Below w2.heap.size w2 w4 := (hb3.alloc hb3.size _).grown hg4 (Nat.le_trans hb3.size (by simp)) (fun k hk => (hown3.lt k hk).1)))
  rw [Nat.zero_add, List.nil_append] at hown4
  obtain ⟨A4, c4, rfl, hr4⟩ := Row.own hown4
  refine (O2.out _ _ _ _ hr4).mono ?_
  rintro e w' ⟨rfl, rfl⟩
  have hl4 := hl2.keep hb4
  have hbw4 := hb2.trans (hb4.mono hb2.size)
  clear hown3 hg3 hb3 hown4 hr4 hg4 hb4 hl2 hb2
  go_wp2_with (at_builtin; (refine app8 rfl (.tmp 27) (.tmp 28) rfl w4.heap.size (.slice (some ⟨w4.heap.size, 0, none⟩) 1 1) 1 [0] rfl (own_lit w4 w4.heap.size [0] (Nat.le_refl _) (by simp [maxLen])) A n c l rfl (hl4.keep ((Below.refl _ _).alloc (Nat.le_refl _) _)) HD.out (by simp) ?_); intro v5 w5 hown5 hg5)
  have hb5 : Below w4.heap.size w4 w5 := ((Below.refl _ _).alloc (Nat.le_refl _) _).grown hg5 (by simp) (fun k hk => by cases hk; exact Nat.le_refl _)
  obtain ⟨A5, c5, rfl, hr5⟩ := Row.own hown5
  refine (O3.out _ _ _ _ hr5).mono ?_
  rintro e w' ⟨rfl, rfl⟩
  have hl5 := hl4.keep hb5
  have hbw5 := hbw4.trans (hb5.mono hbw4.size)
  clear hown5 hr5 hg5 hb5 hl4 hbw4
  go_wp2_with fail
  refine (R1.out _ _ _ _ hl5).mono ?_
  rintro e w6 ⟨rfl, hb6⟩
  go_wp2_with fail
  refine (C1.out _).mono ?_
  rintro e w' ⟨rfl, rfl⟩
  go_wp2_with fail
  refine (C2.out _).mono ?_
  rintro e w' ⟨rfl, rfl⟩
  go_wp2_with fail
  go_ret
  exact ⟨ret_bool (decide_eq_true (show (N : Int) < 2305843009213693950 by omega)), hbw5.trans (hb6.mono hbw5.size)⟩
theorem all (A : Option Addr) (n c : Nat) (l : List UInt8) (x : Int) (w : World) (hl : Bytes w A n c l) (w1 : (Lit.int .u8 x).wf = true) :
    Calls Try.prog 5 #[.slice A n c, .int .u8 x] w fun e w' => e = .returned (.bool true) ∧ Below w.heap.size w w' := by
  obtain ⟨x, rfl, hx⟩ := u8_wf w1
  by_cases h : 300 < n
  · exact out A n c x w h
  · exact inn A n c l x w hl hx (by omega)
end scalarBytesLaw
end Go.Proofs.Ytcgbfnfbknagcaa
