/-
  MacSums: the walk.
-/
import Derived.Test.YtoklakodogmdlaaDoorMacLaw
import Derived.Test.YtoklakodogmdlaaDoorRefMac
namespace Go.Proofs.YtoklakodogmdlaaDoor
open Go.ChangeShapes Go.WideShapes Go.ChangeAt Go.RowKit
set_option linter.unusedVariables false
set_option linter.unusedSimpArgs false

namespace macSumsLaw
set_option maxHeartbeats 400000 in
theorem out (A : Option Addr) (n c : Nat) (B : Option Addr) (m d : Nat) (w : World) (hT : Tab w) (h : 200 < n ∨ 300 < m) :
    Calls Tryd.prog 3 #[.slice A n c, .slice B m d] w fun e w' => e = .returned (.bool true) ∧ Below w.heap.size w w' := by
  have K := Lib.hid (macLaw.alive w hT)
  by_cases h1 : 200 < n
  · have h1' : (200 : Int) < (n : Int) := by omega
    go_enter Tryd.func3, Tryd.ntmps3
    go_wp2_with fail
    refine (K.out).mono ?_
    rintro e w2 ⟨rfl, hb⟩
    go_wp2_with fail
    go_ret
    exact ⟨rfl, hb⟩
  · have h2 : 300 < m := by omega
    have h1' : ¬ (200 : Int) < (n : Int) := by omega
    have h2' : (300 : Int) < (m : Int) := by omega
    go_enter Tryd.func3, Tryd.ntmps3
    go_wp2_with fail
    refine (K.out).mono ?_
    rintro e w2 ⟨rfl, hb⟩
    go_wp2_with fail
    go_ret
    exact ⟨rfl, hb⟩
set_option maxHeartbeats 1000000 in
theorem inn (A : Option Addr) (n c : Nat) (l : List UInt8) (B : Option Addr) (m d : Nat) (l' : List UInt8) (w : World) (hl : Bytes w A n c l) (hl' : Bytes w B m d l') (hT : Tab w) (hn : n ≤ 200) (hm : m ≤ 300) :
    Calls Tryd.prog 3 #[.slice A n c, .slice B m d] w fun e w' => e = .returned (.bool true) ∧ Below w.heap.size w w' := by
  have K := Lib.hid (macLaw.alive w hT)
  have h1' : ¬ (200 : Int) < (n : Int) := by omega
  have h2' : ¬ (300 : Int) < (m : Int) := by omega
  have heq1 := eq_key (macN l l') (macN_len _ _)
  obtain ⟨X, hX⟩ : ∃ X, X = ((macN l l').map bv).toArray := ⟨_, rfl⟩
  rw [← hX] at heq1
  have HX := Lib.hid hX
  have HB := Lib.hid (show 0 + n ≤ 140737488355328 by omega)
  have HB2 := Lib.hid (show 0 + m ≤ 140737488355328 by omega)
  clear hX
  go_enter Tryd.func3, Tryd.ntmps3
  go_wp2_with fail
  refine (K.out).mono ?_
  rintro e w2 ⟨rfl, hb2⟩
  have hl2 := hl.keep hb2
  have hl2' := hl'.keep hb2
  clear K
  go_wp2_with (first
    | (at_builtin; (refine app8 rfl (.const (.slice none 0 0)) (.tmp 20) rfl w2.heap.size (.slice none 0 0) 0 [] rfl (World.ownsRow_nil _ _ _ _) A n c l rfl hl2 HB.out (Nat.le_refl _) ?_); intro v4 w4 hown4 hg4; have hb4 : Below w2.heap.size w2 w4 := (Below.refl _ _).grown hg4 (Nat.le_refl _) (fun k hk => by cases hk); have hl4 := hl2'.keep hb4)
    | (at_builtin; (refine app8 rfl (.const (.slice none 0 0)) (.tmp 22) rfl w4.heap.size (.slice none 0 0) 0 [] rfl (World.ownsRow_nil _ _ _ _) B m d l' rfl hl4 HB2.out (Nat.le_refl _) ?_); intro v5 w5 hown5 hg5; have hb5 : Below w4.heap.size w4 w5 := (Below.refl _ _).grown hg5 (Nat.le_refl _) (fun k hk => by cases hk)))
  rw [Nat.zero_add, List.nil_append] at hown4 hown5
  obtain ⟨A4, c4, rfl, hr4⟩ := Row.own hown4
  obtain ⟨A5, c5, rfl, hr5⟩ := Row.own hown5
  have hr45 := hr4.keep hb5
  have hbw5 := hb4.trans (hb5.mono hb4.size)
  have hT5 := (hT.keep hb2).keep hbw5
  have hl5 := hl2.keep hbw5
  have hl5' := hl2'.keep hbw5
  clear hown4 hown5 hg4 hg5 hr4
  refine (mac.Of A4 n c4 l A5 m c5 l' w5 hr45 hr5 (by omega) hT5).mono ?_
  rintro e w6 ⟨rfl, hb6⟩
  rw [← HX.out]
  go_wp2_with fail
  refine (refMac.Mac A n c l B m d l' w6 (hl5.keep hb6) (hl5'.keep hb6) (by omega) (by omega)).mono ?_
  rintro e w7 ⟨rfl, hb7⟩
  rw [← HX.out]
  go_wp2_with fail
  go_ret
  have hb67 := hb6.trans (hb7.mono hb6.size)
  have hbA := hbw5.trans (hb67.mono hbw5.size)
  exact ⟨rfl, hb2.trans (hbA.mono hb2.size)⟩
theorem all (A : Option Addr) (n c : Nat) (l : List UInt8) (B : Option Addr) (m d : Nat) (l' : List UInt8) (w : World) (hl : Bytes w A n c l) (hl' : Bytes w B m d l') (hT : Tab w) :
    Calls Tryd.prog 3 #[.slice A n c, .slice B m d] w fun e w' => e = .returned (.bool true) ∧ Below w.heap.size w w' := by
  by_cases h : 200 < n ∨ 300 < m
  · exact out A n c B m d w hT h
  · exact inn A n c l B m d l' w hl hl' hT (by omega) (by omega)
end macSumsLaw
end Go.Proofs.YtoklakodogmdlaaDoor
