/-
  DeriveKeys: the walk.
-/
import Derived.Test.YtcnpbgmdmifhaaaDoorDerLaw
import Derived.Test.YtcnpbgmdmifhaaaDoorRefExpKey
namespace Go.Proofs.YtcnpbgmdmifhaaaDoor
open Go.ChangeShapes Go.WideShapes Go.ChangeAt Go.RowKit
set_option linter.unusedVariables false
set_option linter.unusedSimpArgs false

namespace derKeysLaw
set_option maxHeartbeats 400000 in
theorem out (A : Option Addr) (n c : Nat) (s : ByteArray) (m : Nat) (hs : s.size = m) (w : World) (hT : Tab w) (h : 200 < n ∨ 100 < m) :
    Calls Tryd.prog 4 #[.slice A n c, .string s] w fun e w' => e = .returned (.bool true) ∧ Below w.heap.size w w' := by
  have K := Lib.hid (derLaw.alive w hT)
  by_cases h1 : 200 < n
  · have h1' : (200 : Int) < (n : Int) := by omega
    go_enter Tryd.func4, Tryd.ntmps4
    go_wp2_with fail
    refine (K.out).mono ?_
    rintro e w2 ⟨rfl, hb⟩
    go_wp2_with fail
    go_ret
    exact ⟨rfl, hb⟩
  · have h2 : 100 < m := by omega
    have h1' : ¬ (200 : Int) < (n : Int) := by omega
    have h2' : (100 : Int) < (m : Int) := by omega
    go_enter Tryd.func4, Tryd.ntmps4
    go_wp2_with fail
    refine (K.out).mono ?_
    rintro e w2 ⟨rfl, hb⟩
    go_wp2_with fail
    go_ret
    exact ⟨rfl, hb⟩
set_option maxHeartbeats 1000000 in
theorem inn (A : Option Addr) (n c : Nat) (b : List UInt8) (l : List UInt8) (m : Nat) (hl : l.length = m) (w : World) (hA : Bytes w A n c b) (hT : Tab w) (hn : n ≤ 200) (hm : m ≤ 100) :
    Calls Tryd.prog 4 #[.slice A n c, .string (str l)] w fun e w' => e = .returned (.bool true) ∧ Below w.heap.size w w' := by
  have K := Lib.hid (derLaw.alive w hT)
  have hsz : (str l).size = m := by rw [str_size, hl]
  have h1' : ¬ (200 : Int) < (n : Int) := by omega
  have h2' : ¬ (100 : Int) < (m : Int) := by omega
  have heq1 := eq_key (dkN b l) (dkN_len _ _)
  obtain ⟨X, hX⟩ : ∃ X, X = ((dkN b l).map bv).toArray := ⟨_, rfl⟩
  rw [← hX] at heq1
  have HX := Lib.hid hX
  have HB := Lib.hid (show 0 + n ≤ 140737488355328 by omega)
  have HL := Lib.hid hl
  clear hX
  go_enter Tryd.func4, Tryd.ntmps4
  go_wp2_with fail
  refine (K.out).mono ?_
  rintro e w2 ⟨rfl, hb2⟩
  have hA2 := hA.keep hb2
  clear K
  go_wp2_with (at_builtin; (refine app8 rfl (.const (.slice none 0 0)) (.tmp 20) rfl w2.heap.size (.slice none 0 0) 0 [] rfl (World.ownsRow_nil _ _ _ _) A n c b rfl hA2 HB.out (Nat.le_refl _) ?_); intro v4 w4 hown4 hg4; have hb4 : Below w2.heap.size w2 w4 := (Below.refl _ _).grown hg4 (Nat.le_refl _) (fun k hk => by cases hk))
  rw [Nat.zero_add, List.nil_append] at hown4
  obtain ⟨A4, c4, rfl, hr4⟩ := Row.own hown4
  have hT4 := (hT.keep hb2).keep hb4
  have hA4 := hA2.keep hb4
  clear hown4 hg4
  refine (derive.Key A4 n c4 b (by omega) l m HL.out (by omega) w4 hr4 hT4).mono ?_
  rintro e w6 ⟨rfl, hb6⟩
  rw [← HX.out]
  go_wp2_with fail
  refine (refExp.Key A n c b (by omega) l m HL.out (by omega) w6 (hA4.keep hb6)).mono ?_
  rintro e w7 ⟨rfl, hb7⟩
  rw [← HX.out]
  go_wp2_with fail
  go_ret
  have hb67 := hb6.trans (hb7.mono hb6.size)
  have hbA := hb4.trans (hb67.mono hb4.size)
  exact ⟨rfl, hb2.trans (hbA.mono hb2.size)⟩
theorem all (A : Option Addr) (n c : Nat) (b : List UInt8) (s : ByteArray) (w : World) (hA : Bytes w A n c b) (hT : Tab w) :
    Calls Tryd.prog 4 #[.slice A n c, .string s] w fun e w' => e = .returned (.bool true) ∧ Below w.heap.size w w' := by
  by_cases h : 200 < n ∨ 100 < s.size
  · exact out A n c s _ rfl w hT h
  · exact inn A n c b s.data.toList s.size rfl w hA hT (by omega) (by omega)
end derKeysLaw
end Go.Proofs.YtcnpbgmdmifhaaaDoor
