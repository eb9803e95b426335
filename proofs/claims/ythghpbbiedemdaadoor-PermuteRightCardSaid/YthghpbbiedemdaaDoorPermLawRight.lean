/-
  The law PermuteRight of chapter 13.
-/
import Derived.Test.YthghpbbiedemdaaDoorPermLaw
import Derived.Test.YthghpbbiedemdaaDoorRefOrd
namespace Go.Proofs.YthghpbbiedemdaaDoor
open Go.ChangeShapes Go.WideShapes Go.ChangeAt Go.RowKit
set_option linter.unusedVariables false
set_option linter.unusedSimpArgs false

namespace permRightLaw
set_option maxHeartbeats 1000000 in
theorem all (A : Option Addr) (n c : Nat) (ls : List Int) (w : World) (hT : Tab w) (hl : Ints w A n c ls) :
    Calls Tryd.prog 4 #[.slice A n c] w fun e w' => e = .returned (.bool true) ∧ Below w.heap.size w w' := by
  have K := Lib.hid (alive13 w hT)
  have hle := hl.le
  by_cases h : 60 < n
  · have f0 : (60 : Int) < (n : Int) := by omega
    clear h hl hT
    go_enter Tryd.func4, Tryd.ntmps4
    go_wp2_with fail
    refine (K.out).mono ?_
    rintro e w2 ⟨rfl, hb⟩
    go_wp2_with fail
    go_ret
    exact ⟨rfl, hb⟩
  have f0 : ¬ (60 : Int) < (n : Int) := by omega
  have HL := Lib.hid hl
  obtain ⟨r, hr⟩ : ∃ r, rightB ls = r := ⟨_, rfl⟩
  have KR := Lib.hid (fun (u : World) (hu : Ints u A n c ls) => hr ▸ permRight A n c ls u hu (by omega))
  have KQ := Lib.hid (fun (u : World) (hu : Ints u A n c ls) => hr ▸ refRight A n c ls u hu)
  have KI := Lib.hid (fun (B : Option Addr) (d : Nat) (u : World) (hu : Ints u B n d ls) => hr ▸ permInverse B n d ls u hu (by omega))
  have KJ := Lib.hid (fun (u : World) (hu : Ints u A n c ls) => hr ▸ refInverse A n c ls u hu (by omega))
  have hrr : (r == r) = true := by simp
  clear hr hT hl h
  go_enter Tryd.func4, Tryd.ntmps4
  go_wp2_with fail
  refine (K.out).mono ?_
  rintro e w2 ⟨rfl, hb2⟩
  have h2 := HL.out.keep hb2
  have hs2 := hb2.size
  go_wp2_with (at_builtin; (refine appI rfl (.const (.slice none 0 0)) (.tmp 18) rfl w2.heap.size (.slice none 0 0) 0 [] rfl (World.ownsRow_nil _ _ _ _) A n c ls rfl h2 (by omega) (Nat.le_refl _) ?_); intro v8 w8 hown8 hg8)
  have hb8 := (Below.refl w2.heap.size w2).grown hg8 (Nat.le_refl _) (fun k hk => by cases hk)
  rw [Nat.zero_add, List.nil_append] at hown8
  obtain ⟨B, d, rfl, hrow⟩ := Row.own hown8
  have h8 := h2.keep hb8
  have hb08 := hb2.trans (hb8.mono hs2)
  have hs8 := hb08.size
  clear hown8 hg8 hb2 hb8 h2
  refine (KI.out B d w8 hrow).mono ?_
  rintro e w9 ⟨B1, m1, d1, rfl, R1, hb9⟩
  have h9 := h8.keep hb9
  have hb09 := hb08.trans (hb9.mono hs8)
  clear hrow hb08 h8 hb9
  go_wp2_with fail
  refine (KJ.out w9 h9).mono ?_
  rintro e w10 ⟨B2, m2, d2, rfl, R2, hb10⟩
  have h10 := h9.keep hb10
  have R1' := R1.keep hb10
  have hb010 := hb09.trans (hb10.mono hb09.size)
  obtain rfl : m1 = m2 := by rw [← R1.len, ← R2.len]
  clear h9 hb09 R1 hb10
  go_wp2_with fail
  refine (KR.out w10 h10).mono ?_
  rintro e w11 ⟨rfl, hb11⟩
  have h11 := h10.keep hb11
  have S1 := R1'.keep hb11
  have S2 := R2.keep hb11
  have hb011 := hb010.trans (hb11.mono hb010.size)
  clear h10 R1' R2 hb010 hb11
  go_wp2_with fail
  refine (KQ.out w11 h11).mono ?_
  rintro e w12 ⟨rfl, hb12⟩
  have T1 := S1.keep hb12
  have T2 := S2.keep hb12
  have hb012 := hb011.trans (hb12.mono hb011.size)
  have KS := Lib.hid (refSame B1 B2 m1 d1 d2 _ w12 T1 T2)
  clear h11 S1 S2 T1 T2 hb011 hb12
  go_wp2_with fail
  refine (KS.out).mono ?_
  rintro e w13 ⟨rfl, hb13⟩
  have HE := Lib.hid (hb012.trans (hb13.mono hb012.size))
  clear hb012 hb13
  go_wp2_with fail
  go_ret
  exact ⟨rfl, HE.out⟩
end permRightLaw
end Go.Proofs.YthghpbbiedemdaaDoor
