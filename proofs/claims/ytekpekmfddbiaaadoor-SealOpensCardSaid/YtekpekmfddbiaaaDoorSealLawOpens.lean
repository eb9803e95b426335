/-
  SealOpens: the walk.
-/
import Derived.Test.YtekpekmfddbiaaaDoorSealLaw
import Derived.Test.YtekpekmfddbiaaaDoorStepApp
import Derived.Deep.RegionHeldLaw
namespace Go.Proofs.YtekpekmfddbiaaaDoor
open Go.ChangeShapes Go.WideShapes Go.ChangeAt Go.RowKit
set_option linter.unusedVariables false
set_option linter.unusedSimpArgs false

namespace sealOpensLaw
set_option maxHeartbeats 400000 in
theorem out (k : List UInt8) (hk : k.length = 32) (A : Option Addr) (n c : Nat) (B : Option Addr) (m d : Nat) (w : World) (hT : Tab w) (h : 200 < n ∨ 300 < m) :
    Calls Tryd.prog 4 #[.agg (k.map bv).toArray, .slice A n c, .slice B m d] w fun e w' => e = .returned (.bool true) ∧ Below w.heap.size w w' := by
  have hb0 := (Below.refl w.heap.size w).alloc (Nat.le_refl _) (.cells (k.map bv).toArray 23)
  have K := Lib.hid (sealLaw.alive _ (hT.keep hb0))
  by_cases h1 : 200 < n
  · have h1' : (200 : Int) < (n : Int) := by omega
    go_enter Tryd.func4, Tryd.ntmps4
    go_wp2_with fail
    refine (K.out).mono ?_
    rintro e w2 ⟨rfl, hb⟩
    go_wp2_with fail
    go_ret
    exact ⟨rfl, hb0.trans (hb.mono hb0.size)⟩
  · have h2 : 300 < m := by omega
    have h1' : ¬ (200 : Int) < (n : Int) := by omega
    have h2' : (300 : Int) < (m : Int) := by omega
    go_enter Tryd.func4, Tryd.ntmps4
    go_wp2_with fail
    refine (K.out).mono ?_
    rintro e w2 ⟨rfl, hb⟩
    go_wp2_with fail
    go_ret
    exact ⟨rfl, hb0.trans (hb.mono hb0.size)⟩
set_option maxRecDepth 10000 in
set_option maxHeartbeats 1600000 in
theorem inn (k : List UInt8) (hk : k.length = 32) (A : Option Addr) (n c : Nat) (l : List UInt8) (B : Option Addr) (m d : Nat) (l' : List UInt8) (w : World) (hl : Bytes w A n c l) (hl' : Bytes w B m d l') (hT : Tab w) (hn : n ≤ 200) (hm : m ≤ 300) :
    Calls Tryd.prog 4 #[.agg (k.map bv).toArray, .slice A n c, .slice B m d] w fun e w' => e = .returned (.bool true) ∧ Below w.heap.size w w' := by
  have hb0 := (Below.refl w.heap.size w).alloc (Nat.le_refl _) (.cells (k.map bv).toArray 23)
  have HQ0 := Has.new w 23 (k.map bv)
  have K := Lib.hid (sealLaw.alive _ (hT.keep hb0))
  have h1' : ¬ (200 : Int) < (n : Int) := by omega
  have h2' : ¬ (300 : Int) < (m : Int) := by omega
  have HKL := Lib.hid hk
  have HT := Lib.hid hT
  have HL := Lib.hid (And.intro hl hl')
  have HNM := Lib.hid (And.intro hn hm)
  go_enter Tryd.func4, Tryd.ntmps4
  go_wp2_with fail
  refine (K.out).mono ?_
  rintro e w2 ⟨rfl, hb⟩
  have HQ2 := HQ0.keep hb HQ0.lt
  have hb2 := hb0.trans (hb.mono hb0.size)
  clear K HQ0 hb hb0
  go_wp2_with fail
  have HBB := Lib.hid (show 0 + m ≤ 140737488355328 by omega)
  have HLA := Lib.hid (show Bytes w2.drew A n c l from (hl.keep hb2).keep (Below.refl _ _).drew)
  have HLB := Lib.hid (show Bytes w2.drew B m d l' from (hl'.keep hb2).keep (Below.refl _ _).drew)
  have HS0 := Lib.hid (Below.refl w2.drew.heap.size w2.drew)
  have HRG := Lib.hid (fun (u : World) (h : Below w2.drew.heap.size w2.drew u) => Has.range (Has.keep (w := w2.drew) HQ2 h HQ2.lt) 0 (k.map bv) (by rw [List.drop_zero, List.take_length]))
  obtain ⟨o, ho⟩ : ∃ o, o = openOk k l l' := ⟨_, rfl⟩
  obtain ⟨P, hP⟩ : ∃ P, P = openN k l l' := ⟨_, rfl⟩
  have KS := Lib.hid (fun (B3 : Option Addr) (d3 : Nat) (u : World) (hu : Below w2.drew.heap.size w2.drew u) (hB : Row u B3 m d3 (l'.map bv)) =>
    show Calls Tryd.prog 8 #[.agg (k.map bv).toArray, .slice A n c, .slice B3 m d3] u fun e w' => ∃ A' n' c', e = .returned (.tuple #[.slice A' n' c', .bool o]) ∧ Bytes w' A' n' c' P ∧ Below u.heap.size u w' by
      rw [ho, hP]
      exact sealing.Open k HKL.out A n c l B3 m d3 l' (by have := HNM.out; omega) (by have := HNM.out; omega) u (HLA.out.keep hu) hB (HT.out.keep (hb2.drew.trans (hu.mono hb2.size))))
  have KR := Lib.hid (fun (u : World) (hu : Below w.heap.size w u) =>
    show Calls Tryd.prog 10 #[.agg (k.map bv).toArray, .slice A n c, .slice B m d] u fun e w' => ∃ A' n' c', e = .returned (.tuple #[.slice A' n' c', .bool o]) ∧ Bytes w' A' n' c' P ∧ Below u.heap.size u w' by
      rw [ho, hP]
      exact refSeal.Open k HKL.out A n c l B m d l' (by have := HNM.out; omega) (by have := HNM.out; omega) u (HL.out.1.keep hu) (HL.out.2.keep hu))
  have hu2 := Tryd.underlying23
  have hi2 : (Tryd.prog.info? 23).map (·.size) = some (k.map bv).length := by rw [List.length_map, hk]; exact size_key
  have HQ2' := Lib.hid HQ2
  have hb2' := Lib.hid hb2
  clear HQ2 hb2 hl hl' ho hP
  go_region_held_law (fun w' => w'.rangeAt w.heap.size 0 (k.map bv)) (first | exact HRG.out _ HS0.out | exact HRG.out _ hb3 | exact HRG.out _ (hb3.trans (hb4.mono hb3.size)))
    (first
    | ((refine step_app8 (by rfl) (.const (.slice none 0 0)) (.tmp 29) (by rfl) w2.drew.heap.size (.slice none 0 0) 0 [] (by rfl) (World.ownsRow_nil _ _ _ _) B m d l' (by rfl) HLB.out HBB.out (Nat.le_refl _) ?_); intro vB w3 hownB hgB; have hb3 := HS0.out.grown hgB (Nat.le_refl _) (fun k hk => by cases hk); rw [Nat.zero_add, List.nil_append] at hownB; obtain ⟨B3, d3, rfl, hrB⟩ := Row.own hownB)
    | (go_simp; go_at_call 8; refine (KS.out B3 d3 w3 hb3 hrB).mono ?_; rintro e w4 ⟨A4, n4, c4, rfl, hr4, hb4⟩))
  all_goals (
    have hb24 := hb3.trans (hb4.mono hb3.size)
    have hbw4 := hb2'.out.drew.trans (hb24.mono hb2'.out.size)
    have HQ4 := Has.keep (w := w2.drew) HQ2'.out hb24 HQ2'.out.lt
    have HR4 := Lib.hid hr4
    have hbw4' := Lib.hid hbw4
    clear hownB hgB hb3 hb4 hb24 KS HRG hbw4 hrB hr4
    go_wp2_with ((with_reducible refine wpList_load_key rfl (.tmp 3) rfl w.heap.size rfl k HKL.out HQ4 ?_))
    refine (KR.out w4 hbw4'.out).mono ?_
    rintro e w5 ⟨A5, n5, c5, rfl, hr5, hb5⟩
    have hst4 := run_str (P := Tryd.prog) Tryd.underlying24 Tryd.underlying5 Tryd.underlying9 (HR4.out.keep hb5)
    have hst5 := run_str (P := Tryd.prog) Tryd.underlying24 Tryd.underlying5 Tryd.underlying9 hr5
    go_wp2_with fail
    go_ret
    exact ⟨rfl, hbw4'.out.trans (hb5.mono hbw4'.out.size)⟩)
theorem all (k : List UInt8) (hk : k.length = 32) (A : Option Addr) (n c : Nat) (l : List UInt8) (B : Option Addr) (m d : Nat) (l' : List UInt8) (w : World) (hl : Bytes w A n c l) (hl' : Bytes w B m d l') (hT : Tab w) :
    Calls Tryd.prog 4 #[.agg (k.map bv).toArray, .slice A n c, .slice B m d] w fun e w' => e = .returned (.bool true) ∧ Below w.heap.size w w' := by
  by_cases h : 200 < n ∨ 300 < m
  · exact out k hk A n c B m d w hT h
  · exact inn k hk A n c l B m d l' w hl hl' hT (by omega) (by omega)
end sealOpensLaw
end Go.Proofs.YtekpekmfddbiaaaDoor
