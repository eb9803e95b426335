/-
  Contracts of the methods most, element, size, key, end of the reference's reader.
-/
import Derived.Test.YtiilgkajijnbcaaRdB
import Derived.BigQuiet
namespace Go.Proofs.Ytiilgkajijnbcaa
open Go.ChangeShapes Go.WideShapes Go.ChangeAt Go.RowKit
set_option linter.unusedVariables false
set_option linter.unusedSimpArgs false

theorem Only.saved {g : Nat} {w w' : World} (h : Only g w w') : Save g w w' := ⟨h.os, h.tape, h.output, Nat.le_of_eq h.size.symm, fun k _ hg => h.block k hg⟩
theorem rdFail2 (g : Nat) (A : Option Addr) (n c : Nat) (s s' : St) (h : failS 2 s = s') (w : World) (H : Rdr w g A n c s) :
    Calls Try.prog 72 #[.pointer (some ⟨g, 0, none⟩), .int .i64 2] w fun e w' => e = .returned (.tuple #[]) ∧ Rdr w' g A n c s' ∧ Only g w w' := by
  subst h
  exact rdFail g A n c s 2 w H
theorem mostS_big {b : List UInt8} {s s1 : St} {x m : Nat} (ht : numS b s = (x, s1)) (h : m < x) : mostS b m s = (0, failS 2 s1) := by
  unfold mostS
  rw [ht, if_pos h]
theorem mostS_small {b : List UInt8} {s s1 : St} {x m : Nat} (ht : numS b s = (x, s1)) (h : ¬ m < x) : mostS b m s = (x, s1) := by
  unfold mostS
  rw [ht, if_neg h]
set_option maxHeartbeats 1000000 in
theorem rdMost' (g : Nat) (A : Option Addr) (n c : Nat) (b : List UInt8) (s s' : St) (m x : Nat) (h : mostS b m s = (x, s')) (hm : m ≤ 9223372036854775807) (hs : s.ok b) (w : World) (H : Rdr w g A n c s) (hb : Bytes w A n c b) (hA : Off g A n) :
    Calls Try.prog 55 #[.pointer (some ⟨g, 0, none⟩), .int .u64 (m : Int)] w fun e w' => e = .returned (.int .i64 (x : Int)) ∧ Rdr w' g A n c s' ∧ Save g w w' := by
  obtain ⟨y, s1, ht⟩ : ∃ l s1, numS b s = (l, s1) := ⟨_, _, rfl⟩
  have KN := Lib.hid (rdNum' g A n c b s s1 y ht hs w H hb hA)
  by_cases h0 : m < y
  · rw [mostS_big ht h0] at h
    obtain ⟨rfl, hf⟩ := Prod.mk.inj h
    have KF := Lib.hid (fun (w : World) (H : Rdr w g A n c s1) => rdFail2 g A n c s1 s' hf w H)
    have h1 : (m : Int) < (y : Int) := by omega
    clear ht h H hb hA hs h0 hf
    go_enter Try.func55, Try.ntmps55
    go_wp2_with fail
    refine (KN.out).mono ?_
    rintro e w2 ⟨rfl, H2, S2⟩
    have HX := Lib.hid H2
    clear H2
    go_wp2_with fail
    refine (KF.out _ HX.out).mono ?_
    rintro e w3 ⟨rfl, H3, o3⟩
    go_wp2_with fail
    go_ret
    exact ⟨rfl, H3, S2.trans o3.saved⟩
  · rw [mostS_small ht h0] at h
    obtain ⟨rfl, rfl⟩ := Prod.mk.inj h
    have h1 : ¬ (m : Int) < (y : Int) := by omega
    have h2 : (y : Int) ≤ 9223372036854775807 := by omega
    clear ht h H hb hA hs h0
    go_enter Try.func55, Try.ntmps55
    go_wp2_with fail
    refine (KN.out).mono ?_
    rintro e w2 ⟨rfl, H2, S2⟩
    have HX := Lib.hid H2
    clear H2
    go_wp2_with fail
    go_ret
    exact ⟨rfl, HX.out, S2⟩
set_option maxHeartbeats 1000000 in
theorem rdElem' (g : Nat) (A : Option Addr) (n c : Nat) (b : List UInt8) (s s' : St) (x : Nat) (h : elemS b s = (x, s')) (hs : s.ok b) (w : World) (H : Rdr w g A n c s) (hb : Bytes w A n c b) (hA : Off g A n) :
    Calls Try.prog 57 #[.pointer (some ⟨g, 0, none⟩)] w fun e w' => e = .returned (.int .u64 (x : Int)) ∧ Rdr w' g A n c s' ∧ Save g w w' := by
  obtain ⟨y, s1, ht⟩ : ∃ l s1, numS b s = (l, s1) := ⟨_, _, rfl⟩
  have KN := Lib.hid (rdNum' g A n c b s s1 y ht hs w H hb hA)
  have hy : y < 18446744073709551616 := by have := numS_lt b s; rw [ht] at this; exact this
  unfold elemS at h
  rw [ht] at h
  obtain ⟨rfl, hf⟩ := Prod.mk.inj h
  have hf' : (if s1.e = 0 ∧ ¬ rightN y then failS 2 s1 else s1) = s' := hf
  clear h hf ht H hb hA hs
  by_cases h0 : s1.e = 0
  · by_cases hr : rightN y
    · rw [if_neg (fun h => h.2 hr)] at hf'
      subst hf'
      obtain ⟨p, e⟩ := s1
      obtain rfl : e = 0 := h0
      have A1 := Lib.hid (fun w => refRight' (decide_eq_true hr) hy rfl w)
      clear hr
      go_enter Try.func57, Try.ntmps57
      go_wp2_with fail
      refine (KN.out).mono ?_
      rintro e w2 ⟨rfl, H2, S2⟩
      have d2 : w2.cell? ⟨g, 2, none⟩ = some (.int .i64 0) := H2.c2
      have HX := Lib.hid H2
      clear H2
      go_wp2_with fail
      refine (A1.out _).mono ?_
      rintro e w' ⟨rfl, rfl⟩
      go_wp2_with fail
      go_ret
      exact ⟨rfl, HX.out, S2⟩
    · rw [if_pos ⟨h0, hr⟩] at hf'
      have KF := Lib.hid (fun (w : World) (H : Rdr w g A n c s1) => rdFail2 g A n c s1 s' hf' w H)
      clear hf'
      obtain ⟨p, e⟩ := s1
      obtain rfl : e = 0 := h0
      have A1 := Lib.hid (fun w => refRight' (decide_eq_false hr) hy rfl w)
      clear hr
      go_enter Try.func57, Try.ntmps57
      go_wp2_with fail
      refine (KN.out).mono ?_
      rintro e w2 ⟨rfl, H2, S2⟩
      have d2 : w2.cell? ⟨g, 2, none⟩ = some (.int .i64 0) := H2.c2
      have HX := Lib.hid H2
      clear H2
      go_wp2_with fail
      refine (A1.out _).mono ?_
      rintro e w' ⟨rfl, rfl⟩
      go_wp2_with fail
      refine (KF.out _ HX.out).mono ?_
      rintro e w3 ⟨rfl, H3, o3⟩
      go_wp2_with fail
      go_ret
      exact ⟨rfl, H3, S2.trans o3.saved⟩
  · rw [if_neg (fun h => h0 h.1)] at hf'
    subst hf'
    obtain ⟨p, e⟩ := s1
    have h1 : ((e : Int) == 0) = false := by simp; exact fun h => h0 (by omega)
    clear h0
    go_enter Try.func57, Try.ntmps57
    go_wp2_with fail
    refine (KN.out).mono ?_
    rintro e' w2 ⟨rfl, H2, S2⟩
    have d2 : w2.cell? ⟨g, 2, none⟩ = some (.int .i64 (e : Int)) := H2.c2
    have HX := Lib.hid H2
    clear H2
    go_wp2_with fail
    go_ret
    exact ⟨rfl, HX.out, S2⟩
set_option maxHeartbeats 1000000 in
theorem rdSize' (g : Nat) (A : Option Addr) (n c : Nat) (b : List UInt8) (s s' : St) (k z : Nat) (h : sizeS b k s = (z, s')) (hs : s.ok b) (w : World) (H : Rdr w g A n c s) (hb : Bytes w A n c b) (hA : Off g A n) :
    Calls Try.prog 56 #[.pointer (some ⟨g, 0, none⟩), .int .i64 (k : Int)] w fun e w' => e = .returned (.int .i64 (z : Int)) ∧ Rdr w' g A n c s' ∧ Save g w w' := by
  obtain ⟨y, s1, ht⟩ : ∃ l s1, mostS b 1048576 s = (l, s1) := ⟨_, _, rfl⟩
  have KM := Lib.hid (show Calls Try.prog 55 #[.pointer (some ⟨g, 0, none⟩), .int .u64 1048576] w _ from rdMost' g A n c b s s1 1048576 y ht (by omega) hs w H hb hA)
  unfold sizeS at h
  rw [ht] at h
  obtain ⟨rfl, hf⟩ := Prod.mk.inj h
  have hf' : (if k = 0 ∧ y ≠ 0 then failS 2 s1 else s1) = s' := hf
  clear h hf ht H hb hA hs
  by_cases hk : k = 0
  · subst hk
    by_cases hy : y = 0
    · subst hy
      rw [if_neg (fun h => h.2 rfl)] at hf'
      subst hf'
      go_enter Try.func56, Try.ntmps56
      go_wp2_with fail
      refine (KM.out).mono ?_
      rintro e w2 ⟨rfl, H2, S2⟩
      have HX := Lib.hid H2
      clear H2
      go_wp2_with fail
      go_ret
      exact ⟨rfl, HX.out, S2⟩
    · rw [if_pos ⟨rfl, hy⟩] at hf'
      have KF := Lib.hid (fun (w : World) (H : Rdr w g A n c s1) => rdFail2 g A n c s1 s' hf' w H)
      have h1 : ((y : Int) == 0) = false := by simp; exact hy
      clear hf' hy
      go_enter Try.func56, Try.ntmps56
      go_wp2_with fail
      refine (KM.out).mono ?_
      rintro e w2 ⟨rfl, H2, S2⟩
      have HX := Lib.hid H2
      clear H2
      go_wp2_with fail
      refine (KF.out _ HX.out).mono ?_
      rintro e w3 ⟨rfl, H3, o3⟩
      go_wp2_with fail
      go_ret
      exact ⟨rfl, H3, S2.trans o3.saved⟩
  · rw [if_neg (fun h => hk h.1)] at hf'
    subst hf'
    have h1 : ((k : Int) == 0) = false := by simp; exact hk
    clear hk
    go_enter Try.func56, Try.ntmps56
    go_wp2_with fail
    refine (KM.out).mono ?_
    rintro e w2 ⟨rfl, H2, S2⟩
    have HX := Lib.hid H2
    clear H2
    go_wp2_with fail
    go_ret
    exact ⟨rfl, HX.out, S2⟩

/-! ### The end -/
namespace rdEnd
theorem bad (g : Nat) (A : Option Addr) (n c p e : Nat) (h0 : e ≠ 0) (w : World) (H : Rdr w g A n c ⟨p, e⟩) :
    Calls Try.prog 59 #[.pointer (some ⟨g, 0, none⟩)] w fun e' w' => e' = .returned (.int .i64 (e : Int)) ∧ Save g w w' := by
  have c2 : w.cell? ⟨g, 2, none⟩ = some (.int .i64 (e : Int)) := H.c2
  have h1 : ((e : Int) == 0) = false := by simp; exact h0
  clear h0 H
  go_enter Try.func59, Try.ntmps59
  go_wp2_with fail
  go_quiet (fail)
  go_wp2_with fail
  go_ret
  exact ⟨rfl, (Save.refl g w).drewN _⟩
theorem full (g : Nat) (A : Option Addr) (n c : Nat) (w : World) (H : Rdr w g A n c ⟨n, 0⟩) :
    Calls Try.prog 59 #[.pointer (some ⟨g, 0, none⟩)] w fun e' w' => e' = .returned (.int .i64 0) ∧ Save g w w' := by
  have c0 := H.c0
  have c1 : w.cell? ⟨g, 1, none⟩ = some (.int .i64 (n : Int)) := H.c1
  have c2 : w.cell? ⟨g, 2, none⟩ = some (.int .i64 0) := H.c2
  clear H
  go_enter Try.func59, Try.ntmps59
  go_wp2_with fail
  go_quiet (fail)
  go_wp2_with fail
  go_ret
  exact ⟨rfl, (Save.refl g w).drewN _⟩
theorem more (g : Nat) (A : Option Addr) (n c p : Nat) (hp : p ≠ n) (w : World) (H : Rdr w g A n c ⟨p, 0⟩) :
    Calls Try.prog 59 #[.pointer (some ⟨g, 0, none⟩)] w fun e' w' => e' = .returned (.int .i64 2) ∧ Save g w w' := by
  have c0 := H.c0
  have c1 : w.cell? ⟨g, 1, none⟩ = some (.int .i64 (p : Int)) := H.c1
  have c2 : w.cell? ⟨g, 2, none⟩ = some (.int .i64 0) := H.c2
  have h1 : ((p : Int) == (n : Int)) = false := by simp; exact fun h => hp (by omega)
  have KF := Lib.hid (fun (w : World) (H : Rdr w g A n c ⟨p, 0⟩) => rdFail2 g A n c ⟨p, 0⟩ ⟨p, 2⟩ rfl w H)
  have HX := Lib.hid H
  clear H hp
  go_enter Try.func59, Try.ntmps59
  go_wp2_with fail
  go_quiet (fail)
  go_wp2_with fail
  refine Calls.mono (KF.out (World.drewN _ _) HX.out) ?_
  rintro e w2 ⟨rfl, H2, o2⟩
  have d2 : w2.cell? ⟨g, 2, none⟩ = some (.int .i64 2) := H2.c2
  go_wp2_with fail
  go_ret
  exact ⟨rfl, ((Save.refl g w).drewN _).trans o2.saved⟩
end rdEnd
theorem rdEnd' (g : Nat) (A : Option Addr) (n c : Nat) (b : List UInt8) (s : St) (k : Nat) (h : endS b s = k) (hl : b.length = n) (w : World) (H : Rdr w g A n c s) :
    Calls Try.prog 59 #[.pointer (some ⟨g, 0, none⟩)] w fun e' w' => e' = .returned (.int .i64 (k : Int)) ∧ Save g w w' := by
  subst h
  obtain ⟨p, e⟩ := s
  unfold endS
  by_cases h0 : e = 0
  · subst h0
    by_cases hp : p = n
    · subst hp
      rw [if_neg (fun h => h.2 hl.symm)]
      exact rdEnd.full g A p c w H
    · rw [if_pos ⟨rfl, by rw [hl]; exact hp⟩]
      exact rdEnd.more g A n c p hp w H
  · rw [if_neg (fun h => h0 h.1)]
    exact rdEnd.bad g A n c p e h0 w H
end Go.Proofs.Ytiilgkajijnbcaa
