/-
  Contract of the reference's Dec: a number in decimal.
-/
import Derived.Test.YtjfipijdjbbogaaDoorStrList
import Derived.Lib.ItoaMem
import Derived.Lib.ItoaLen
import Derived.Deep.Cut
namespace Go.Proofs.YtjfipijdjbbogaaDoor
open Go.ChangeShapes Go.WideShapes Go.ChangeAt Go.RowKit
set_option linter.unusedVariables false
set_option linter.unusedSimpArgs false

theorem str_add (a b : List UInt8) : str a ++ str b = str (a ++ b) := by
  apply ByteArray.ext
  simp [str]
theorem str_size (a : List UInt8) : (str a).size = a.length := by simp [str, ByteArray.size]
theorem dec_last {n : Nat} (h : ¬ n < 10) : Lib.decDigits n = Lib.decDigits (n / 10) ++ [UInt8.ofNat (48 + n % 10)] := by rw [Lib.decDigits, dif_neg h]
/-- One sign of the ten. -/
theorem digit_str : ∀ d : Nat, d < 10 → ((⟨#[48, 49, 50, 51, 52, 53, 54, 55, 56, 57]⟩ : ByteArray).extract d (d + 1)) = str [UInt8.ofNat (48 + d)] := by
  intro d hd
  apply ByteArray.ext
  match d, hd with
  | 0, _ => rfl
  | 1, _ => rfl
  | 2, _ => rfl
  | 3, _ => rfl
  | 4, _ => rfl
  | 5, _ => rfl
  | 6, _ => rfl
  | 7, _ => rfl
  | 8, _ => rfl
  | 9, _ => rfl
theorem digit_slice (d : Nat) (hd : d < 10) (u : World) : (Instr.slice 9 (.string ⟨#[48, 49, 50, 51, 52, 53, 54, 55, 56, 57]⟩) (some (.int .i64 (d : Int))) (some (.int .i64 ((d : Int) + 1))) none).run Tryd.prog u = .ok (.string (str [UInt8.ofNat (48 + d)])) u := by
  have h := run_slice_string (P := Tryd.prog) u 9 ⟨#[48, 49, 50, 51, 52, 53, 54, 55, 56, 57]⟩ .i64 .i64 (d : Int) ((d : Int) + 1) Tryd.underlying9 (by omega) (by omega) (by show (d : Int) + 1 ≤ 10; omega)
  rw [show ((d : Int) + 1).toNat = d + 1 by omega, Int.toNat_natCast, digit_str d hd] at h
  exact h
set_option maxHeartbeats 400000 in
theorem refDecN (m : Nat) : ∀ n : Nat, n ≤ m → n ≤ 9223372036854775807 → ∀ w : World,
    Calls Tryd.prog 23 #[.int .i64 (n : Int)] w fun e w' => e = .returned (.string (str (Lib.decDigits n))) ∧ w' = w := by
  induction m
  case' zero => have ih := True.intro
  case' succ m ih => skip
  all_goals
    intro n hm hn w
    obtain ⟨d, hd⟩ : ∃ d, n % 10 = d := ⟨_, rfl⟩
    have hd10 : d < 10 := by omega
    have hrt : Int.tmod (n : Int) 10 = (d : Int) := by rw [Int.tmod_eq_emod_of_nonneg (by omega)]; omega
    have hw : IntKind.i64.wrap ((d : Int) + 1) = (d : Int) + 1 := by rw [IntKind.wrap_i64]; omega
    have hsl := digit_slice d hd10
    obtain ⟨c, hc⟩ : ∃ c, str [UInt8.ofNat (48 + d)] = c := ⟨_, rfl⟩
    rw [hc] at hsl
    have HC := Lib.hid hc
    clear hc
    obtain ⟨z, hz⟩ : ∃ z : Int, (n : Int) = z := ⟨_, rfl⟩
    obtain ⟨y, hy⟩ : ∃ y : Int, (d : Int) = y := ⟨_, rfl⟩
    rw [hz, hy] at hrt
    rw [hy] at hw hsl
    rw [hz]
    have hz0 : ¬ z < 0 := by omega
    by_cases h : n < 10
    · have h9 : ¬ 9 < z := by omega
      have HE := Lib.hid (show str (Lib.decDigits n) = c by rw [← HC.out, Lib.decDigits_one h]; congr 3; omega)
      clear hd h hz hy hm hn hd10
      go_enter Tryd.func23, Tryd.ntmps23
      go_wp2_with fail
      go_ret
      exact ⟨by rw [HE.out]; rfl, rfl⟩
    · first
      | (exfalso; omega)
      | (have h9 : 9 < z := by omega
         have hq0 : Int.tdiv (n : Int) 10 = ((n / 10 : Nat) : Int) := by rw [Int.tdiv_eq_ediv_of_nonneg (by omega)]; omega
         have K := Lib.hid (ih (n / 10) (by omega) (by omega) w)
         obtain ⟨q, hq⟩ : ∃ q : Int, ((n / 10 : Nat) : Int) = q := ⟨_, rfl⟩
         obtain ⟨s, hs⟩ : ∃ s, str (Lib.decDigits (n / 10)) = s := ⟨_, rfl⟩
         rw [hq, hs] at K
         rw [hz, hq] at hq0
         have hqw : IntKind.i64.wrap q = q := by rw [IntKind.wrap_i64]; omega
         have hsz : ¬ 9223372036854775807 < s.size + c.size := by
           rw [← hs, ← HC.out, str_size, str_size, Lib.decDigits_length]
           have := Lib.nDigits_le20 (n / 10) (by omega)
           simp
           omega
         have HE := Lib.hid (show str (Lib.decDigits n) = s ++ c by rw [← HC.out, ← hs, str_add, dec_last h, hd])
         clear hd h hz hy hm hn hd10 hq hs ih
         go_enter Tryd.func23, Tryd.ntmps23
         go_wp2_with fail
         refine (K.out).mono ?_
         rintro e w2 ⟨rfl, rfl⟩
         go_wp2_with fail
         go_ret
         exact ⟨by rw [HE.out]; rfl, rfl⟩)
set_option maxHeartbeats 400000 in
/-- For every int. -/
theorem refDec (n : Int) (h0 : -9223372036854775808 ≤ n) (h1 : n ≤ 9223372036854775807) (w : World) :
    Calls Tryd.prog 23 #[.int .i64 n] w fun e w' => e = .returned (.string (str (Lib.itoa n))) ∧ w' = w := by
  by_cases hn : n < 0
  · obtain ⟨u, rfl⟩ : ∃ u : Nat, n = -(u : Int) := ⟨n.natAbs, by omega⟩
    have hu1 : 1 ≤ u := by omega
    obtain ⟨d, hd⟩ : ∃ d, u % 10 = d := ⟨_, rfl⟩
    have hd10 : d < 10 := by omega
    have hq0 : Int.tdiv (-(u : Int)) 10 = -((u / 10 : Nat) : Int) := by rw [Int.neg_tdiv, Int.tdiv_eq_ediv_of_nonneg (by omega)]; omega
    have hr0 : Int.tmod (-(u : Int)) 10 = -(d : Int) := by rw [Int.neg_tmod, Int.tmod_eq_emod_of_nonneg (by omega)]; omega
    have K0 := refDecN (u / 10) (u / 10) (Nat.le_refl _) (by omega) w
    have hw : IntKind.i64.wrap ((d : Int) + 1) = (d : Int) + 1 := by rw [IntKind.wrap_i64]; omega
    have hsl := digit_slice d hd10
    obtain ⟨c, hc⟩ : ∃ c, str [UInt8.ofNat (48 + d)] = c := ⟨_, rfl⟩
    rw [hc] at hsl
    obtain ⟨q, hq⟩ : ∃ q : Int, ((u / 10 : Nat) : Int) = q := ⟨_, rfl⟩
    rw [hq] at K0 hq0
    have hqw1 : IntKind.i64.wrap (-q) = -q := by rw [IntKind.wrap_i64]; omega
    have hqw2 : IntKind.i64.wrap (- -q) = q := by rw [IntKind.wrap_i64]; omega
    have hqw3 : IntKind.i64.wrap q = q := by rw [IntKind.wrap_i64]; omega
    have hdw1 : IntKind.i64.wrap (-(d : Int)) = -(d : Int) := by rw [IntKind.wrap_i64]; omega
    have hdw2 : IntKind.i64.wrap (- -(d : Int)) = (d : Int) := by rw [IntKind.wrap_i64]; omega
    have hdw3 : IntKind.i64.wrap (d : Int) = (d : Int) := by rw [IntKind.wrap_i64]; omega
    obtain ⟨z, hz⟩ : ∃ z : Int, -(u : Int) = z := ⟨_, rfl⟩
    obtain ⟨y, hy⟩ : ∃ y : Int, (d : Int) = y := ⟨_, rfl⟩
    rw [hz] at hq0 hr0 hn
    rw [hy] at hr0 hw hsl hdw1 hdw2 hdw3
    by_cases h : u < 10
    · have e0 : u / 10 = 0 := by omega
      rw [e0, Lib.decDigits_one (by omega)] at K0
      have K := Lib.hid (show Calls Tryd.prog 23 #[.int .i64 q] w fun e w' => e = .returned (.string ⟨#[48]⟩) ∧ w' = w from K0)
      have hcs : c.size = 1 := by rw [← hc, str_size]; rfl
      have HE := Lib.hid (show str (Lib.itoa (-(u : Int))) = (⟨#[45]⟩ : ByteArray) ++ c by
        rw [Lib.itoa_neg u hu1, Lib.decDigits_one h, ← hc, show d = u by omega]
        rfl)
      rw [hz] at HE ⊢
      clear K0 hd h hz hy hd10 hq e0 hc h0 h1 hu1
      go_enter Tryd.func23, Tryd.ntmps23
      go_wp2_with fail
      refine (K.out).mono ?_
      rintro e w2 ⟨rfl, rfl⟩
      go_wp2_with fail
      go_ret
      exact ⟨by rw [HE.out]; rfl, rfl⟩
    · obtain ⟨s, hs⟩ : ∃ s, str (Lib.decDigits (u / 10)) = s := ⟨_, rfl⟩
      rw [hs] at K0
      have hsl2 : s.size = Lib.nDigits (u / 10) := by rw [← hs, str_size, Lib.decDigits_length]
      have hs20 : s.size ≤ 20 := by rw [hsl2]; exact Lib.nDigits_le20 _ (by omega)
      have hcs : c.size = 1 := by rw [← hc, str_size]; rfl
      have hz1 : ¬ 9223372036854775807 < 1 + s.size := by omega
      have hz2 : ¬ 9223372036854775807 < 1 + s.size + c.size := by omega
      have hne : (s.toList == [48]) = false := by
        rw [← hs, str_toList, beq_eq_false_iff_ne]
        intro e1
        by_cases h2 : u / 10 < 10
        · rw [Lib.decDigits_one h2] at e1
          have e3 := congrArg UInt8.toNat (List.cons.inj e1).1
          rw [UInt8.toNat_ofNat_of_lt' (by show 48 + u / 10 < 256; omega)] at e3
          have e4 : 48 + u / 10 = 48 := e3
          omega
        · have := congrArg List.length e1
          rw [Lib.decDigits_length, Lib.nDigits_big h2] at this
          have hp := Lib.nDigits_pos (u / 10 / 10)
          have h3 : Lib.nDigits (u / 10 / 10) + 1 = 1 := this
          omega
      clear hsl2
      have K := Lib.hid K0
      have HE := Lib.hid (show str (Lib.itoa (-(u : Int))) = ((⟨#[45]⟩ : ByteArray) ++ s) ++ c by
        rw [Lib.itoa_neg u hu1, dec_last h, ← hs, ← hc, hd, show (⟨#[45]⟩ : ByteArray) = str [45] from rfl, str_add, str_add]
        rfl)
      rw [hz] at HE ⊢
      clear K0 hd h hz hy hd10 hq hc h0 h1 hu1 hs
      go_enter Tryd.func23, Tryd.ntmps23
      go_wp2_with fail
      refine (K.out).mono ?_
      rintro e w2 ⟨rfl, rfl⟩
      go_wp2_with fail
      go_ret
      exact ⟨by rw [HE.out]; rfl, rfl⟩
  · obtain ⟨u, rfl⟩ : ∃ u : Nat, n = (u : Int) := ⟨n.toNat, by omega⟩
    rw [Lib.itoa_nonneg]
    exact refDecN u u (Nat.le_refl _) (by omega) w
end Go.Proofs.YtjfipijdjbbogaaDoor
