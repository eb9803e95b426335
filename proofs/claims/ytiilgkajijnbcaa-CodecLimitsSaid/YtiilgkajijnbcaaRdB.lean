/-
  Contracts of the methods number, most, element, size, key, end of the reference's reader.
-/
import Derived.Test.YtiilgkajijnbcaaRd
import Derived.Deep.RegionHeld
namespace Go.Proofs.Ytiilgkajijnbcaa
open Go.ChangeShapes Go.WideShapes Go.ChangeAt Go.RowKit
set_option linter.unusedVariables false
set_option linter.unusedSimpArgs false

theorem Bytes.save {g : Nat} {w w' : World} {A : Option Addr} {n c : Nat} {l : List UInt8} (h : Bytes w A n c l) (ho : Save g w w') (hA : Off g A n) : Bytes w' A n c l := Row.save h ho hA
theorem get8 (l : List UInt8) (h : l.length = 8) : getV l 0 8 = ((be l : Nat) : Int) := by
  unfold getV
  rw [if_neg (by omega), show (0 : Int).toNat = 0 from rfl, List.drop_zero, List.take_of_length_le (by omega)]
theorem numS_good {b : List UInt8} {s s1 : St} {l : List UInt8} (ht : takeS b 8 s = (l, s1)) (h0 : s1.e = 0) : numS b s = (be l, s1) := by
  unfold numS
  rw [ht, if_pos h0]
theorem numS_bad {b : List UInt8} {s s1 : St} {l : List UInt8} (ht : takeS b 8 s = (l, s1)) (h0 : s1.e ≠ 0) : numS b s = (0, s1) := by
  unfold numS
  rw [ht, if_neg h0]
set_option maxHeartbeats 1000000 in
theorem rdNum' (g : Nat) (A : Option Addr) (n c : Nat) (b : List UInt8) (s s' : St) (x : Nat) (h : numS b s = (x, s')) (hs : s.ok b) (w : World) (H : Rdr w g A n c s) (hb : Bytes w A n c b) (hA : Off g A n) :
    Calls Try.prog 61 #[.pointer (some ⟨g, 0, none⟩)] w fun e w' => e = .returned (.int .u64 (x : Int)) ∧ Rdr w' g A n c s' ∧ Save g w w' := by
  obtain ⟨l, s1, ht⟩ : ∃ l s1, takeS b 8 s = (l, s1) := ⟨_, _, rfl⟩
  have KT := Lib.hid (show Calls Try.prog 58 #[.pointer (some ⟨g, 0, none⟩), .int .i64 8] w _ from rdTake' g A n c b s s1 8 l ht hs (by omega) w H hb hA)
  by_cases h0 : s1.e = 0
  · have hl8 : l.length = 8 := by
      have := takeS_good (b := b) (s := s) 8 (by rw [ht]; exact h0)
      rw [ht] at this
      exact this
    rw [numS_good ht h0] at h
    cases h
    obtain ⟨p, e⟩ := s'
    obtain rfl : e = 0 := h0
    have hx := Lib.hid (get8 l hl8)
    have H8 := Lib.hid hl8
    clear ht H hb hA hs
    go_enter Try.func61, Try.ntmps61
    go_wp2_with fail
    refine (KT.out).mono ?_
    rintro e w2 ⟨v, rfl, hown, H2, S2⟩
    rw [H8.out] at hown
    obtain ⟨A2, c2, rfl, hr2⟩ := Row.own hown
    have d2 : w2.cell? ⟨g, 2, none⟩ = some (.int .i64 0) := H2.c2
    have KG0 := refGet.get64 A2 8 c2 l 0 w2 hr2
    rw [hx.out] at KG0
    have KG := Lib.hid KG0
    have HX := Lib.hid H2
    clear KG0 hown hr2 H2
    go_wp2_with fail
    refine (KG.out).mono ?_
    rintro e w' ⟨rfl, rfl⟩
    go_wp2_with fail
    go_ret
    exact ⟨rfl, HX.out, S2⟩
  · rw [numS_bad ht h0] at h
    cases h
    obtain ⟨p, e⟩ := s'
    have h1 : ((e : Int) == 0) = false := by simp; exact fun h => h0 (by omega)
    clear ht H hb hA hs h0
    go_enter Try.func61, Try.ntmps61
    go_wp2_with fail
    refine (KT.out).mono ?_
    rintro e' w2 ⟨v, rfl, hown, H2, S2⟩
    have d2 : w2.cell? ⟨g, 2, none⟩ = some (.int .i64 (e : Int)) := H2.c2
    have HX := Lib.hid H2
    clear hown H2
    go_wp2_with fail
    go_ret
    exact ⟨rfl, HX.out, S2⟩
end Go.Proofs.Ytiilgkajijnbcaa
