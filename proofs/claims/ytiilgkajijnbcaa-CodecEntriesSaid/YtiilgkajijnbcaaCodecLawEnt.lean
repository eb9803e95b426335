/-
  The law CodecEntries of chapter 11.
-/
import Derived.Test.YtiilgkajijnbcaaCodecLaw
import Derived.Test.YtiilgkajijnbcaaEntLaw
import Derived.Test.YtiilgkajijnbcaaSameEnt
import Derived.Test.YtiilgkajijnbcaaPutEntAll
import Derived.Test.YtiilgkajijnbcaaRpEnt
namespace Go.Proofs.Ytiilgkajijnbcaa
open Go.ChangeShapes Go.WideShapes Go.ChangeAt Go.RowKit
set_option linter.unusedVariables false
set_option linter.unusedSimpArgs false

theorem wEntries_err (es : List (Nat × List UInt8)) : (wEntries es).2 < 5 := by
  unfold wEntries
  split
  · show 3 < 5; omega
  · split
    · show 3 < 5; omega
    · split
      · show 1 < 5; omega
      · show 0 < 5; omega
theorem endS_lt {b : List UInt8} {s : St} (h : s.ok b) : endS b s < 5 := by
  unfold endS
  split
  · omega
  · exact h.2
namespace codecEntriesLaw
theorem big (A : Option Addr) (n c : Nat) (es : List Ent) (hv : bigE es = true) (w : World) (hA : Entries w A n c es) :
    Calls Try.prog 3 #[.slice A n c] w fun e w' => e = .returned (.bool true) ∧ Below w.heap.size w w' := by
  have K2 := Lib.hid (fun u (h : Entries u A n c es) => bigEntries A n c es true hv u h)
  have HA := Lib.hid hA
  clear hv hA
  go_enter Try.func3, Try.ntmps3
  go_wp2_with fail
  refine (alive11 _).mono ?_
  rintro e w2 ⟨rfl, hb2⟩
  go_wp2_with fail
  refine (K2.out _ (HA.out.keep hb2)).mono ?_
  rintro e w' ⟨rfl, rfl⟩
  go_wp2_with fail
  go_ret
  exact ⟨rfl, hb2⟩
set_option maxHeartbeats 2000000 in
theorem small (A : Option Addr) (n c : Nat) (es : List Ent) (hv : bigE es = false) (w : World) (hA : Entries w A n c es) :
    Calls Try.prog 3 #[.slice A n c] w fun e w' => e = .returned (.bool true) ∧ Below w.heap.size w w' := by
  obtain ⟨l, k, hk⟩ : ∃ l k, wEntries (es.map Ent.data) = (l, k) := ⟨_, _, rfl⟩
  have hk5 : k < 5 := by have := wEntries_err (es.map Ent.data); rw [hk] at this; exact this
  have K2 := Lib.hid (fun u (h : Entries u A n c es) => bigEntries A n c es false hv u h)
  have K3 := Lib.hid (fun u (h : Entries u A n c es) => progEntries' A n c es l k hk u h)
  have K4 := Lib.hid (fun u (h : Entries u A n c es) => refEntries' A n c es l k hk u h)
  have K5 := Lib.hid (fun (B : Option Addr) (m d : Nat) u (h : Bytes u B m d l) => progReadEntries' B m d l u h)
  have KN := Lib.hid (fun u => num11 (k : Int) u (by omega))
  have HA := Lib.hid hA
  have HK := Lib.hid hk
  have HL0 := Lib.hid (show l.length = l.length from rfl)
  obtain ⟨m, hm⟩ : ∃ m, l.length = m := ⟨_, rfl⟩
  rw [hm] at K3 K4
  clear hv hA hk hm
  go_enter Try.func3, Try.ntmps3
  go_wp2_with fail
  refine (alive11 _).mono ?_
  rintro e w2 ⟨rfl, hb2⟩
  go_wp2_with fail
  refine (K2.out _ (HA.out.keep hb2)).mono ?_
  rintro e w' ⟨rfl, rfl⟩
  go_wp2_with fail
  refine (K3.out _ (HA.out.keep hb2)).mono ?_
  rintro e w3 ⟨v3, rfl, hown3, hb30⟩
  obtain ⟨A3, c3, rfl, hr3⟩ := id hown3
  have hb3 := hb2.trans (hb30.mono hb2.size)
  have HR3 := Lib.hid hr3
  clear hown3 hr3 hb30 hb2
  go_wp2_with fail
  refine (K4.out _ (HA.out.keep hb3)).mono ?_
  rintro e w4 ⟨v4, rfl, hown4, hb40⟩
  obtain ⟨A4, c4, rfl, hr4⟩ := Row.own hown4
  have hb4 := hb3.trans (hb40.mono hb3.size)
  have s3 := run_str (P := Try.prog) Try.underlying25 Try.underlying5 Try.underlying9 (show Bytes w4 A3 m c3 l from HR3.out.keep hb40)
  have s4 := run_str (P := Try.prog) Try.underlying25 Try.underlying5 Try.underlying9 (show Bytes w4 A4 m c4 l from hr4)
  have HR4 := Lib.hid hr4
  clear hown4 hr4 hb40 hb3
  go_wp2_with fail
  refine (KN.out _).mono ?_
  rintro e w' ⟨rfl, rfl⟩
  clear s3 s4
  go_wp2_with fail
  refine (K5.out A4 m c4 w4 HR4.out).mono ?_
  rintro e w5 ⟨A5, m5, c5, es5, k5, rfl, hspec, hE5, hb50⟩
  have hb5 := hb4.trans (hb50.mono hb4.size)
  by_cases hk0 : k = 0
  · subst hk0
    have hrt := entries_rt _ _ HK.out
    rw [hrt] at hspec
    obtain ⟨hd, rfl⟩ := Prod.mk.inj hspec
    have K0 := Lib.hid (fun u => num11 ((0 : Nat) : Int) u (by omega))
    have KS := Lib.hid (sameEntries A5 m5 c5 es5 A n c es w5 hE5 (HA.out.keep hb5) hd.symm)
    clear hspec hrt hd hE5 hb50 hb4
    go_wp2_with fail
    refine (K0.out _).mono ?_
    rintro e w' ⟨rfl, rfl⟩
    go_wp2_with fail
    refine (KS.out).mono ?_
    rintro e w6 ⟨rfl, hb60⟩
    go_wp2_with fail
    go_ret
    exact ⟨rfl, hb5.trans (hb60.mono hb5.size)⟩
  · have h1 : ((k : Int) == 0) = false := by simp; exact hk0
    clear hspec hE5 hb50 hb4
    go_wp2_with fail
    go_ret
    exact ⟨rfl, hb5⟩
theorem all (A : Option Addr) (n c : Nat) (es : List Ent) (w : World) (hA : Entries w A n c es) :
    Calls Try.prog 3 #[.slice A n c] w fun e w' => e = .returned (.bool true) ∧ Below w.heap.size w w' := by
  cases hv : bigE es
  · exact small A n c es hv w hA
  · exact big A n c es hv w hA
end codecEntriesLaw
end Go.Proofs.Ytiilgkajijnbcaa
