/-
  The law CodecSubmissions of chapter 11.
-/
import Derived.Test.YtiilgkajijnbcaaCodecLaw
import Derived.Test.YtiilgkajijnbcaaSubOpen
import Derived.Test.YtiilgkajijnbcaaSameSub
import Derived.Test.YtiilgkajijnbcaaPutSub
import Derived.Test.YtiilgkajijnbcaaRpSub
namespace Go.Proofs.Ytiilgkajijnbcaa
open Go.ChangeShapes Go.WideShapes Go.ChangeAt Go.RowKit
set_option linter.unusedVariables false
set_option linter.unusedSimpArgs false

namespace codecSubmissionsLaw
set_option maxRecDepth 10000 in
set_option maxHeartbeats 1000000 in
theorem big (d : SubD) (hd : d.ok) (A : Option Addr) (n c : Nat) (h5 : 500 < n) (w : World) :
    Calls Try.prog 4 #[.agg (scells d.u d.x A n c d.pc d.ps d.sc d.ss).toArray] w fun e w' => e = .returned (.bool true) ∧ Below w.heap.size w w' := by
  obtain ⟨u, x, t, pc, ps, sc, ss⟩ := d
  obtain ⟨hu, _⟩ := hd
  simp only [] at hu ⊢
  have H1 := Has.new w 43 (scells u x A n c pc ps sc ss)
  have hb1 := (Below.refl w.heap.size w).alloc (Nat.le_refl _) (.cells (scells u x A n c pc ps sc ss).toArray 43)
  have h1 : (500 : Int) < (n : Int) := by omega
  have HU := Lib.hid hu
  clear hu h5
  go_enter Try.func4, Try.ntmps4
  go_wp2_with fail
  refine (alive11 _).mono ?_
  rintro e w2 ⟨rfl, hb20⟩
  have hb2 := hb1.trans (hb20.mono hb1.size)
  obtain ⟨a0, a1, a2, a3, a4, a5⟩ := (H1.keep hb20 H1.lt).subCells HU.out
  clear H1 hb1 hb20
  go_wp2_with fail
  go_ret
  exact ⟨rfl, hb2⟩
set_option maxRecDepth 10000 in
set_option maxHeartbeats 4000000 in
theorem small (d : SubD) (hd : d.ok) (A : Option Addr) (n c : Nat) (h5 : n ≤ 500) (w : World) (hA : Bytes w A n c d.l) :
    Calls Try.prog 4 #[.agg (scells d.u d.x A n c d.pc d.ps d.sc d.ss).toArray] w fun e w' => e = .returned (.bool true) ∧ Below w.heap.size w w' := by
  obtain ⟨l, k, hk⟩ : ∃ l k, wSub d = (l, k) := ⟨_, _, rfl⟩
  have hk5 : k < 5 := by have := wSub_err d; rw [hk] at this; exact this
  have K3 := Lib.hid (fun q (h : Bytes q A n c d.l) => progSubmission' d hd A n c l k hk q h)
  have K4 := Lib.hid (fun q (h : Bytes q A n c d.l) => refSubmission' d hd A n c l k hk q h)
  have K5 := Lib.hid (fun (B : Option Addr) (m dd : Nat) q (h : Bytes q B m dd l) => progReadSubmission' B m dd l q h)
  have KN := Lib.hid (fun q => num11 (k : Int) q (by omega))
  have HK := Lib.hid (show k = 0 → submissionS l = (d, 0) from fun h0 => sub_rt d hd l (by rw [hk, h0]))
  obtain ⟨RR, hRR⟩ : ∃ R, submissionS l = R := ⟨_, rfl⟩
  rw [hRR] at HK
  have K5' := Lib.hid (fun (B : Option Addr) (m dd : Nat) q (h : Bytes q B m dd l) => hRR ▸ K5.out B m dd q h)
  have HA := Lib.hid hA
  have HL := Lib.hid (show ∀ (B : Option Addr) (m dd : Nat) (q : World), Bytes q B m dd l → m = l.length from fun B m dd q h => h.len.symm)
  obtain ⟨m, hm⟩ : ∃ m, l.length = m := ⟨_, rfl⟩
  rw [hm] at K3 K4
  obtain ⟨u, x, t, pc, ps, sc, ss⟩ := d
  obtain ⟨hu, _⟩ := hd
  simp only [] at hu K3 K4 HA ⊢
  have H1 := Has.new w 43 (scells u x A n c pc ps sc ss)
  have hb1 := (Below.refl w.heap.size w).alloc (Nat.le_refl _) (.cells (scells u x A n c pc ps sc ss).toArray 43)
  have h1 : ¬ (500 : Int) < (n : Int) := by omega
  have HU := Lib.hid hu
  clear hu h5 hA hk hm hRR K5
  go_enter Try.func4, Try.ntmps4
  go_wp2_with fail
  refine (alive11 _).mono ?_
  rintro e w2 ⟨rfl, hb20⟩
  have hb2 := hb1.trans (hb20.mono hb1.size)
  have H2 := H1.keep hb20 H1.lt
  obtain ⟨a0, a1, a2, a3, a4, a5⟩ := H2.subCells HU.out
  clear H1 hb1 hb20 a0 a2 a3 a4 a5
  go_wp2_with (first
    | ((with_reducible refine wpList_load_sub rfl (.tmp 1) rfl w.heap.size rfl u x A n c pc ps sc ss HU.out H2 ?_)))
  refine (K3.out _ (HA.out.keep hb2)).mono ?_
  rintro e w3 ⟨v3, rfl, hown3, hb30⟩
  obtain ⟨A3, c3, rfl, hr3⟩ := id hown3
  have hb3 := hb2.trans (hb30.mono hb2.size)
  have H3 := H2.keep hb30 H2.lt
  have HR3 := Lib.hid hr3
  clear hown3 hr3 hb30 hb2 H2 a1
  go_wp2_with (first
    | ((with_reducible refine wpList_load_sub rfl (.tmp 1) rfl w.heap.size rfl u x A n c pc ps sc ss HU.out H3 ?_)))
  refine (K4.out _ (HA.out.keep hb3)).mono ?_
  rintro e w4 ⟨v4, rfl, hown4, hb40⟩
  obtain ⟨A4, c4, rfl, hr4⟩ := Row.own hown4
  have hb4 := hb3.trans (hb40.mono hb3.size)
  have H4 := H3.keep hb40 H3.lt
  have s3 := run_str (P := Try.prog) Try.underlying25 Try.underlying5 Try.underlying9 (show Bytes w4 A3 m c3 l from HR3.out.keep hb40)
  have s4 := run_str (P := Try.prog) Try.underlying25 Try.underlying5 Try.underlying9 (show Bytes w4 A4 m c4 l from hr4)
  have HR4 := Lib.hid hr4
  clear hown4 hr4 hb40 hb3 H3
  go_wp2_with fail
  refine (KN.out _).mono ?_
  rintro e w' ⟨rfl, rfl⟩
  clear s3 s4
  go_wp2_with fail
  refine (K5'.out A4 m c4 w4 HR4.out).mono ?_
  rintro e w5 ⟨d5, A5, m5, c5, k5, rfl, hspec, hE5, hok5, hb50⟩
  have hb5 := hb4.trans (hb50.mono hb4.size)
  have H5 := H4.keep hb50 H4.lt
  obtain ⟨u5, x5, t5, pc5, ps5, sc5, ss5⟩ := d5
  have hu5 : u5.length = 32 := hok5.1
  have J5 := newSub w5
  have hb6 := hb5.alloc hb5.size (.cells #[.int .u8 0, .int .u8 0, .int .u8 0, .int .u8 0, .int .u8 0, .int .u8 0, .int .u8 0, .int .u8 0, .int .u8 0, .int .u8 0, .int .u8 0, .int .u8 0, .int .u8 0, .int .u8 0, .int .u8 0, .int .u8 0, .int .u8 0, .int .u8 0, .int .u8 0, .int .u8 0, .int .u8 0, .int .u8 0, .int .u8 0, .int .u8 0, .int .u8 0, .int .u8 0, .int .u8 0, .int .u8 0, .int .u8 0, .int .u8 0, .int .u8 0, .int .u8 0, .int .u64 0, .slice none 0 0, .int .u64 0, .int .u64 0, .int .u64 0, .int .u64 0] 43)
  have hs5 := hb5.size
  have H6 := H5.alloc (.cells #[.int .u8 0, .int .u8 0, .int .u8 0, .int .u8 0, .int .u8 0, .int .u8 0, .int .u8 0, .int .u8 0, .int .u8 0, .int .u8 0, .int .u8 0, .int .u8 0, .int .u8 0, .int .u8 0, .int .u8 0, .int .u8 0, .int .u8 0, .int .u8 0, .int .u8 0, .int .u8 0, .int .u8 0, .int .u8 0, .int .u8 0, .int .u8 0, .int .u8 0, .int .u8 0, .int .u8 0, .int .u8 0, .int .u8 0, .int .u8 0, .int .u8 0, .int .u8 0, .int .u64 0, .slice none 0 0, .int .u64 0, .int .u64 0, .int .u64 0, .int .u64 0] 43)
  have hlt5 := H5.lt
  have hE6 := hE5.keep ((Below.refl w5.heap.size w5).alloc (Nat.le_refl _) (.cells #[.int .u8 0, .int .u8 0, .int .u8 0, .int .u8 0, .int .u8 0, .int .u8 0, .int .u8 0, .int .u8 0, .int .u8 0, .int .u8 0, .int .u8 0, .int .u8 0, .int .u8 0, .int .u8 0, .int .u8 0, .int .u8 0, .int .u8 0, .int .u8 0, .int .u8 0, .int .u8 0, .int .u8 0, .int .u8 0, .int .u8 0, .int .u8 0, .int .u8 0, .int .u8 0, .int .u8 0, .int .u8 0, .int .u8 0, .int .u8 0, .int .u8 0, .int .u8 0, .int .u64 0, .slice none 0 0, .int .u64 0, .int .u64 0, .int .u64 0, .int .u64 0] 43))
  have hoff : Off w5.heap.size A5 m5 := Off.of_row hE5 (Nat.le_refl _)
  have HSP := Lib.hid hspec
  clear H4 H5 hb50 hE5 hok5 hb4 hspec
  by_cases hk0 : k = 0
  · have hrt := HK.out hk0
    have hrs := HSP.out
    rw [hrt] at hrs
    obtain ⟨e1, rfl⟩ := Prod.mk.inj hrs
    injection e1 with e1 e2 e3 e4 e5 e6 e7
    subst e1 e2 e3 e4 e5 e6 e7 hk0
    have K0 := Lib.hid (fun q => num11 0 q (by omega))
    clear hrt hrs HSP HK
    go_wp2_with (first
      | ((with_reducible refine wpList_store_sub rfl (.tmp 8) (.tmp 45) rfl w5.heap.size rfl u x A5 m5 c5 pc ps sc ss HU.out rfl _ J5 rfl ?_); intro w7 o7 J7; have hb7 := o7.below hb6 hs5; have H7 := H6.only o7 (by omega); have hE7 := Lib.hid (Row.only hE6 o7 hoff))
      | (go_at_call 14; with_reducible refine (K0.out _).mono ?_; rintro e w' ⟨rfl, rfl⟩)
      | ((refine wpList_load_hasG (by rfl) 43 (.tmp 8) (by rfl) w5.heap.size (by rfl) 43 (scells u x A5 m5 c5 pc ps sc ss) J7 _ Try.underlying43 (by rfl) (by rw [scells_len HU.out]; exact size_sub) ?_))
      | ((refine wpList_load_hasG (by rfl) 43 (.tmp 1) (by rfl) w.heap.size (by rfl) 43 (scells u x A n c pc ps sc ss) H7 _ Try.underlying43 (by rfl) (by rw [scells_len HU.out]; exact size_sub) ?_)))
    refine (sameSubmission u x pc ps sc ss HU.out A5 m5 c5 A n c t w7 hE7.out (HA.out.keep hb7)).mono ?_
    rintro e w8 ⟨rfl, hb8⟩
    go_wp2_with fail
    go_ret
    exact ⟨rfl, hb7.trans (hb8.mono hb7.size)⟩
  · have h2 : ((k : Int) == 0) = false := by simp; exact hk0
    clear HSP HK
    go_wp2_with (first
      | ((with_reducible refine wpList_store_sub rfl (.tmp 8) (.tmp 45) rfl w5.heap.size rfl u5 x5 A5 m5 c5 pc5 ps5 sc5 ss5 hu5 rfl _ J5 rfl ?_); intro w7 o7 J7; have hb7 := o7.below hb6 hs5))
    go_ret
    exact ⟨rfl, hb7⟩
theorem all (d : SubD) (hd : d.ok) (A : Option Addr) (n c : Nat) (w : World) (hA : Bytes w A n c d.l) :
    Calls Try.prog 4 #[.agg (scells d.u d.x A n c d.pc d.ps d.sc d.ss).toArray] w fun e w' => e = .returned (.bool true) ∧ Below w.heap.size w w' := by
  by_cases h : 500 < n
  · exact big d hd A n c h w
  · exact small d hd A n c (by omega) w hA
end codecSubmissionsLaw
end Go.Proofs.Ytiilgkajijnbcaa
