/-
  The law CodecBatches of chapter 11.
-/
import Derived.Test.YtiilgkajijnbcaaCodecLaw
import Derived.Test.YtiilgkajijnbcaaPutBatAll
import Derived.Test.YtiilgkajijnbcaaRpBat
import Derived.Test.YtiilgkajijnbcaaBatRt
import Derived.Test.YtiilgkajijnbcaaBatLaw
import Derived.Test.YtiilgkajijnbcaaSameBat
namespace Go.Proofs.Ytiilgkajijnbcaa
open Go.ChangeShapes Go.WideShapes Go.ChangeAt Go.RowKit
set_option linter.unusedVariables false
set_option linter.unusedSimpArgs false

namespace codecBatchesLaw
theorem big (r ch : Int) (Ai : Option Addr) (ni ci : Nat) (inner : List Nat) (Al : Option Addr) (nl cl : Nat) (es : List Let) (hv : bigB ni es = true) (w : World) (hi : Nums w Ai ni ci inner) (hl : Letters w Al nl cl es) :
    Calls Try.prog 5 #[.agg (bcells r ch Ai ni ci Al nl cl).toArray] w fun e w' => e = .returned (.bool true) ∧ Below w.heap.size w w' := by
  have H1 := Has.new w 53 (bcells r ch Ai ni ci Al nl cl)
  have hb1 := (Below.refl w.heap.size w).alloc (Nat.le_refl _) (.cells (bcells r ch Ai ni ci Al nl cl).toArray 53)
  have K2 := Lib.hid (fun u (h : Below w.heap.size w u) => bigBatch r ch Ai ni ci inner Al nl cl es true hv u (hi.keep h) (hl.keep h))
  clear hv hi hl
  go_enter Try.func5, Try.ntmps5
  go_wp2_with fail
  refine (alive11 _).mono ?_
  rintro e w2 ⟨rfl, hb20⟩
  have hb2 := hb1.trans (hb20.mono hb1.size)
  have H2 := H1.keep hb20 H1.lt
  clear H1 hb1 hb20
  go_wp2_with (first
    | ((with_reducible refine wpList_load_bat rfl (.tmp 1) rfl w.heap.size rfl r ch Ai ni ci Al nl cl H2 ?_)))
  refine (K2.out _ hb2).mono ?_
  rintro e w3 ⟨rfl, hb3⟩
  go_wp2_with fail
  go_ret
  exact ⟨rfl, hb2.trans (hb3.mono hb2.size)⟩
set_option maxRecDepth 10000 in
set_option maxHeartbeats 4000000 in
theorem small (r ch : Int) (hr : -9223372036854775808 ≤ r ∧ r ≤ 9223372036854775807) (hch : -9223372036854775808 ≤ ch ∧ ch ≤ 9223372036854775807) (Ai : Option Addr) (ni ci : Nat) (inner : List Nat) (Al : Option Addr) (nl cl : Nat) (es : List Let) (hv : bigB ni es = false) (w : World) (hi : Nums w Ai ni ci inner) (hl : Letters w Al nl cl es) :
    Calls Try.prog 5 #[.agg (bcells r ch Ai ni ci Al nl cl).toArray] w fun e w' => e = .returned (.bool true) ∧ Below w.heap.size w w' := by
  obtain ⟨l, k, hk⟩ := two_of (wBatch ⟨r, ch, inner, es.map Let.data⟩)
  have hk5 : k < 5 := by have := wBatch_err ⟨r, ch, inner, es.map Let.data⟩; rw [hk] at this; exact this
  have K2 := Lib.hid (fun u (h : Below w.heap.size w u) => bigBatch r ch Ai ni ci inner Al nl cl es false hv u (hi.keep h) (hl.keep h))
  have K3 := Lib.hid (fun u (h : Below w.heap.size w u) => progBatch' r ch hr hch Ai ni ci inner Al nl cl es l k hk u (hi.keep h) (hl.keep h))
  have K4 := Lib.hid (fun u (h : Below w.heap.size w u) => refBatch' r ch hr hch Ai ni ci inner Al nl cl es l k hk u (hi.keep h) (hl.keep h))
  have K5 := Lib.hid (fun (B : Option Addr) (m dd : Nat) q (h : Bytes q B m dd l) => progReadBatch' B m dd l q h)
  have KN := Lib.hid (fun q => num11 (k : Int) q (by omega))
  have HK := Lib.hid (show k = 0 → batchS l = (⟨r, ch, inner, es.map Let.data⟩, 0) from fun h0 => batch_rt _ l (by rw [hk, h0]) hi.2 (fun e he => by
    obtain ⟨f, hf, rfl⟩ := List.mem_map.1 he
    exact (hl.2.2 f hf).1) ⟨hr.2, hch.2⟩)
  obtain ⟨RR, hRR⟩ : ∃ R, batchS l = R := ⟨_, rfl⟩
  rw [hRR] at HK
  have K5' := Lib.hid (fun (B : Option Addr) (m dd : Nat) q (h : Bytes q B m dd l) => hRR ▸ K5.out B m dd q h)
  have HI := Lib.hid hi
  have HL := Lib.hid hl
  obtain ⟨m, hm⟩ : ∃ m, l.length = m := ⟨_, rfl⟩
  rw [hm] at K3 K4
  have H1 := Has.new w 53 (bcells r ch Ai ni ci Al nl cl)
  have hb1 := (Below.refl w.heap.size w).alloc (Nat.le_refl _) (.cells (bcells r ch Ai ni ci Al nl cl).toArray 53)
  clear hv hi hl hr hch hk hm hRR K5
  go_enter Try.func5, Try.ntmps5
  go_wp2_with fail
  refine (alive11 _).mono ?_
  rintro e w2 ⟨rfl, hb20⟩
  have hb2 := hb1.trans (hb20.mono hb1.size)
  have H2 := H1.keep hb20 H1.lt
  clear H1 hb1 hb20
  go_wp2_with (first
    | ((with_reducible refine wpList_load_bat rfl (.tmp 1) rfl w.heap.size rfl r ch Ai ni ci Al nl cl H2 ?_)))
  refine (K2.out _ hb2).mono ?_
  rintro e w3 ⟨rfl, hb30⟩
  have hb3 := hb2.trans (hb30.mono hb2.size)
  have H3 := H2.keep hb30 H2.lt
  clear K2 H2 hb30 hb2
  go_wp2_with (first
    | ((with_reducible refine wpList_load_bat rfl (.tmp 1) rfl w.heap.size rfl r ch Ai ni ci Al nl cl H3 ?_)))
  refine (K3.out _ hb3).mono ?_
  rintro e w4 ⟨v4, rfl, hown4, hb40⟩
  obtain ⟨A4, c4, rfl, hr4⟩ := id hown4
  have hb4 := hb3.trans (hb40.mono hb3.size)
  have H4 := H3.keep hb40 H3.lt
  have HR4 := Lib.hid hr4
  clear K3 hown4 hr4 hb40 hb3 H3
  go_wp2_with (first
    | ((with_reducible refine wpList_load_bat rfl (.tmp 1) rfl w.heap.size rfl r ch Ai ni ci Al nl cl H4 ?_)))
  refine (K4.out _ hb4).mono ?_
  rintro e w5 ⟨v5, rfl, hown5, hb50⟩
  obtain ⟨A5, c5, rfl, hr5⟩ := Row.own hown5
  have hb5 := hb4.trans (hb50.mono hb4.size)
  have H5 := H4.keep hb50 H4.lt
  have s4 := run_str (P := Try.prog) Try.underlying25 Try.underlying5 Try.underlying9 (show Bytes w5 A4 m c4 l from HR4.out.keep hb50)
  have s5 := run_str (P := Try.prog) Try.underlying25 Try.underlying5 Try.underlying9 (show Bytes w5 A5 m c5 l from hr5)
  have HR5 := Lib.hid hr5
  clear K4 hown5 hr5 hb50 hb4 H4
  go_wp2_with fail
  refine (KN.out _).mono ?_
  rintro e w' ⟨rfl, rfl⟩
  clear s4 s5
  go_wp2_with fail
  refine (K5'.out A5 m c5 w5 HR5.out).mono ?_
  rintro e w6 ⟨d6, Ai6, ni6, ci6, Al6, nl6, cl6, es6, k6, rfl, hspec, hI6, hL6, hd6, hok6, hb60⟩
  have hb6 := hb5.trans (hb60.mono hb5.size)
  have H6 := H5.keep hb60 H5.lt
  obtain ⟨r6, ch6, inner6, ls6⟩ := d6
  have J6 := newBatch w6
  have hb7 := hb6.alloc hb6.size (.cells #[.int .i64 0, .int .i64 0, .slice none 0 0, .slice none 0 0] 53)
  have hs6 := hb6.size
  have H7 := H6.alloc (.cells #[.int .i64 0, .int .i64 0, .slice none 0 0, .slice none 0 0] 53)
  have hlt6 := H6.lt
  have HB67 := Lib.hid ((Below.refl w6.heap.size w6).alloc (Nat.le_refl _) (.cells #[.int .i64 0, .int .i64 0, .slice none 0 0, .slice none 0 0] 53))
  have HI6 := Lib.hid hI6
  have HL6 := Lib.hid hL6
  have HD6 := Lib.hid hd6
  have HSP := Lib.hid hspec
  clear H5 H6 hb60 hb5 hspec hI6 hL6 hd6 hok6
  by_cases hk0 : k = 0
  · have hrt := HK.out hk0
    have hrs := HSP.out
    rw [hrt] at hrs
    obtain ⟨e1, rfl⟩ := Prod.mk.inj hrs
    injection e1 with e1 e2 e3 e4
    subst e1 e2 e3 hk0
    have HE := Lib.hid (show es6.map Let.data = es.map Let.data from (HD6.out.symm.trans e4.symm))
    have K0 := Lib.hid (fun q => num11 0 q (by omega))
    clear hrt hrs HSP HK e4
    go_wp2_with (first
      | ((with_reducible refine wpList_store_bat rfl (.tmp 9) (.tmp 44) rfl w6.heap.size rfl r ch Ai6 ni6 ci6 Al6 nl6 cl6 rfl _ J6 rfl ?_); intro w8 o8 J8; have hb8 := o8.below hb7 hs6; have H8 := H7.only o8 (by omega); have HB8 := Lib.hid (o8.below HB67.out (Nat.le_refl _)))
      | (go_at_call 14; with_reducible refine (K0.out _).mono ?_; rintro e w' ⟨rfl, rfl⟩)
      | ((refine wpList_load_hasG (by rfl) 53 (.tmp 9) (by rfl) w6.heap.size (by rfl) 53 (bcells r ch Ai6 ni6 ci6 Al6 nl6 cl6) J8 _ Try.underlying53 (by rfl) size_batch ?_))
      | ((refine wpList_load_hasG (by rfl) 53 (.tmp 1) (by rfl) w.heap.size (by rfl) 53 (bcells r ch Ai ni ci Al nl cl) H8 _ Try.underlying53 (by rfl) size_batch ?_)))
    refine (show Calls Try.prog 25 #[.agg (bcells r ch Ai6 ni6 ci6 Al6 nl6 cl6).toArray, .agg (bcells r ch Ai ni ci Al nl cl).toArray] w8 _ from sameBatch r ch Ai6 ni6 ci6 Al6 nl6 cl6 Ai ni ci Al nl cl inner es6 es w8 (HI6.out.keep HB8.out) (HI.out.keep hb8) (HL6.out.keep HB8.out) (HL.out.keep hb8) HE.out).mono ?_
    rintro e w9 ⟨rfl, hb9⟩
    go_wp2_with fail
    go_ret
    exact ⟨rfl, hb8.trans (hb9.mono hb8.size)⟩
  · have h2 : ((k : Int) == 0) = false := by simp; exact hk0
    clear HSP HK
    go_wp2_with (first
      | ((with_reducible refine wpList_store_bat rfl (.tmp 9) (.tmp 44) rfl w6.heap.size rfl r6 ch6 Ai6 ni6 ci6 Al6 nl6 cl6 rfl _ J6 rfl ?_); intro w8 o8 J8; have hb8 := o8.below hb7 hs6))
    go_ret
    exact ⟨rfl, hb8⟩
theorem all (r ch : Int) (hr : -9223372036854775808 ≤ r ∧ r ≤ 9223372036854775807) (hch : -9223372036854775808 ≤ ch ∧ ch ≤ 9223372036854775807) (Ai : Option Addr) (ni ci : Nat) (inner : List Nat) (Al : Option Addr) (nl cl : Nat) (es : List Let) (w : World) (hi : Nums w Ai ni ci inner) (hl : Letters w Al nl cl es) :
    Calls Try.prog 5 #[.agg #[.int .i64 r, .int .i64 ch, .slice Ai ni ci, .slice Al nl cl]] w fun e w' => e = .returned (.bool true) ∧ Below w.heap.size w w' := by
  show Calls Try.prog 5 #[.agg (bcells r ch Ai ni ci Al nl cl).toArray] w _
  cases hv : bigB ni es
  · exact small r ch hr hch Ai ni ci inner Al nl cl es hv w hi hl
  · exact big r ch Ai ni ci inner Al nl cl es hv w hi hl
end codecBatchesLaw
end Go.Proofs.Ytiilgkajijnbcaa
