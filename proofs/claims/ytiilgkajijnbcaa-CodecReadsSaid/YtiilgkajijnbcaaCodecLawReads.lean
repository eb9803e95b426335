/-
  The law CodecReads of chapter 11. (Written by gen_codecreads.py.)
-/
import Derived.Test.YtiilgkajijnbcaaCodecBoth
import Derived.Test.YtiilgkajijnbcaaSameEnt
import Derived.Test.YtiilgkajijnbcaaSameSub
import Derived.Test.YtiilgkajijnbcaaSameBat
namespace Go.Proofs.Ytiilgkajijnbcaa
open Go.ChangeShapes Go.WideShapes Go.ChangeAt Go.RowKit
set_option linter.unusedVariables false
set_option linter.unusedSimpArgs false

namespace codecReadsLaw
theorem big (A : Option Addr) (n c : Nat) (h8 : 800 < n) (w : World) :
    Calls Try.prog 6 #[.slice A n c] w fun e w' => e = .returned (.bool true) ∧ Below w.heap.size w w' := by
  have h1 : (800 : Int) < (n : Int) := by omega
  go_enter Try.func6, Try.ntmps6
  go_wp2_with fail
  refine (alive11 _).mono ?_
  rintro e w2 ⟨rfl, hb2⟩
  go_wp2_with fail
  go_ret
  exact ⟨rfl, hb2⟩
set_option maxRecDepth 10000 in
set_option maxHeartbeats 8000000 in
theorem small (A : Option Addr) (n c : Nat) (b : List UInt8) (h8 : n ≤ 800) (w : World) (hb : Bytes w A n c b) :
    Calls Try.prog 6 #[.slice A n c] w fun e w' => e = .returned (.bool true) ∧ Below w.heap.size w w' := by
  obtain ⟨E, k1, g1⟩ := two_of (entriesS b)
  obtain ⟨D, k2, g2⟩ := two_of (submissionS b)
  obtain ⟨T, k3, g3⟩ := two_of (batchS b)
  obtain ⟨NN, k4, g4⟩ := two_of (noteS b)
  obtain ⟨x, NN, rfl⟩ := two_of NN
  obtain ⟨y, t, rfl⟩ := two_of NN
  have q1 := entriesS_err g1
  have q2 := submissionS_err g2
  have q3 := batchS_err g3
  have q4 := noteS_err g4
  have htl := (noteS_ok g4).2.2
  have HTL := Lib.hid htl
  have heq := eq_note x y t htl
  have KE1 := Lib.hid (fun (A' : Option Addr) (c' : Nat) (u : World) (h : Bytes u A' n c' b) => progEnt g1 h)
  have KE2 := Lib.hid (fun (u : World) (h : Bytes u A n c b) => refEnt g1 h)
  have KS1 := Lib.hid (fun (u : World) (h : Bytes u A n c b) => progSub g2 h)
  have KS2 := Lib.hid (fun (u : World) (h : Bytes u A n c b) => refSub g2 h)
  have KT1 := Lib.hid (fun (u : World) (h : Bytes u A n c b) => progBat g3 h)
  have KT2 := Lib.hid (fun (u : World) (h : Bytes u A n c b) => refBat g3 h)
  have KN1 := Lib.hid (fun (u : World) (h : Bytes u A n c b) => progReadNote' A n c b x y t k4 g4 u h)
  have KN2 := Lib.hid (fun (u : World) (h : Bytes u A n c b) => refReadNote' A n c b x y t k4 g4 u h)
  have M1 := Lib.hid (fun q => num11 (k1 : Int) q (by omega))
  have M2 := Lib.hid (fun q => num11 (k2 : Int) q (by omega))
  have M3 := Lib.hid (fun q => num11 (k3 : Int) q (by omega))
  have M4 := Lib.hid (fun q => num11 (k4 : Int) q (by omega))
  have HB0 := Lib.hid hb
  have HN8 := Lib.hid h8
  have h1 : ¬ (800 : Int) < (n : Int) := by omega
  clear hb h8 g1 g2 g3 g4 q1 q2 q3 q4 htl
  go_enter Try.func6, Try.ntmps6
  go_wp2_with fail
  refine (alive11 _).mono ?_
  rintro e w2 ⟨rfl, b2⟩
  have HR2 := Lib.hid (HB0.out.keep b2)
  have HM2 := Lib.hid (show 0 + n ≤ 140737488355328 by have := HN8.out; omega)
  go_wp2_with (at_builtin; (refine app8 rfl (.const (.slice none 0 0)) (.tmp 30) rfl w2.heap.size (.slice none 0 0) 0 [] rfl (World.ownsRow_nil _ _ _ _) A n c b rfl HR2.out HM2.out (Nat.le_refl _) ?_); intro v3 w3 hown3 hg3; rw [Nat.zero_add] at hown3; obtain ⟨A3, c3, rfl, hr3⟩ := Row.own hown3)
  have hb3 : Below w2.heap.size w2 w3 := (Below.refl _ _).grown hg3 (Nat.le_refl _) (fun k hk => by cases hk)
  have b3 := b2.trans (hb3.mono b2.size)
  rw [List.nil_append] at hr3
  have HR3 := Lib.hid (show Bytes w3 A3 n c3 b from hr3)
  clear hown3 hg3 hr3 HR2 HM2
  refine (KE1.out A3 c3 w3 HR3.out).mono ?_
  rintro e w4 ⟨A4, m4, c4, es4, rfl, he4, hE4, hb4⟩
  have b4 := b3.trans (hb4.mono b3.size)
  have E1_4 := Lib.hid hE4
  have HE1 := Lib.hid he4
  clear he4 hE4 KE1 HR3
  go_wp2_with fail
  refine (KE2.out _ (HB0.out.keep b4)).mono ?_
  rintro e w5 ⟨A5, m5, c5, es5, rfl, he5, hE5, hb5⟩
  have b5 := b4.trans (hb5.mono b4.size)
  have E1_5 := Lib.hid (E1_4.out.keep hb5)
  clear E1_4
  have E2_5 := Lib.hid hE5
  have HE2 := Lib.hid he5
  clear he5 hE5 KE2 hb5
  go_wp2_with fail
  refine (KS1.out _ (HB0.out.keep b5)).mono ?_
  rintro e w6 ⟨A6, m6, c6, rfl, hY6, hD, hb6⟩
  have b6 := b5.trans (hb6.mono b5.size)
  have E1_6 := Lib.hid (E1_5.out.keep hb6)
  have E2_6 := Lib.hid (E2_5.out.keep hb6)
  clear E1_5 E2_5
  have Y1_6 := Lib.hid hY6
  have HU := Lib.hid hD.1
  clear hY6 hD KS1 hb6
  have J6 := newSub w6
  go_wp2_with (first
    | ((with_reducible refine wpList_store_sub rfl (.tmp 8) (.tmp 43) rfl w6.heap.size rfl D.u D.x A6 m6 c6 D.pc D.ps D.sc D.ss HU.out rfl (scells (List.replicate 32 0) 0 none 0 0 0 0 0 0) J6 rfl ?_); intro w7 o7 H7))
  have hb7 : Below w6.heap.size w6 w7 := o7.below ((Below.refl _ _).alloc (Nat.le_refl _) _) (Nat.le_refl _)
  have b7 := b6.trans (hb7.mono b6.size)
  have E1_7 := Lib.hid (E1_6.out.keep hb7)
  have E2_7 := Lib.hid (E2_6.out.keep hb7)
  have Y1_7 := Lib.hid (Y1_6.out.keep hb7)
  clear E1_6 E2_6 Y1_6
  have S1_7 := Lib.hid H7
  clear J6 o7 H7
  refine (KS2.out _ (HB0.out.keep b7)).mono ?_
  rintro e w8 ⟨A8, m8, c8, rfl, hY8, hD, hb8⟩
  have b8 := b7.trans (hb8.mono b7.size)
  have E1_8 := Lib.hid (E1_7.out.keep hb8)
  have E2_8 := Lib.hid (E2_7.out.keep hb8)
  have Y1_8 := Lib.hid (Y1_7.out.keep hb8)
  have S1_8 := Lib.hid (S1_7.out.keep hb8 S1_7.out.lt)
  clear E1_7 E2_7 Y1_7 S1_7
  have Y2_8 := Lib.hid hY8
  clear hY8 hD KS2 hb8
  have J8 := newSub w8
  go_wp2_with (first
    | ((with_reducible refine wpList_store_sub rfl (.tmp 10) (.tmp 48) rfl w8.heap.size rfl D.u D.x A8 m8 c8 D.pc D.ps D.sc D.ss HU.out rfl (scells (List.replicate 32 0) 0 none 0 0 0 0 0 0) J8 rfl ?_); intro w9 o9 H9))
  have hb9 : Below w8.heap.size w8 w9 := o9.below ((Below.refl _ _).alloc (Nat.le_refl _) _) (Nat.le_refl _)
  have b9 := b8.trans (hb9.mono b8.size)
  have E1_9 := Lib.hid (E1_8.out.keep hb9)
  have E2_9 := Lib.hid (E2_8.out.keep hb9)
  have Y1_9 := Lib.hid (Y1_8.out.keep hb9)
  have S1_9 := Lib.hid (S1_8.out.keep hb9 S1_8.out.lt)
  have Y2_9 := Lib.hid (Y2_8.out.keep hb9)
  clear E1_8 E2_8 Y1_8 S1_8 Y2_8
  have S2_9 := Lib.hid H9
  clear J8 o9 H9
  refine (sameEntries A4 m4 c4 es4 A5 m5 c5 es5 w9 E1_9.out E2_9.out (HE1.out.trans HE2.out.symm)).mono ?_
  rintro e w10 ⟨rfl, hb10⟩
  have b10 := b9.trans (hb10.mono b9.size)
  have Y1_10 := Lib.hid (Y1_9.out.keep hb10)
  have S1_10 := Lib.hid (S1_9.out.keep hb10 S1_9.out.lt)
  have Y2_10 := Lib.hid (Y2_9.out.keep hb10)
  have S2_10 := Lib.hid (S2_9.out.keep hb10 S2_9.out.lt)
  clear Y1_9 S1_9 Y2_9 S2_9
  clear E1_9 E2_9 hb10
  go_wp2_with (first
    | (go_at_call 14; with_reducible refine (M1.out _).mono ?_; rintro e w' ⟨rfl, rfl⟩)
    | ((refine wpList_load_hasG (by rfl) 43 (.tmp 8) (by rfl) w6.heap.size (by rfl) 43 (scells D.u D.x A6 m6 c6 D.pc D.ps D.sc D.ss) S1_10.out _ Try.underlying43 (by rfl) (by rw [scells_len HU.out]; exact size_sub) ?_))
    | ((refine wpList_load_hasG (by rfl) 43 (.tmp 10) (by rfl) w8.heap.size (by rfl) 43 (scells D.u D.x A8 m8 c8 D.pc D.ps D.sc D.ss) S2_10.out _ Try.underlying43 (by rfl) (by rw [scells_len HU.out]; exact size_sub) ?_)))
  refine (sameSubmission D.u D.x D.pc D.ps D.sc D.ss HU.out A6 m6 c6 A8 m8 c8 D.l w10 Y1_10.out Y2_10.out).mono ?_
  rintro e w11 ⟨rfl, hb11⟩
  have b11 := b10.trans (hb11.mono b10.size)
  clear Y1_10 S1_10 Y2_10 S2_10 hb11
  go_wp2_with (first | (go_at_call 14; with_reducible refine (M2.out _).mono ?_; rintro e w' ⟨rfl, rfl⟩))
  refine (KT1.out _ (HB0.out.keep b11)).mono ?_
  rintro e w12 ⟨Ai12, ni12, ci12, Al12, nl12, cl12, es12, rfl, hI, hL, hd, hok, hb12⟩
  have b12 := b11.trans (hb12.mono b11.size)
  have I1_12 := Lib.hid hI
  have L1_12 := Lib.hid hL
  have HL1 := Lib.hid hd
  clear hI hL hd hok KT1 hb12
  have J12 := newBatch w12
  go_wp2_with (first
    | ((with_reducible refine wpList_store_bat rfl (.tmp 12) (.tmp 75) rfl w12.heap.size rfl T.r T.ch Ai12 ni12 ci12 Al12 nl12 cl12 rfl (bcells 0 0 none 0 0 none 0 0) J12 rfl ?_); intro w13 o13 H13))
  have hb13 : Below w12.heap.size w12 w13 := o13.below ((Below.refl _ _).alloc (Nat.le_refl _) _) (Nat.le_refl _)
  have b13 := b12.trans (hb13.mono b12.size)
  have I1_13 := Lib.hid (I1_12.out.keep hb13)
  have L1_13 := Lib.hid (L1_12.out.keep hb13)
  clear I1_12 L1_12
  have T1_13 := Lib.hid H13
  clear J12 o13 H13
  refine (KT2.out _ (HB0.out.keep b13)).mono ?_
  rintro e w14 ⟨Ai14, ni14, ci14, Al14, nl14, cl14, es14, rfl, hI, hL, hd, hok, hb14⟩
  have b14 := b13.trans (hb14.mono b13.size)
  have I1_14 := Lib.hid (I1_13.out.keep hb14)
  have L1_14 := Lib.hid (L1_13.out.keep hb14)
  have T1_14 := Lib.hid (T1_13.out.keep hb14 T1_13.out.lt)
  clear I1_13 L1_13 T1_13
  have I2_14 := Lib.hid hI
  have L2_14 := Lib.hid hL
  have HL2 := Lib.hid hd
  clear hI hL hd hok KT2 hb14
  have J14 := newBatch w14
  go_wp2_with (first
    | ((with_reducible refine wpList_store_bat rfl (.tmp 14) (.tmp 80) rfl w14.heap.size rfl T.r T.ch Ai14 ni14 ci14 Al14 nl14 cl14 rfl (bcells 0 0 none 0 0 none 0 0) J14 rfl ?_); intro w15 o15 H15))
  have hb15 : Below w14.heap.size w14 w15 := o15.below ((Below.refl _ _).alloc (Nat.le_refl _) _) (Nat.le_refl _)
  have b15 := b14.trans (hb15.mono b14.size)
  have I1_15 := Lib.hid (I1_14.out.keep hb15)
  have L1_15 := Lib.hid (L1_14.out.keep hb15)
  have T1_15 := Lib.hid (T1_14.out.keep hb15 T1_14.out.lt)
  have I2_15 := Lib.hid (I2_14.out.keep hb15)
  have L2_15 := Lib.hid (L2_14.out.keep hb15)
  clear I1_14 L1_14 T1_14 I2_14 L2_14
  have T2_15 := Lib.hid H15
  clear J14 o15 H15
  refine (KN1.out _ (HB0.out.keep b15)).mono ?_
  rintro e w16 ⟨rfl, hb16⟩
  have b16 := b15.trans (hb16.mono b15.size)
  have I1_16 := Lib.hid (I1_15.out.keep hb16)
  have L1_16 := Lib.hid (L1_15.out.keep hb16)
  have T1_16 := Lib.hid (T1_15.out.keep hb16 T1_15.out.lt)
  have I2_16 := Lib.hid (I2_15.out.keep hb16)
  have L2_16 := Lib.hid (L2_15.out.keep hb16)
  have T2_16 := Lib.hid (T2_15.out.keep hb16 T2_15.out.lt)
  clear I1_15 L1_15 T1_15 I2_15 L2_15 T2_15
  clear KN1 hb16
  have J16 := newNote w16
  go_wp2_with (first
    | ((with_reducible refine wpList_store_note rfl (.tmp 16) (.tmp 85) rfl w16.heap.size rfl x y t HTL.out rfl (ncells 0 0 (List.replicate 32 0)) J16 rfl ?_); intro w17 o17 H17))
  have hb17 : Below w16.heap.size w16 w17 := o17.below ((Below.refl _ _).alloc (Nat.le_refl _) _) (Nat.le_refl _)
  have b17 := b16.trans (hb17.mono b16.size)
  have I1_17 := Lib.hid (I1_16.out.keep hb17)
  have L1_17 := Lib.hid (L1_16.out.keep hb17)
  have T1_17 := Lib.hid (T1_16.out.keep hb17 T1_16.out.lt)
  have I2_17 := Lib.hid (I2_16.out.keep hb17)
  have L2_17 := Lib.hid (L2_16.out.keep hb17)
  have T2_17 := Lib.hid (T2_16.out.keep hb17 T2_16.out.lt)
  clear I1_16 L1_16 T1_16 I2_16 L2_16 T2_16
  have N1_17 := Lib.hid H17
  clear J16 o17 H17
  refine (KN2.out _ (HB0.out.keep b17)).mono ?_
  rintro e w18 ⟨rfl, hb18⟩
  have b18 := b17.trans (hb18.mono b17.size)
  have I1_18 := Lib.hid (I1_17.out.keep hb18)
  have L1_18 := Lib.hid (L1_17.out.keep hb18)
  have T1_18 := Lib.hid (T1_17.out.keep hb18 T1_17.out.lt)
  have I2_18 := Lib.hid (I2_17.out.keep hb18)
  have L2_18 := Lib.hid (L2_17.out.keep hb18)
  have T2_18 := Lib.hid (T2_17.out.keep hb18 T2_17.out.lt)
  have N1_18 := Lib.hid (N1_17.out.keep hb18 N1_17.out.lt)
  clear I1_17 L1_17 T1_17 I2_17 L2_17 T2_17 N1_17
  clear KN2 hb18
  have J18 := newNote w18
  have b18z := b18.size
  go_wp2_with (first
    | ((with_reducible refine wpList_store_note rfl (.tmp 18) (.tmp 90) rfl w18.heap.size rfl x y t HTL.out rfl (ncells 0 0 (List.replicate 32 0)) J18 rfl ?_); intro w19 o19 N2_19; have hb19 : Below w18.heap.size w18 w19 := o19.below ((Below.refl _ _).alloc (Nat.le_refl _) _) (Nat.le_refl _); have T1_19 := T1_18.out.keep hb19 T1_18.out.lt; have T2_19 := T2_18.out.keep hb19 T2_18.out.lt)
      | ((with_reducible refine wpList_load_bat rfl (.tmp 12) rfl w12.heap.size rfl T.r T.ch Ai12 ni12 ci12 Al12 nl12 cl12 T1_19 ?_))
    | ((with_reducible refine wpList_load_bat rfl (.tmp 14) rfl w14.heap.size rfl T.r T.ch Ai14 ni14 ci14 Al14 nl14 cl14 T2_19 ?_)))
  have b19 := b18.trans (hb19.mono b18.size)
  have N1_19 := N1_18.out.keep hb19 N1_18.out.lt
  have I1_19 := Lib.hid (I1_18.out.keep hb19)
  have I2_19 := Lib.hid (I2_18.out.keep hb19)
  have L1_19 := Lib.hid (L1_18.out.keep hb19)
  have L2_19 := Lib.hid (L2_18.out.keep hb19)
  clear J18 o19 T1_18 T2_18 T1_19 T2_19 N1_18 I1_18 I2_18 L1_18 L2_18
  refine (show Calls Try.prog 25 #[.agg (bcells T.r T.ch Ai12 ni12 ci12 Al12 nl12 cl12).toArray, .agg (bcells T.r T.ch Ai14 ni14 ci14 Al14 nl14 cl14).toArray] w19 _ from sameBatch T.r T.ch Ai12 ni12 ci12 Al12 nl12 cl12 Ai14 ni14 ci14 Al14 nl14 cl14 T.inner es12 es14 w19 I1_19.out I2_19.out L1_19.out L2_19.out (HL1.out.symm.trans HL2.out)).mono ?_
  rintro e w20 ⟨rfl, hb20⟩
  have b20 := b19.trans (hb20.mono b19.size)
  have N1_20 := N1_19.keep hb20 N1_19.lt
  have N2_20 := N2_19.keep hb20 N2_19.lt
  clear N1_19 N2_19 I1_19 I2_19 L1_19 L2_19 hb20
  go_wp2_with (first
    | (go_at_call 14; with_reducible refine (M3.out _).mono ?_; rintro e w' ⟨rfl, rfl⟩)
    | (go_at_call 14; with_reducible refine (M4.out _).mono ?_; rintro e w' ⟨rfl, rfl⟩)
    | ((refine wpList_load_hasG (by rfl) 67 (.tmp 16) (by rfl) w16.heap.size (by rfl) 67 (ncells x y t) N1_20 _ Try.underlying67 (by rfl) (by rw [ncells_len _ _ _ HTL.out]; exact size_note) ?_))
    | ((refine wpList_load_hasG (by rfl) 67 (.tmp 18) (by rfl) w18.heap.size (by rfl) 67 (ncells x y t) N2_20 _ Try.underlying67 (by rfl) (by rw [ncells_len _ _ _ HTL.out]; exact size_note) ?_)))
  go_ret
  exact ⟨rfl, b20⟩
theorem all (A : Option Addr) (n c : Nat) (b : List UInt8) (w : World) (hb : Bytes w A n c b) :
    Calls Try.prog 6 #[.slice A n c] w fun e w' => e = .returned (.bool true) ∧ Below w.heap.size w w' := by
  by_cases h : 800 < n
  · exact big A n c h w
  · exact small A n c b (by omega) w hb
end codecReadsLaw
end Go.Proofs.Ytiilgkajijnbcaa
