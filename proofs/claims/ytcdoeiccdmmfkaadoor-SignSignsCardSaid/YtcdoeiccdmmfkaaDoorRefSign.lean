/-
  Contracts of the reference's Name, signed, Sign (chapter 10).
-/
import Derived.Test.YtcdoeiccdmmfkaaDoorSign
import Derived.Test.YtcdoeiccdmmfkaaDoorRefMac
namespace Go.Proofs.YtcdoeiccdmmfkaaDoor
open Go.ChangeShapes Go.WideShapes Go.ChangeAt Go.RowKit
set_option linter.unusedVariables false
set_option linter.unusedSimpArgs false

theorem refName (x : Nat) (w : World) (hx : x < 18446744073709551616) :
    Calls Tryd.prog 13 #[.int .u64 (x : Int)] w fun e w' => e = .returned (.agg ((nameN x).map bv).toArray) ∧ Below w.heap.size w w' := by
  have HR1 := newKey w
  have hb1 := newKey_below (Below.refl w.heap.size w) (Nat.le_refl _)
  obtain ⟨K, hK⟩ : ∃ K, nameN x = K := ⟨_, rfl⟩
  have HK := Lib.hid (And.intro hK (show K.length = 32 by rw [← hK]; exact nameN_len _))
  rw [hK]
  clear hK
  go_enter Tryd.func13, Tryd.ntmps13
  go_wp2_with fail
  refine (refBytes x _ hx).mono ?_
  rintro e w2 ⟨v2, rfl, hown2, hb2⟩
  obtain ⟨A2, c2, rfl, hr2⟩ := Row.own hown2
  have HR2 := HR1.keep hb2 HR1.lt
  have hbw2 := hb1.trans (hb2.mono hb1.size)
  have KS0 := refSha.Sha A2 8 c2 (be64 x) w2 hr2 (by omega)
  rw [show shaN (be64 x) = K from HK.out.1] at KS0
  have KS := Lib.hid KS0
  clear KS0 hown2 hr2 hb2 HR1 hb1
  go_wp2_with fail
  refine (KS.out).mono ?_
  rintro e w3 ⟨rfl, hb3⟩
  have HR3 := HR2.keep hb3 HR2.lt
  have hb3' := hbw2.trans (hb3.mono hbw2.size)
  clear KS HR2 hb3 hbw2
  go_wp2_with ((with_reducible refine wpList_store_key rfl (.tmp 2) (.tmp 5) rfl w.heap.size rfl K HK.out.2 rfl zkey HR3 zkey_len ?_); intro w4 o4 H4)
  refine ret_key Tryd.results13 w.heap.size ?_ K HK.out.2 H4 ?_ ⟨rfl, o4.below hb3' (Nat.le_refl _)⟩
  · rfl
  · rfl
set_option maxHeartbeats 1000000 in
theorem refSigned' {x t q : Nat} {b : List UInt8} (h : signC x t b = q) (hx : x < 18446744073709551616) (ht : t < 18446744073709551616) (A : Option Addr) (n c : Nat) (w : World) (hA : Bytes w A n c b) (hn : n ≤ 1099511627776) :
    Calls Tryd.prog 24 #[.int .u64 (x : Int), .int .u64 (t : Int), .slice A n c] w fun e w' => e = .returned (.int .u64 (q : Int)) ∧ Below w.heap.size w w' := by
  obtain ⟨K, hK⟩ : ∃ K, shaN (partsB [kSign, be64 x, be64 t, b]) = K := ⟨_, rfl⟩
  have HK := Lib.hid (show shaN (partsB [kSign, be64 x, be64 t, b]) = K ∧ K.length = 32 ∧ ofS K = q from ⟨hK, by rw [← hK]; exact shaN_len _, by rw [← hK]; exact h⟩)
  have HA := Lib.hid hA
  have hb1 := (Below.refl w.heap.size w).alloc (Nat.le_refl _) (.cells (kSign.map bv).toArray 5 (4, 5))
  have HL1 := Bytes.marked w kSign (by decide) (4, 5)
  have hconv := Lib.run_convert_bytes_const (P := Tryd.prog) w 23 5 #[.int .u8 115, .int .u8 105, .int .u8 103, .int .u8 110] 4 4 Tryd.underlying23 Tryd.underlying5
  clear h hK hA
  go_enter Tryd.func24, Tryd.ntmps24
  go_wp2_with fail
  clear hconv
  change Calls _ _ _ (w.alloc (.cells (kSign.map bv).toArray 5 (4, 5))) _
  generalize (w.alloc (.cells (kSign.map bv).toArray 5 (4, 5))) = w1 at *
  refine (refBytes x w1 hx).mono ?_
  rintro e w2 ⟨v2, rfl, hown2, hb2⟩
  obtain ⟨A2, c2, rfl, hr2⟩ := Row.own hown2
  have hbw2 := hb1.trans (hb2.mono hb1.size)
  have HL2 := HL1.keep hb2
  clear hown2 HL1 hb1 hb2
  go_wp2_with fail
  refine (refBytes t w2 ht).mono ?_
  rintro e w3 ⟨v3, rfl, hown3, hb3⟩
  obtain ⟨A3, c3, rfl, hr3⟩ := Row.own hown3
  have hbw3 := hbw2.trans (hb3.mono hbw2.size)
  have HL3 := HL2.keep hb3
  have hr2' := hr2.keep hb3
  have hA3 := HA.out.keep hbw3
  obtain ⟨ps, hps⟩ : ∃ ps : List Part, ps = [⟨some ⟨w.heap.size, 0, none⟩, 4, 4, kSign⟩, ⟨A2, 8, c2, be64 x⟩, ⟨A3, 8, c3, be64 t⟩, ⟨A, n, c, b⟩] := ⟨_, rfl⟩
  have hk := (Below.refl w3.heap.size w3).alloc (Nat.le_refl _) (.cells (ps.map Part.val).toArray 23)
  have hPA : PartsAt (w3.alloc (.cells (ps.map Part.val).toArray 23)) (some ⟨w3.heap.size, 0, none⟩) 4 4 ps := by
    refine ⟨litRow w3 _ _ 4 (by rw [hps]; rfl) (by decide), fun p hp => ?_⟩
    rw [hps] at hp
    simp only [List.mem_cons, List.not_mem_nil, or_false] at hp
    rcases hp with rfl | rfl | rfl | rfl
    · exact HL3.keep hk
    · exact hr2'.keep hk
    · exact hr3.keep hk
    · exact hA3.keep hk
  have hpl : partsN ps = partsB [kSign, be64 x, be64 t, b] := by
    rw [partsN_B ps (fun p hp => (hPA.2 p hp).len), hps]
    rfl
  have hb4 := hbw3.alloc hbw3.size (.cells (ps.map Part.val).toArray 23)
  have KP0 := refSha.Parts _ 4 4 ps _ hPA (by rw [hpl, signParts_len]; have := HA.out.len; omega)
  rw [hpl, HK.out.1] at KP0
  have KP := Lib.hid (show Calls Tryd.prog 47 #[.slice (some ⟨w3.heap.size, 0, none⟩) 4 4] (w3.alloc (.cells #[.slice (some ⟨w.heap.size, 0, none⟩) 4 4, .slice A2 8 c2, .slice A3 8 c3, .slice A n c] 23)) (fun e w' => e = .returned (.agg (K.map bv).toArray) ∧ Below w.heap.size w w') from by
    rw [hps] at KP0 hb4
    exact KP0.mono fun e w' h => ⟨h.1, hb4.trans (h.2.mono hb4.size)⟩)
  clear KP0 hpl hPA hk hps hb4 hA3 hr2' HL3 hr3 hr2 hown3 HL2 hb3 hbw3 hbw2
  go_wp2_with fail
  refine (KP.out).mono ?_
  rintro e w5 ⟨rfl, hb5⟩
  have H5 := newKey w5
  have hb6 := newKey_below hb5 hb5.size
  have hB5 := hb5.size
  clear KP
  go_wp2_with ((with_reducible refine wpList_store_key rfl (.tmp 7) (.tmp 16) rfl w5.heap.size rfl K HK.out.2.1 rfl zkey H5 zkey_len ?_); intro w7 o7 H7)
  have hb7 := o7.below hb6 hB5
  have KO := Lib.hid (refOfN (some ⟨w5.heap.size, 0, none⟩) 32 32 K w7 (H7.bytes 32 HK.out.2.1 (by simp [maxLen])))
  clear H7 o7 H5 hb6
  go_wp2_with fail
  refine (KO.out).mono ?_
  rintro e w8 ⟨rfl, hb8⟩
  go_wp2_with fail
  go_ret
  exact ⟨ret_int (by rw [HK.out.2.2]), hb7.trans (hb8.mono hb7.size)⟩
set_option maxHeartbeats 1000000 in
theorem refSign' {s d x t q r : Nat} {b : List UInt8} (hd : drawS s b = d) (hx : timesN 37 s = x) (ht : timesN 37 d = t) (hq : signC x t b = q) (hr : answerS q s d = r) (hs : s < 18446744073709551616) (A : Option Addr) (n c : Nat) (w : World) (hA : Bytes w A n c b) (hn : n ≤ 1099511627776) :
    Calls Tryd.prog 10 #[.int .u64 (s : Int), .slice A n c] w fun e w' => e = .returned (.agg #[.int .u64 (q : Int), .int .u64 (r : Int)]) ∧ Below w.heap.size w w' := by
  have bd : d < 2305843009213693950 := by rw [← hd]; exact drawS_lt _ _
  have bx : x < 2305843009213693951 := by rw [← hx]; exact timesN_lt _ _
  have bt : t < 2305843009213693951 := by rw [← ht]; exact timesN_lt _ _
  have bq : q < 2305843009213693950 := by rw [← hq]; exact signC_lt _ _ _
  obtain ⟨K, hK⟩ : ∃ K, macN (be64 s) b = K := ⟨_, rfl⟩
  have HK := Lib.hid (show macN (be64 s) b = K ∧ K.length = 32 ∧ ofS K = d from ⟨hK, by rw [← hK]; exact macN_len _ _, by rw [← hK]; exact hd⟩)
  have HA := Lib.hid hA
  have C2 := Lib.hid (fun w => refBase' hx hs rfl w)
  have C3 := Lib.hid (fun w => refBase' ht (by omega) rfl w)
  have C4 := Lib.hid (fun w (hA : Bytes w A n c b) => refSigned' hq (by omega) (by omega) A n c w hA hn)
  have C5 := Lib.hid (fun w => refAnswer' hr (by omega) hs (by omega) w)
  have H1 := newProof0 w
  have hb1 := (Below.refl w.heap.size w).alloc (Nat.le_refl _) (.cells #[.int .u64 0, .int .u64 0] 26)
  clear hd hx ht hq hr hA hK
  go_enter Tryd.func10, Tryd.ntmps10
  go_wp2_with fail
  refine (refPut.put64 none 0 0 [] s _ (Row.nil _) (by omega) hs).mono ?_
  rintro e w2 ⟨v2, rfl, hown2, hb2⟩
  rw [Nat.zero_add, List.nil_append] at hown2
  obtain ⟨A2, c2, rfl, hr2⟩ := Row.own hown2
  have H2 := H1.keep hb2 H1.lt
  have hbw2 := hb1.trans (hb2.mono hb1.size)
  have KM0 := refMac.Mac A2 8 c2 (be64 s) A n c b w2 hr2 (HA.out.keep hbw2) (by omega) (by omega)
  rw [HK.out.1] at KM0
  have KM := Lib.hid KM0
  clear KM0 hown2 hr2 H1 hb1 hb2
  go_wp2_with fail
  refine (KM.out).mono ?_
  rintro e w3 ⟨rfl, hb3⟩
  have H3 := H2.keep hb3 H2.lt
  have hbw3 := hbw2.trans (hb3.mono hbw2.size)
  have J3 := newKey w3
  have H4 := H3.alloc (.cells #[.int .u8 0, .int .u8 0, .int .u8 0, .int .u8 0, .int .u8 0, .int .u8 0, .int .u8 0, .int .u8 0, .int .u8 0, .int .u8 0, .int .u8 0, .int .u8 0, .int .u8 0, .int .u8 0, .int .u8 0, .int .u8 0, .int .u8 0, .int .u8 0, .int .u8 0, .int .u8 0, .int .u8 0, .int .u8 0, .int .u8 0, .int .u8 0, .int .u8 0, .int .u8 0, .int .u8 0, .int .u8 0, .int .u8 0, .int .u8 0, .int .u8 0, .int .u8 0] 30)
  have hb4 := newKey_below hbw3 hbw3.size
  have hB3 := hbw3.size
  have hg := H3.lt
  clear KM hb3 H2 hbw2 H3
  go_wp2_with ((with_reducible refine wpList_store_key rfl (.tmp 5) (.tmp 11) rfl w3.heap.size rfl K HK.out.2.1 rfl zkey J3 zkey_len ?_); intro w5 o5 J5)
  have hb5 := o5.below hb4 hB3
  have H5 := H4.only o5 (by omega)
  have KO := Lib.hid (refOfN (some ⟨w3.heap.size, 0, none⟩) 32 32 K w5 (J5.bytes 32 HK.out.2.1 (by simp [maxLen])))
  rw [HK.out.2.2] at KO
  clear J5 o5 J3 hb4 H4
  go_wp2_with fail
  refine (KO.out).mono ?_
  rintro e w6 ⟨rfl, hb6⟩
  have H6 := H5.keep hb6 H5.lt
  have hbw6 := hb5.trans (hb6.mono hb5.size)
  clear KO hb6 H5 hb5
  go_wp2_with fail
  refine (C2.out _).mono ?_
  rintro e w' ⟨rfl, rfl⟩
  go_wp2_with fail
  refine (C3.out _).mono ?_
  rintro e w' ⟨rfl, rfl⟩
  go_wp2_with fail
  refine (C4.out _ (HA.out.keep hbw6)).mono ?_
  rintro e w7 ⟨rfl, hb7⟩
  have H7 := H6.keep hb7 H6.lt
  have hbw7 := hbw6.trans (hb7.mono hbw6.size)
  clear H6 hb7 hbw6 C2 C3 C4
  go_wp2_with fail
  refine (C5.out _).mono ?_
  rintro e w' ⟨rfl, rfl⟩
  go_wp2_with ((with_reducible refine wpList_store_proof rfl (.tmp 4) (.tmp 25) rfl w.heap.size rfl q r rfl 0 0 H7 ?_); intro w8 o8 H8)
  exact ret_proof Tryd.results10 w.heap.size rfl q r H8 rfl ⟨rfl, o8.below hbw7 (Nat.le_refl _)⟩
end Go.Proofs.YtcdoeiccdmmfkaaDoor
