/-
  Contracts of sign's Public, Name, drawFor, challenge, Sign; the spec of chapter 10.
-/
import Derived.Test.YtcdoeiccdmmfkaaDoorPrf
import Derived.Test.YtcdoeiccdmmfkaaDoorMacs
namespace Go.Proofs.YtcdoeiccdmmfkaaDoor
open Go.ChangeShapes Go.WideShapes Go.ChangeAt Go.RowKit
set_option linter.unusedVariables false
set_option linter.unusedSimpArgs false

/-! ### The spec -/
def kSign : List UInt8 := [115, 105, 103, 110]
/-- The challenge of a public key, of what was drawn and of bytes. -/
def signC (x t : Nat) (b : List UInt8) : Nat := ofS (shaN (partsB [kSign, be64 x, be64 t, b]))
theorem signC_lt (x t : Nat) (b : List UInt8) : signC x t b < 2305843009213693950 := ofS_lt _
def drawS (s : Nat) (b : List UInt8) : Nat := ofS (macN (be64 s) b)
theorem drawS_lt (s : Nat) (b : List UInt8) : drawS s b < 2305843009213693950 := ofS_lt _
def nameN (x : Nat) : List UInt8 := shaN (be64 x)
theorem nameN_len (x : Nat) : (nameN x).length = 32 := shaN_len _
def okSign (x : Nat) (b : List UInt8) (c s : Nat) : Prop := rightN x ∧ smallN c s ∧ c = signC x (backN 37 x c s) b
instance (x : Nat) (b : List UInt8) (c s : Nat) : Decidable (okSign x b c s) := inferInstanceAs (Decidable (_ ∧ _))
theorem rightN_37 : rightN 37 := by decide
theorem sign_ok {s d x t c r : Nat} {b : List UInt8} (hx : timesN 37 s = x) (ht : timesN 37 d = t) (hc : signC x t b = c) (hr : answerS c s d = r) : okSign x b c r := by
  subst hx ht hc hr
  exact ⟨rightN_times rightN_37 s, ⟨signC_lt _ _ _, answerS_lt _ _ _⟩, by rw [backN, answerS, timesN_back rightN_37]⟩
/-- A literal is a row. -/
theorem litRow (w : World) (t : TypeId) (vs : List Value) (n : Nat) (h : vs.length = n) (hm : n ≤ maxLen) : Row (w.alloc (.cells vs.toArray t)) (some ⟨w.heap.size, 0, none⟩) n n vs := by
  have := (Has.new w t vs).row 0 n n (by omega) (Nat.le_refl _) hm
  rw [List.drop_zero, List.take_of_length_le (by omega)] at this
  exact this
theorem signParts_len (x t : Nat) (b : List UInt8) : (partsB [kSign, be64 x, be64 t, b]).length = 52 + b.length := by
  simp only [partsB, List.flatMap_cons, List.flatMap_nil, List.length_append, be64_len, List.length_nil, kSign, List.length_cons]
  omega

theorem signPublic' {s x : Nat} (h : timesN 37 s = x) (hs : s < 18446744073709551616) (w : World) :
    Calls Tryd.prog 9 #[.int .u64 (s : Int)] w fun e w' => e = .returned (.int .u64 (x : Int)) ∧ w = w' := by
  have C1 := Lib.hid (fun w => groupBase' h hs rfl w)
  clear h
  go_enter Tryd.func9, Tryd.ntmps9
  go_wp2_with fail
  refine (C1.out _).mono ?_
  rintro e w' ⟨rfl, rfl⟩
  go_wp2_with fail
  go_ret
  exact ⟨rfl, rfl⟩
theorem signName (x : Nat) (w : World) (hx : x < 18446744073709551616) (hT : Tab w) :
    Calls Tryd.prog 12 #[.int .u64 (x : Int)] w fun e w' => e = .returned (.agg ((nameN x).map bv).toArray) ∧ Below w.heap.size w w' := by
  have HR1 := newKey w
  have hb1 := newKey_below (Below.refl w.heap.size w) (Nat.le_refl _)
  obtain ⟨K, hK⟩ : ∃ K, nameN x = K := ⟨_, rfl⟩
  have HK := Lib.hid (And.intro hK (show K.length = 32 by rw [← hK]; exact nameN_len _))
  rw [hK]
  clear hK
  go_enter Tryd.func12, Tryd.ntmps12
  go_wp2_with fail
  refine (groupBytes x _ hx).mono ?_
  rintro e w2 ⟨v2, rfl, hown2, hb2⟩
  obtain ⟨A2, c2, rfl, hr2⟩ := Row.own hown2
  have HR2 := HR1.keep hb2 HR1.lt
  have hbw2 := hb1.trans (hb2.mono hb1.size)
  have KS0 := sha.Sum A2 8 c2 (be64 x) w2 hr2 (hT.keep hbw2)
  rw [show shaN (be64 x) = K from HK.out.1] at KS0
  have KS := Lib.hid KS0
  clear KS0 hown2 hr2 hb2 HR1 hb1
  go_wp2_with fail
  refine (KS.out).mono ?_
  rintro e w3 ⟨rfl, hb3⟩
  have HR3 := HR2.keep hb3 HR2.lt
  have hb3' := hbw2.trans (hb3.mono hbw2.size)
  clear KS HR2 hb3 hbw2
  go_wp2_with ((with_reducible refine wpList_store_key rfl (.tmp 2) (.tmp 5) rfl w.heap.size rfl K HK.out.2 rfl zkey HR3 zkey_len ?_); intro w4 o4 H4)
  refine ret_key Tryd.results12 w.heap.size ?_ K HK.out.2 H4 ?_ ⟨rfl, o4.below hb3' (Nat.le_refl _)⟩
  · rfl
  · rfl
set_option maxHeartbeats 1000000 in
theorem drawFor' {s d : Nat} {b : List UInt8} (h : drawS s b = d) (hs : s < 18446744073709551616) (A : Option Addr) (n c : Nat) (w : World) (hA : Bytes w A n c b) (hn : n ≤ 1099511627776) (hT : Tab w) :
    Calls Tryd.prog 16 #[.int .u64 (s : Int), .slice A n c] w fun e w' => e = .returned (.int .u64 (d : Int)) ∧ Below w.heap.size w w' := by
  obtain ⟨K, hK⟩ : ∃ K, macN (be64 s) b = K := ⟨_, rfl⟩
  have HK := Lib.hid (show macN (be64 s) b = K ∧ K.length = 32 ∧ ofS K = d from ⟨hK, by rw [← hK]; exact macN_len _ _, by rw [← hK]; exact h⟩)
  have HA := Lib.hid hA
  have KP := Lib.hid (wordsPut.put64 none 0 0 [] s w (Row.nil w) (by omega))
  clear h hK hA
  go_enter Tryd.func16, Tryd.ntmps16
  go_wp2_with fail
  refine (KP.out).mono ?_
  rintro e w2 ⟨v2, rfl, hown2, hb2⟩
  rw [Nat.zero_add, List.nil_append] at hown2
  obtain ⟨A2, c2, rfl, hr2⟩ := Row.own hown2
  have KM0 := mac.Of A2 8 c2 (be64 s) A n c b w2 hr2 (HA.out.keep hb2) (by omega) (hT.keep hb2)
  rw [HK.out.1] at KM0
  have KM := Lib.hid KM0
  clear KM0 hown2 hr2 KP
  go_wp2_with fail
  refine (KM.out).mono ?_
  rintro e w3 ⟨rfl, hb3⟩
  have hbw3 := hb2.trans (hb3.mono hb2.size)
  have H3 := newKey w3
  have hb4 := newKey_below hbw3 hbw3.size
  have hB3 := hbw3.size
  clear KM hb3 hb2
  go_wp2_with ((with_reducible refine wpList_store_key rfl (.tmp 5) (.tmp 9) rfl w3.heap.size rfl K HK.out.2.1 rfl zkey H3 zkey_len ?_); intro w5 o5 H5)
  have hb5 := o5.below hb4 hB3
  have KO := Lib.hid (scalarOfB (some ⟨w3.heap.size, 0, none⟩) 32 32 K w5 (H5.bytes 32 HK.out.2.1 (by simp [maxLen])))
  clear H5 o5 H3 hb4
  go_wp2_with fail
  refine (KO.out).mono ?_
  rintro e w6 ⟨rfl, rfl⟩
  go_wp2_with fail
  go_ret
  exact ⟨ret_int (by rw [HK.out.2.2]), hb5⟩
set_option maxHeartbeats 1000000 in
theorem signChallenge' {x t q : Nat} {b : List UInt8} (h : signC x t b = q) (hx : x < 18446744073709551616) (ht : t < 18446744073709551616) (A : Option Addr) (n c : Nat) (w : World) (hA : Bytes w A n c b) (hT : Tab w) :
    Calls Tryd.prog 17 #[.int .u64 (x : Int), .int .u64 (t : Int), .slice A n c] w fun e w' => e = .returned (.int .u64 (q : Int)) ∧ Below w.heap.size w w' := by
  obtain ⟨K, hK⟩ : ∃ K, shaN (partsB [kSign, be64 x, be64 t, b]) = K := ⟨_, rfl⟩
  have HK := Lib.hid (show shaN (partsB [kSign, be64 x, be64 t, b]) = K ∧ K.length = 32 ∧ ofS K = q from ⟨hK, by rw [← hK]; exact shaN_len _, by rw [← hK]; exact h⟩)
  have HA := Lib.hid hA
  have hb1 := (Below.refl w.heap.size w).alloc (Nat.le_refl _) (.cells (kSign.map bv).toArray 5 (4, 5))
  have HL1 := Bytes.marked w kSign (by decide) (4, 5)
  have hconv := Lib.run_convert_bytes_const (P := Tryd.prog) w 23 5 #[.int .u8 115, .int .u8 105, .int .u8 103, .int .u8 110] 4 4 Tryd.underlying23 Tryd.underlying5
  clear h hK hA
  go_enter Tryd.func17, Tryd.ntmps17
  go_wp2_with fail
  clear hconv
  change Calls _ _ _ (w.alloc (.cells (kSign.map bv).toArray 5 (4, 5))) _
  generalize (w.alloc (.cells (kSign.map bv).toArray 5 (4, 5))) = w1 at *
  refine (groupBytes x w1 hx).mono ?_
  rintro e w2 ⟨v2, rfl, hown2, hb2⟩
  obtain ⟨A2, c2, rfl, hr2⟩ := Row.own hown2
  have hbw2 := hb1.trans (hb2.mono hb1.size)
  have HL2 := HL1.keep hb2
  clear hown2 HL1 hb1 hb2
  go_wp2_with fail
  refine (groupBytes t w2 ht).mono ?_
  rintro e w3 ⟨v3, rfl, hown3, hb3⟩
  obtain ⟨A3, c3, rfl, hr3⟩ := Row.own hown3
  have hbw3 := hbw2.trans (hb3.mono hbw2.size)
  have HL3 := HL2.keep hb3
  have hr2' := hr2.keep hb3
  have hA3 := HA.out.keep hbw3
  obtain ⟨ps, hps⟩ : ∃ ps : List Part, ps = [⟨some ⟨w.heap.size, 0, none⟩, 4, 4, kSign⟩, ⟨A2, 8, c2, be64 x⟩, ⟨A3, 8, c3, be64 t⟩, ⟨A, n, c, b⟩] := ⟨_, rfl⟩
  have hk := (Below.refl w3.heap.size w3).alloc (Nat.le_refl _) (.cells (ps.map Part.val).toArray 23)
  have hPA : PartsAt (w3.alloc (.cells (ps.map Part.val).toArray 23)) (some ⟨w3.heap.size, 0, none⟩) 4 4 ps := by
    refine ⟨litRow w3 _ _ 4 (by rw [hps]; rfl) (by decide), fun p hp => ?_⟩
    rw [hps] at hp
    simp only [List.mem_cons, List.not_mem_nil, or_false] at hp
    rcases hp with rfl | rfl | rfl | rfl
    · exact HL3.keep hk
    · exact hr2'.keep hk
    · exact hr3.keep hk
    · exact hA3.keep hk
  have hpl : partsN ps = partsB [kSign, be64 x, be64 t, b] := by
    rw [partsN_B ps (fun p hp => (hPA.2 p hp).len), hps]
    rfl
  have hb4 := hbw3.alloc hbw3.size (.cells (ps.map Part.val).toArray 23)
  have KP0 := sha.Parts _ 4 4 ps _ hPA (hT.keep hb4)
  rw [hpl, HK.out.1] at KP0
  have KP := Lib.hid (show Calls Tryd.prog 40 #[.slice (some ⟨w3.heap.size, 0, none⟩) 4 4] (w3.alloc (.cells #[.slice (some ⟨w.heap.size, 0, none⟩) 4 4, .slice A2 8 c2, .slice A3 8 c3, .slice A n c] 23)) (fun e w' => e = .returned (.agg (K.map bv).toArray) ∧ Below w.heap.size w w') from by
    rw [hps] at KP0 hb4
    exact KP0.mono fun e w' h => ⟨h.1, hb4.trans (h.2.mono hb4.size)⟩)
  clear KP0 hpl hPA hk hps hb4 hA3 hr2' HL3 hr3 hr2 hown3 HL2 hb3 hbw3 hbw2
  go_wp2_with fail
  refine (KP.out).mono ?_
  rintro e w5 ⟨rfl, hb5⟩
  have H5 := newKey w5
  have hb6 := newKey_below hb5 hb5.size
  have hB5 := hb5.size
  clear KP
  go_wp2_with ((with_reducible refine wpList_store_key rfl (.tmp 7) (.tmp 16) rfl w5.heap.size rfl K HK.out.2.1 rfl zkey H5 zkey_len ?_); intro w7 o7 H7)
  have hb7 := o7.below hb6 hB5
  have KO := Lib.hid (scalarOfB (some ⟨w5.heap.size, 0, none⟩) 32 32 K w7 (H7.bytes 32 HK.out.2.1 (by simp [maxLen])))
  clear H7 o7 H5 hb6
  go_wp2_with fail
  refine (KO.out).mono ?_
  rintro e w8 ⟨rfl, rfl⟩
  go_wp2_with fail
  go_ret
  exact ⟨ret_int (by rw [HK.out.2.2]), hb7⟩
set_option maxHeartbeats 1000000 in
theorem sign' {s d x t q r : Nat} {b : List UInt8} (hd : drawS s b = d) (hx : timesN 37 s = x) (ht : timesN 37 d = t) (hq : signC x t b = q) (hr : answerS q s d = r) (hs : s < 18446744073709551616) (A : Option Addr) (n c : Nat) (w : World) (hA : Bytes w A n c b) (hn : n ≤ 1099511627776) (hT : Tab w) :
    Calls Tryd.prog 8 #[.int .u64 (s : Int), .slice A n c] w fun e w' => e = .returned (.agg #[.int .u64 (q : Int), .int .u64 (r : Int)]) ∧ Below w.heap.size w w' := by
  have bd : d < 2305843009213693950 := by rw [← hd]; exact drawS_lt _ _
  have bx : x < 2305843009213693951 := by rw [← hx]; exact timesN_lt _ _
  have bt : t < 2305843009213693951 := by rw [← ht]; exact timesN_lt _ _
  have bq : q < 2305843009213693950 := by rw [← hq]; exact signC_lt _ _ _
  obtain ⟨m, hm⟩ : ∃ m, mulS q s = m := ⟨_, rfl⟩
  have bm : m < 2305843009213693950 := by rw [← hm]; exact mulS_lt _ _
  have HA := Lib.hid hA
  have C1 := Lib.hid (fun w (hA : Bytes w A n c b) (hT : Tab w) => drawFor' hd hs A n c w hA hn hT)
  have C2 := Lib.hid (fun w => signPublic' hx hs w)
  have C3 := Lib.hid (fun w => groupBase' ht (by omega) rfl w)
  have C4 := Lib.hid (fun w (hA : Bytes w A n c b) (hT : Tab w) => signChallenge' hq (by omega) (by omega) A n c w hA hT)
  have C5 := Lib.hid (fun w => scalarMul' hm (by omega) hs rfl rfl w)
  have C6 := Lib.hid (fun w => scalarSub' (show subS d m = r by rw [← hm]; exact hr) (by omega) (by omega) rfl rfl w)
  have H1 := newProof0 w
  have hb1 := (Below.refl w.heap.size w).alloc (Nat.le_refl _) (.cells #[.int .u64 0, .int .u64 0] 26)
  clear hd hx ht hq hr hm hA hn
  go_enter Tryd.func8, Tryd.ntmps8
  go_wp2_with fail
  refine (C1.out _ (HA.out.keep hb1) (hT.keep hb1)).mono ?_
  rintro e w2 ⟨rfl, hb2⟩
  have H2 := H1.keep hb2 H1.lt
  have hbw2 := hb1.trans (hb2.mono hb1.size)
  clear H1 hb1 hb2 C1
  go_wp2_with fail
  refine (C2.out _).mono ?_
  rintro e w' ⟨rfl, rfl⟩
  go_wp2_with fail
  refine (C3.out _).mono ?_
  rintro e w' ⟨rfl, rfl⟩
  go_wp2_with fail
  refine (C4.out _ (HA.out.keep hbw2) (hT.keep hbw2)).mono ?_
  rintro e w3 ⟨rfl, hb3⟩
  have H3 := H2.keep hb3 H2.lt
  have hbw3 := hbw2.trans (hb3.mono hbw2.size)
  clear H2 hb3 hbw2 C2 C3 C4
  go_wp2_with fail
  refine (C5.out _).mono ?_
  rintro e w' ⟨rfl, rfl⟩
  go_wp2_with fail
  refine (C6.out _).mono ?_
  rintro e w' ⟨rfl, rfl⟩
  go_wp2_with ((with_reducible refine wpList_store_proof rfl (.tmp 4) (.tmp 22) rfl w.heap.size rfl q r rfl 0 0 H3 ?_); intro w4 o4 H4)
  exact ret_proof Tryd.results8 w.heap.size rfl q r H4 rfl ⟨rfl, o4.below hbw3 (Nat.le_refl _)⟩
end Go.Proofs.YtcdoeiccdmmfkaaDoor
