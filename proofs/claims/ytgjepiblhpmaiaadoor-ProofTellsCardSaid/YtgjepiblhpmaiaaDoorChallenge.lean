/-
  Contracts of proof.Challenge and of the reference's.
-/
import Derived.Test.YtgjepiblhpmaiaaDoorChal
namespace Go.Proofs.YtgjepiblhpmaiaaDoor
open Go.ChangeShapes Go.WideShapes Go.ChangeAt Go.RowKit
set_option linter.unusedVariables false
set_option linter.unusedSimpArgs false

theorem chal_take (s : List UInt8) (l : List Nat) (j : Nat) (h : j < l.length) (ps : List Part) (p : Part) (hps : ps.map Part.l = s :: (l.take j).map be64) (hp : p.l = be64 (l.getD j 0)) :
    (ps ++ [p]).map Part.l = s :: (l.take (j + 1)).map be64 := by
  rw [List.map_append, hps, List.take_succ_eq_append_getElem h, List.map_append, List.map_cons, List.map_nil, hp]
  simp [h]
theorem chal_len (s : List UInt8) (l : List Nat) : (partsB (s :: l.map be64)).length = 8 + s.length + 16 * l.length := by
  have h := partsB_nums l
  rw [partsB] at h ⊢
  rw [List.flatMap_cons, List.length_append, List.length_append, be64_len, h]

set_option maxHeartbeats 1000000 in
theorem challenge (s : List UInt8) (A : Option Addr) (n c : Nat) (l : List Nat) (w : World) (hs : s.length ≤ 1099511627776) (hl : Nums w A n c l) (hn : n ≤ 1000000) (hT : Tab w) :
    Calls Tryd.prog 9 #[.string (str s), .slice A n c] w fun e w' => e = .returned (.int .u64 ((chalN s l : Nat) : Int)) ∧ Below w.heap.size w w' := by
  have HL := Lib.hid hl
  have HLL := Lib.hid hl.len
  have hcap := hl.1.2.1
  have hmk := run_makeB (1 + n) (by omega) w
  rw [show ((1 + n : Nat) : Int) = 1 + (n : Int) by omega] at hmk
  have hown1 := own_makeB (1 + n) (by omega) w w.heap.size (Nat.le_refl _)
  have hb1 := (Below.refl w.heap.size w).alloc (Nat.le_refl _) (.cells (List.replicate (1 + n) (Value.slice none 0 0)).toArray 39)
  obtain ⟨w1, hw1⟩ : ∃ u, w.alloc (.cells (List.replicate (1 + n) (Value.slice none 0 0)).toArray 39) = u := ⟨_, rfl⟩
  rw [hw1] at hmk hown1 hb1
  obtain ⟨c2, w2, hconv, hp2, hb2⟩ := run_name s (by unfold maxLen; omega) w1
  have hB1 := hb1.size
  have hbw2 := hb1.trans (hb2.mono hb1.size)
  have hown2 : w2.ownsRow w.heap.size 39 1 (.slice (some ⟨w.heap.size, 0, none⟩) 0 (1 + n)) 0 ([].map Part.val) := hown1.kept (row := none) ⟨hb2.os, hb2.tape, hb2.output, hb2.size, fun k hk _ => hb2.block k hk⟩ (by simp [Value.ownBlock])
  have HLIT := Lib.hid (litB w2 (.slice (some ⟨w1.heap.size, 0, none⟩) s.length c2))
  have hB2 := hbw2.size
  clear hw1 hown1 hb2
  have HO2 := Lib.hid (hown2.alloc (.cells #[.slice (some ⟨w1.heap.size, 0, none⟩) s.length c2] 39))
  have HBS := Lib.hid (show w.heap.size ≤ (w2.alloc (.cells #[.slice (some ⟨w1.heap.size, 0, none⟩) s.length c2] 39)).heap.size from Nat.le_trans hB2 (by simp))
  have hb3 := hbw2.alloc hB2 (.cells #[.slice (some ⟨w1.heap.size, 0, none⟩) s.length c2] 39)
  have hp3 := hp2.keep ((Below.refl w2.heap.size w2).alloc (Nat.le_refl _) (.cells #[.slice (some ⟨w1.heap.size, 0, none⟩) s.length c2] 39))
  clear hb1 hown2 hp2
  go_enter Tryd.func9, Tryd.ntmps9
  go_wp2_with (at_builtin; (refine appB rfl (.tmp 13) (.tmp 16) rfl w.heap.size _ 0 [] rfl HO2.out _ ⟨some ⟨w1.heap.size, 0, none⟩, s.length, c2, s⟩ rfl HLIT.out (by omega) HBS.out ?_); intro v4 w4 hown4 hg4)
  have hb4 := hb3.grown hg4 HBS.out (fun k hk => (HO2.out.lt k hk).1)
  have hp4 := hp3.grown HO2.out hg4
  have HPP := Lib.hid (show ∀ p ∈ ([] ++ [⟨some ⟨w1.heap.size, 0, none⟩, s.length, c2, s⟩] : List Part), PB w4 p from fun p hp => by
    obtain rfl : p = _ := by simpa using hp
    exact hp4)
  have HS := Lib.hid hs
  clear hmk hconv HO2 HBS HLIT hg4 hb3 hp3 hp4 hbw2
  go_loopw [5, 20] (fun v i wr => ∃ (j : Nat) (ps : List Part), j ≤ n ∧ i = .int .i64 j ∧ wr.ownsRow w.heap.size 39 1 v (1 + j) (ps.map Part.val) ∧ Hid (ps.map Part.l = s :: (l.take j).map be64) ∧ Hid (∀ p ∈ ps, PB wr p) ∧ Below w.heap.size w wr) (fun _ i _ => n - (intOf i).toNat)
  case atStart => exact ⟨0, _, Nat.zero_le _, rfl, hown4, Lib.hid rfl, HPP, hb4⟩
  case round =>
    clear hown4 HPP hb4
    obtain ⟨j, ps, hj, rfl, hown, HM, HP, hb⟩ := hrel
    by_cases hlt : j < n
    · obtain ⟨b, off, rfl, hbl, hc⟩ := HL.out.at_ (by omega)
      obtain ⟨x, hx⟩ : ∃ x, l.getD j 0 = x := ⟨_, rfl⟩
      have hcj := (hb.cell (p := ⟨b, off + j, none⟩) hbl).trans (hc j hlt)
      have hx64 : x < 18446744073709551616 := by rw [← hx]; exact HL.out.lt j
      rw [hx] at hcj
      have hjl : j < l.length := by rw [HLL.out]; exact hlt
      have KB := Lib.hid (groupBytes x wr hx64)
      have HX := Lib.hid hx
      have hjn : (j : Int) < (n : Int) := by omega
      clear hx hc
      go_wp2_with fail
      refine (KB.out).mono ?_
      rintro e w6 ⟨v6, rfl, hown6, hb6⟩
      obtain ⟨A6, c6, rfl, hp6⟩ := PB.own hown6
      have hbw6 := hb.trans (hb6.mono hb.size)
      have hB6 := hbw6.size
      have hown6' : w6.ownsRow w.heap.size 39 1 u5 (1 + j) (ps.map Part.val) := hown.kept (row := none) ⟨hb6.os, hb6.tape, hb6.output, hb6.size, fun k hk _ => hb6.block k hk⟩ (by cases hv : u5.ownBlock <;> simp)
      have hP6 : ∀ p ∈ ps, PB w6 p := fun p hp => (HP.out p hp).keep hb6
      have HLIT := Lib.hid (litB w6 (.slice A6 8 c6))
      have HO7 := Lib.hid (hown6'.alloc (.cells #[.slice A6 8 c6] 39))
      have HBS := Lib.hid (show w.heap.size ≤ (w6.alloc (.cells #[.slice A6 8 c6] 39)).heap.size from Nat.le_trans hB6 (by simp))
      have hb7 := hbw6.alloc hB6 (.cells #[.slice A6 8 c6] 39)
      have hk7 := (Below.refl w6.heap.size w6).alloc (Nat.le_refl _) (.cells #[.slice A6 8 c6] 39)
      have HP7 := Lib.hid (show ∀ p ∈ ps ++ [⟨A6, 8, c6, be64 x⟩], PB (w6.alloc (.cells #[.slice A6 8 c6] 39)) p from fun p hp => by
        rcases List.mem_append.1 hp with h | h
        · exact (hP6 p h).keep hk7
        · obtain rfl := List.mem_singleton.1 h
          exact hp6.keep hk7)
      have HN := Lib.hid (show 1 + j ≤ 1048576 by omega)
      clear KB hown6 hown6' hP6 hp6 hk7 hb6 hbw6 hown hb HP
      go_wp2_with (at_builtin; (refine appB rfl (.tmp 24) (.tmp 27) rfl w.heap.size u5 (1 + j) ps rfl HO7.out _ ⟨A6, 8, c6, be64 x⟩ rfl HLIT.out HN.out HBS.out ?_); intro v8 w8 hown8 hg8)
      have hb8 := hb7.grown hg8 HBS.out (fun k hk => (HO7.out.lt k hk).1)
      have HP8 := Lib.hid (fun p hp => (HP7.out p hp).grown HO7.out hg8)
      clear hb7 HP7 HO7 HLIT HBS hg8
      go_roundw
      case rel => exact ⟨j + 1, ps ++ [⟨A6, 8, c6, be64 x⟩], by omega, by go_num, hown8, Lib.hid (chal_take s l j hjl ps _ HM.out (by rw [HX.out])), HP8, hb8⟩
      case measure => simp [intOf]; omega
    · obtain rfl : j = n := by omega
      obtain ⟨A5, c5, rfl, hpa, hpl⟩ := partsAt_own hown HP.out
      have hT5 := hT.keep hb
      have hml : ps.map Part.l = s :: l.map be64 := by rw [HM.out, List.take_of_length_le (Nat.le_of_eq HLL.out)]
      have KP0 := sha.Parts A5 (1 + j) c5 ps wr hpa hT5
      obtain ⟨K, hK⟩ : ∃ K, shaN (partsN ps) = K := ⟨_, rfl⟩
      have hKl : K.length = 32 := by rw [← hK]; exact shaN_len _
      rw [hK] at KP0
      have KP := Lib.hid KP0
      have HKL := Lib.hid hKl
      have HK := Lib.hid (show ofS K = chalN s l by rw [← hK, partsN_B ps hpl, hml]; rfl)
      have hB := hb.size
      clear KP0 hK hKl hml hpl hpa hown HP HM hlt
      go_wp2_with fail
      refine (KP.out).mono ?_
      rintro e w6 ⟨rfl, hb6⟩
      have hbw6 := hb.trans (hb6.mono hb.size)
      have H6 := newKey w6
      have hb7 := newKey_below hbw6 hbw6.size
      have hB6 := hbw6.size
      clear KP hb6
      go_wp2_with ((with_reducible refine wpList_store_key rfl (.tmp 8) (.tmp 31) rfl w6.heap.size rfl K HKL.out rfl zkey H6 zkey_len ?_); intro w8 o8 H8)
      have hb8 := o8.below hb7 hB6
      have KO := Lib.hid (scalarOfB (some ⟨w6.heap.size, 0, none⟩) 32 32 K w8 (H8.bytes 32 HKL.out (by simp [maxLen])))
      clear H8 o8 H6 hb7
      go_wp2_with fail
      refine (KO.out).mono ?_
      rintro e w9 ⟨rfl, rfl⟩
      go_wp2_with fail
      go_ret
      exact ⟨ret_int (by rw [HK.out]), hb8⟩
set_option maxHeartbeats 1000000 in
theorem refChallenge (s : List UInt8) (A : Option Addr) (n c : Nat) (l : List Nat) (w : World) (hs : s.length ≤ 1099511627776) (hl : Nums w A n c l) (hn : n ≤ 1000000) :
    Calls Tryd.prog 10 #[.string (str s), .slice A n c] w fun e w' => e = .returned (.int .u64 ((chalN s l : Nat) : Int)) ∧ Below w.heap.size w w' := by
  have HL := Lib.hid hl
  have HLL := Lib.hid hl.len
  have hcap := hl.1.2.1
  obtain ⟨c2, w2, hconv, hp2, hb2⟩ := run_name s (by unfold maxLen; omega) w
  have hB2 := hb2.size
  have hown4 := own_litB w2 w.heap.size ⟨some ⟨w.heap.size, 0, none⟩, s.length, c2, s⟩ hB2
  have hb4 := hb2.alloc hB2 (.cells #[.slice (some ⟨w.heap.size, 0, none⟩) s.length c2] 39)
  have hp3 := hp2.keep ((Below.refl w2.heap.size w2).alloc (Nat.le_refl _) (.cells #[.slice (some ⟨w.heap.size, 0, none⟩) s.length c2] 39))
  have HPP := Lib.hid (show ∀ p ∈ ([⟨some ⟨w.heap.size, 0, none⟩, s.length, c2, s⟩] : List Part), PB (w2.alloc (.cells #[.slice (some ⟨w.heap.size, 0, none⟩) s.length c2] 39)) p from fun p hp => by
    obtain rfl := List.mem_singleton.1 hp
    exact hp3)
  have HO4 := Lib.hid hown4
  have HS := Lib.hid hs
  clear hb2 hp2 hp3 hown4
  go_enter Tryd.func10, Tryd.ntmps10
  go_wp2_with fail
  clear hconv
  go_loopw [5, 6] (fun v i wr => ∃ (j : Nat) (ps : List Part), j ≤ n ∧ i = .int .i64 j ∧ wr.ownsRow w.heap.size 39 1 v (1 + j) (ps.map Part.val) ∧ Hid (ps.map Part.l = s :: (l.take j).map be64) ∧ Hid (∀ p ∈ ps, PB wr p) ∧ Below w.heap.size w wr) (fun _ i _ => n - (intOf i).toNat)
  case atStart => exact ⟨0, [⟨some ⟨w.heap.size, 0, none⟩, s.length, c2, s⟩], Nat.zero_le _, rfl, HO4.out, Lib.hid rfl, HPP, hb4⟩
  case round =>
    clear HO4 HPP hb4
    obtain ⟨j, ps, hj, rfl, hown, HM, HP, hb⟩ := hrel
    by_cases hlt : j < n
    · obtain ⟨b, off, rfl, hbl, hc⟩ := HL.out.at_ (by omega)
      obtain ⟨x, hx⟩ : ∃ x, l.getD j 0 = x := ⟨_, rfl⟩
      have hcj := (hb.cell (p := ⟨b, off + j, none⟩) hbl).trans (hc j hlt)
      have hx64 : x < 18446744073709551616 := by rw [← hx]; exact HL.out.lt j
      rw [hx] at hcj
      have hjl : j < l.length := by rw [HLL.out]; exact hlt
      have KB := Lib.hid (refBytes x wr hx64)
      have HX := Lib.hid hx
      have hjn : (j : Int) < (n : Int) := by omega
      clear hx hc
      go_wp2_with fail
      refine (KB.out).mono ?_
      rintro e w6 ⟨v6, rfl, hown6, hb6⟩
      obtain ⟨A6, c6, rfl, hp6⟩ := PB.own hown6
      have hbw6 := hb.trans (hb6.mono hb.size)
      have hB6 := hbw6.size
      have hown6' : w6.ownsRow w.heap.size 39 1 u5 (1 + j) (ps.map Part.val) := hown.kept (row := none) ⟨hb6.os, hb6.tape, hb6.output, hb6.size, fun k hk _ => hb6.block k hk⟩ (by cases hv : u5.ownBlock <;> simp)
      have hP6 : ∀ p ∈ ps, PB w6 p := fun p hp => (HP.out p hp).keep hb6
      have HLIT := Lib.hid (litB w6 (.slice A6 8 c6))
      have HO7 := Lib.hid (hown6'.alloc (.cells #[.slice A6 8 c6] 39))
      have HBS := Lib.hid (show w.heap.size ≤ (w6.alloc (.cells #[.slice A6 8 c6] 39)).heap.size from Nat.le_trans hB6 (by simp))
      have hb7 := hbw6.alloc hB6 (.cells #[.slice A6 8 c6] 39)
      have hk7 := (Below.refl w6.heap.size w6).alloc (Nat.le_refl _) (.cells #[.slice A6 8 c6] 39)
      have HP7 := Lib.hid (show ∀ p ∈ ps ++ [⟨A6, 8, c6, be64 x⟩], PB (w6.alloc (.cells #[.slice A6 8 c6] 39)) p from fun p hp => by
        rcases List.mem_append.1 hp with h | h
        · exact (hP6 p h).keep hk7
        · obtain rfl := List.mem_singleton.1 h
          exact hp6.keep hk7)
      have HN := Lib.hid (show 1 + j ≤ 1048576 by omega)
      clear KB hown6 hown6' hP6 hp6 hk7 hb6 hbw6 hown hb HP
      go_wp2_with (at_builtin; (refine appB rfl (.tmp 17) (.tmp 23) rfl w.heap.size u5 (1 + j) ps rfl HO7.out _ ⟨A6, 8, c6, be64 x⟩ rfl HLIT.out HN.out HBS.out ?_); intro v8 w8 hown8 hg8)
      have hb8 := hb7.grown hg8 HBS.out (fun k hk => (HO7.out.lt k hk).1)
      have HP8 := Lib.hid (fun p hp => (HP7.out p hp).grown HO7.out hg8)
      clear hb7 HP7 HO7 HLIT HBS hg8
      go_roundw
      case rel => exact ⟨j + 1, ps ++ [⟨A6, 8, c6, be64 x⟩], by omega, by go_num, hown8, Lib.hid (chal_take s l j hjl ps _ HM.out (by rw [HX.out])), HP8, hb8⟩
      case measure => simp [intOf]; omega
    · obtain rfl : j = n := by omega
      obtain ⟨A5, c5, rfl, hpa, hpl⟩ := partsAt_own hown HP.out
      have hml : ps.map Part.l = s :: l.map be64 := by rw [HM.out, List.take_of_length_le (Nat.le_of_eq HLL.out)]
      have hpn : partsN ps = partsB (s :: l.map be64) := by rw [partsN_B ps hpl, hml]
      have KP0 := refSha.Parts A5 (1 + j) c5 ps wr hpa (by rw [hpn, chal_len, HLL.out]; have := HS.out; omega)
      obtain ⟨K, hK⟩ : ∃ K, shaN (partsN ps) = K := ⟨_, rfl⟩
      have hKl : K.length = 32 := by rw [← hK]; exact shaN_len _
      rw [hK] at KP0
      have KP := Lib.hid KP0
      have HKL := Lib.hid hKl
      have HK := Lib.hid (show ofS K = chalN s l by rw [← hK, hpn]; rfl)
      have hB := hb.size
      clear KP0 hK hKl hml hpl hpa hown HP HM hlt hpn
      go_wp2_with fail
      refine (KP.out).mono ?_
      rintro e w6 ⟨rfl, hb6⟩
      have hbw6 := hb.trans (hb6.mono hb.size)
      have H6 := newKey w6
      have hb7 := newKey_below hbw6 hbw6.size
      have hB6 := hbw6.size
      clear KP hb6
      go_wp2_with ((with_reducible refine wpList_store_key rfl (.tmp 7) (.tmp 26) rfl w6.heap.size rfl K HKL.out rfl zkey H6 zkey_len ?_); intro w8 o8 H8)
      have hb8 := o8.below hb7 hB6
      have KO := Lib.hid (refOfN (some ⟨w6.heap.size, 0, none⟩) 32 32 K w8 (H8.bytes 32 HKL.out (by simp [maxLen])))
      have hB8 := hb8.size
      clear H8 o8 H6 hb7
      go_wp2_with fail
      refine (KO.out).mono ?_
      rintro e w9 ⟨rfl, hb9⟩
      go_wp2_with fail
      go_ret
      exact ⟨ret_int (by rw [HK.out]), hb8.trans (hb9.mono hB8)⟩
end Go.Proofs.YtgjepiblhpmaiaaDoor
