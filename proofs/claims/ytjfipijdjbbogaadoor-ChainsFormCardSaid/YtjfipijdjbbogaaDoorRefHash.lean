/-
  Several texts in one.
-/
import Derived.Test.YtjfipijdjbbogaaDoorRefMixed
import Derived.Test.YtjfipijdjbbogaaDoorRefWritten
import Derived.Test.YtjfipijdjbbogaaDoorLow
import Derived.Test.YtjfipijdjbbogaaDoorShaB
import Derived.BigRegion
import Derived.Deep.RegionHeldLaw
/-
  Contracts of the reference's Written and Sha.
-/
namespace Go.Proofs.YtjfipijdjbbogaaDoor
open Go.ChangeShapes Go.WideShapes Go.ChangeAt Go.RowKit
set_option linter.unusedVariables false
set_option linter.unusedSimpArgs false

theorem words_set (ws : List Nat) (hw : ws.length = 16) (i : Nat) (h : i < 16) (v : Value) (hv : v = uv (ws.getD i 0)) : ((ws.take i ++ List.replicate (64 - i) 0).map uv).set i v = (ws.take (i + 1) ++ List.replicate (64 - (i + 1)) 0).map uv := by
  have h1 : (ws.take i).length = i := by rw [List.length_take]; omega
  have h2 : i < ws.length := by omega
  subst hv
  rw [show 64 - i = (64 - (i + 1)) + 1 by omega, List.replicate_succ, List.map_append, List.map_cons, List.set_append_right _ _ (by simp; omega), List.length_map, h1, Nat.sub_self, List.set_cons_zero, List.take_succ_eq_append_getElem h2]
  have e : ws.getD i 0 = ws[i] := by simp [h2]
  simp only [List.map_append, List.map_cons, List.map_nil, List.append_assoc, List.cons_append, List.nil_append, e]
theorem wordsN_at (l : List UInt8) (i : Nat) (h : i < 16) : (wordsN (l.take 64)).getD i 0 = be ((l.drop (4 * i)).take 4) := by
  have e : (wordsN (l.take 64)).getD i 0 = wordN (l.take 64) 64 i := by simp [wordsN, h]
  rw [e, wordN, List.take_take, Nat.min_self, List.drop_take, List.take_take]
  congr 2
  omega
/-- What has been laid behind the bytes after z noughts. -/
def tailN (z : Nat) : List UInt8 := 128 :: List.replicate z 0
theorem tailN_succ (z : Nat) : tailN (z + 1) = tailN z ++ [0] := by simp [tailN, List.replicate_succ']
theorem tailN_len (z : Nat) : (tailN z).length = 1 + z := by simp [tailN]; omega

namespace refSha
set_option maxRecDepth 10000 in
set_option maxHeartbeats 2000000 in
theorem Sha (A : Option Addr) (n c : Nat) (l : List UInt8) (w : World) (hl : Bytes w A n c l) (hn : n ≤ 70368744177664) :
    Calls Tryd.prog 49 #[.slice A n c] w fun e w' => e = .returned (.agg ((shaN l).map bv).toArray) ∧ Below w.heap.size w w' := by
  have hlen := Lib.hid hl.len
  obtain ⟨Z, hZ⟩ : ∃ Z, Z = (119 - n % 64) % 64 := ⟨_, rfl⟩
  have hZ64 : Z < 64 := by omega
  have hZm : (n + 1 + Z + 8) % 64 = 0 := by omega
  obtain ⟨bits, hbits⟩ : ∃ x, x = 8 * n % 18446744073709551616 := ⟨_, rfl⟩
  obtain ⟨pad, hpad⟩ : ∃ p, p = l ++ padN l.length := ⟨_, rfl⟩
  have hpad2 : pad = (l ++ tailN Z) ++ be64 bits := by
    rw [hpad, hlen.out, padN, ← hZ, ← hbits, tailN, List.append_assoc]
  have hpl : pad.length = n + 1 + Z + 8 := by rw [hpad2, List.length_append, List.length_append, tailN_len, be64_len, hlen.out]; omega
  have hbn : bits = 8 * n := by omega
  have Hpad := Lib.hid (And.intro hpad hpad2)
  have Hpl := Lib.hid (And.intro hpl (And.intro hZm hbn))
  have HZ := Lib.hid hZ
  have HB1 := Lib.hid (show 0 + n ≤ 140737488355328 by omega)
  have HB2 := Lib.hid (show 0 + n + 1 ≤ 140737488355328 by omega)
  clear hZ hpad hpad2 hpl hbits hZm hbn
  have hb1 := (Below.refl w.heap.size w).alloc (Nat.le_refl _) (.cells ((List.replicate 32 0 : List UInt8).map bv).toArray 23)
  have HR1 := Has.new w 23 ((List.replicate 32 0 : List UInt8).map bv)
  have K := Lib.hid (written (w.alloc (.cells ((List.replicate 32 0 : List UInt8).map bv).toArray 23)))
  go_enter Tryd.func49, Tryd.ntmps49
  go_wp2_with fail
  refine (K.out).mono ?_
  rintro e w2 ⟨gk, rfl, HK, hb2⟩
  have hb := hb1.trans (hb2.mono hb1.size)
  have HR := HR1.keep hb2 HR1.lt
  clear K hb1 hb2 HR1
  obtain ⟨h0l, hh0⟩ : ∃ x, x = h0N.list.map uv := ⟨_, rfl⟩
  rw [← hh0]
  have hh8 : h0l.length = 8 := by rw [hh0]; rfl
  have Hh0 := Lib.hid hh0
  have OC := Lib.hid (show ∀ u ∈ h0l, u.oneCell' = true from hh0 ▸ one_uv _)
  have SZ := Lib.hid (show (Tryd.prog.info? 90).map (·.size) = some h0l.length by rw [hh8]; kernel_rfl)
  have LL := Lib.hid (show (wN 8 fun _ => 0).length = h0l.length by rw [hh8]; rfl)
  have H4 : Has (w2.alloc (.cells #[.int .u32 0, .int .u32 0, .int .u32 0, .int .u32 0, .int .u32 0, .int .u32 0, .int .u32 0, .int .u32 0] 90)) w2.heap.size 90 (wN 8 fun _ => 0) := Has.new w2 90 (wN 8 fun _ => 0)
  have HK4 := HK.alloc (.cells #[.int .u32 0, .int .u32 0, .int .u32 0, .int .u32 0, .int .u32 0, .int .u32 0, .int .u32 0, .int .u32 0] 90)
  have HR4 := HR.alloc (.cells #[.int .u32 0, .int .u32 0, .int .u32 0, .int .u32 0, .int .u32 0, .int .u32 0, .int .u32 0, .int .u32 0] 90)
  have hb4 := hb.alloc hb.size (.cells #[.int .u32 0, .int .u32 0, .int .u32 0, .int .u32 0, .int .u32 0, .int .u32 0, .int .u32 0, .int .u32 0] 90)
  have hk2 := HK.lt
  have hr2 := HR.lt
  have hB2 := hb.size
  clear hh0 HK HR
  go_wp2_with (first
    | ((with_reducible refine wpList_store_has rfl 90 (.tmp 4) (.tmp 17) rfl w2.heap.size rfl h0l rfl 90 (wN 8 fun _ => 0) H4 SZ.out LL.out OC.out ?_); intro w5 o5 H5; have hb5 := o5.below hb4 hB2; have HK5 := HK4.only o5 (by omega); have HR5 := HR4.only o5 (by omega); have hl5 := hl.keep hb5)
    | (at_builtin; (with_reducible refine app8 rfl (.const (.slice none 0 0)) (.tmp 18) rfl w5.heap.size (.slice none 0 0) 0 [] rfl (World.ownsRow_nil _ _ _ _) A n c l rfl hl5 HB1.out (Nat.le_refl _) ?_); intro v6 w6 hown6 hg6)
    | (at_builtin; (refine app8 rfl (.tmp 19) (.tmp 20) rfl w5.heap.size v6 (0 + n) ([] ++ l) rfl (hown6.alloc _) (some ⟨w6.heap.size, 0, none⟩) 1 1 [128] rfl (Bytes.lit w6 [128] (by simp [maxLen])) HB2.out (Nat.le_trans hg6.size (by simp)) ?_); intro v7 w7 hown7 hg7))
  have hb6 : Below w5.heap.size w5 w6 := (Below.refl _ _).grown hg6 (Nat.le_refl _) (fun k hk => by cases hk)
  have hb7 : Below w5.heap.size w5 w7 := (hb6.alloc hb6.size _).grown hg7 (Nat.le_trans hb6.size (by simp)) (fun k hk => (hown6.lt k hk).1)
  have hown7' : w7.ownsRow w5.heap.size 5 1 v7 (n + 1 + 0) ((l ++ tailN 0).map bv) := by
    rw [show n + 1 + 0 = 0 + n + 1 by omega]
    exact hown7
  have hB5 := hb5.size
  clear hown6 hg6 hown7 hg7 hb6 H4 HK4 HR4 hb4 o5 hb
  go_loopw [5] (fun v wr => ∃ z : Nat, z ≤ Z ∧ wr.ownsRow w5.heap.size 5 1 v (n + 1 + z) ((l ++ tailN z).map bv) ∧ Below w5.heap.size w5 wr) (fun v _ => n + 1 + Z - sliceLen v)
  case atStart => exact ⟨0, by omega, hown7', hb7⟩
  case round =>
    clear hown7' hb7
    obtain ⟨z, hz, hown, hb⟩ := hrel
    obtain ⟨A1, c1, rfl, hr1⟩ := Row.own hown
    obtain ⟨N1, hN1⟩ : ∃ x, x = n + 1 + z := ⟨_, rfl⟩
    obtain ⟨r, hr⟩ : ∃ r, r = (N1 + 8) % 64 := ⟨_, rfl⟩
    have e1 : ((N1 : Int) + 8).tmod 64 = (r : Int) := by rw [Int.tmod_eq_emod_of_nonneg (by omega)]; omega
    have hN1b : N1 ≤ 140737488351228 := by omega
    rw [← hN1] at hown hr1 ⊢
    have HN1 := Lib.hid (And.intro hN1 hr)
    by_cases hlt : z < Z
    · have hr0 : (0 : Int) < (r : Int) := by have := Hpl.out.2.1; omega
      have HB3 := Lib.hid (show N1 + 1 ≤ 140737488355328 by omega)
      clear hN1 hr hr1
      go_wp2_with (at_builtin; (refine app8 rfl (.tmp 27) (.tmp 28) rfl w5.heap.size (.slice A1 N1 c1) N1 (l ++ tailN z) rfl (hown.alloc _) (some ⟨wr.heap.size, 0, none⟩) 1 1 [0] rfl (Bytes.lit wr [0] (by simp [maxLen])) HB3.out (Nat.le_trans hb.size (by simp)) ?_); intro v8 w8 hown8 hg8)
      go_roundw
      case rel =>
        refine ⟨z + 1, by omega, ?_, (hb.alloc hb.size _).grown hg8 (Nat.le_trans hb.size (by simp)) (fun k hk => (hown.lt k hk).1)⟩
        rw [tailN_succ, ← List.append_assoc, show n + 1 + (z + 1) = N1 + 1 by rw [HN1.out.1]; omega]
        exact hown8
      case measure =>
        obtain ⟨A9, c9, rfl, _⟩ := Row.own hown8
        have := HN1.out.1
        simp [sliceLen]
        omega
    · have hr0 : ¬ (0 : Int) < (r : Int) := by have := Hpl.out.2.1; omega
      obtain rfl : z = Z := by omega
      have hbits := Lib.hid (show (n : Int) * 8 = (bits : Int) by have := Hpl.out.2.2; omega)
      have hbl : bits < 18446744073709551616 := by have := Hpl.out.2.2; omega
      have KP := Lib.hid (refPut.put64 A1 N1 c1 (l ++ tailN z) bits wr hr1 hN1b hbl)
      clear hN1 hr hr1
      go_wp2_with fail
      rw [hbits.out]
      refine (KP.out).mono ?_
      rintro e w9 ⟨v9, rfl, hown9, hb9⟩
      have hbA : Below w5.heap.size w5 w9 := hb.trans (hb9.mono hb.size)
      obtain ⟨A9, c9, rfl, hr9⟩ := Row.own hown9
      have hoff : ∀ k, Off w2.heap.size A9 k := own_off hown9 (by have := hb.size; have := H5.lt; omega)
      have hr9' : Bytes w9 A9 pad.length c9 pad := by
        rw [Hpl.out.1, Hpad.out.2]
        have e := HN1.out.1
        rw [show n + 1 + z + 8 = N1 + 8 by omega]
        exact hr9
      have H9 := H5.keep hbA H5.lt
      have HK9 := HK5.keep hbA HK5.lt
      have HR9 := HR5.keep hbA HR5.lt
      have hbw := hb5.trans (hbA.mono hB5)
      have hN8 : N1 + 8 = pad.length := by have := HN1.out.1; rw [Hpl.out.1]; omega
      rw [hN8]
      have hq64 : pad.length = 64 * (pad.length / 64) := by have := Hpl.out.2.1; rw [Hpl.out.1]; omega
      obtain ⟨Q, hQ⟩ : ∃ Q, Q = pad.length / 64 := ⟨_, rfl⟩
      rw [← hQ] at hq64
      have HQ := Lib.hid (And.intro hQ hq64)
      clear hown hr9 hown9 hb9 KP hbits hbl hN1b e1 hr0 hlt hz H5 HK5 HR5 hb hb5 hQ hN8 hl5 hq64
      go_wp2
      go_loopw [5] (fun v wr => ∃ (q : Nat) (A' : Option Addr) (c' : Nat), 64 * q ≤ pad.length ∧ v = .slice A' (pad.length - 64 * q) c' ∧ Bytes wr A' (pad.length - 64 * q) c' (pad.drop (64 * q)) ∧ Off w2.heap.size A' (pad.length - 64 * q) ∧ Has wr w2.heap.size 90 ((hashN pad q).list.map uv) ∧ Has wr gk 80 (kN.map uv) ∧ Has wr w.heap.size 23 ((List.replicate 32 0 : List UInt8).map bv) ∧ Below w.heap.size w wr) (fun v _ => sliceLen v)
      case atStart => exact ⟨0, A9, c9, by omega, rfl, hr9', hoff _, by rw [Hh0.out] at H9; exact H9, HK9, HR9, hbw⟩
      case round =>
        clear hr9' hoff H9 HK9 HR9 hbw
        obtain ⟨q, A', c', hq, rfl, hl', hA', H, HK, HR, hb⟩ := hrel
        obtain ⟨m, hm⟩ : ∃ m, m = pad.length - 64 * q := ⟨_, rfl⟩
        rw [← hm] at hl' hA' ⊢
        by_cases h64 : 64 ≤ m
        · obtain ⟨b, off, rfl, hbl, _⟩ := hl'.at_ (by omega)
          have hm0 : 0 < m := by omega
          have hmc := hl'.2.1
          have hwsl : (wordsN ((pad.drop (64 * q)).take 64)).length = 16 := by simp [wordsN]
          obtain ⟨ws, hws⟩ : ∃ x, x = wordsN ((pad.drop (64 * q)).take 64) := ⟨_, rfl⟩
          have hwat : ∀ i, i < 16 → ws.getD i 0 = be (((pad.drop (64 * q)).drop (4 * i)).take 4) := fun i h => by rw [hws]; exact wordsN_at _ i h
          have hwlt : ∀ x ∈ ws, x < 4294967296 := hws ▸ wordsN_lt _
          rw [← hws] at hwsl
          have HW := Lib.hid (And.intro hws (And.intro hwsl (And.intro hwat hwlt)))
          have Hm := Lib.hid hm
          have HM0 := Has.new wr 101 (wN 64 fun _ => 0)
          obtain ⟨t, ht⟩ : ∃ t, t = hashN pad q := ⟨_, rfl⟩
          have htok : t.ok := ht ▸ hashN_ok pad q
          rw [← ht] at H
          have Ht := Lib.hid ht
          obtain ⟨sc, hsc⟩ : ∃ x, x = schedA ws 0 := ⟨_, rfl⟩
          obtain ⟨t1, ht1⟩ : ∃ t1, t1 = addN t (runN (schedN ws 48) t 64) := ⟨_, rfl⟩
          have ht1' : t1 = hashN pad (q + 1) := by rw [ht1, ht, hashN, compN, HW.out.1]
          have Ht1 := Lib.hid (And.intro ht1 ht1')
          have Hsc := Lib.hid hsc
          have hscl : sc.length = 64 := by rw [hsc, schedA, List.length_map, List.length_append, List.length_replicate]; simp [schedN, HW.out.2.1]
          have SZM := Lib.hid (show (Tryd.prog.info? 101).map (·.size) = some sc.length by rw [hscl]; kernel_rfl)
          have S8x := Lib.hid (show (Tryd.prog.info? 90).map (·.size) = some (t.list.map uv).length by kernel_rfl)
          have S8y := Lib.hid (show (Tryd.prog.info? 90).map (·.size) = some (t1.list.map uv).length by kernel_rfl)
          have E8y := Lib.hid (show (t.list.map uv).length = (t1.list.map uv).length by rfl)
          have O8y := Lib.hid (one_uv t1.list)
          have hlm : (pad.drop (64 * q)).length = m := hl'.len
          have KG := Lib.hid (fun (i : Nat) (hi : i < 16) (u : World) (h : Bytes u (some ⟨b, off, none⟩) m c' (pad.drop (64 * q))) => by
            have e : getV (pad.drop (64 * q)) (4 * (i : Int)) 4 = ((ws.getD i 0 : Nat) : Int) := by
              rw [getV, hlm, if_neg (by omega), HW.out.2.2.1 i hi]
              rw [show (4 * (i : Int)).toNat = 4 * i by omega]
            have k := refGet.get32 (some ⟨b, off, none⟩) m c' _ (4 * (i : Int)) u h
            rw [e] at k
            exact k)
          clear hm hws hwsl hwat hwlt ht hsc ht1 ht1' hscl hlm
          obtain ⟨wo, hwo⟩ : ∃ x : World, x = wr := ⟨_, rfl⟩
          subst hwo
          go_wp2
          go_loopw [7] (fun i wq => ∃ j : Nat, j ≤ 16 ∧ i = .int .i64 j ∧ Has wq wo.heap.size 101 ((ws.take j ++ List.replicate (64 - j) 0).map uv) ∧ Below wo.heap.size wo wq) (fun i _ => 16 - (intOf i).toNat)
          case atStart => exact ⟨0, by omega, rfl, HM0, (Below.refl _ _).alloc (Nat.le_refl _) _⟩
          case round =>
            clear HM0
            obtain ⟨j, hj, rfl, HM, hbq⟩ := hrel
            by_cases hlt : j < 16
            · have cm := (HM.cell j).trans (List.getElem?_eq_getElem (by simp [HW.out.2.1]; omega))
              have fm := HM.froz j
              have hlq := hl'.keep hbq
              obtain ⟨x, hx⟩ : ∃ x, x = ws.getD j 0 := ⟨_, rfl⟩
              have hxl : x < 4294967296 := hx ▸ getD_lt ws HW.out.2.2.2 j
              have k := KG.out j hlt _ hlq
              rw [← hx] at k
              have KJ := Lib.hid k
              have Hx := Lib.hid hx
              clear k hx hlq
              go_wp2_with (go_at_call 59; refine (KJ.out).mono ?_; rintro e w' ⟨rfl, rfl⟩)
              go_roundw
              case rel =>
                refine ⟨j + 1, by omega, by go_num, ?_, hbq.setCell (Nat.le_refl _) _⟩
                have h := HM.set j (.int .u32 (x : Int))
                rw [words_set ws HW.out.2.1 j hlt _ (by rw [Hx.out]; rfl)] at h
                exact h
              case measure => simp [intOf]; omega
            · obtain rfl : j = 16 := by omega
              have HM2 : Has wr wo.heap.size 101 sc := by
                rw [List.take_of_length_le (Nat.le_of_eq HW.out.2.1)] at HM
                rw [Hsc.out]
                exact HM
              have HX := H.keep hbq H.lt
              have HKX := HK.keep hbq HK.lt
              have HRX := HR.keep hbq HR.lt
              have hbX := hb.trans (hbq.mono hb.size)
              have hlX := hl'.keep hbq
              have hwsz : w2.heap.size < wo.heap.size := H.lt
              have hKr := Has.row HKX 0 64 64 (by rw [List.length_map]; decide) (Nat.le_refl _) (by simp [maxLen])
              rw [List.drop_zero, List.take_of_length_le (by rw [List.length_map]; decide)] at hKr
              have KM0 := mixed t ws (some ⟨gk, 0, none⟩) 64 wr htok HW.out.2.1 HW.out.2.2.2 hKr
              rw [← Hsc.out, ← Ht1.out.1] at KM0
              have KM := Lib.hid KM0
              have hrne : w.heap.size ≠ w2.heap.size := by omega
              have hkne : gk ≠ w2.heap.size := by omega
              clear KM0 hKr HM hlt H HK HR hbq hl'
              go_wp2_with (first
                | ((with_reducible refine wpList_load_has rfl 90 (.tmp 4) rfl w2.heap.size rfl 90 (t.list.map uv) HX _ Tryd.underlying90 rfl S8x.out ?_))
                | ((with_reducible refine wpList_load_has rfl 101 (.tmp 6) rfl wo.heap.size rfl 101 sc HM2 _ Tryd.underlying101 rfl SZM.out ?_))
                | (go_at_call 60; refine (KM.out).mono ?_; rintro e w6 ⟨rfl, hb6⟩; have HX6 := HX.keep hb6 HX.lt)
                | ((with_reducible refine wpList_store_has rfl 90 (.tmp 4) (.tmp 56) rfl w2.heap.size rfl (t1.list.map uv) rfl 90 (t.list.map uv) HX6 S8y.out E8y.out O8y.out ?_); intro w7 o7 H7))
              go_roundw
              case rel =>
                have hSv := o7.save
                have hHK7 := (HKX.keep hb6 HKX.lt).only o7 hkne
                have hHR7 := (HRX.keep hb6 HRX.lt).only o7 hrne
                have hbw7 := o7.below (hbX.trans (hb6.mono hbX.size)) (by omega)
                have hB7 : Bytes w7 (some ⟨b, off, none⟩) m c' (pad.drop (64 * q)) := Row.only (hlX.keep hb6) o7 hA'
                have em := Hm.out
                refine ⟨q + 1, (if c' = 64 then some ⟨b, off, none⟩ else some ⟨b, off + 64, none⟩), c' - 64, by omega, by rw [show pad.length - 64 * (q + 1) = m - 64 by omega], ?_, ?_, by rw [← Ht1.out.2]; exact H7, hHK7, hHR7, hbw7⟩
                · rw [show pad.length - 64 * (q + 1) = m - 64 by omega, show 64 * (q + 1) = 64 * q + 64 by omega, ← List.drop_drop]
                  have h := Row.rest hB7 64 h64 (if c' = 64 then some ⟨b, off, none⟩ else some ⟨b, off + 64, none⟩) (by by_cases hc : c' = 64 <;> simp [hc])
                  rw [← List.map_drop] at h
                  exact h
                · intro _ p hp
                  have h := hA' (by omega) ⟨b, off, none⟩ rfl
                  by_cases hc : c' = 64 <;> simp [hc] at hp <;> subst hp <;> exact h
              case measure => simp [sliceLen]; omega
        · have hm0 : m = 0 := by have := HQ.out.2; omega
          have hqQ : q = Q := by have := HQ.out.2; omega
          subst hqQ hm0
          obtain ⟨t, ht⟩ : ∃ t, t = hashN pad q := ⟨_, rfl⟩
          have htok : t.ok := ht ▸ hashN_ok pad q
          rw [← ht] at H
          have hall : ∀ x ∈ t.list, x < 4294967296 := by
            obtain ⟨a1, a2, a3, a4, a5, a6, a7, a8⟩ := htok
            intro x hx
            simp only [S8.list, List.mem_cons, List.not_mem_nil, or_false] at hx
            rcases hx with rfl | rfl | rfl | rfl | rfl | rfl | rfl | rfl <;> assumption
          obtain ⟨Ks, hKs⟩ : ∃ K, K = keyN t := ⟨_, rfl⟩
          have hKl : Ks.length = 32 := by rw [hKs, sha.keyN_len]
          have hres : Ks = shaN l := by rw [hKs, ht, HQ.out.1, Hpad.out.1, shaN, endN]
          have Hres := Lib.hid (And.intro hres (And.intro hKs hKl))
          clear ht hres hKs hKl hm
          go_wp2
          go_loopw [10, 11] (fun v i wr => ∃ (j : Nat) (A5 : Option Addr) (c5 : Nat), j ≤ 8 ∧ i = .int .i64 j ∧ v = .slice A5 (4 * j) c5 ∧ Bytes wr A5 (4 * j) c5 ((t.list.take j).flatMap be32) ∧ Has wr w2.heap.size 90 (t.list.map uv) ∧ Has wr w.heap.size 23 ((List.replicate 32 0 : List UInt8).map bv) ∧ Below w.heap.size w wr) (fun _ i _ => 8 - (intOf i).toNat)
          case atStart => exact ⟨0, none, 0, by omega, rfl, rfl, Row.nil _, H, HR, hb⟩
          case round =>
            clear H HR hb hl' hA' HK
            obtain ⟨j, A5, c5, hj, rfl, rfl, hr5, H, HR, hb⟩ := hrel
            by_cases hlt : j < 8
            · have hjl : j < t.list.length := hlt
              obtain ⟨x, hx⟩ : ∃ x, x = t.list[j] := ⟨_, rfl⟩
              have hxl : x < 4294967296 := hx ▸ hall _ (List.getElem_mem hjl)
              have cx : wr.cell? ⟨w2.heap.size, j, none⟩ = some (.int .u32 (x : Int)) := by
                rw [H.cell j, List.getElem?_map, List.getElem?_eq_getElem hjl, ← hx]
                rfl
              have KP := Lib.hid (refPut.put32 A5 (4 * j) c5 _ x wr hr5 (by omega) hxl)
              have Hx := Lib.hid hx
              clear hx
              go_wp2_with (go_at_call 50; refine (KP.out).mono ?_; rintro e w7 ⟨v7, rfl, hown7, hb7⟩)
              obtain ⟨A7, c7, rfl, hr7⟩ := Row.own hown7
              go_roundw
              case rel =>
                refine ⟨j + 1, A7, c7, by omega, by go_num, by rw [Nat.mul_add], ?_, H.keep hb7 H.lt, HR.keep hb7 HR.lt, hb.trans (hb7.mono hb.size)⟩
                rw [List.take_succ_eq_append_getElem hjl, List.flatMap_append, ← Hx.out, Nat.mul_add, List.flatMap_cons, List.flatMap_nil, List.append_nil]
                exact hr7
              case measure => simp [intOf]; omega
            · obtain rfl : j = 8 := by omega
              have hr6 : Bytes wr A5 32 c5 Ks := by
                rw [Hres.out.2.1, keyN]
                exact hr5
              obtain ⟨kb, koff, rfl, hkb, hkc⟩ := hr6.at_ (by omega)
              have hkcap := hr6.2.1
              have HZ0 : Has (wr.alloc (.cells #[.int .u8 0, .int .u8 0, .int .u8 0, .int .u8 0, .int .u8 0, .int .u8 0, .int .u8 0, .int .u8 0, .int .u8 0, .int .u8 0, .int .u8 0, .int .u8 0, .int .u8 0, .int .u8 0, .int .u8 0, .int .u8 0, .int .u8 0, .int .u8 0, .int .u8 0, .int .u8 0, .int .u8 0, .int .u8 0, .int .u8 0, .int .u8 0, .int .u8 0, .int .u8 0, .int .u8 0, .int .u8 0, .int .u8 0, .int .u8 0, .int .u8 0, .int .u8 0] 23)) wr.heap.size 23 ((List.replicate 32 0 : List UInt8).map bv) := Has.new wr 23 ((List.replicate 32 0 : List UInt8).map bv)
              have hB0 := hb.size
              obtain ⟨wo, hwo⟩ : ∃ x : World, x = wr := ⟨_, rfl⟩
              subst hwo
              clear hlt hr5
              go_wp2
              go_loopw [13] (fun i wq => ∃ j : Nat, j ≤ 32 ∧ i = .int .i64 j ∧ Has wq wo.heap.size 23 ((Ks.take j ++ List.replicate (32 - j) 0).map bv) ∧ Below wo.heap.size wo wq) (fun i _ => 32 - (intOf i).toNat)
              case atStart => exact ⟨0, by omega, rfl, HZ0, (Below.refl _ _).alloc (Nat.le_refl _) _⟩
              case round =>
                clear HZ0
                obtain ⟨j, hj, rfl, HK, hbq⟩ := hrel
                by_cases hlt : j < 32
                · have ck := (HK.cell j).trans (List.getElem?_eq_getElem (by simp [Hres.out.2.2]; omega))
                  have fk := HK.froz j
                  have co := (hbq.cell (p := ⟨kb, koff + j, none⟩) hkb).trans (hkc j hlt)
                  obtain ⟨y, hy⟩ : ∃ y, y = (Ks.getD j 0).toNat := ⟨_, rfl⟩
                  rw [← hy] at co
                  have Hy := Lib.hid hy
                  clear hy
                  go_wp2
                  go_roundw
                  case rel =>
                    refine ⟨j + 1, by omega, by go_num, ?_, hbq.setCell (Nat.le_refl _) _⟩
                    have h := HK.set j (.int .u8 (y : Int))
                    rw [sha.key_set Ks Hres.out.2.2 j hlt _ (by rw [Hy.out]; rfl)] at h
                    exact h
                  case measure => simp [intOf]; omega
                · obtain rfl : j = 32 := by omega
                  have HK2 : Has wr wo.heap.size 23 (Ks.map bv) := by
                    rw [List.take_of_length_le (Nat.le_of_eq Hres.out.2.2), List.replicate_zero, List.append_nil] at HK
                    exact HK
                  have HRX := HR.keep hbq HR.lt
                  have hbX := hb.trans (hbq.mono hB0)
                  have SZ := Lib.hid (show (Tryd.prog.info? 23).map (·.size) = some (Ks.map bv).length by rw [List.length_map, Hres.out.2.2]; kernel_rfl)
                  have LL := Lib.hid (show ((List.replicate 32 0 : List UInt8).map bv).length = (Ks.map bv).length by rw [List.length_map, List.length_map, Hres.out.2.2, List.length_replicate])
                  have OC := Lib.hid (one_bv Ks)
                  clear HK hlt HR hb
                  go_wp2_with (first
                    | ((with_reducible refine wpList_load_has rfl 23 (.tmp 12) rfl wo.heap.size rfl 23 (Ks.map bv) HK2 _ Tryd.underlying23 rfl SZ.out ?_))
                    | ((with_reducible refine wpList_store_has rfl 23 (.tmp 2) (.tmp 78) rfl w.heap.size rfl (Ks.map bv) rfl 23 _ HRX SZ.out LL.out OC.out ?_); intro w5 o5 H5))
                  refine ret_has Tryd.results49 w.heap.size ?_ 23 (Ks.map bv) H5 _ Tryd.underlying23 rfl SZ.out ?_ ⟨by rw [Hres.out.1], o5.below hbX (Nat.le_refl _)⟩
                  · rfl
                  · rfl
end refSha
end Go.Proofs.YtjfipijdjbbogaaDoor
/-
  Contract of the reference's Parts.
-/
namespace Go.Proofs.YtjfipijdjbbogaaDoor
open Go.ChangeShapes Go.WideShapes Go.ChangeAt Go.RowKit
set_option linter.unusedVariables false
set_option linter.unusedSimpArgs false

theorem partsN_le (ps : List Part) (j : Nat) : (partsN (ps.take j)).length ≤ (partsN ps).length := by
  have e : partsN ps = partsN (ps.take j) ++ partsN (ps.drop j) := by rw [partsN, partsN, partsN, ← List.flatMap_append, List.take_append_drop]
  rw [e, List.length_append]
  omega

namespace refSha
set_option maxHeartbeats 1000000 in
theorem Parts (A : Option Addr) (n c : Nat) (ps : List Part) (w : World) (hps : PartsAt w A n c ps) (hsum : (partsN ps).length ≤ 70368744177664) :
    Calls Tryd.prog 38 #[.slice A n c] w fun e w' => e = .returned (.agg ((shaN (partsN ps)).map bv).toArray) ∧ Below w.heap.size w w' := by
  have hpl : ps.length = n := by simpa using hps.1.1
  have hcm := hps.1.2.2.1
  have hnc := hps.1.2.1
  have HP := Lib.hid hps
  have HPL := Lib.hid hpl
  have hn63 : n ≤ 9223372036854775807 := by unfold maxLen at hcm; omega
  have HSUM := Lib.hid hsum
  have HR1 := Has.new w 23 ((List.replicate 32 0 : List UInt8).map bv)
  have hb1 := (Below.refl w.heap.size w).alloc (Nat.le_refl _) (.cells ((List.replicate 32 0 : List UInt8).map bv).toArray 23)
  clear hps hpl hcm hnc hsum
  go_enter Tryd.func38, Tryd.ntmps38
  go_wp2
  go_loopw [3, 4] (fun v i wr => ∃ (j : Nat) (A3 : Option Addr) (c3 : Nat), j ≤ n ∧ i = .int .i64 j ∧ v = .slice A3 (partsN (ps.take j)).length c3 ∧ Bytes wr A3 (partsN (ps.take j)).length c3 (partsN (ps.take j)) ∧ Has wr w.heap.size 23 ((List.replicate 32 0 : List UInt8).map bv) ∧ Below w.heap.size w wr) (fun _ i _ => n - (intOf i).toNat)
  case atStart => exact ⟨0, none, 0, by omega, rfl, rfl, Row.nil _, HR1, hb1⟩
  case round =>
    clear HR1 hb1
    obtain ⟨j, A3, c3, hj, rfl, rfl, hr3, HR, hb⟩ := hrel
    obtain ⟨q, hq⟩ : ∃ q, q = partsN (ps.take j) := ⟨_, rfl⟩
    have hql : q.length ≤ (partsN ps).length := hq ▸ partsN_le ps j
    obtain ⟨ql, hqlen⟩ : ∃ x, x = q.length := ⟨_, rfl⟩
    rw [← hq, ← hqlen] at hr3 ⊢
    by_cases hlt : j < n
    · have hjl : j < ps.length := by rw [HPL.out]; exact hlt
      obtain ⟨b, off, rfl, hbl, hc⟩ := (HP.out.1).2.2.2.2 (by omega)
      obtain ⟨p, hp⟩ : ∃ p, p = ps[j] := ⟨_, rfl⟩
      have cj : wr.cell? ⟨b, off + j, none⟩ = some (.slice p.A p.n p.c) := by
        rw [hb.cell (p := ⟨b, off + j, none⟩) hbl, hc j hlt, List.getElem?_map, List.getElem?_eq_getElem hjl, hp]
        rfl
      have hpB := HP.out.2 p (hp ▸ List.getElem_mem hjl)
      have hple := hpB.le
      have hjn : (j : Int) < (n : Int) := by omega
      have hsn : partsN (ps.take (j + 1)) = (q ++ be64 p.n) ++ p.l := by rw [partsN_snoc ps j hjl, ← hp, ← hq]
      have hsl : (partsN (ps.take (j + 1))).length = ql + 8 + p.n := by rw [hsn, List.length_append, List.length_append, be64_len, hpB.len, hqlen]
      have hsle := partsN_le ps (j + 1)
      have hbd : ql + 8 + p.n ≤ 70368744177664 := by have := HSUM.out; omega
      have HBD := Lib.hid hbd
      have HSN := Lib.hid (And.intro hsn hsl)
      have KP := Lib.hid (refPut.put64 A3 ql c3 q p.n wr.drew (hr3.keep (Below.refl _ _).drew) (by omega) (by omega))
      have HBB := Lib.hid (show ql + 8 + p.n ≤ 140737488355328 by omega)
      have HPB := Lib.hid (fun (u : World) (h : Below wr.drew.heap.size wr.drew u) => Row.keep (Row.keep hpB hb) ((Below.refl wr.heap.size wr).drew.trans h))
      have HCJ := Lib.hid (fun (u : World) (h : Below wr.drew.heap.size wr.drew u) => ((h.cell (p := ⟨b, off + j, none⟩) (World.block_lt_of_cell? wr _ cj)).trans cj))
      have ew : IntKind.u64.wrap (p.n : Int) = (p.n : Int) := by simp only [IntKind.wrap_u64]; omega
      clear hsn hsl hsle hq hqlen hp hc hbd hql
      go_wp2
      go_region_held_law (fun w' => w'.cell? ⟨b, off + j, none⟩ = some (.slice p.A p.n p.c)) (first | exact cj | exact HCJ.out _ (by assumption))
        (first
        | (go_simp; go_at_call 39; refine (KP.out).mono ?_; rintro e w5 ⟨v5, rfl, hown5, hb5⟩)
        | ((refine step_app8 (by rfl) (.tmp 18) (.tmp 22) (by rfl) wr.drew.heap.size v5 (ql + 8) (q ++ be64 p.n) (by rfl) hown5 p.A p.n p.c p.l (by rfl) (HPB.out _ hb5) HBB.out hb5.size ?_); intro v6 w6 hown6 hg6; have hb6 : Below wr.drew.heap.size wr.drew w6 := hb5.grown hg6 hb5.size (fun k hk => (hown5.lt k hk).1)))
      have hbw : Below w.heap.size w w6 := hb.trans (((Below.refl wr.heap.size wr).drew.trans hb6).mono hb.size)
      have HR6 := (HR.keep (Below.refl wr.heap.size wr).drew HR.lt).keep hb6 HR.lt
      obtain ⟨A6, c6, rfl, hr6⟩ := Row.own hown6
      clear hown5 hg6 hb5 hown6 cj
      go_wp2
      go_roundw
      case rel =>
        refine ⟨j + 1, A6, c6, by omega, by go_num, by rw [HSN.out.2], ?_, HR6, hbw⟩
        rw [HSN.out.2, HSN.out.1]
        exact hr6
      case measure => simp [intOf]; omega
    · obtain rfl : j = n := by omega
      have hqq : q = partsN ps := by rw [hq, List.take_of_length_le (Nat.le_of_eq HPL.out)]
      have hq46 : ql ≤ 70368744177664 := by have := HSUM.out; omega
      have KS0 := Sha A3 ql c3 q wr hr3 hq46
      obtain ⟨Ks, hKs⟩ : ∃ K, K = (shaN q).map bv := ⟨_, rfl⟩
      have hKl : Ks.length = 32 := by rw [hKs, List.length_map, shaN, sha.keyN_len]
      have SK := Lib.hid (show (Tryd.prog.info? 23).map (·.size) = some Ks.length by rw [hKl]; kernel_rfl)
      have LK := Lib.hid (show ((List.replicate 32 0 : List UInt8).map bv).length = Ks.length by rw [List.length_map, hKl, List.length_replicate])
      have OK := Lib.hid (show ∀ u ∈ Ks, u.oneCell' = true from hKs ▸ one_bv _)
      rw [← hKs] at KS0
      have KS := Lib.hid KS0
      have HKs := Lib.hid (hqq ▸ hKs)
      clear hKs hKl KS0 hq hqq hqlen hql hlt
      go_wp2_with fail
      refine (KS.out).mono ?_
      rintro e w6 ⟨rfl, hb6⟩
      have hbw := hb.trans (hb6.mono hb.size)
      have HR6 := HR.keep hb6 HR.lt
      clear KS hb6 hb HR
      go_wp2_with ((with_reducible refine wpList_store_has rfl 23 (.tmp 2) (.tmp 25) rfl w.heap.size rfl Ks rfl 23 _ HR6 SK.out LK.out OK.out ?_); intro w7 o7 H7)
      refine ret_has Tryd.results38 w.heap.size ?_ 23 Ks H7 _ Tryd.underlying23 rfl SK.out ?_ ⟨by rw [HKs.out], o7.below hbw (Nat.le_refl _)⟩
      · rfl
      · rfl
end refSha
end Go.Proofs.YtjfipijdjbbogaaDoor
