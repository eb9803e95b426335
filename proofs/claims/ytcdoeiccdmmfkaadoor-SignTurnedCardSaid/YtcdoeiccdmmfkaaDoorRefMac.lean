/-
  Contract of the reference's Mac.
-/
import Derived.Test.YtcdoeiccdmmfkaaDoorMacs
import Derived.Test.YtcdoeiccdmmfkaaDoorRefHash
import Derived.Deep.Cut
namespace Go.Proofs.YtcdoeiccdmmfkaaDoor
open Go.ChangeShapes Go.WideShapes Go.ChangeAt Go.RowKit
set_option linter.unusedVariables false
set_option linter.unusedSimpArgs false

theorem mask_set (m : UInt8) (X : List UInt8) (hX : X.length = 64) (j : Nat) (h : j < 64) (v : Value) (hv : v = bv (X.getD j 0 ^^^ m)) :
    ((mask m (X.take j) ++ List.replicate (64 - j) 0).map bv).set j v = (mask m (X.take (j + 1)) ++ List.replicate (64 - (j + 1)) 0).map bv := by
  have h1 : (mask m (X.take j)).length = j := by rw [mask_len, List.length_take]; omega
  have h2 : j < X.length := by omega
  subst hv
  rw [show 64 - j = (64 - (j + 1)) + 1 by omega, List.replicate_succ, List.map_append, List.map_cons, List.set_append_right _ _ (by simp; omega), List.length_map, h1, Nat.sub_self, List.set_cons_zero, List.take_succ_eq_append_getElem h2]
  have e : X.getD j 0 = X[j] := by simp [h2]
  simp only [mask, List.map_append, List.map_cons, List.map_nil, List.append_assoc, List.cons_append, List.nil_append, e]
theorem own_has {w : World} {g base n : Nat} {l : List UInt8} (h : Has w g 5 (l.map bv)) (hb : base ≤ g) (hn : l.length = n) (hm : n ≤ maxLen) : w.ownsRow base 5 1 (.slice (some ⟨g, 0, none⟩) n n) n (l.map bv) :=
  own_splice (Z := l.map bv) (xs := l.map bv) (by rw [splice, List.take_zero, List.nil_append, Nat.zero_add, List.drop_length, List.append_nil]; exact h) hb (by rw [List.length_map, hn]) (Nat.le_refl _) hm (by rw [List.length_map, hn])
theorem mblk_at (key : List UInt8) (j : Nat) : (mblk key).getD j 0 = (mkey key).getD j 0 := by
  rw [mblk]
  by_cases h : j < (mkey key).length
  · simp [List.getElem?_append_left h, h]
  · simp only [List.getD_eq_getElem?_getD]
    rw [List.getElem?_append_right (by omega), List.getElem?_eq_none (show (mkey key).length ≤ j by omega)]
    cases hq : (List.replicate (64 - (mkey key).length) (0 : UInt8))[j - (mkey key).length]? with
    | none => rfl
    | some v =>
      obtain ⟨h1, h2⟩ := List.getElem?_eq_some_iff.1 hq
      simp at h2
      rw [← h2]
      rfl
theorem xor_bv (x : UInt8) (m : Nat) (hm : m < 256) : (.int .u8 (bits .xor .u8 (x.toNat : Int) (m : Int)) : Value) = bv (x ^^^ UInt8.ofNat m) := by
  rw [xor_u8 x.toNat m (UInt8.toNat_lt x) hm, UInt8.ofNat_toNat]
  rfl

namespace refMac
set_option maxRecDepth 10000 in
set_option maxHeartbeats 1000000 in
theorem MacShort (A : Option Addr) (n c : Nat) (l : List UInt8) (B : Option Addr) (m d : Nat) (l' : List UInt8) (w : World) (hl : Bytes w A n c l) (hl' : Bytes w B m d l') (hn : n ≤ 64) (hm : m ≤ 70368744177600) :
    Calls Tryd.prog 21 #[.slice A n c, .slice B m d] w fun e w' => e = .returned (.agg ((macN l l').map bv).toArray) ∧ Below w.heap.size w w' := by
  have HRA := newKey w
  have hbA := newKey_below (Below.refl w.heap.size w) (Nat.le_refl _)
  have hn' : ¬ (64 : Int) < (n : Int) := by omega
  have hkA := hl.keep hbA
  have hkb := Lib.hid (show mkey l = l by rw [mkey, hl.len, if_neg (by omega)])
  go_enter Tryd.func21, Tryd.ntmps21
  go_upto_region 4 with fail
  change Code.wp _ _ _ _ (w.alloc (.cells #[.int .u8 0, .int .u8 0, .int .u8 0, .int .u8 0, .int .u8 0, .int .u8 0, .int .u8 0, .int .u8 0, .int .u8 0, .int .u8 0, .int .u8 0, .int .u8 0, .int .u8 0, .int .u8 0, .int .u8 0, .int .u8 0, .int .u8 0, .int .u8 0, .int .u8 0, .int .u8 0, .int .u8 0, .int .u8 0, .int .u8 0, .int .u8 0, .int .u8 0, .int .u8 0, .int .u8 0, .int .u8 0, .int .u8 0, .int .u8 0, .int .u8 0, .int .u8 0] 30))
  generalize (w.alloc (.cells #[.int .u8 0, .int .u8 0, .int .u8 0, .int .u8 0, .int .u8 0, .int .u8 0, .int .u8 0, .int .u8 0, .int .u8 0, .int .u8 0, .int .u8 0, .int .u8 0, .int .u8 0, .int .u8 0, .int .u8 0, .int .u8 0, .int .u8 0, .int .u8 0, .int .u8 0, .int .u8 0, .int .u8 0, .int .u8 0, .int .u8 0, .int .u8 0, .int .u8 0, .int .u8 0, .int .u8 0, .int .u8 0, .int .u8 0, .int .u8 0, .int .u8 0, .int .u8 0] 30)) = wA at *
  obtain ⟨n0, hn0⟩ : ∃ x, x = n := ⟨_, rfl⟩
  subst hn0
  obtain ⟨kb, hkbe⟩ : ∃ x, x = l := ⟨_, rfl⟩
  rw [← hkbe] at hkA
  have hkb := Lib.hid (show mkey l = kb by rw [hkb.out, hkbe])
  clear hkbe
  obtain ⟨X, hX⟩ : ∃ X, X = mblk l := ⟨_, rfl⟩
  have hXl : X.length = 64 := by rw [hX, mblk_len]
  have hXat : ∀ j, X.getD j 0 = kb.getD j 0 := fun j => by rw [hX, mblk_at, hkb.out]
  have HX := Lib.hid (And.intro hX (And.intro hXl hXat))
  have hkl := hkA.len
  have hrA := HRA.lt
  have hb1 := hbA.alloc hbA.size (.cells (noughts 64).toArray 5)
  have hb2 := hb1.alloc hb1.size (.cells (noughts 64).toArray 5)
  have HR2 := (HRA.alloc (.cells (noughts 64).toArray 5)).alloc (.cells (noughts 64).toArray 5)
  have HI2 := (Has.new wA 5 (noughts 64)).alloc (.cells (noughts 64).toArray 5)
  have HO2 := (Has.new (wA.alloc (.cells (noughts 64).toArray 5)) 5 (noughts 64)).at_ (show _ = wA.heap.size + 1 by simp)
  have hbk : Below wA.heap.size wA ((wA.alloc (.cells (noughts 64).toArray 5)).alloc (.cells (noughts 64).toArray 5)) := ((Below.refl _ _).alloc (Nat.le_refl _) _).alloc (by simp) _
  have HKL := Lib.hid hkl
  have hmk : ∀ u, (Instr.makeSlice 23 (.int .i64 64) (.int .i64 64)).run Tryd.prog u = .ok (.slice (some ⟨u.heap.size, 0, none⟩) 64 64) (u.alloc (.cells (noughts 64).toArray 5)) := fun u => run_make8 64 64 (Nat.le_refl _) (by omega) u
  clear hX hXl hXat hb1 hkl
  go_wp2
  clear hmk
  change Code.wp _ _ _ _ ((wA.alloc (.cells (noughts 64).toArray 5)).alloc (.cells (noughts 64).toArray 5))
  generalize ((wA.alloc (.cells (noughts 64).toArray 5)).alloc (.cells (noughts 64).toArray 5)) = w2 at *
  go_loopw [8] (fun i wr => ∃ j : Nat, j ≤ 64 ∧ i = .int .i64 j ∧ Has wr wA.heap.size 5 ((mask 54 (X.take j) ++ List.replicate (64 - j) 0).map bv) ∧ Has wr (wA.heap.size + 1) 5 ((mask 92 (X.take j) ++ List.replicate (64 - j) 0).map bv) ∧ Has wr w.heap.size 30 zkey ∧ Below w.heap.size w wr ∧ Below wA.heap.size wA wr) (fun i _ => 64 - (intOf i).toNat)
  case atStart => exact ⟨0, by omega, rfl, by simpa [mask, noughts, bv] using HI2, by simpa [mask, noughts, bv] using HO2, HR2, hb2, hbk⟩
  case round =>
    clear HI2 HO2 HR2 hb2 hbk
    obtain ⟨j, hj, rfl, HI, HO, HR, hb, hbk⟩ := hrel
    by_cases hlt : j < 64
    · have hlen1 : (mask 54 (X.take j) ++ List.replicate (64 - j) 0).length = 64 := by rw [List.length_append, mask_len, List.length_take, HX.out.2.1, List.length_replicate]; omega
      have hlen2 : (mask 92 (X.take j) ++ List.replicate (64 - j) 0).length = 64 := by rw [List.length_append, mask_len, List.length_take, HX.out.2.1, List.length_replicate]; omega
      obtain ⟨vi, ci⟩ : ∃ v, wr.cell? ⟨wA.heap.size, j, none⟩ = some v := ⟨_, (HI.cell j).trans (List.getElem?_eq_getElem (by rw [List.length_map]; omega))⟩
      have fi := HI.froz j
      obtain ⟨vo, co⟩ : ∃ v, wr.cell? ⟨wA.heap.size + 1, j, none⟩ = some v := ⟨_, (HO.cell j).trans (List.getElem?_eq_getElem (by rw [List.length_map]; omega))⟩
      have fo := HO.froz j
      clear hlen1 hlen2
      by_cases hjn : j < n0
      · obtain ⟨b0, off0, rfl, hb0, hc0⟩ := hkA.at_ (by omega)
        have cx := (hbk.cell (p := ⟨b0, off0 + j, none⟩) hb0).trans (hc0 j hjn)
        obtain ⟨x, hx⟩ : ∃ x, x = kb.getD j 0 := ⟨_, rfl⟩
        rw [← hx] at cx
        have HXX := Lib.hid hx
        clear hx hc0
        go_wp2
        go_roundw
        case rel =>
          have e1 := mask_set 54 X HX.out.2.1 j hlt (.int .u8 (bits .xor .u8 (x.toNat : Int) 54)) (by rw [HX.out.2.2, ← HXX.out]; exact xor_bv x 54 (by omega))
          have e2 := mask_set 92 X HX.out.2.1 j hlt (.int .u8 (bits .xor .u8 (x.toNat : Int) 92)) (by rw [HX.out.2.2, ← HXX.out]; exact xor_bv x 92 (by omega))
          have H1 := (HI.set j (.int .u8 (bits .xor .u8 (x.toNat : Int) 54))).far ⟨wA.heap.size + 1, j, none⟩ (by show wA.heap.size ≠ wA.heap.size + 1; omega) (.int .u8 (bits .xor .u8 (x.toNat : Int) 92))
          have H2 := (HO.far ⟨wA.heap.size, j, none⟩ (by show wA.heap.size + 1 ≠ wA.heap.size; omega) (.int .u8 (bits .xor .u8 (x.toNat : Int) 54))).set j (.int .u8 (bits .xor .u8 (x.toNat : Int) 92))
          rw [e1] at H1
          rw [e2] at H2
          exact ⟨j + 1, by omega, by go_num, H1, H2, (HR.far ⟨wA.heap.size, j, none⟩ (by show w.heap.size ≠ wA.heap.size; omega) _).far ⟨wA.heap.size + 1, j, none⟩ (by show w.heap.size ≠ wA.heap.size + 1; omega) _, (hb.setCell (by show w.heap.size ≤ wA.heap.size; omega) _).setCell (by show w.heap.size ≤ wA.heap.size + 1; omega) _, (hbk.setCell (Nat.le_refl _) _).setCell (by show wA.heap.size ≤ wA.heap.size + 1; omega) _⟩
        case measure => simp [intOf]; omega
      · have hx0 : kb.getD j 0 = 0 := by
          have := HKL.out
          rw [List.getD_eq_getElem?_getD, List.getElem?_eq_none (by omega)]
          rfl
        have HXX := Lib.hid hx0
        clear hx0
        have k54 : bits .xor .u8 0 54 = 54 := by rfl
        have k92 : bits .xor .u8 0 92 = 92 := by rfl
        go_wp2
        go_roundw
        case rel =>
          have e1 := mask_set 54 X HX.out.2.1 j hlt (.int .u8 54) (by rw [HX.out.2.2, HXX.out]; rfl)
          have e2 := mask_set 92 X HX.out.2.1 j hlt (.int .u8 92) (by rw [HX.out.2.2, HXX.out]; rfl)
          have H1 := (HI.set j (.int .u8 54)).far ⟨wA.heap.size + 1, j, none⟩ (by show wA.heap.size ≠ wA.heap.size + 1; omega) (.int .u8 92)
          have H2 := (HO.far ⟨wA.heap.size, j, none⟩ (by show wA.heap.size + 1 ≠ wA.heap.size; omega) (.int .u8 54)).set j (.int .u8 92)
          rw [e1] at H1
          rw [e2] at H2
          exact ⟨j + 1, by omega, by go_num, H1, H2, (HR.far ⟨wA.heap.size, j, none⟩ (by show w.heap.size ≠ wA.heap.size; omega) _).far ⟨wA.heap.size + 1, j, none⟩ (by show w.heap.size ≠ wA.heap.size + 1; omega) _, (hb.setCell (by show w.heap.size ≤ wA.heap.size; omega) _).setCell (by show w.heap.size ≤ wA.heap.size + 1; omega) _, (hbk.setCell (Nat.le_refl _) _).setCell (by show wA.heap.size ≤ wA.heap.size + 1; omega) _⟩
        case measure => simp [intOf]; omega
    · obtain rfl : j = 64 := by omega
      rw [List.take_of_length_le (Nat.le_of_eq HX.out.2.1), Nat.sub_self, List.replicate_zero, List.append_nil] at HI HO
      have hownI := own_has HI (Nat.le_refl _) (by rw [mask_len, HX.out.2.1]) (by simp [maxLen])
      have HB1 := Lib.hid (show 64 + m ≤ 140737488355328 by omega)
      have hl3 := hl'.keep hb
      have hrO := HO.lt
      clear hlt
      go_wp2_with (at_builtin; (refine app8 rfl (.tmp 41) (.tmp 42) rfl wA.heap.size (.slice (some ⟨wA.heap.size, 0, none⟩) 64 64) 64 (mask 54 X) rfl hownI B m d l' rfl hl3 HB1.out (by omega) ?_); intro v3 w3 hown3 hg3)
      have hbk3 : Below wA.heap.size wA w3 := hbk.grown hg3 hbk.size (fun k hk => (hownI.lt k hk).1)
      have hb3 : Below w.heap.size w w3 := hb.grown hg3 hb.size (fun k hk => by have := (hownI.lt k hk).1; omega)
      have HO3 := HO.grown hg3 (by show some (wA.heap.size + 1) ≠ some wA.heap.size; intro h; have := Option.some.inj h; omega)
      have HR3 := HR.grown hg3 (by show some w.heap.size ≠ some wA.heap.size; intro h; have := Option.some.inj h; omega)
      obtain ⟨A3, c3, rfl, hr3⟩ := Row.own hown3
      clear hownI hown3 hg3 HI HO HR hb hbk
      obtain ⟨I, hI⟩ : ∃ I, I = shaN (mask 54 X ++ l') := ⟨_, rfl⟩
      have hIl : I.length = 32 := by rw [hI, shaN_len]
      have KS0 := refSha.Sha A3 (64 + m) c3 (mask 54 X ++ l') w3 hr3 (by omega)
      rw [← hI] at KS0
      have KS := Lib.hid KS0
      have HII := Lib.hid (And.intro hI hIl)
      clear hI hIl KS0 hr3
      refine (KS.out).mono ?_
      rintro e w4 ⟨rfl, hb4⟩
      have hO3 := HO3.lt
      have HO4 := HO3.keep hb4 HO3.lt
      have HR4 := HR3.keep hb4 HR3.lt
      have hbk4 := hbk3.trans (hb4.mono hbk3.size)
      have hbw4 := hb3.trans (hb4.mono hb3.size)
      have HK := newKey w4
      have HO5 := HO4.alloc (.cells #[.int .u8 0, .int .u8 0, .int .u8 0, .int .u8 0, .int .u8 0, .int .u8 0, .int .u8 0, .int .u8 0, .int .u8 0, .int .u8 0, .int .u8 0, .int .u8 0, .int .u8 0, .int .u8 0, .int .u8 0, .int .u8 0, .int .u8 0, .int .u8 0, .int .u8 0, .int .u8 0, .int .u8 0, .int .u8 0, .int .u8 0, .int .u8 0, .int .u8 0, .int .u8 0, .int .u8 0, .int .u8 0, .int .u8 0, .int .u8 0, .int .u8 0, .int .u8 0] 30)
      have HR5 := HR4.alloc (.cells #[.int .u8 0, .int .u8 0, .int .u8 0, .int .u8 0, .int .u8 0, .int .u8 0, .int .u8 0, .int .u8 0, .int .u8 0, .int .u8 0, .int .u8 0, .int .u8 0, .int .u8 0, .int .u8 0, .int .u8 0, .int .u8 0, .int .u8 0, .int .u8 0, .int .u8 0, .int .u8 0, .int .u8 0, .int .u8 0, .int .u8 0, .int .u8 0, .int .u8 0, .int .u8 0, .int .u8 0, .int .u8 0, .int .u8 0, .int .u8 0, .int .u8 0, .int .u8 0] 30)
      have hb5 := newKey_below hbw4 hbw4.size
      have hO4 := HO4.lt
      clear KS hb4 hbk3 hb3 HO3 HR3 HO4 HR4 hbk4
      go_wp2_with (first
        | ((with_reducible refine wpList_store_key rfl (.tmp 10) (.tmp 44) rfl w4.heap.size rfl I HII.out.2 rfl zkey HK rfl ?_); intro w6 o6 H6; have HO6 := HO5.only o6 (by omega); have HR6 := HR5.only o6 (by omega); have hb6 := o6.below hb5 hbw4.size; have hI6 := H6.bytes 32 HII.out.2 (by simp [maxLen]); have hown6 := own_has HO6 (Nat.le_refl _) (by rw [mask_len, HX.out.2.1]) (by simp [maxLen]); have hz6 := o6.size; simp at hz6)
        | (at_builtin; (refine app8 rfl (.tmp 45) (.tmp 46) rfl (wA.heap.size + 1) (.slice (some ⟨wA.heap.size + 1, 0, none⟩) 64 64) 64 (mask 92 X) rfl hown6 (some ⟨w4.heap.size, 0, none⟩) 32 32 I rfl hI6 (by omega) (by omega) ?_); intro v7 w7 hown7 hg7))
      have hb7 : Below w.heap.size w w7 := hb6.grown hg7 hb6.size (fun k hk => by have := (hown6.lt k hk).1; omega)
      have HR7 := HR6.grown hg7 (by show some w.heap.size ≠ some (wA.heap.size + 1); intro h; have := Option.some.inj h; omega)
      obtain ⟨A7, c7, rfl, hr7⟩ := Row.own hown7
      obtain ⟨R, hR⟩ : ∃ R, R = shaN (mask 92 X ++ I) := ⟨_, rfl⟩
      have hRl : R.length = 32 := by rw [hR, shaN_len]
      have hRm : R = macN l l' := by rw [hR, HII.out.1, HX.out.1, macN]
      have KT0 := refSha.Sha A7 (64 + 32) c7 (mask 92 X ++ I) w7 hr7 (by omega)
      rw [← hR] at KT0
      have KT := Lib.hid KT0
      have HRR := Lib.hid (And.intro hRl hRm)
      clear hR hRl hRm KT0 hown6 hown7 hg7 HO6 HR6 hb6 H6 hI6 o6 HO5 HR5 hb5 HK
      refine (KT.out).mono ?_
      rintro e w8 ⟨rfl, hb8⟩
      have HR8 := HR7.keep hb8 HR7.lt
      have hbw8 := hb7.trans (hb8.mono hb7.size)
      clear KT HR7 hb7 hb8
      go_wp2_with ((with_reducible refine wpList_store_key rfl (.tmp 4) (.tmp 48) rfl w.heap.size rfl R HRR.out.1 rfl zkey HR8 rfl ?_); intro w9 o9 H9)
      refine ret_key Tryd.results21 w.heap.size ?_ R HRR.out.1 H9 ?_ ⟨by rw [HRR.out.2], o9.below hbw8 (Nat.le_refl _)⟩
      · rfl
      · rfl
set_option maxRecDepth 10000 in
set_option maxHeartbeats 1000000 in
theorem MacLong (A : Option Addr) (n c : Nat) (l : List UInt8) (B : Option Addr) (m d : Nat) (l' : List UInt8) (w : World) (hl : Bytes w A n c l) (hl' : Bytes w B m d l') (hn : 64 < n) (hn2 : n ≤ 70368744177600) (hm : m ≤ 70368744177600) :
    Calls Tryd.prog 21 #[.slice A n c, .slice B m d] w fun e w' => e = .returned (.agg ((macN l l').map bv).toArray) ∧ Below w.heap.size w w' := by
  have HR1 := newKey w
  have hb1 := newKey_below (Below.refl w.heap.size w) (Nat.le_refl _)
  have hn' : (64 : Int) < (n : Int) := by omega
  have K0 := refSha.Sha A n c l _ (hl.keep hb1) (by omega)
  obtain ⟨kb, hkbe⟩ : ∃ x, x = shaN l := ⟨_, rfl⟩
  have hkbl : kb.length = 32 := by rw [hkbe, shaN_len]
  rw [← hkbe] at K0
  have K := Lib.hid K0
  have hkb := Lib.hid (show mkey l = kb by rw [mkey, hl.len, if_pos (by omega), hkbe])
  have HKL0 := Lib.hid hkbl
  clear K0 hkbe hkbl
  go_enter Tryd.func21, Tryd.ntmps21
  go_wp2_with fail
  refine (K.out).mono ?_
  rintro e w3 ⟨rfl, hb3⟩
  have HR3 := HR1.keep hb3 HR1.lt
  have hbw3 := hb1.trans (hb3.mono hb1.size)
  have HK := newKey w3
  have HR4 := HR3.alloc (.cells #[.int .u8 0, .int .u8 0, .int .u8 0, .int .u8 0, .int .u8 0, .int .u8 0, .int .u8 0, .int .u8 0, .int .u8 0, .int .u8 0, .int .u8 0, .int .u8 0, .int .u8 0, .int .u8 0, .int .u8 0, .int .u8 0, .int .u8 0, .int .u8 0, .int .u8 0, .int .u8 0, .int .u8 0, .int .u8 0, .int .u8 0, .int .u8 0, .int .u8 0, .int .u8 0, .int .u8 0, .int .u8 0, .int .u8 0, .int .u8 0, .int .u8 0, .int .u8 0] 30)
  have hb4 := newKey_below hbw3 hbw3.size
  have hr3 := HR3.lt
  clear HR1 hb1 hb3 HR3 K
  go_upto_region 4 with ((with_reducible refine wpList_store_key rfl (.tmp 5) (.tmp 15) rfl w3.heap.size rfl kb HKL0.out rfl zkey HK rfl ?_); intro wA o5 H5)
  have HRA := HR4.only o5 (by omega)
  have hbA := o5.below hb4 hbw3.size
  have hkA : Bytes wA (some ⟨w3.heap.size, 0, none⟩) 32 32 kb := H5.bytes 32 HKL0.out (by simp [maxLen])
  have hn0 : 32 ≤ 64 := by omega
  clear HK HR4 hb4 o5 H5 HKL0
  obtain ⟨X, hX⟩ : ∃ X, X = mblk l := ⟨_, rfl⟩
  have hXl : X.length = 64 := by rw [hX, mblk_len]
  have hXat : ∀ j, X.getD j 0 = kb.getD j 0 := fun j => by rw [hX, mblk_at, hkb.out]
  have HX := Lib.hid (And.intro hX (And.intro hXl hXat))
  have hkl := hkA.len
  have hrA := HRA.lt
  have hb1 := hbA.alloc hbA.size (.cells (noughts 64).toArray 5)
  have hb2 := hb1.alloc hb1.size (.cells (noughts 64).toArray 5)
  have HR2 := (HRA.alloc (.cells (noughts 64).toArray 5)).alloc (.cells (noughts 64).toArray 5)
  have HI2 := (Has.new wA 5 (noughts 64)).alloc (.cells (noughts 64).toArray 5)
  have HO2 := (Has.new (wA.alloc (.cells (noughts 64).toArray 5)) 5 (noughts 64)).at_ (show _ = wA.heap.size + 1 by simp)
  have hbk : Below wA.heap.size wA ((wA.alloc (.cells (noughts 64).toArray 5)).alloc (.cells (noughts 64).toArray 5)) := ((Below.refl _ _).alloc (Nat.le_refl _) _).alloc (by simp) _
  have HKL := Lib.hid hkl
  have hmk : ∀ u, (Instr.makeSlice 23 (.int .i64 64) (.int .i64 64)).run Tryd.prog u = .ok (.slice (some ⟨u.heap.size, 0, none⟩) 64 64) (u.alloc (.cells (noughts 64).toArray 5)) := fun u => run_make8 64 64 (Nat.le_refl _) (by omega) u
  clear hX hXl hXat hb1 hkl
  go_wp2
  clear hmk
  change Code.wp _ _ _ _ ((wA.alloc (.cells (noughts 64).toArray 5)).alloc (.cells (noughts 64).toArray 5))
  generalize ((wA.alloc (.cells (noughts 64).toArray 5)).alloc (.cells (noughts 64).toArray 5)) = w2 at *
  go_loopw [8] (fun i wr => ∃ j : Nat, j ≤ 64 ∧ i = .int .i64 j ∧ Has wr wA.heap.size 5 ((mask 54 (X.take j) ++ List.replicate (64 - j) 0).map bv) ∧ Has wr (wA.heap.size + 1) 5 ((mask 92 (X.take j) ++ List.replicate (64 - j) 0).map bv) ∧ Has wr w.heap.size 30 zkey ∧ Below w.heap.size w wr ∧ Below wA.heap.size wA wr) (fun i _ => 64 - (intOf i).toNat)
  case atStart => exact ⟨0, by omega, rfl, by simpa [mask, noughts, bv] using HI2, by simpa [mask, noughts, bv] using HO2, HR2, hb2, hbk⟩
  case round =>
    clear HI2 HO2 HR2 hb2 hbk
    obtain ⟨j, hj, rfl, HI, HO, HR, hb, hbk⟩ := hrel
    by_cases hlt : j < 64
    · have hlen1 : (mask 54 (X.take j) ++ List.replicate (64 - j) 0).length = 64 := by rw [List.length_append, mask_len, List.length_take, HX.out.2.1, List.length_replicate]; omega
      have hlen2 : (mask 92 (X.take j) ++ List.replicate (64 - j) 0).length = 64 := by rw [List.length_append, mask_len, List.length_take, HX.out.2.1, List.length_replicate]; omega
      obtain ⟨vi, ci⟩ : ∃ v, wr.cell? ⟨wA.heap.size, j, none⟩ = some v := ⟨_, (HI.cell j).trans (List.getElem?_eq_getElem (by rw [List.length_map]; omega))⟩
      have fi := HI.froz j
      obtain ⟨vo, co⟩ : ∃ v, wr.cell? ⟨wA.heap.size + 1, j, none⟩ = some v := ⟨_, (HO.cell j).trans (List.getElem?_eq_getElem (by rw [List.length_map]; omega))⟩
      have fo := HO.froz j
      clear hlen1 hlen2
      by_cases hjn : j < 32
      · have hb0 : w3.heap.size < wA.heap.size := by obtain ⟨b0, off0, e0, hb0, _⟩ := hkA.at_ (by omega); cases e0; exact hb0
        have hc0 : ∀ j, j < 32 → wA.cell? ⟨w3.heap.size, j, none⟩ = some (.int .u8 ((kb.getD j 0).toNat : Int)) := fun j hj => by obtain ⟨b0, off0, e0, _, hc0⟩ := hkA.at_ (by omega); cases e0; simpa using hc0 j hj
        have cx := (hbk.cell (p := ⟨w3.heap.size, j, none⟩) hb0).trans (hc0 j hjn)
        obtain ⟨x, hx⟩ : ∃ x, x = kb.getD j 0 := ⟨_, rfl⟩
        rw [← hx] at cx
        have HXX := Lib.hid hx
        clear hx hc0
        go_wp2
        go_roundw
        case rel =>
          have e1 := mask_set 54 X HX.out.2.1 j hlt (.int .u8 (bits .xor .u8 (x.toNat : Int) 54)) (by rw [HX.out.2.2, ← HXX.out]; exact xor_bv x 54 (by omega))
          have e2 := mask_set 92 X HX.out.2.1 j hlt (.int .u8 (bits .xor .u8 (x.toNat : Int) 92)) (by rw [HX.out.2.2, ← HXX.out]; exact xor_bv x 92 (by omega))
          have H1 := (HI.set j (.int .u8 (bits .xor .u8 (x.toNat : Int) 54))).far ⟨wA.heap.size + 1, j, none⟩ (by show wA.heap.size ≠ wA.heap.size + 1; omega) (.int .u8 (bits .xor .u8 (x.toNat : Int) 92))
          have H2 := (HO.far ⟨wA.heap.size, j, none⟩ (by show wA.heap.size + 1 ≠ wA.heap.size; omega) (.int .u8 (bits .xor .u8 (x.toNat : Int) 54))).set j (.int .u8 (bits .xor .u8 (x.toNat : Int) 92))
          rw [e1] at H1
          rw [e2] at H2
          exact ⟨j + 1, by omega, by go_num, H1, H2, (HR.far ⟨wA.heap.size, j, none⟩ (by show w.heap.size ≠ wA.heap.size; omega) _).far ⟨wA.heap.size + 1, j, none⟩ (by show w.heap.size ≠ wA.heap.size + 1; omega) _, (hb.setCell (by show w.heap.size ≤ wA.heap.size; omega) _).setCell (by show w.heap.size ≤ wA.heap.size + 1; omega) _, (hbk.setCell (Nat.le_refl _) _).setCell (by show wA.heap.size ≤ wA.heap.size + 1; omega) _⟩
        case measure => simp [intOf]; omega
      · have hx0 : kb.getD j 0 = 0 := by
          have := HKL.out
          rw [List.getD_eq_getElem?_getD, List.getElem?_eq_none (by omega)]
          rfl
        have HXX := Lib.hid hx0
        clear hx0
        have k54 : bits .xor .u8 0 54 = 54 := by rfl
        have k92 : bits .xor .u8 0 92 = 92 := by rfl
        go_wp2
        go_roundw
        case rel =>
          have e1 := mask_set 54 X HX.out.2.1 j hlt (.int .u8 54) (by rw [HX.out.2.2, HXX.out]; rfl)
          have e2 := mask_set 92 X HX.out.2.1 j hlt (.int .u8 92) (by rw [HX.out.2.2, HXX.out]; rfl)
          have H1 := (HI.set j (.int .u8 54)).far ⟨wA.heap.size + 1, j, none⟩ (by show wA.heap.size ≠ wA.heap.size + 1; omega) (.int .u8 92)
          have H2 := (HO.far ⟨wA.heap.size, j, none⟩ (by show wA.heap.size + 1 ≠ wA.heap.size; omega) (.int .u8 54)).set j (.int .u8 92)
          rw [e1] at H1
          rw [e2] at H2
          exact ⟨j + 1, by omega, by go_num, H1, H2, (HR.far ⟨wA.heap.size, j, none⟩ (by show w.heap.size ≠ wA.heap.size; omega) _).far ⟨wA.heap.size + 1, j, none⟩ (by show w.heap.size ≠ wA.heap.size + 1; omega) _, (hb.setCell (by show w.heap.size ≤ wA.heap.size; omega) _).setCell (by show w.heap.size ≤ wA.heap.size + 1; omega) _, (hbk.setCell (Nat.le_refl _) _).setCell (by show wA.heap.size ≤ wA.heap.size + 1; omega) _⟩
        case measure => simp [intOf]; omega
    · obtain rfl : j = 64 := by omega
      rw [List.take_of_length_le (Nat.le_of_eq HX.out.2.1), Nat.sub_self, List.replicate_zero, List.append_nil] at HI HO
      have hownI := own_has HI (Nat.le_refl _) (by rw [mask_len, HX.out.2.1]) (by simp [maxLen])
      have HB1 := Lib.hid (show 64 + m ≤ 140737488355328 by omega)
      have hl3 := hl'.keep hb
      have hrO := HO.lt
      clear hlt
      go_wp2_with (at_builtin; (refine app8 rfl (.tmp 41) (.tmp 42) rfl wA.heap.size (.slice (some ⟨wA.heap.size, 0, none⟩) 64 64) 64 (mask 54 X) rfl hownI B m d l' rfl hl3 HB1.out (by omega) ?_); intro v3 w3 hown3 hg3)
      have hbk3 : Below wA.heap.size wA w3 := hbk.grown hg3 hbk.size (fun k hk => (hownI.lt k hk).1)
      have hb3 : Below w.heap.size w w3 := hb.grown hg3 hb.size (fun k hk => by have := (hownI.lt k hk).1; omega)
      have HO3 := HO.grown hg3 (by show some (wA.heap.size + 1) ≠ some wA.heap.size; intro h; have := Option.some.inj h; omega)
      have HR3 := HR.grown hg3 (by show some w.heap.size ≠ some wA.heap.size; intro h; have := Option.some.inj h; omega)
      obtain ⟨A3, c3, rfl, hr3⟩ := Row.own hown3
      clear hownI hown3 hg3 HI HO HR hb hbk
      obtain ⟨I, hI⟩ : ∃ I, I = shaN (mask 54 X ++ l') := ⟨_, rfl⟩
      have hIl : I.length = 32 := by rw [hI, shaN_len]
      have KS0 := refSha.Sha A3 (64 + m) c3 (mask 54 X ++ l') w3 hr3 (by omega)
      rw [← hI] at KS0
      have KS := Lib.hid KS0
      have HII := Lib.hid (And.intro hI hIl)
      clear hI hIl KS0 hr3
      refine (KS.out).mono ?_
      rintro e w4 ⟨rfl, hb4⟩
      have hO3 := HO3.lt
      have HO4 := HO3.keep hb4 HO3.lt
      have HR4 := HR3.keep hb4 HR3.lt
      have hbk4 := hbk3.trans (hb4.mono hbk3.size)
      have hbw4 := hb3.trans (hb4.mono hb3.size)
      have HK := newKey w4
      have HO5 := HO4.alloc (.cells #[.int .u8 0, .int .u8 0, .int .u8 0, .int .u8 0, .int .u8 0, .int .u8 0, .int .u8 0, .int .u8 0, .int .u8 0, .int .u8 0, .int .u8 0, .int .u8 0, .int .u8 0, .int .u8 0, .int .u8 0, .int .u8 0, .int .u8 0, .int .u8 0, .int .u8 0, .int .u8 0, .int .u8 0, .int .u8 0, .int .u8 0, .int .u8 0, .int .u8 0, .int .u8 0, .int .u8 0, .int .u8 0, .int .u8 0, .int .u8 0, .int .u8 0, .int .u8 0] 30)
      have HR5 := HR4.alloc (.cells #[.int .u8 0, .int .u8 0, .int .u8 0, .int .u8 0, .int .u8 0, .int .u8 0, .int .u8 0, .int .u8 0, .int .u8 0, .int .u8 0, .int .u8 0, .int .u8 0, .int .u8 0, .int .u8 0, .int .u8 0, .int .u8 0, .int .u8 0, .int .u8 0, .int .u8 0, .int .u8 0, .int .u8 0, .int .u8 0, .int .u8 0, .int .u8 0, .int .u8 0, .int .u8 0, .int .u8 0, .int .u8 0, .int .u8 0, .int .u8 0, .int .u8 0, .int .u8 0] 30)
      have hb5 := newKey_below hbw4 hbw4.size
      have hO4 := HO4.lt
      clear KS hb4 hbk3 hb3 HO3 HR3 HO4 HR4 hbk4
      go_wp2_with (first
        | ((with_reducible refine wpList_store_key rfl (.tmp 10) (.tmp 44) rfl w4.heap.size rfl I HII.out.2 rfl zkey HK rfl ?_); intro w6 o6 H6; have HO6 := HO5.only o6 (by omega); have HR6 := HR5.only o6 (by omega); have hb6 := o6.below hb5 hbw4.size; have hI6 := H6.bytes 32 HII.out.2 (by simp [maxLen]); have hown6 := own_has HO6 (Nat.le_refl _) (by rw [mask_len, HX.out.2.1]) (by simp [maxLen]); have hz6 := o6.size; simp at hz6)
        | (at_builtin; (refine app8 rfl (.tmp 45) (.tmp 46) rfl (wA.heap.size + 1) (.slice (some ⟨wA.heap.size + 1, 0, none⟩) 64 64) 64 (mask 92 X) rfl hown6 (some ⟨w4.heap.size, 0, none⟩) 32 32 I rfl hI6 (by omega) (by omega) ?_); intro v7 w7 hown7 hg7))
      have hb7 : Below w.heap.size w w7 := hb6.grown hg7 hb6.size (fun k hk => by have := (hown6.lt k hk).1; omega)
      have HR7 := HR6.grown hg7 (by show some w.heap.size ≠ some (wA.heap.size + 1); intro h; have := Option.some.inj h; omega)
      obtain ⟨A7, c7, rfl, hr7⟩ := Row.own hown7
      obtain ⟨R, hR⟩ : ∃ R, R = shaN (mask 92 X ++ I) := ⟨_, rfl⟩
      have hRl : R.length = 32 := by rw [hR, shaN_len]
      have hRm : R = macN l l' := by rw [hR, HII.out.1, HX.out.1, macN]
      have KT0 := refSha.Sha A7 (64 + 32) c7 (mask 92 X ++ I) w7 hr7 (by omega)
      rw [← hR] at KT0
      have KT := Lib.hid KT0
      have HRR := Lib.hid (And.intro hRl hRm)
      clear hR hRl hRm KT0 hown6 hown7 hg7 HO6 HR6 hb6 H6 hI6 o6 HO5 HR5 hb5 HK
      refine (KT.out).mono ?_
      rintro e w8 ⟨rfl, hb8⟩
      have HR8 := HR7.keep hb8 HR7.lt
      have hbw8 := hb7.trans (hb8.mono hb7.size)
      clear KT HR7 hb7 hb8
      go_wp2_with ((with_reducible refine wpList_store_key rfl (.tmp 4) (.tmp 48) rfl w.heap.size rfl R HRR.out.1 rfl zkey HR8 rfl ?_); intro w9 o9 H9)
      refine ret_key Tryd.results21 w.heap.size ?_ R HRR.out.1 H9 ?_ ⟨by rw [HRR.out.2], o9.below hbw8 (Nat.le_refl _)⟩
      · rfl
      · rfl
theorem Mac (A : Option Addr) (n c : Nat) (l : List UInt8) (B : Option Addr) (m d : Nat) (l' : List UInt8) (w : World) (hl : Bytes w A n c l) (hl' : Bytes w B m d l') (hn2 : n ≤ 70368744177600) (hm : m ≤ 70368744177600) :
    Calls Tryd.prog 21 #[.slice A n c, .slice B m d] w fun e w' => e = .returned (.agg ((macN l l').map bv).toArray) ∧ Below w.heap.size w w' := by
  by_cases h : 64 < n
  · exact MacLong A n c l B m d l' w hl hl' h hn2 hm
  · exact MacShort A n c l B m d l' w hl hl' (by omega) hm
end refMac
end Go.Proofs.YtcdoeiccdmmfkaaDoor
