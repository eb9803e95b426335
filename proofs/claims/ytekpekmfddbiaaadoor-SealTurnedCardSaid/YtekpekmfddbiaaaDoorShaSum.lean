/-
  Contracts of sha's pad, sum, Sum and Parts.
-/
import Derived.Test.YtekpekmfddbiaaaDoorShaDig
namespace Go.Proofs.YtekpekmfddbiaaaDoor
open Go.ChangeShapes Go.WideShapes Go.ChangeAt Go.RowKit
set_option linter.unusedVariables false
set_option linter.unusedSimpArgs false

theorem own_off {w : World} {base g : Nat} {e : TypeId} {n n' c : Nat} {A : Option Addr} {xs : List Value} (h : w.ownsRow base e 1 (.slice A n' c) n xs) (hg : g < base) (k : Nat) : Off g A k := by
  intro _ p hp
  subst hp
  obtain ⟨_, h2⟩ := h
  rcases h2 with ⟨h2, _⟩ | ⟨g', cap, cur, h2, hb, _⟩
  · cases h2
  · cases h2
    intro e
    have e' : g' = g := e
    omega
theorem padN_len (n : Nat) : (n + (padN n).length) % 64 = 0 := by
  simp [padN, be64_len]
  omega

namespace sha
set_option maxHeartbeats 400000 in
theorem pad (g : Nat) (m : List UInt8) (w : World) (hd : Dig w g m) (hT : Tab w) (hG : 0 ≠ g) :
    Calls Tryd.prog 36 #[.pointer (some ⟨g, 0, none⟩)] w fun e w' => e = .returned (.tuple #[]) ∧ Dig w' g (m ++ padN m.length) ∧ Save g w w' := by
  have hd0 := hd
  obtain ⟨rest, hrest, _, H⟩ := hd
  have c73 := (H.cell 73).trans (dcells_73 hrest)
  have c72 := (H.cell 72).trans (dcells_72 hrest)
  obtain ⟨r, hr⟩ : ∃ r, r = m.length % 64 := ⟨_, rfl⟩
  obtain ⟨ln, hln⟩ : ∃ x, x = m.length % 18446744073709551616 := ⟨_, rfl⟩
  rw [← hr] at c72
  rw [← hln] at c73
  obtain ⟨bits, hbits⟩ : ∃ x, x = 8 * m.length % 18446744073709551616 := ⟨_, rfl⟩
  have e1 : IntKind.u64.wrap (8 * (ln : Int)) = (bits : Int) := by simp only [IntKind.wrap_u64]; omega
  have hr64 : r < 64 := by omega
  obtain ⟨z, hz⟩ : ∃ z, z = (119 - r) % 64 := ⟨_, rfl⟩
  have e2 : (55 - (r : Int) + 64).tmod 64 = (z : Int) := by
    rw [Int.tmod_eq_emod_of_nonneg (by omega)]
    omega
  have hz64 : z < 64 := by omega
  have hmk := fun u => run_make8 (1 + z) (1 + z) (Nat.le_refl _) (by omega) u
  rw [show ((1 + z : Nat) : Int) = 1 + (z : Int) by omega] at hmk
  have HN := Has.new w 5 (noughts (1 + z))
  have n0 : (w.alloc (.cells (noughts (1 + z)).toArray 5)).cell? ⟨w.heap.size, 0, none⟩ = some (.int .u8 0) := by
    rw [HN.cell 0, noughts, List.getElem?_replicate, if_pos (by omega)]
  have f0 := HN.froz 0
  have hz1 : (0 : Int) < 1 + (z : Int) := by omega
  have Hp := Lib.hid (show padN m.length = (128 :: List.replicate z 0) ++ be64 bits by rw [padN, ← hr, ← hz, ← hbits])
  clear hr hln hbits hz
  go_enter Tryd.func36, Tryd.ntmps36
  have eT : (noughts (1 + z)).set 0 (.int .u8 128) = (128 :: List.replicate z 0 : List UInt8).map bv := by
    rw [noughts, Nat.add_comm 1 z, List.replicate_succ, List.set_cons_zero, List.map_cons, List.map_replicate]
    rfl
  have HB := Bytes.lit w (128 :: List.replicate z 0 : List UInt8) (by simp [maxLen]; omega)
  rw [show (128 :: List.replicate z 0 : List UInt8).length = 1 + z by simp; omega, ← eT] at HB
  have hb1 := (Below.refl w.heap.size w).alloc (Nat.le_refl _) (.cells ((noughts (1 + z)).set 0 (.int .u8 128)).toArray 5)
  have HP := Lib.hid (fun (u : World) (h : Bytes u (some ⟨w.heap.size, 0, none⟩) (1 + z) (1 + z) (128 :: List.replicate z 0 : List UInt8)) => wordsPut.put64 (some ⟨w.heap.size, 0, none⟩) (1 + z) (1 + z) _ bits u h (by omega))
  have HX := Lib.hid HB
  have Hb := Lib.hid hb1
  clear eT HB hb1
  go_wp2_with fail
  clear HN c72 c73 H
  refine (HP.out _ HX.out).mono ?_
  rintro e w2 ⟨v, rfl, hown, hb2⟩
  have hb := Hb.out.trans (hb2.mono Hb.out.size)
  obtain ⟨A, c, rfl, hr⟩ := Row.own hown
  have hA : Off g A (1 + z + 8) := own_off hown (Nat.lt_of_lt_of_le hd0.lt Hb.out.size) _
  clear hown n0 f0 hmk e1 e2
  go_wp2_with fail
  refine (write g m A (1 + z + 8) c _ w2 (hd0.keep hb) hr hA (hT.keep hb) hG).mono ?_
  rintro e w3 ⟨rfl, hd3, hS⟩
  go_wp2_with fail
  exact bodyPost_end (v := .tuple #[]) (by simp [results, Tryd.results36, go_sem]) rfl ⟨rfl, by rw [Hp.out]; exact hd3, (Save.of_below hb).trans hS⟩

theorem dcells_word {s : S8} {rest : List UInt8} {held len : Nat} (i : Nat) (h : i < 8) : (dcells s rest held len)[i]? = some (.int .u32 ((s.list.getD i 0 : Nat) : Int)) := by
  rw [dcells, List.getElem?_append_left (by show i < 8; exact h), List.getElem?_map]
  have h' : i < s.list.length := h
  simp [uv, h']
/-- The byte number i of a key. -/
theorem keyN_at (s : S8) (i : Nat) (h : i < 32) : (keyN s)[i]? = some (UInt8.ofNat (s.list.getD (i / 4) 0 / 2 ^ (24 - 8 * (i % 4)))) := by
  obtain ⟨a, b, c, d, e, f, g, k⟩ := s
  have hi : i = 0 ∨ i = 1 ∨ i = 2 ∨ i = 3 ∨ i = 4 ∨ i = 5 ∨ i = 6 ∨ i = 7 ∨ i = 8 ∨ i = 9 ∨ i = 10 ∨ i = 11 ∨ i = 12 ∨ i = 13 ∨ i = 14 ∨ i = 15 ∨ i = 16 ∨ i = 17 ∨ i = 18 ∨ i = 19 ∨ i = 20 ∨ i = 21 ∨ i = 22 ∨ i = 23 ∨ i = 24 ∨ i = 25 ∨ i = 26 ∨ i = 27 ∨ i = 28 ∨ i = 29 ∨ i = 30 ∨ i = 31 := by omega
  rcases hi with rfl | rfl | rfl | rfl | rfl | rfl | rfl | rfl | rfl | rfl | rfl | rfl | rfl | rfl | rfl | rfl | rfl | rfl | rfl | rfl | rfl | rfl | rfl | rfl | rfl | rfl | rfl | rfl | rfl | rfl | rfl | rfl <;> simp [keyN, S8.list, be32]
theorem keyN_len (s : S8) : (keyN s).length = 32 := by simp [keyN, S8.list, be32]
theorem key_set (K : List UInt8) (hK : K.length = 32) (i : Nat) (h : i < 32) (v : Value) (hv : v = bv (K.getD i 0)) : ((K.take i ++ List.replicate (32 - i) 0).map bv).set i v = (K.take (i + 1) ++ List.replicate (32 - (i + 1)) 0).map bv := by
  have h1 : (K.take i).length = i := by rw [List.length_take]; omega
  have h2 : i < K.length := by omega
  subst hv
  rw [show 32 - i = (32 - (i + 1)) + 1 by omega, List.replicate_succ, List.map_append, List.map_cons, List.set_append_right _ _ (by simp; omega), List.length_map, h1, Nat.sub_self, List.set_cons_zero, List.take_succ_eq_append_getElem h2]
  have e : K.getD i 0 = K[i] := by simp [h2]
  simp only [List.map_append, List.map_cons, List.map_nil, List.append_assoc, List.cons_append, List.nil_append, e]
set_option maxHeartbeats 800000 in
theorem sum (g : Nat) (m : List UInt8) (w : World) (hd : Dig w g m) (hT : Tab w) (hG : 0 ≠ g) :
    Calls Tryd.prog 31 #[.pointer (some ⟨g, 0, none⟩)] w fun e w' => e = .returned (.agg ((shaN m).map bv).toArray) ∧ Save g w w' := by
  have hb1 := (Below.refl w.heap.size w).alloc (Nat.le_refl _) (.cells ((List.replicate 32 0 : List UInt8).map bv).toArray 23)
  have HR1 := Has.new w 23 ((List.replicate 32 0 : List UInt8).map bv)
  have hgl := hd.lt
  have K := Lib.hid (pad g m (w.alloc (.cells ((List.replicate 32 0 : List UInt8).map bv).toArray 23)) (hd.keep hb1) (hT.keep hb1) hG)
  go_enter Tryd.func31, Tryd.ntmps31
  go_wp2_with fail
  refine (K.out).mono ?_
  rintro e w2 ⟨rfl, hd2, hS2⟩
  have HR2 := HR1.save hS2 (by omega)
  have hS := (Save.of_below (g := g) hb1).trans hS2
  have hszz : w.heap.size < w2.heap.size := HR2.lt
  obtain ⟨full, hfull⟩ : ∃ x, x = m ++ padN m.length := ⟨_, rfl⟩
  rw [← hfull] at hd2
  obtain ⟨rest, hrest, _, HD⟩ := hd2
  obtain ⟨s, hs⟩ : ∃ s, s = hashN full (full.length / 64) := ⟨_, rfl⟩
  obtain ⟨D, hD⟩ : ∃ D, D = dcells s rest (full.length % 64) (full.length % 18446744073709551616) := ⟨_, rfl⟩
  have hDw : ∀ i, i < 8 → D[i]? = some (.int .u32 ((s.list.getD i 0 : Nat) : Int)) := fun i h => by rw [hD]; exact dcells_word i h
  obtain ⟨Ks, hKs⟩ : ∃ K, K = keyN s := ⟨_, rfl⟩
  have hKl : Ks.length = 32 := by rw [hKs, keyN_len]
  have hKat : ∀ i, i < 32 → Ks[i]? = some (UInt8.ofNat (s.list.getD (i / 4) 0 / 2 ^ (24 - 8 * (i % 4)))) := fun i h => by rw [hKs]; exact keyN_at s i h
  rw [← hs, ← hD] at HD
  have hres : Ks = shaN m := by rw [hKs, hs, shaN, endN, ← hfull]
  have Hres := Lib.hid hres
  have HDW := Lib.hid hDw
  have HKL := Lib.hid hKl
  have HKat := Lib.hid hKat
  have hb3 := (Below.refl w2.heap.size w2).alloc (Nat.le_refl _) (.cells ((List.replicate 32 0 : List UInt8).map bv).toArray 23)
  have HK3 := Has.new w2 23 ((List.replicate 32 0 : List UInt8).map bv)
  have HD3 := HD.alloc (.cells ((List.replicate 32 0 : List UInt8).map bv).toArray 23)
  have HR3 := HR2.alloc (.cells ((List.replicate 32 0 : List UInt8).map bv).toArray 23)
  have hS3 := hS.trans (Save.of_below hb3)
  have hgl2 := HD.lt
  clear hfull hs hD hDw hKs hKl hKat hres HD HR2 HR1 hS hS2 hb1 hb3 hd hT K hrest
  go_wp2
  go_loopw [7] (fun i wr => ∃ j : Nat, j ≤ 32 ∧ i = .int .i64 j ∧ Has wr w2.heap.size 23 ((Ks.take j ++ List.replicate (32 - j) 0).map bv) ∧ Has wr g 53 D ∧ Has wr w.heap.size 23 ((List.replicate 32 0 : List UInt8).map bv) ∧ Save g w wr) (fun i _ => 32 - (intOf i).toNat)
  case atStart => exact ⟨0, by omega, rfl, HK3, HD3, HR3, hS3⟩
  case round =>
    clear HK3 HD3 HR3 hS3
    obtain ⟨j, hj, rfl, HK, HD, HR, hS⟩ := hrel
    by_cases hlt : j < 32
    · have cw := (HD.cell (j / 4)).trans (HDW.out (j / 4) (by omega))
      have ck := (HK.cell j).trans (List.getElem?_eq_getElem (by simp [HKL.out]; omega))
      have fk := HK.froz j
      obtain ⟨x, hx⟩ : ∃ x, x = s.list.getD (j / 4) 0 := ⟨_, rfl⟩
      rw [← hx] at cw
      obtain ⟨t, ht⟩ : ∃ t : Nat, t = 24 - 8 * (j % 4) := ⟨_, rfl⟩
      have e1 : 24 - 8 * ((j : Int) % 4) = (t : Int) := by omega
      have Hx := Lib.hid (And.intro hx ht)
      clear hx ht
      go_wp2
      go_roundw
      case rel =>
        obtain ⟨hx, ht⟩ := Hx.out
        refine ⟨j + 1, by omega, by go_num, ?_, HD.far _ (by show g ≠ w2.heap.size; omega) _, HR.far _ (by show w.heap.size ≠ w2.heap.size; omega) _, hS.new (Only.setCell wr w2.heap.size j _) (by omega)⟩
        have h := HK.set j (.int .u8 ((x : Int) / 2 ^ t % 256))
        rw [key_set Ks HKL.out j hlt _ (by
          rw [List.getD_eq_getElem?_getD, HKat.out j hlt, Option.getD_some, ← hx, ← ht]
          simp [bv])] at h
        exact h
      case measure => simp [intOf]; omega
    · obtain rfl : j = 32 := by omega
      have HK2 : Has wr w2.heap.size 23 (Ks.map bv) := by
        rw [List.take_of_length_le (Nat.le_of_eq HKL.out), List.replicate_zero, List.append_nil] at HK
        exact HK
      have SZ := Lib.hid (show (Tryd.prog.info? 23).map (·.size) = some (Ks.map bv).length by rw [List.length_map, HKL.out]; kernel_rfl)
      have LL := Lib.hid (show ((List.replicate 32 0 : List UInt8).map bv).length = (Ks.map bv).length by rw [List.length_map, List.length_map, HKL.out, List.length_replicate])
      have OC := Lib.hid (one_bv Ks)
      clear HK hlt
      go_wp2_with (first
        | ((with_reducible refine wpList_load_has rfl 23 (.tmp 3) rfl w2.heap.size rfl 23 (Ks.map bv) HK2 _ Tryd.underlying23 rfl SZ.out ?_))
        | ((with_reducible refine wpList_store_has rfl 23 (.tmp 2) (.tmp 26) rfl w.heap.size rfl (Ks.map bv) rfl 23 _ HR SZ.out LL.out OC.out ?_); intro w5 o5 H5))
      refine ret_has Tryd.results31 w.heap.size ?_ 23 (Ks.map bv) H5 _ Tryd.underlying23 rfl SZ.out ?_ ⟨by rw [Hres.out], hS.new o5 (Nat.le_refl _)⟩
      · rfl
      · rfl

/-- sha.Sum: what the reference's Sha is held against. -/
theorem Sum (A : Option Addr) (n c : Nat) (l : List UInt8) (w : World) (hl : Bytes w A n c l) (hT : Tab w) :
    Calls Tryd.prog 24 #[.slice A n c] w fun e w' => e = .returned (.agg ((shaN l).map bv).toArray) ∧ Below w.heap.size w w' := by
  obtain ⟨hz, hsz⟩ := zero_of_info zero_digest
  obtain ⟨z, hzz⟩ : ∃ z, z = dcells ⟨0, 0, 0, 0, 0, 0, 0, 0⟩ (List.replicate 64 0) 0 0 := ⟨_, rfl⟩
  obtain ⟨d, hd⟩ : ∃ d, d = dcells h0N (List.replicate 64 0) 0 0 := ⟨_, rfl⟩
  have hzl : z.length = 74 := by rw [hzz]; exact dcells_len (by simp)
  have hdl : d.length = 74 := by rw [hd]; exact dcells_len (by simp)
  have SZ := Lib.hid (show (Tryd.prog.info? 53).map (·.size) = some d.length by rw [hdl]; exact hsz)
  have LL := Lib.hid (hzl.trans hdl.symm)
  have OC := Lib.hid (hd ▸ one_dcells0 h0N)
  have hb1 := (Below.refl w.heap.size w).alloc (Nat.le_refl _) (.cells ((List.replicate 32 0 : List UInt8).map bv).toArray 23)
  have HR1 := Has.new w 23 ((List.replicate 32 0 : List UInt8).map bv)
  have K0 := newDigest (w.alloc (.cells ((List.replicate 32 0 : List UInt8).map bv).toArray 23))
  rw [← hd] at K0
  have K := Lib.hid K0
  have Hd := Lib.hid hd
  have hTl := World.block_lt_of_cell? w _ (hT 0 (by omega))
  rw [← hzz] at hz
  clear hzz hd hzl hdl hsz K0
  go_enter Tryd.func24, Tryd.ntmps24
  go_wp2_with fail
  refine (K.out).mono ?_
  rintro e w2 ⟨rfl, hb2⟩
  have hb := hb1.trans (hb2.mono hb1.size)
  have HR := HR1.keep hb2 HR1.lt
  have H0 := Has.new w2 53 z
  have hb3 := hb.alloc hb.size (.cells z.toArray 53)
  have HR3 := HR.alloc (.cells z.toArray 53)
  have hszl := HR.lt
  clear HR HR1 hb1 hb2 K
  go_wp2_with (first
    | ((with_reducible refine wpList_store_has rfl 53 (.tmp 3) (.tmp 4) rfl w2.heap.size rfl d rfl 53 z H0 SZ.out LL.out OC.out ?_); intro w4 o4 H4; have hb4 := o4.below hb3 hb.size; have HR4 := HR3.only o4 (by omega)))
  have hd4 := dig_new (Hd.out ▸ H4)
  have hG : 0 ≠ w2.heap.size := by have : 0 < w.heap.size := hTl; omega
  refine (write w2.heap.size [] A n c l w4 hd4 (hl.keep hb4) (Off.of_row hl hb.size) (hT.keep hb4) hG).mono ?_
  rintro e w5 ⟨rfl, hd5, hS5⟩
  have hb5 := hS5.below hb4 hb.size hb4.size
  have HR5 := HR4.save hS5 (by omega)
  clear hd4 HR4 HR3 H0 H4 o4 hb3 hb4 hS5
  go_wp2_with fail
  refine (sum w2.heap.size _ w5 hd5 (hT.keep hb5) hG).mono ?_
  rintro e w6 ⟨rfl, hS6⟩
  have hb6 := hS6.below hb5 hb.size hb5.size
  have HR6 := HR5.save hS6 (by omega)
  rw [List.nil_append]
  obtain ⟨Ks, hKs⟩ : ∃ K, K = (shaN l).map bv := ⟨_, rfl⟩
  have hKl : Ks.length = 32 := by rw [hKs, List.length_map, shaN, keyN_len]
  have SK := Lib.hid (show (Tryd.prog.info? 23).map (·.size) = some Ks.length by rw [hKl]; kernel_rfl)
  have LK := Lib.hid (show ((List.replicate 32 0 : List UInt8).map bv).length = Ks.length by rw [List.length_map, hKl, List.length_replicate])
  have OK := Lib.hid (show ∀ u ∈ Ks, u.oneCell' = true from hKs ▸ one_bv _)
  rw [← hKs]
  have HKs := Lib.hid hKs
  clear hKs hKl hd5 HR5 hS6 hb5
  go_wp2_with ((with_reducible refine wpList_store_has rfl 23 (.tmp 2) (.tmp 7) rfl w.heap.size rfl Ks rfl 23 _ HR6 SK.out LK.out OK.out ?_); intro w7 o7 H7)
  refine ret_has Tryd.results24 w.heap.size ?_ 23 Ks H7 _ Tryd.underlying23 rfl SK.out ?_ ⟨by rw [HKs.out], o7.below hb6 (Nat.le_refl _)⟩
  · rfl
  · rfl
end sha
end Go.Proofs.YtekpekmfddbiaaaDoor
