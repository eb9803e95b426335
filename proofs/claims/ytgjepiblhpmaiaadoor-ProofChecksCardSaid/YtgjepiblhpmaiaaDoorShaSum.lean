/-
  Contracts of sha's pad, sum, Sum and Parts.
-/
import Derived.Test.YtgjepiblhpmaiaaDoorShaDig
namespace Go.Proofs.YtgjepiblhpmaiaaDoor
open Go.ChangeShapes Go.WideShapes Go.ChangeAt Go.RowKit
set_option linter.unusedVariables false
set_option linter.unusedSimpArgs false

theorem own_off {w : World} {base g : Nat} {e : TypeId} {n n' c : Nat} {A : Option Addr} {xs : List Value} (h : w.ownsRow base e 1 (.slice A n' c) n xs) (hg : g < base) (k : Nat) : Off g A k := by
  intro _ p hp
  subst hp
  obtain ⟨_, h2⟩ := h
  rcases h2 with ⟨h2, _⟩ | ⟨g', cap, cur, h2, hb, _⟩
  · cases h2
  · cases h2
    intro e
    have e' : g' = g := e
    omega
theorem padN_len (n : Nat) : (n + (padN n).length) % 64 = 0 := by
  simp [padN, be64_len]
  omega

namespace sha
set_option maxHeartbeats 400000 in
theorem pad (g : Nat) (m : List UInt8) (w : World) (hd : Dig w g m) (hT : Tab w) (hG : 0 ≠ g) :
    Calls Tryd.prog 56 #[.pointer (some ⟨g, 0, none⟩)] w fun e w' => e = .returned (.tuple #[]) ∧ Dig w' g (m ++ padN m.length) ∧ Save g w w' := by
  have hd0 := hd
  obtain ⟨rest, hrest, _, H⟩ := hd
  have c73 := (H.cell 73).trans (dcells_73 hrest)
  have c72 := (H.cell 72).trans (dcells_72 hrest)
  obtain ⟨r, hr⟩ : ∃ r, r = m.length % 64 := ⟨_, rfl⟩
  obtain ⟨ln, hln⟩ : ∃ x, x = m.length % 18446744073709551616 := ⟨_, rfl⟩
  rw [← hr] at c72
  rw [← hln] at c73
  obtain ⟨bits, hbits⟩ : ∃ x, x = 8 * m.length % 18446744073709551616 := ⟨_, rfl⟩
  have e1 : IntKind.u64.wrap (8 * (ln : Int)) = (bits : Int) := by simp only [IntKind.wrap_u64]; omega
  have hr64 : r < 64 := by omega
  obtain ⟨z, hz⟩ : ∃ z, z = (119 - r) % 64 := ⟨_, rfl⟩
  have e2 : (55 - (r : Int) + 64).tmod 64 = (z : Int) := by
    rw [Int.tmod_eq_emod_of_nonneg (by omega)]
    omega
  have hz64 : z < 64 := by omega
  have hmk := fun u => run_make8 (1 + z) (1 + z) (Nat.le_refl _) (by omega) u
  rw [show ((1 + z : Nat) : Int) = 1 + (z : Int) by omega] at hmk
  have HN := Has.new w 5 (noughts (1 + z))
  have n0 : (w.alloc (.cells (noughts (1 + z)).toArray 5)).cell? ⟨w.heap.size, 0, none⟩ = some (.int .u8 0) := by
    rw [HN.cell 0, noughts, List.getElem?_replicate, if_pos (by omega)]
  have f0 := HN.froz 0
  have hz1 : (0 : Int) < 1 + (z : Int) := by omega
  have Hp := Lib.hid (show padN m.length = (128 :: List.replicate z 0) ++ be64 bits by rw [padN, ← hr, ← hz, ← hbits])
  clear hr hln hbits hz
  go_enter Tryd.func56, Tryd.ntmps56
  have eT : (noughts (1 + z)).set 0 (.int .u8 128) = (128 :: List.replicate z 0 : List UInt8).map bv := by
    rw [noughts, Nat.add_comm 1 z, List.replicate_succ, List.set_cons_zero, List.map_cons, List.map_replicate]
    rfl
  have HB := Bytes.lit w (128 :: List.replicate z 0 : List UInt8) (by simp [maxLen]; omega)
  rw [show (128 :: List.replicate z 0 : List UInt8).length = 1 + z by simp; omega, ← eT] at HB
  have hb1 := (Below.refl w.heap.size w).alloc (Nat.le_refl _) (.cells ((noughts (1 + z)).set 0 (.int .u8 128)).toArray 5)
  have HP := Lib.hid (fun (u : World) (h : Bytes u (some ⟨w.heap.size, 0, none⟩) (1 + z) (1 + z) (128 :: List.replicate z 0 : List UInt8)) => wordsPut.put64 (some ⟨w.heap.size, 0, none⟩) (1 + z) (1 + z) _ bits u h (by omega))
  have HX := Lib.hid HB
  have Hb := Lib.hid hb1
  clear eT HB hb1
  go_wp2_with fail
  clear HN c72 c73 H
  refine (HP.out _ HX.out).mono ?_
  rintro e w2 ⟨v, rfl, hown, hb2⟩
  have hb := Hb.out.trans (hb2.mono Hb.out.size)
  obtain ⟨A, c, rfl, hr⟩ := Row.own hown
  have hA : Off g A (1 + z + 8) := own_off hown (Nat.lt_of_lt_of_le hd0.lt Hb.out.size) _
  clear hown n0 f0 hmk e1 e2
  go_wp2_with fail
  refine (write g m A (1 + z + 8) c _ w2 (hd0.keep hb) hr hA (hT.keep hb) hG).mono ?_
  rintro e w3 ⟨rfl, hd3, hS⟩
  go_wp2_with fail
  exact bodyPost_end (v := .tuple #[]) (by simp [results, Tryd.results56, go_sem]) rfl ⟨rfl, by rw [Hp.out]; exact hd3, (Save.of_below hb).trans hS⟩

theorem dcells_word {s : S8} {rest : List UInt8} {held len : Nat} (i : Nat) (h : i < 8) : (dcells s rest held len)[i]? = some (.int .u32 ((s.list.getD i 0 : Nat) : Int)) := by
  rw [dcells, List.getElem?_append_left (by show i < 8; exact h), List.getElem?_map]
  have h' : i < s.list.length := h
  simp [uv, h']
/-- The byte number i of a key. -/
theorem keyN_at (s : S8) (i : Nat) (h : i < 32) : (keyN s)[i]? = some (UInt8.ofNat (s.list.getD (i / 4) 0 / 2 ^ (24 - 8 * (i % 4)))) := by
  obtain ⟨a, b, c, d, e, f, g, k⟩ := s
  have hi : i = 0 ∨ i = 1 ∨ i = 2 ∨ i = 3 ∨ i = 4 ∨ i = 5 ∨ i = 6 ∨ i = 7 ∨ i = 8 ∨ i = 9 ∨ i = 10 ∨ i = 11 ∨ i = 12 ∨ i = 13 ∨ i = 14 ∨ i = 15 ∨ i = 16 ∨ i = 17 ∨ i = 18 ∨ i = 19 ∨ i = 20 ∨ i = 21 ∨ i = 22 ∨ i = 23 ∨ i = 24 ∨ i = 25 ∨ i = 26 ∨ i = 27 ∨ i = 28 ∨ i = 29 ∨ i = 30 ∨ i = 31 := by omega
  rcases hi with rfl | rfl | rfl | rfl | rfl | rfl | rfl | rfl | rfl | rfl | rfl | rfl | rfl | rfl | rfl | rfl | rfl | rfl | rfl | rfl | rfl | rfl | rfl | rfl | rfl | rfl | rfl | rfl | rfl | rfl | rfl | rfl <;> simp [keyN, S8.list, be32]
theorem keyN_len (s : S8) : (keyN s).length = 32 := by simp [keyN, S8.list, be32]
theorem key_set (K : List UInt8) (hK : K.length = 32) (i : Nat) (h : i < 32) (v : Value) (hv : v = bv (K.getD i 0)) : ((K.take i ++ List.replicate (32 - i) 0).map bv).set i v = (K.take (i + 1) ++ List.replicate (32 - (i + 1)) 0).map bv := by
  have h1 : (K.take i).length = i := by rw [List.length_take]; omega
  have h2 : i < K.length := by omega
  subst hv
  rw [show 32 - i = (32 - (i + 1)) + 1 by omega, List.replicate_succ, List.map_append, List.map_cons, List.set_append_right _ _ (by simp; omega), List.length_map, h1, Nat.sub_self, List.set_cons_zero, List.take_succ_eq_append_getElem h2]
  have e : K.getD i 0 = K[i] := by simp [h2]
  simp only [List.map_append, List.map_cons, List.map_nil, List.append_assoc, List.cons_append, List.nil_append, e]
set_option maxHeartbeats 800000 in
theorem sum (g : Nat) (m : List UInt8) (w : World) (hd : Dig w g m) (hT : Tab w) (hG : 0 ≠ g) :
    Calls Tryd.prog 44 #[.pointer (some ⟨g, 0, none⟩)] w fun e w' => e = .returned (.agg ((shaN m).map bv).toArray) ∧ Save g w w' := by
  have hb1 := (Below.refl w.heap.size w).alloc (Nat.le_refl _) (.cells ((List.replicate 32 0 : List UInt8).map bv).toArray 42)
  have HR1 := Has.new w 42 ((List.replicate 32 0 : List UInt8).map bv)
  have hgl := hd.lt
  have K := Lib.hid (pad g m (w.alloc (.cells ((List.replicate 32 0 : List UInt8).map bv).toArray 42)) (hd.keep hb1) (hT.keep hb1) hG)
  go_enter Tryd.func44, Tryd.ntmps44
  go_wp2_with fail
  refine (K.out).mono ?_
  rintro e w2 ⟨rfl, hd2, hS2⟩
  have HR2 := HR1.save hS2 (by omega)
  have hS := (Save.of_below (g := g) hb1).trans hS2
  have hszz : w.heap.size < w2.heap.size := HR2.lt
  obtain ⟨full, hfull⟩ : ∃ x, x = m ++ padN m.length := ⟨_, rfl⟩
  rw [← hfull] at hd2
  obtain ⟨rest, hrest, _, HD⟩ := hd2
  obtain ⟨s, hs⟩ : ∃ s, s = hashN full (full.length / 64) := ⟨_, rfl⟩
  obtain ⟨D, hD⟩ : ∃ D, D = dcells s rest (full.length % 64) (full.length % 18446744073709551616) := ⟨_, rfl⟩
  have hDw : ∀ i, i < 8 → D[i]? = some (.int .u32 ((s.list.getD i 0 : Nat) : Int)) := fun i h => by rw [hD]; exact dcells_word i h
  obtain ⟨Ks, hKs⟩ : ∃ K, K = keyN s := ⟨_, rfl⟩
  have hKl : Ks.length = 32 := by rw [hKs, keyN_len]
  have hKat : ∀ i, i < 32 → Ks[i]? = some (UInt8.ofNat (s.list.getD (i / 4) 0 / 2 ^ (24 - 8 * (i % 4)))) := fun i h => by rw [hKs]; exact keyN_at s i h
  rw [← hs, ← hD] at HD
  have hres : Ks = shaN m := by rw [hKs, hs, shaN, endN, ← hfull]
  have Hres := Lib.hid hres
  have HDW := Lib.hid hDw
  have HKL := Lib.hid hKl
  have HKat := Lib.hid hKat
  have hb3 := (Below.refl w2.heap.size w2).alloc (Nat.le_refl _) (.cells ((List.replicate 32 0 : List UInt8).map bv).toArray 42)
  have HK3 := Has.new w2 42 ((List.replicate 32 0 : List UInt8).map bv)
  have HD3 := HD.alloc (.cells ((List.replicate 32 0 : List UInt8).map bv).toArray 42)
  have HR3 := HR2.alloc (.cells ((List.replicate 32 0 : List UInt8).map bv).toArray 42)
  have hS3 := hS.trans (Save.of_below hb3)
  have hgl2 := HD.lt
  clear hfull hs hD hDw hKs hKl hKat hres HD HR2 HR1 hS hS2 hb1 hb3 hd hT K hrest
  go_wp2
  go_loopw [7] (fun i wr => ∃ j : Nat, j ≤ 32 ∧ i = .int .i64 j ∧ Has wr w2.heap.size 42 ((Ks.take j ++ List.replicate (32 - j) 0).map bv) ∧ Has wr g 58 D ∧ Has wr w.heap.size 42 ((List.replicate 32 0 : List UInt8).map bv) ∧ Save g w wr) (fun i _ => 32 - (intOf i).toNat)
  case atStart => exact ⟨0, by omega, rfl, HK3, HD3, HR3, hS3⟩
  case round =>
    clear HK3 HD3 HR3 hS3
    obtain ⟨j, hj, rfl, HK, HD, HR, hS⟩ := hrel
    by_cases hlt : j < 32
    · have cw := (HD.cell (j / 4)).trans (HDW.out (j / 4) (by omega))
      have ck := (HK.cell j).trans (List.getElem?_eq_getElem (by simp [HKL.out]; omega))
      have fk := HK.froz j
      obtain ⟨x, hx⟩ : ∃ x, x = s.list.getD (j / 4) 0 := ⟨_, rfl⟩
      rw [← hx] at cw
      obtain ⟨t, ht⟩ : ∃ t : Nat, t = 24 - 8 * (j % 4) := ⟨_, rfl⟩
      have e1 : 24 - 8 * ((j : Int) % 4) = (t : Int) := by omega
      have Hx := Lib.hid (And.intro hx ht)
      clear hx ht
      go_wp2
      go_roundw
      case rel =>
        obtain ⟨hx, ht⟩ := Hx.out
        refine ⟨j + 1, by omega, by go_num, ?_, HD.far _ (by show g ≠ w2.heap.size; omega) _, HR.far _ (by show w.heap.size ≠ w2.heap.size; omega) _, hS.new (Only.setCell wr w2.heap.size j _) (by omega)⟩
        have h := HK.set j (.int .u8 ((x : Int) / 2 ^ t % 256))
        rw [key_set Ks HKL.out j hlt _ (by
          rw [List.getD_eq_getElem?_getD, HKat.out j hlt, Option.getD_some, ← hx, ← ht]
          simp [bv])] at h
        exact h
      case measure => simp [intOf]; omega
    · obtain rfl : j = 32 := by omega
      have HK2 : Has wr w2.heap.size 42 (Ks.map bv) := by
        rw [List.take_of_length_le (Nat.le_of_eq HKL.out), List.replicate_zero, List.append_nil] at HK
        exact HK
      have SZ := Lib.hid (show (Tryd.prog.info? 42).map (·.size) = some (Ks.map bv).length by rw [List.length_map, HKL.out]; kernel_rfl)
      have LL := Lib.hid (show ((List.replicate 32 0 : List UInt8).map bv).length = (Ks.map bv).length by rw [List.length_map, List.length_map, HKL.out, List.length_replicate])
      have OC := Lib.hid (one_bv Ks)
      clear HK hlt
      go_wp2_with (first
        | ((with_reducible refine wpList_load_has rfl 42 (.tmp 3) rfl w2.heap.size rfl 42 (Ks.map bv) HK2 _ Tryd.underlying42 rfl SZ.out ?_))
        | ((with_reducible refine wpList_store_has rfl 42 (.tmp 2) (.tmp 26) rfl w.heap.size rfl (Ks.map bv) rfl 42 _ HR SZ.out LL.out OC.out ?_); intro w5 o5 H5))
      refine ret_has Tryd.results44 w.heap.size ?_ 42 (Ks.map bv) H5 _ Tryd.underlying42 rfl SZ.out ?_ ⟨by rw [Hres.out], hS.new o5 (Nat.le_refl _)⟩
      · rfl
      · rfl

end sha
end Go.Proofs.YtgjepiblhpmaiaaDoor
