/-
  The law BeaconWords of chapter 12. (Written by gen_beawords.py.)
-/
import Derived.Test.YtanfcenjlonjmaaDoorBeaLaw
import Derived.Test.YtanfcenjlonjmaaDoorRefHash
namespace Go.Proofs.YtanfcenjlonjmaaDoor
open Go.ChangeShapes Go.WideShapes Go.ChangeAt Go.RowKit
set_option linter.unusedVariables false
set_option linter.unusedSimpArgs false

namespace beaWordsLaw
theorem out1 (seed name : List UInt8) (hs : seed.length = 32) (m : Nat) (hm : (str name).size = m) (i : Int) (w : World) (hT : Tab w) (h : i < 0) :
    Calls Tryd.prog 4 #[.agg (seed.map bv).toArray, .string (str name), .int .i64 i] w fun e w' => e = .returned (.bool true) ∧ Below w.heap.size w w' := by
  have hb0 := (Below.refl w.heap.size w).alloc (Nat.le_refl _) (.cells (seed.map bv).toArray 23)
  have K := Lib.hid (alive12 _ (hT.keep hb0))
  have f0 : i < 0 := by omega
  clear h
  go_enter Tryd.func4, Tryd.ntmps4
  go_wp2_with fail
  refine (K.out).mono ?_
  rintro e w2 ⟨rfl, hb⟩
  go_wp2_with fail
  go_ret
  exact ⟨rfl, hb0.trans (hb.mono hb0.size)⟩
theorem out2 (seed name : List UInt8) (hs : seed.length = 32) (m : Nat) (hm : (str name).size = m) (i : Int) (w : World) (hT : Tab w) (h : 0 ≤ i ∧ 60 < i) :
    Calls Tryd.prog 4 #[.agg (seed.map bv).toArray, .string (str name), .int .i64 i] w fun e w' => e = .returned (.bool true) ∧ Below w.heap.size w w' := by
  have hb0 := (Below.refl w.heap.size w).alloc (Nat.le_refl _) (.cells (seed.map bv).toArray 23)
  have K := Lib.hid (alive12 _ (hT.keep hb0))
  have f0 : ¬ i < 0 := by omega
  have f1 : 60 < i := by omega
  clear h
  go_enter Tryd.func4, Tryd.ntmps4
  go_wp2_with fail
  refine (K.out).mono ?_
  rintro e w2 ⟨rfl, hb⟩
  go_wp2_with fail
  go_ret
  exact ⟨rfl, hb0.trans (hb.mono hb0.size)⟩
theorem out3 (seed name : List UInt8) (hs : seed.length = 32) (m : Nat) (hm : (str name).size = m) (i : Int) (w : World) (hT : Tab w) (h : 0 ≤ i ∧ i ≤ 60 ∧ 50 < m) :
    Calls Tryd.prog 4 #[.agg (seed.map bv).toArray, .string (str name), .int .i64 i] w fun e w' => e = .returned (.bool true) ∧ Below w.heap.size w w' := by
  have hb0 := (Below.refl w.heap.size w).alloc (Nat.le_refl _) (.cells (seed.map bv).toArray 23)
  have K := Lib.hid (alive12 _ (hT.keep hb0))
  have f0 : ¬ i < 0 := by omega
  have f1 : ¬ 60 < i := by omega
  have f2 : (50 : Int) < (m : Int) := by omega
  clear h
  go_enter Tryd.func4, Tryd.ntmps4
  go_wp2_with fail
  refine (K.out).mono ?_
  rintro e w2 ⟨rfl, hb⟩
  go_wp2_with fail
  go_ret
  exact ⟨rfl, hb0.trans (hb.mono hb0.size)⟩
set_option maxHeartbeats 8000000 in
set_option maxRecDepth 10000 in
theorem inn (seed name : List UInt8) (hs : seed.length = 32) (m : Nat) (hm : (str name).size = m) (i : Nat) (w : World) (hT : Tab w) (h1 : i ≤ 60) (h2 : m ≤ 50) :
    Calls Tryd.prog 4 #[.agg (seed.map bv).toArray, .string (str name), .int .i64 (i : Int)] w fun e w' => e = .returned (.bool true) ∧ Below w.heap.size w w' := by
  have hb0 := (Below.refl w.heap.size w).alloc (Nat.le_refl _) (.cells (seed.map bv).toArray 23)
  have K := Lib.hid (alive12 _ (hT.keep hb0))
  have H0 := Has.new w 23 (seed.map bv)
  have f0 : ¬ (i : Int) < 0 := by omega
  have f1 : ¬ (60 : Int) < (i : Int) := by omega
  have f2 : ¬ (50 : Int) < (m : Int) := by omega
  have hn : name.length ≤ 1099511627776 := by have : (str name).size = name.length := by simp [str, ByteArray.size]
                                              omega
  have KA := Lib.hid (fun u => progNew' seed name hs hn u)
  have KW := Lib.hid (fun (g j : Nat) (u : World) (hj : j ≤ 1000000) (H : StrmP u g seed name j) (h : Tab u) => progWord' g seed name j (by omega) hs hn u H h)
  obtain ⟨x, hx⟩ : ∃ x, wordB seed name i = x := ⟨_, rfl⟩
  obtain ⟨dig, hdig⟩ : ∃ d, digB seed name i = d := ⟨_, rfl⟩
  have hdl : dig.length = 32 := by rw [← hdig]; exact shaN_len _
  have HDL := Lib.hid hdl
  have hwb : wordB seed name i = be ((dig.drop (8 * (i % 4))).take 8) := by rw [← hdig]; rfl
  obtain ⟨q, hq⟩ : ∃ q, i / 4 = q := ⟨_, rfl⟩
  have hi4 : ((i : Int) / 4) = (q : Int) := by omega
  have hi4t : (Int.tdiv (i : Int) 4) = (q : Int) := by rw [Int.tdiv_eq_ediv_of_nonneg (by omega)]; exact hi4
  have hqw : IntKind.u64.wrap (q : Int) = (q : Int) := by rw [IntKind.wrap_u64]; omega
  have hqw' : IntKind.i64.wrap (q : Int) = (q : Int) := by rw [IntKind.wrap_i64]; omega
  obtain ⟨r, hr⟩ : ∃ r, i % 4 = r := ⟨_, rfl⟩
  have hr4 : ((i : Int) % 4) = (r : Int) := by omega
  have hr4t : (Int.tmod (i : Int) 4) = (r : Int) := by rw [Int.tmod_eq_emod_of_nonneg (by omega)]; exact hr4
  have hrw : IntKind.i64.wrap (r : Int) = (r : Int) := by rw [IntKind.wrap_i64]; omega
  have hr8 : IntKind.i64.wrap (8 * (r : Int)) = 8 * (r : Int) := by rw [IntKind.wrap_i64]; omega
  have HNM := Lib.hid (show name.length ≤ maxLen by unfold maxLen; omega)
  have KP := Lib.hid (fun (u : World) => refPut.put64 none 0 0 [] q u (Row.nil u) (by omega) (by omega))
  have KR := Lib.hid (fun (Aa : Option Addr) (ca : Nat) (B : Option Addr) (cc : Nat) (Ap : Option Addr) (cp : Nat) (gp : Nat) (u : World) (h : PartsAt u (some ⟨gp, 0, none⟩) 3 3 [⟨Aa, 32, ca, seed⟩, ⟨B, name.length, cc, name⟩, ⟨Ap, 8, cp, be64 q⟩]) => show Calls Tryd.prog 15 #[.slice (some ⟨gp, 0, none⟩) 3 3] u (fun e w' => e = .returned (.agg (dig.map bv).toArray) ∧ Below u.heap.size u w') from by
    have := refSha.Parts (some ⟨gp, 0, none⟩) 3 3 _ u h (by simp [partsN, be64_len, hs]; omega)
    rw [show shaN (partsN [⟨Aa, 32, ca, seed⟩, ⟨B, name.length, cc, name⟩, ⟨Ap, 8, cp, be64 q⟩]) = dig by rw [← hdig, ← hq, digB, hs]; simp [partsN]] at this
    exact this)
  simp only [Nat.zero_add, List.nil_append] at KP
  have HKG := Lib.hid (fun (u : World) (gk : Nat) (h : Has u gk 23 (dig.map bv)) => show Calls Tryd.prog 17 #[.slice (some ⟨gk, 0, none⟩) 32 32, .int .i64 (8 * (r : Int))] u (fun e w' => e = .returned (.tuple #[.int .u64 (x : Int), .int .i64 0]) ∧ u = w') from by
    have hb : Bytes u (some ⟨gk, 0, none⟩) 32 32 dig := h.bytes 32 hdl (by simp [maxLen])
    have := refGet.get64 (some ⟨gk, 0, none⟩) 32 32 dig (8 * (r : Int)) u hb
    have e1 : getV dig (8 * (r : Int)) 8 = (x : Int) := by
      unfold getV
      rw [if_neg (by omega), show (8 * (r : Int)).toNat = 8 * r by omega, ← hx, hwb, hr]
    have e2 : getE dig (8 * (r : Int)) 8 = 0 := by
      unfold getE
      rw [if_neg (by omega), if_neg (by omega)]
    rw [e1, e2] at this
    exact this)
  have HZ := Lib.hid hs
  have HX := Lib.hid hx
  have HT := Lib.hid (hT.keep hb0)
  obtain ⟨g, hg⟩ : ∃ x, w.heap.size = x := ⟨_, rfl⟩
  have HG0 := Lib.hid hg
  clear hT hs hn hdig hdl hwb hq hr hx
  go_enter Tryd.func4, Tryd.ntmps4
  go_wp2_with fail
  refine (K.out).mono ?_
  rintro e w2 ⟨rfl, hb20⟩
  have HS2 := H0.keep hb20 (by simp)
  have hb2 := hb0.trans (hb20.mono hb0.size)
  have hs2 := hb2.size
  have hT2 := HT.out.keep hb20
  have hlt0 : w.heap.size < w2.heap.size := by have := hb20.size; simp at this; omega
  clear K HT H0 hb20 hb0
  rw [hg] at HS2 hlt0
  try rw [hg]
  go_wp2_with ((with_reducible refine wpList_load_key rfl (.tmp 3) rfl g rfl seed HZ.out HS2 ?_))
  refine (KA.out w2).mono ?_
  rintro e w3 ⟨g1, rfl, X3, hg1, hb30⟩
  have HS3 := Lib.hid (HS2.keep hb30 (by omega))
  have HB3 := Lib.hid (hb2.trans (hb30.mono hs2))
  have HT3 := Lib.hid (hT2.keep hb30)
  have HX3 := Lib.hid X3
  have HGN := Lib.hid (show g ≠ g1 by omega)
  have HGB := Lib.hid (show w.heap.size ≤ g1 by omega)
  clear X3 HS2 hb2 hs2 hT2 hlt0 hg1 hb30 hg KA
  go_wp2_with fail
  go_loopw [10, 9] (fun v v9 wr => ∃ k : Nat, k ≤ i + 1 ∧ v = .int .i64 k ∧ (∃ y : Nat, v9 = .int .u64 y ∧ Hid (k = i + 1 → y = x)) ∧ Hid (StrmP wr g1 seed name k) ∧ Hid (Has wr g 23 (seed.map bv)) ∧ Hid (Tab wr) ∧ Hid (Below w.heap.size w wr)) (fun v _ _ => 70 - (intOf v).toNat)
  case atStart => exact ⟨0, by omega, rfl, ⟨0, rfl, Lib.hid (fun h => by omega)⟩, HX3, HS3, HT3, HB3⟩
  case round =>
    obtain ⟨k, hk, rfl, ⟨y, rfl, HY⟩, HXK, HSK, HTT, HB⟩ := hrel
    by_cases hlt : k ≤ i
    · have htj : (k : Int) ≤ (i : Int) := by omega
      obtain ⟨z, hz⟩ : ∃ z, wordB seed name k = z := ⟨_, rfl⟩
      have K1 := Lib.hid (KW.out g1 k wr (by omega) HXK.out HTT.out)
      rw [hz] at K1
      have HY2 := Lib.hid (show k + 1 = i + 1 → z = x from fun h => by rw [← hz, ← HX.out, show k = i by omega])
      clear hz
      go_wp2_with fail
      refine (K1.out).mono ?_
      rintro e w6 ⟨rfl, X6, S6⟩
      have HX6 := Lib.hid X6
      have HT6 := Lib.hid (HTT.out.save S6 (strm_off HZ.out HTT.out HXK.out))
      have HS6 := Lib.hid (HSK.out.save S6 HGN.out)
      have HB6 := Lib.hid (Save.below HB.out S6 HGB.out HB.out.size)
      clear X6 S6 K1
      go_wp2_with fail
      go_roundw
      case rel => exact ⟨k + 1, by omega, by go_num, ⟨z, rfl, HY2⟩, HX6, HS6, HT6, HB6⟩
      case measure => simp [intOf]; omega
    · have htj : ¬ (k : Int) ≤ (i : Int) := by omega
      obtain rfl : y = x := HY.out (by omega)
      have HEQ := Lib.hid (show ((y : Int) == (y : Int)) = true by simp)
      have HBW := Lib.hid (show Below w.heap.size w wr.drew from HB.out.drew)
      have HBZ := Lib.hid (show w.heap.size ≤ wr.drew.heap.size from HB.out.size)
      have HSW := Lib.hid (show Has wr.drew g 23 (seed.map bv) from HSK.out)
      clear HY HXK HSK HTT HB HX hlt hk
      obtain ⟨W0, hW0⟩ : ∃ x : World, x = wr.drew := ⟨_, rfl⟩
      have hb0 := Below.refl W0.heap.size W0
      go_wp2_with fail
      refine wp_region_held_drew (S := fun _ => True) (by kernel_rfl) trivial (fun hHeld => ?_)
      rw [← hW0] at ⊢ HBW HBZ HSW
      have HSD := Lib.hid (fun (u : World) (h : Below W0.heap.size W0 u) => show Row u (some ⟨g, 0, none⟩) 32 32 (seed.map bv) from (HSW.out.keep h HSW.out.lt).bytes 32 HZ.out (by simp [maxLen]))
      clear hW0 HSW
      refine wpAnyH_take (i := 0) (v := ?vq1) rfl (by kernel_rfl) (by kernel_rfl) (by kernel_rfl) (fun _ _ _ h => h) (Or.inl ⟨by rfl, ?yq1⟩) (by assumption) ?rq1
      case yq1 => (intro u hSu; (try dsimp only at hSu); go_simp; try with_reducible rfl)
      try simp only [List.getElem_toArray, List.getElem_cons_succ, List.getElem_cons_zero, Act.put, List.setIfInBounds_toArray, List.set_cons_zero, List.set_cons_succ]
      refine wpAnyH_take (i := 1) (v := ?vq2) rfl (by kernel_rfl) (by kernel_rfl) (by kernel_rfl) (fun _ _ _ h => h) (Or.inl ⟨by rfl, ?yq2⟩) (by assumption) ?rq2
      case yq2 => (intro u hSu; (try dsimp only at hSu); go_simp; try with_reducible rfl)
      try simp only [List.getElem_toArray, List.getElem_cons_succ, List.getElem_cons_zero, Act.put, List.setIfInBounds_toArray, List.set_cons_zero, List.set_cons_succ]
      refine wpAnyH_take (i := 3) (v := ?vq3) rfl (by kernel_rfl) (by kernel_rfl) (by kernel_rfl) (fun _ _ _ h => h) (Or.inl ⟨by rfl, ?yq3⟩) (by assumption) ?rq3
      case yq3 => (intro u hSu; (try dsimp only at hSu); go_simp; try with_reducible rfl)
      try simp only [List.getElem_toArray, List.getElem_cons_succ, List.getElem_cons_zero, Act.put, List.setIfInBounds_toArray, List.set_cons_zero, List.set_cons_succ]
      refine wpAnyH_take (i := 4) (v := ?vq4) rfl (by kernel_rfl) (by kernel_rfl) (by kernel_rfl) (fun _ _ _ h => h) (Or.inl ⟨by rfl, ?yq4⟩) (by assumption) ?rq4
      case yq4 => (intro u hSu; (try dsimp only at hSu); go_simp; try with_reducible rfl)
      try simp only [List.getElem_toArray, List.getElem_cons_succ, List.getElem_cons_zero, Act.put, List.setIfInBounds_toArray, List.set_cons_zero, List.set_cons_succ]
      refine wpAnyH_take (i := 5) (v := ?vq5) rfl (by kernel_rfl) (by kernel_rfl) (by kernel_rfl) (fun _ _ _ h => h) (Or.inl ⟨by rfl, ?yq5⟩) (by assumption) ?rq5
      case yq5 => (intro u hSu; (try dsimp only at hSu); go_simp; try with_reducible rfl)
      try simp only [List.getElem_toArray, List.getElem_cons_succ, List.getElem_cons_zero, Act.put, List.setIfInBounds_toArray, List.set_cons_zero, List.set_cons_succ]
      refine wpAnyH_ready (rs := [2, 6, 9]) (by kernel_rfl) (by simp) ?_
      refine AllReadyH.cons rfl (fun K hK => ?_) (AllReadyH.cons rfl (fun K hK => ?_) (AllReadyH.cons rfl (fun K hK => ?_) AllReadyH.nil))
      · obtain ⟨cc, u6, hconv, hpc, hx6⟩ := run_nameB name HNM.out W0
        go_simp
        have Rc := Lib.hid hpc
        obtain ⟨gc, hgc⟩ : ∃ x, W0.heap.size = x := ⟨_, rfl⟩
        rw [hgc] at Rc
        try rw [hgc]
        clear hconv hpc hgc
        have hb6 : Below W0.heap.size W0 u6 := hb0.trans (hx6.mono hb0.size)
        refine hK.out _ _ trivial (fun hHeld => ?_)
        clear hK K
        try simp only [List.getElem_toArray, List.getElem_cons_succ, List.getElem_cons_zero, Act.put, List.setIfInBounds_toArray, List.set_cons_zero, List.set_cons_succ]
        refine wpAnyH_ready (rs := [6, 9]) (by kernel_rfl) (by simp) ?_
        refine AllReadyH.cons rfl (fun K hK => ?_) (AllReadyH.cons rfl (fun K hK => ?_) AllReadyH.nil)
        · go_simp
          go_at_call 16
          with_reducible refine (KP.out u6).mono ?_
          rintro e u7 ⟨vp, rfl, hownp, hx7⟩
          obtain ⟨Ap, cp, rfl, Rp0⟩ := Row.own hownp
          have Rc := Lib.hid (Row.keep Rc.out hx7)
          have Rp := Lib.hid Rp0
          clear Rp0 hownp
          go_simp
          have hb7 : Below W0.heap.size W0 u7 := hb6.trans (hx7.mono hb6.size)
          refine hK.out _ _ trivial (fun hHeld => ?_)
          clear hK K
          try simp only [List.getElem_toArray, List.getElem_cons_succ, List.getElem_cons_zero, Act.put, List.setIfInBounds_toArray, List.set_cons_zero, List.set_cons_succ]
          refine wpAnyH_ready (rs := [7, 9]) (by kernel_rfl) (by simp) ?_
          refine AllReadyH.cons rfl (fun K hK => ?_) (AllReadyH.cons rfl (fun K hK => ?_) AllReadyH.nil)
          · go_simp
            have hx8 := (Below.refl u7.heap.size u7).alloc (Nat.le_refl _) (.cells #[.slice (some ⟨g, 0, none⟩) 32 32, .slice (some ⟨gc, 0, none⟩) name.length cc, .slice Ap 8 cp] 40)
            have Rb := Lib.hid (lit3 u7 (some ⟨g, 0, none⟩) 32 32 seed (some ⟨gc, 0, none⟩) name.length cc name Ap 8 cp (be64 q) (HSD.out _ hb7) Rc.out Rp.out)
            generalize (u7.alloc (.cells #[.slice (some ⟨g, 0, none⟩) 32 32, .slice (some ⟨gc, 0, none⟩) name.length cc, .slice Ap 8 cp] 40)) = u8 at *
            obtain ⟨gp, hgp⟩ : ∃ x, u7.heap.size = x := ⟨_, rfl⟩
            rw [hgp] at Rb
            try rw [hgp]
            clear Rc Rp hgp
            have hb8 : Below W0.heap.size W0 u8 := hb7.trans (hx8.mono hb7.size)
            refine hK.out _ _ trivial (fun hHeld => ?_)
            clear hK K
            try simp only [List.getElem_toArray, List.getElem_cons_succ, List.getElem_cons_zero, Act.put, List.setIfInBounds_toArray, List.set_cons_zero, List.set_cons_succ]
            refine wpAnyH_ready (rs := [8, 9]) (by kernel_rfl) (by simp) ?_
            refine AllReadyH.cons rfl (fun K hK => ?_) (AllReadyH.cons rfl (fun K hK => ?_) AllReadyH.nil)
            · go_simp
              go_at_call 15
              with_reducible refine (KR.out _ _ _ _ _ _ _ _ Rb.out).mono ?_
              rintro e u9 ⟨rfl, hx9⟩
              clear Rb
              go_simp
              have hb9 : Below W0.heap.size W0 u9 := hb8.trans (hx9.mono hb8.size)
              refine hK.out _ _ trivial (fun hHeld => ?_)
              clear hK K
              try simp only [List.getElem_toArray, List.getElem_cons_succ, List.getElem_cons_zero, Act.put, List.setIfInBounds_toArray, List.set_cons_zero, List.set_cons_succ]
              refine wpAnyH_ready (rs := [9]) (by kernel_rfl) (by simp) ?_
              refine AllReadyH.cons rfl (fun K hK => ?_) AllReadyH.nil
              · go_simp
                have hx10 := (Below.refl u9.heap.size u9).alloc (Nat.le_refl _) (.cells #[.int .u8 0, .int .u8 0, .int .u8 0, .int .u8 0, .int .u8 0, .int .u8 0, .int .u8 0, .int .u8 0, .int .u8 0, .int .u8 0, .int .u8 0, .int .u8 0, .int .u8 0, .int .u8 0, .int .u8 0, .int .u8 0, .int .u8 0, .int .u8 0, .int .u8 0, .int .u8 0, .int .u8 0, .int .u8 0, .int .u8 0, .int .u8 0, .int .u8 0, .int .u8 0, .int .u8 0, .int .u8 0, .int .u8 0, .int .u8 0, .int .u8 0, .int .u8 0] 23)
                have Hk := Lib.hid (newKey u9)
                generalize (u9.alloc (.cells #[.int .u8 0, .int .u8 0, .int .u8 0, .int .u8 0, .int .u8 0, .int .u8 0, .int .u8 0, .int .u8 0, .int .u8 0, .int .u8 0, .int .u8 0, .int .u8 0, .int .u8 0, .int .u8 0, .int .u8 0, .int .u8 0, .int .u8 0, .int .u8 0, .int .u8 0, .int .u8 0, .int .u8 0, .int .u8 0, .int .u8 0, .int .u8 0, .int .u8 0, .int .u8 0, .int .u8 0, .int .u8 0, .int .u8 0, .int .u8 0, .int .u8 0, .int .u8 0] 23)) = u10 at *
                obtain ⟨gk, hgk⟩ : ∃ x, u9.heap.size = x := ⟨_, rfl⟩
                have HGK := Lib.hid (show W0.heap.size ≤ gk by rw [← hgk]; exact hb9.size)
                rw [hgk] at Hk
                try rw [hgk]
                clear hgk
                have hb10 : Below W0.heap.size W0 u10 := hb9.trans (hx10.mono hb9.size)
                refine hK.out _ _ trivial (fun hHeld => ?_)
                clear hK K
                try simp only [List.getElem_toArray, List.getElem_cons_succ, List.getElem_cons_zero, Act.put, List.setIfInBounds_toArray, List.set_cons_zero, List.set_cons_succ]
                refine wpAnyH_ready (rs := [10]) (by kernel_rfl) (by simp) ?_
                refine AllReadyH.cons rfl (fun K hK => ?_) AllReadyH.nil
                · refine step_store_has (by rfl) 23 (.tmp 11) (.tmp 49) (by rfl) gk (by rfl) (dig.map bv) (by rfl) 23 zkey Hk.out (by rw [List.length_map, HDL.out]; exact size_key) (by rw [List.length_map, HDL.out]; rfl) (one_bv dig) ?_
                  intro u11 ok Hk2
                  clear Hk
                  have Hk := Lib.hid Hk2
                  have OK := Lib.hid ok
                  clear Hk2 ok
                  have hb11 : Below W0.heap.size W0 u11 := OK.out.below hb10 HGK.out
                  refine hK.out _ _ trivial (fun hHeld => ?_)
                  clear hK K
                  try simp only [List.getElem_toArray, List.getElem_cons_succ, List.getElem_cons_zero, Act.put, List.setIfInBounds_toArray, List.set_cons_zero, List.set_cons_succ]
                  refine wpAnyH_done (by kernel_rfl) ?_ _
                  have KG := Lib.hid (HKG.out u11 gk (show Has u11 gk 23 (dig.map bv) from Hk.out))
                  have HE := Lib.hid (show Below w.heap.size w u11 from HBW.out.trans (hb11.mono HBZ.out))
                  clear Hk
                  go_wp2_with fail
                  refine (KG.out).mono ?_
                  rintro e w' ⟨rfl, rfl⟩
                  go_wp2_with fail
                  go_ret
                  exact ⟨rfl, HE.out⟩
            · go_simp
              have hx12 := (Below.refl u8.heap.size u8).alloc (Nat.le_refl _) (.cells #[.int .u8 0, .int .u8 0, .int .u8 0, .int .u8 0, .int .u8 0, .int .u8 0, .int .u8 0, .int .u8 0, .int .u8 0, .int .u8 0, .int .u8 0, .int .u8 0, .int .u8 0, .int .u8 0, .int .u8 0, .int .u8 0, .int .u8 0, .int .u8 0, .int .u8 0, .int .u8 0, .int .u8 0, .int .u8 0, .int .u8 0, .int .u8 0, .int .u8 0, .int .u8 0, .int .u8 0, .int .u8 0, .int .u8 0, .int .u8 0, .int .u8 0, .int .u8 0] 23)
              have Rb := Lib.hid (PartsAt.keep Rb.out hx12)
              have Hk := Lib.hid (newKey u8)
              generalize (u8.alloc (.cells #[.int .u8 0, .int .u8 0, .int .u8 0, .int .u8 0, .int .u8 0, .int .u8 0, .int .u8 0, .int .u8 0, .int .u8 0, .int .u8 0, .int .u8 0, .int .u8 0, .int .u8 0, .int .u8 0, .int .u8 0, .int .u8 0, .int .u8 0, .int .u8 0, .int .u8 0, .int .u8 0, .int .u8 0, .int .u8 0, .int .u8 0, .int .u8 0, .int .u8 0, .int .u8 0, .int .u8 0, .int .u8 0, .int .u8 0, .int .u8 0, .int .u8 0, .int .u8 0] 23)) = u12 at *
              obtain ⟨gk, hgk⟩ : ∃ x, u8.heap.size = x := ⟨_, rfl⟩
              have HGK := Lib.hid (show W0.heap.size ≤ gk by rw [← hgk]; exact hb8.size)
              rw [hgk] at Hk
              try rw [hgk]
              clear hgk
              have hb12 : Below W0.heap.size W0 u12 := hb8.trans (hx12.mono hb8.size)
              refine hK.out _ _ trivial (fun hHeld => ?_)
              clear hK K
              try simp only [List.getElem_toArray, List.getElem_cons_succ, List.getElem_cons_zero, Act.put, List.setIfInBounds_toArray, List.set_cons_zero, List.set_cons_succ]
              refine wpAnyH_ready (rs := [8]) (by kernel_rfl) (by simp) ?_
              refine AllReadyH.cons rfl (fun K hK => ?_) AllReadyH.nil
              · go_simp
                go_at_call 15
                with_reducible refine (KR.out _ _ _ _ _ _ _ _ Rb.out).mono ?_
                rintro e u13 ⟨rfl, hx13⟩
                have Hk := Lib.hid (Hk.out.keep hx13 Hk.out.lt)
                clear Rb
                go_simp
                have hb13 : Below W0.heap.size W0 u13 := hb12.trans (hx13.mono hb12.size)
                refine hK.out _ _ trivial (fun hHeld => ?_)
                clear hK K
                try simp only [List.getElem_toArray, List.getElem_cons_succ, List.getElem_cons_zero, Act.put, List.setIfInBounds_toArray, List.set_cons_zero, List.set_cons_succ]
                refine wpAnyH_ready (rs := [10]) (by kernel_rfl) (by simp) ?_
                refine AllReadyH.cons rfl (fun K hK => ?_) AllReadyH.nil
                · refine step_store_has (by rfl) 23 (.tmp 11) (.tmp 49) (by rfl) gk (by rfl) (dig.map bv) (by rfl) 23 zkey Hk.out (by rw [List.length_map, HDL.out]; exact size_key) (by rw [List.length_map, HDL.out]; rfl) (one_bv dig) ?_
                  intro u14 ok Hk2
                  clear Hk
                  have Hk := Lib.hid Hk2
                  have OK := Lib.hid ok
                  clear Hk2 ok
                  have hb14 : Below W0.heap.size W0 u14 := OK.out.below hb13 HGK.out
                  refine hK.out _ _ trivial (fun hHeld => ?_)
                  clear hK K
                  try simp only [List.getElem_toArray, List.getElem_cons_succ, List.getElem_cons_zero, Act.put, List.setIfInBounds_toArray, List.set_cons_zero, List.set_cons_succ]
                  refine wpAnyH_done (by kernel_rfl) ?_ _
                  have KG := Lib.hid (HKG.out u14 gk (show Has u14 gk 23 (dig.map bv) from Hk.out))
                  have HE := Lib.hid (show Below w.heap.size w u14 from HBW.out.trans (hb14.mono HBZ.out))
                  clear Hk
                  go_wp2_with fail
                  refine (KG.out).mono ?_
                  rintro e w' ⟨rfl, rfl⟩
                  go_wp2_with fail
                  go_ret
                  exact ⟨rfl, HE.out⟩
          · go_simp
            have hx15 := (Below.refl u7.heap.size u7).alloc (Nat.le_refl _) (.cells #[.int .u8 0, .int .u8 0, .int .u8 0, .int .u8 0, .int .u8 0, .int .u8 0, .int .u8 0, .int .u8 0, .int .u8 0, .int .u8 0, .int .u8 0, .int .u8 0, .int .u8 0, .int .u8 0, .int .u8 0, .int .u8 0, .int .u8 0, .int .u8 0, .int .u8 0, .int .u8 0, .int .u8 0, .int .u8 0, .int .u8 0, .int .u8 0, .int .u8 0, .int .u8 0, .int .u8 0, .int .u8 0, .int .u8 0, .int .u8 0, .int .u8 0, .int .u8 0] 23)
            have Rc := Lib.hid (Row.keep Rc.out hx15)
            have Rp := Lib.hid (Row.keep Rp.out hx15)
            have Hk := Lib.hid (newKey u7)
            generalize (u7.alloc (.cells #[.int .u8 0, .int .u8 0, .int .u8 0, .int .u8 0, .int .u8 0, .int .u8 0, .int .u8 0, .int .u8 0, .int .u8 0, .int .u8 0, .int .u8 0, .int .u8 0, .int .u8 0, .int .u8 0, .int .u8 0, .int .u8 0, .int .u8 0, .int .u8 0, .int .u8 0, .int .u8 0, .int .u8 0, .int .u8 0, .int .u8 0, .int .u8 0, .int .u8 0, .int .u8 0, .int .u8 0, .int .u8 0, .int .u8 0, .int .u8 0, .int .u8 0, .int .u8 0] 23)) = u15 at *
            obtain ⟨gk, hgk⟩ : ∃ x, u7.heap.size = x := ⟨_, rfl⟩
            have HGK := Lib.hid (show W0.heap.size ≤ gk by rw [← hgk]; exact hb7.size)
            rw [hgk] at Hk
            try rw [hgk]
            clear hgk
            have hb15 : Below W0.heap.size W0 u15 := hb7.trans (hx15.mono hb7.size)
            refine hK.out _ _ trivial (fun hHeld => ?_)
            clear hK K
            try simp only [List.getElem_toArray, List.getElem_cons_succ, List.getElem_cons_zero, Act.put, List.setIfInBounds_toArray, List.set_cons_zero, List.set_cons_succ]
            refine wpAnyH_ready (rs := [7]) (by kernel_rfl) (by simp) ?_
            refine AllReadyH.cons rfl (fun K hK => ?_) AllReadyH.nil
            · go_simp
              have hx16 := (Below.refl u15.heap.size u15).alloc (Nat.le_refl _) (.cells #[.slice (some ⟨g, 0, none⟩) 32 32, .slice (some ⟨gc, 0, none⟩) name.length cc, .slice Ap 8 cp] 40)
              have Hk := Lib.hid (Hk.out.keep hx16 Hk.out.lt)
              have Rb := Lib.hid (lit3 u15 (some ⟨g, 0, none⟩) 32 32 seed (some ⟨gc, 0, none⟩) name.length cc name Ap 8 cp (be64 q) (HSD.out _ hb15) Rc.out Rp.out)
              generalize (u15.alloc (.cells #[.slice (some ⟨g, 0, none⟩) 32 32, .slice (some ⟨gc, 0, none⟩) name.length cc, .slice Ap 8 cp] 40)) = u16 at *
              obtain ⟨gp, hgp⟩ : ∃ x, u15.heap.size = x := ⟨_, rfl⟩
              rw [hgp] at Rb
              try rw [hgp]
              clear Rc Rp hgp
              have hb16 : Below W0.heap.size W0 u16 := hb15.trans (hx16.mono hb15.size)
              refine hK.out _ _ trivial (fun hHeld => ?_)
              clear hK K
              try simp only [List.getElem_toArray, List.getElem_cons_succ, List.getElem_cons_zero, Act.put, List.setIfInBounds_toArray, List.set_cons_zero, List.set_cons_succ]
              refine wpAnyH_ready (rs := [8]) (by kernel_rfl) (by simp) ?_
              refine AllReadyH.cons rfl (fun K hK => ?_) AllReadyH.nil
              · go_simp
                go_at_call 15
                with_reducible refine (KR.out _ _ _ _ _ _ _ _ Rb.out).mono ?_
                rintro e u17 ⟨rfl, hx17⟩
                have Hk := Lib.hid (Hk.out.keep hx17 Hk.out.lt)
                clear Rb
                go_simp
                have hb17 : Below W0.heap.size W0 u17 := hb16.trans (hx17.mono hb16.size)
                refine hK.out _ _ trivial (fun hHeld => ?_)
                clear hK K
                try simp only [List.getElem_toArray, List.getElem_cons_succ, List.getElem_cons_zero, Act.put, List.setIfInBounds_toArray, List.set_cons_zero, List.set_cons_succ]
                refine wpAnyH_ready (rs := [10]) (by kernel_rfl) (by simp) ?_
                refine AllReadyH.cons rfl (fun K hK => ?_) AllReadyH.nil
                · refine step_store_has (by rfl) 23 (.tmp 11) (.tmp 49) (by rfl) gk (by rfl) (dig.map bv) (by rfl) 23 zkey Hk.out (by rw [List.length_map, HDL.out]; exact size_key) (by rw [List.length_map, HDL.out]; rfl) (one_bv dig) ?_
                  intro u18 ok Hk2
                  clear Hk
                  have Hk := Lib.hid Hk2
                  have OK := Lib.hid ok
                  clear Hk2 ok
                  have hb18 : Below W0.heap.size W0 u18 := OK.out.below hb17 HGK.out
                  refine hK.out _ _ trivial (fun hHeld => ?_)
                  clear hK K
                  try simp only [List.getElem_toArray, List.getElem_cons_succ, List.getElem_cons_zero, Act.put, List.setIfInBounds_toArray, List.set_cons_zero, List.set_cons_succ]
                  refine wpAnyH_done (by kernel_rfl) ?_ _
                  have KG := Lib.hid (HKG.out u18 gk (show Has u18 gk 23 (dig.map bv) from Hk.out))
                  have HE := Lib.hid (show Below w.heap.size w u18 from HBW.out.trans (hb18.mono HBZ.out))
                  clear Hk
                  go_wp2_with fail
                  refine (KG.out).mono ?_
                  rintro e w' ⟨rfl, rfl⟩
                  go_wp2_with fail
                  go_ret
                  exact ⟨rfl, HE.out⟩
        · go_simp
          have hx19 := (Below.refl u6.heap.size u6).alloc (Nat.le_refl _) (.cells #[.int .u8 0, .int .u8 0, .int .u8 0, .int .u8 0, .int .u8 0, .int .u8 0, .int .u8 0, .int .u8 0, .int .u8 0, .int .u8 0, .int .u8 0, .int .u8 0, .int .u8 0, .int .u8 0, .int .u8 0, .int .u8 0, .int .u8 0, .int .u8 0, .int .u8 0, .int .u8 0, .int .u8 0, .int .u8 0, .int .u8 0, .int .u8 0, .int .u8 0, .int .u8 0, .int .u8 0, .int .u8 0, .int .u8 0, .int .u8 0, .int .u8 0, .int .u8 0] 23)
          have Rc := Lib.hid (Row.keep Rc.out hx19)
          have Hk := Lib.hid (newKey u6)
          generalize (u6.alloc (.cells #[.int .u8 0, .int .u8 0, .int .u8 0, .int .u8 0, .int .u8 0, .int .u8 0, .int .u8 0, .int .u8 0, .int .u8 0, .int .u8 0, .int .u8 0, .int .u8 0, .int .u8 0, .int .u8 0, .int .u8 0, .int .u8 0, .int .u8 0, .int .u8 0, .int .u8 0, .int .u8 0, .int .u8 0, .int .u8 0, .int .u8 0, .int .u8 0, .int .u8 0, .int .u8 0, .int .u8 0, .int .u8 0, .int .u8 0, .int .u8 0, .int .u8 0, .int .u8 0] 23)) = u19 at *
          obtain ⟨gk, hgk⟩ : ∃ x, u6.heap.size = x := ⟨_, rfl⟩
          have HGK := Lib.hid (show W0.heap.size ≤ gk by rw [← hgk]; exact hb6.size)
          rw [hgk] at Hk
          try rw [hgk]
          clear hgk
          have hb19 : Below W0.heap.size W0 u19 := hb6.trans (hx19.mono hb6.size)
          refine hK.out _ _ trivial (fun hHeld => ?_)
          clear hK K
          try simp only [List.getElem_toArray, List.getElem_cons_succ, List.getElem_cons_zero, Act.put, List.setIfInBounds_toArray, List.set_cons_zero, List.set_cons_succ]
          refine wpAnyH_ready (rs := [6]) (by kernel_rfl) (by simp) ?_
          refine AllReadyH.cons rfl (fun K hK => ?_) AllReadyH.nil
          · go_simp
            go_at_call 16
            with_reducible refine (KP.out u19).mono ?_
            rintro e u20 ⟨vp, rfl, hownp, hx20⟩
            obtain ⟨Ap, cp, rfl, Rp0⟩ := Row.own hownp
            have Rc := Lib.hid (Row.keep Rc.out hx20)
            have Hk := Lib.hid (Hk.out.keep hx20 Hk.out.lt)
            have Rp := Lib.hid Rp0
            clear Rp0 hownp
            go_simp
            have hb20 : Below W0.heap.size W0 u20 := hb19.trans (hx20.mono hb19.size)
            refine hK.out _ _ trivial (fun hHeld => ?_)
            clear hK K
            try simp only [List.getElem_toArray, List.getElem_cons_succ, List.getElem_cons_zero, Act.put, List.setIfInBounds_toArray, List.set_cons_zero, List.set_cons_succ]
            refine wpAnyH_ready (rs := [7]) (by kernel_rfl) (by simp) ?_
            refine AllReadyH.cons rfl (fun K hK => ?_) AllReadyH.nil
            · go_simp
              have hx21 := (Below.refl u20.heap.size u20).alloc (Nat.le_refl _) (.cells #[.slice (some ⟨g, 0, none⟩) 32 32, .slice (some ⟨gc, 0, none⟩) name.length cc, .slice Ap 8 cp] 40)
              have Hk := Lib.hid (Hk.out.keep hx21 Hk.out.lt)
              have Rb := Lib.hid (lit3 u20 (some ⟨g, 0, none⟩) 32 32 seed (some ⟨gc, 0, none⟩) name.length cc name Ap 8 cp (be64 q) (HSD.out _ hb20) Rc.out Rp.out)
              generalize (u20.alloc (.cells #[.slice (some ⟨g, 0, none⟩) 32 32, .slice (some ⟨gc, 0, none⟩) name.length cc, .slice Ap 8 cp] 40)) = u21 at *
              obtain ⟨gp, hgp⟩ : ∃ x, u20.heap.size = x := ⟨_, rfl⟩
              rw [hgp] at Rb
              try rw [hgp]
              clear Rc Rp hgp
              have hb21 : Below W0.heap.size W0 u21 := hb20.trans (hx21.mono hb20.size)
              refine hK.out _ _ trivial (fun hHeld => ?_)
              clear hK K
              try simp only [List.getElem_toArray, List.getElem_cons_succ, List.getElem_cons_zero, Act.put, List.setIfInBounds_toArray, List.set_cons_zero, List.set_cons_succ]
              refine wpAnyH_ready (rs := [8]) (by kernel_rfl) (by simp) ?_
              refine AllReadyH.cons rfl (fun K hK => ?_) AllReadyH.nil
              · go_simp
                go_at_call 15
                with_reducible refine (KR.out _ _ _ _ _ _ _ _ Rb.out).mono ?_
                rintro e u22 ⟨rfl, hx22⟩
                have Hk := Lib.hid (Hk.out.keep hx22 Hk.out.lt)
                clear Rb
                go_simp
                have hb22 : Below W0.heap.size W0 u22 := hb21.trans (hx22.mono hb21.size)
                refine hK.out _ _ trivial (fun hHeld => ?_)
                clear hK K
                try simp only [List.getElem_toArray, List.getElem_cons_succ, List.getElem_cons_zero, Act.put, List.setIfInBounds_toArray, List.set_cons_zero, List.set_cons_succ]
                refine wpAnyH_ready (rs := [10]) (by kernel_rfl) (by simp) ?_
                refine AllReadyH.cons rfl (fun K hK => ?_) AllReadyH.nil
                · refine step_store_has (by rfl) 23 (.tmp 11) (.tmp 49) (by rfl) gk (by rfl) (dig.map bv) (by rfl) 23 zkey Hk.out (by rw [List.length_map, HDL.out]; exact size_key) (by rw [List.length_map, HDL.out]; rfl) (one_bv dig) ?_
                  intro u23 ok Hk2
                  clear Hk
                  have Hk := Lib.hid Hk2
                  have OK := Lib.hid ok
                  clear Hk2 ok
                  have hb23 : Below W0.heap.size W0 u23 := OK.out.below hb22 HGK.out
                  refine hK.out _ _ trivial (fun hHeld => ?_)
                  clear hK K
                  try simp only [List.getElem_toArray, List.getElem_cons_succ, List.getElem_cons_zero, Act.put, List.setIfInBounds_toArray, List.set_cons_zero, List.set_cons_succ]
                  refine wpAnyH_done (by kernel_rfl) ?_ _
                  have KG := Lib.hid (HKG.out u23 gk (show Has u23 gk 23 (dig.map bv) from Hk.out))
                  have HE := Lib.hid (show Below w.heap.size w u23 from HBW.out.trans (hb23.mono HBZ.out))
                  clear Hk
                  go_wp2_with fail
                  refine (KG.out).mono ?_
                  rintro e w' ⟨rfl, rfl⟩
                  go_wp2_with fail
                  go_ret
                  exact ⟨rfl, HE.out⟩
      · go_simp
        go_at_call 16
        with_reducible refine (KP.out W0).mono ?_
        rintro e u24 ⟨vp, rfl, hownp, hx24⟩
        obtain ⟨Ap, cp, rfl, Rp0⟩ := Row.own hownp
        have Rp := Lib.hid Rp0
        clear Rp0 hownp
        go_simp
        have hb24 : Below W0.heap.size W0 u24 := hb0.trans (hx24.mono hb0.size)
        refine hK.out _ _ trivial (fun hHeld => ?_)
        clear hK K
        try simp only [List.getElem_toArray, List.getElem_cons_succ, List.getElem_cons_zero, Act.put, List.setIfInBounds_toArray, List.set_cons_zero, List.set_cons_succ]
        refine wpAnyH_ready (rs := [2, 9]) (by kernel_rfl) (by simp) ?_
        refine AllReadyH.cons rfl (fun K hK => ?_) (AllReadyH.cons rfl (fun K hK => ?_) AllReadyH.nil)
        · obtain ⟨cc, u25, hconv, hpc, hx25⟩ := run_nameB name HNM.out u24
          go_simp
          have Rp := Lib.hid (Row.keep Rp.out hx25)
          have Rc := Lib.hid hpc
          obtain ⟨gc, hgc⟩ : ∃ x, u24.heap.size = x := ⟨_, rfl⟩
          rw [hgc] at Rc
          try rw [hgc]
          clear hconv hpc hgc
          have hb25 : Below W0.heap.size W0 u25 := hb24.trans (hx25.mono hb24.size)
          refine hK.out _ _ trivial (fun hHeld => ?_)
          clear hK K
          try simp only [List.getElem_toArray, List.getElem_cons_succ, List.getElem_cons_zero, Act.put, List.setIfInBounds_toArray, List.set_cons_zero, List.set_cons_succ]
          refine wpAnyH_ready (rs := [7, 9]) (by kernel_rfl) (by simp) ?_
          refine AllReadyH.cons rfl (fun K hK => ?_) (AllReadyH.cons rfl (fun K hK => ?_) AllReadyH.nil)
          · go_simp
            have hx26 := (Below.refl u25.heap.size u25).alloc (Nat.le_refl _) (.cells #[.slice (some ⟨g, 0, none⟩) 32 32, .slice (some ⟨gc, 0, none⟩) name.length cc, .slice Ap 8 cp] 40)
            have Rb := Lib.hid (lit3 u25 (some ⟨g, 0, none⟩) 32 32 seed (some ⟨gc, 0, none⟩) name.length cc name Ap 8 cp (be64 q) (HSD.out _ hb25) Rc.out Rp.out)
            generalize (u25.alloc (.cells #[.slice (some ⟨g, 0, none⟩) 32 32, .slice (some ⟨gc, 0, none⟩) name.length cc, .slice Ap 8 cp] 40)) = u26 at *
            obtain ⟨gp, hgp⟩ : ∃ x, u25.heap.size = x := ⟨_, rfl⟩
            rw [hgp] at Rb
            try rw [hgp]
            clear Rc Rp hgp
            have hb26 : Below W0.heap.size W0 u26 := hb25.trans (hx26.mono hb25.size)
            refine hK.out _ _ trivial (fun hHeld => ?_)
            clear hK K
            try simp only [List.getElem_toArray, List.getElem_cons_succ, List.getElem_cons_zero, Act.put, List.setIfInBounds_toArray, List.set_cons_zero, List.set_cons_succ]
            refine wpAnyH_ready (rs := [8, 9]) (by kernel_rfl) (by simp) ?_
            refine AllReadyH.cons rfl (fun K hK => ?_) (AllReadyH.cons rfl (fun K hK => ?_) AllReadyH.nil)
            · go_simp
              go_at_call 15
              with_reducible refine (KR.out _ _ _ _ _ _ _ _ Rb.out).mono ?_
              rintro e u27 ⟨rfl, hx27⟩
              clear Rb
              go_simp
              have hb27 : Below W0.heap.size W0 u27 := hb26.trans (hx27.mono hb26.size)
              refine hK.out _ _ trivial (fun hHeld => ?_)
              clear hK K
              try simp only [List.getElem_toArray, List.getElem_cons_succ, List.getElem_cons_zero, Act.put, List.setIfInBounds_toArray, List.set_cons_zero, List.set_cons_succ]
              refine wpAnyH_ready (rs := [9]) (by kernel_rfl) (by simp) ?_
              refine AllReadyH.cons rfl (fun K hK => ?_) AllReadyH.nil
              · go_simp
                have hx28 := (Below.refl u27.heap.size u27).alloc (Nat.le_refl _) (.cells #[.int .u8 0, .int .u8 0, .int .u8 0, .int .u8 0, .int .u8 0, .int .u8 0, .int .u8 0, .int .u8 0, .int .u8 0, .int .u8 0, .int .u8 0, .int .u8 0, .int .u8 0, .int .u8 0, .int .u8 0, .int .u8 0, .int .u8 0, .int .u8 0, .int .u8 0, .int .u8 0, .int .u8 0, .int .u8 0, .int .u8 0, .int .u8 0, .int .u8 0, .int .u8 0, .int .u8 0, .int .u8 0, .int .u8 0, .int .u8 0, .int .u8 0, .int .u8 0] 23)
                have Hk := Lib.hid (newKey u27)
                generalize (u27.alloc (.cells #[.int .u8 0, .int .u8 0, .int .u8 0, .int .u8 0, .int .u8 0, .int .u8 0, .int .u8 0, .int .u8 0, .int .u8 0, .int .u8 0, .int .u8 0, .int .u8 0, .int .u8 0, .int .u8 0, .int .u8 0, .int .u8 0, .int .u8 0, .int .u8 0, .int .u8 0, .int .u8 0, .int .u8 0, .int .u8 0, .int .u8 0, .int .u8 0, .int .u8 0, .int .u8 0, .int .u8 0, .int .u8 0, .int .u8 0, .int .u8 0, .int .u8 0, .int .u8 0] 23)) = u28 at *
                obtain ⟨gk, hgk⟩ : ∃ x, u27.heap.size = x := ⟨_, rfl⟩
                have HGK := Lib.hid (show W0.heap.size ≤ gk by rw [← hgk]; exact hb27.size)
                rw [hgk] at Hk
                try rw [hgk]
                clear hgk
                have hb28 : Below W0.heap.size W0 u28 := hb27.trans (hx28.mono hb27.size)
                refine hK.out _ _ trivial (fun hHeld => ?_)
                clear hK K
                try simp only [List.getElem_toArray, List.getElem_cons_succ, List.getElem_cons_zero, Act.put, List.setIfInBounds_toArray, List.set_cons_zero, List.set_cons_succ]
                refine wpAnyH_ready (rs := [10]) (by kernel_rfl) (by simp) ?_
                refine AllReadyH.cons rfl (fun K hK => ?_) AllReadyH.nil
                · refine step_store_has (by rfl) 23 (.tmp 11) (.tmp 49) (by rfl) gk (by rfl) (dig.map bv) (by rfl) 23 zkey Hk.out (by rw [List.length_map, HDL.out]; exact size_key) (by rw [List.length_map, HDL.out]; rfl) (one_bv dig) ?_
                  intro u29 ok Hk2
                  clear Hk
                  have Hk := Lib.hid Hk2
                  have OK := Lib.hid ok
                  clear Hk2 ok
                  have hb29 : Below W0.heap.size W0 u29 := OK.out.below hb28 HGK.out
                  refine hK.out _ _ trivial (fun hHeld => ?_)
                  clear hK K
                  try simp only [List.getElem_toArray, List.getElem_cons_succ, List.getElem_cons_zero, Act.put, List.setIfInBounds_toArray, List.set_cons_zero, List.set_cons_succ]
                  refine wpAnyH_done (by kernel_rfl) ?_ _
                  have KG := Lib.hid (HKG.out u29 gk (show Has u29 gk 23 (dig.map bv) from Hk.out))
                  have HE := Lib.hid (show Below w.heap.size w u29 from HBW.out.trans (hb29.mono HBZ.out))
                  clear Hk
                  go_wp2_with fail
                  refine (KG.out).mono ?_
                  rintro e w' ⟨rfl, rfl⟩
                  go_wp2_with fail
                  go_ret
                  exact ⟨rfl, HE.out⟩
            · go_simp
              have hx30 := (Below.refl u26.heap.size u26).alloc (Nat.le_refl _) (.cells #[.int .u8 0, .int .u8 0, .int .u8 0, .int .u8 0, .int .u8 0, .int .u8 0, .int .u8 0, .int .u8 0, .int .u8 0, .int .u8 0, .int .u8 0, .int .u8 0, .int .u8 0, .int .u8 0, .int .u8 0, .int .u8 0, .int .u8 0, .int .u8 0, .int .u8 0, .int .u8 0, .int .u8 0, .int .u8 0, .int .u8 0, .int .u8 0, .int .u8 0, .int .u8 0, .int .u8 0, .int .u8 0, .int .u8 0, .int .u8 0, .int .u8 0, .int .u8 0] 23)
              have Rb := Lib.hid (PartsAt.keep Rb.out hx30)
              have Hk := Lib.hid (newKey u26)
              generalize (u26.alloc (.cells #[.int .u8 0, .int .u8 0, .int .u8 0, .int .u8 0, .int .u8 0, .int .u8 0, .int .u8 0, .int .u8 0, .int .u8 0, .int .u8 0, .int .u8 0, .int .u8 0, .int .u8 0, .int .u8 0, .int .u8 0, .int .u8 0, .int .u8 0, .int .u8 0, .int .u8 0, .int .u8 0, .int .u8 0, .int .u8 0, .int .u8 0, .int .u8 0, .int .u8 0, .int .u8 0, .int .u8 0, .int .u8 0, .int .u8 0, .int .u8 0, .int .u8 0, .int .u8 0] 23)) = u30 at *
              obtain ⟨gk, hgk⟩ : ∃ x, u26.heap.size = x := ⟨_, rfl⟩
              have HGK := Lib.hid (show W0.heap.size ≤ gk by rw [← hgk]; exact hb26.size)
              rw [hgk] at Hk
              try rw [hgk]
              clear hgk
              have hb30 : Below W0.heap.size W0 u30 := hb26.trans (hx30.mono hb26.size)
              refine hK.out _ _ trivial (fun hHeld => ?_)
              clear hK K
              try simp only [List.getElem_toArray, List.getElem_cons_succ, List.getElem_cons_zero, Act.put, List.setIfInBounds_toArray, List.set_cons_zero, List.set_cons_succ]
              refine wpAnyH_ready (rs := [8]) (by kernel_rfl) (by simp) ?_
              refine AllReadyH.cons rfl (fun K hK => ?_) AllReadyH.nil
              · go_simp
                go_at_call 15
                with_reducible refine (KR.out _ _ _ _ _ _ _ _ Rb.out).mono ?_
                rintro e u31 ⟨rfl, hx31⟩
                have Hk := Lib.hid (Hk.out.keep hx31 Hk.out.lt)
                clear Rb
                go_simp
                have hb31 : Below W0.heap.size W0 u31 := hb30.trans (hx31.mono hb30.size)
                refine hK.out _ _ trivial (fun hHeld => ?_)
                clear hK K
                try simp only [List.getElem_toArray, List.getElem_cons_succ, List.getElem_cons_zero, Act.put, List.setIfInBounds_toArray, List.set_cons_zero, List.set_cons_succ]
                refine wpAnyH_ready (rs := [10]) (by kernel_rfl) (by simp) ?_
                refine AllReadyH.cons rfl (fun K hK => ?_) AllReadyH.nil
                · refine step_store_has (by rfl) 23 (.tmp 11) (.tmp 49) (by rfl) gk (by rfl) (dig.map bv) (by rfl) 23 zkey Hk.out (by rw [List.length_map, HDL.out]; exact size_key) (by rw [List.length_map, HDL.out]; rfl) (one_bv dig) ?_
                  intro u32 ok Hk2
                  clear Hk
                  have Hk := Lib.hid Hk2
                  have OK := Lib.hid ok
                  clear Hk2 ok
                  have hb32 : Below W0.heap.size W0 u32 := OK.out.below hb31 HGK.out
                  refine hK.out _ _ trivial (fun hHeld => ?_)
                  clear hK K
                  try simp only [List.getElem_toArray, List.getElem_cons_succ, List.getElem_cons_zero, Act.put, List.setIfInBounds_toArray, List.set_cons_zero, List.set_cons_succ]
                  refine wpAnyH_done (by kernel_rfl) ?_ _
                  have KG := Lib.hid (HKG.out u32 gk (show Has u32 gk 23 (dig.map bv) from Hk.out))
                  have HE := Lib.hid (show Below w.heap.size w u32 from HBW.out.trans (hb32.mono HBZ.out))
                  clear Hk
                  go_wp2_with fail
                  refine (KG.out).mono ?_
                  rintro e w' ⟨rfl, rfl⟩
                  go_wp2_with fail
                  go_ret
                  exact ⟨rfl, HE.out⟩
          · go_simp
            have hx33 := (Below.refl u25.heap.size u25).alloc (Nat.le_refl _) (.cells #[.int .u8 0, .int .u8 0, .int .u8 0, .int .u8 0, .int .u8 0, .int .u8 0, .int .u8 0, .int .u8 0, .int .u8 0, .int .u8 0, .int .u8 0, .int .u8 0, .int .u8 0, .int .u8 0, .int .u8 0, .int .u8 0, .int .u8 0, .int .u8 0, .int .u8 0, .int .u8 0, .int .u8 0, .int .u8 0, .int .u8 0, .int .u8 0, .int .u8 0, .int .u8 0, .int .u8 0, .int .u8 0, .int .u8 0, .int .u8 0, .int .u8 0, .int .u8 0] 23)
            have Rc := Lib.hid (Row.keep Rc.out hx33)
            have Rp := Lib.hid (Row.keep Rp.out hx33)
            have Hk := Lib.hid (newKey u25)
            generalize (u25.alloc (.cells #[.int .u8 0, .int .u8 0, .int .u8 0, .int .u8 0, .int .u8 0, .int .u8 0, .int .u8 0, .int .u8 0, .int .u8 0, .int .u8 0, .int .u8 0, .int .u8 0, .int .u8 0, .int .u8 0, .int .u8 0, .int .u8 0, .int .u8 0, .int .u8 0, .int .u8 0, .int .u8 0, .int .u8 0, .int .u8 0, .int .u8 0, .int .u8 0, .int .u8 0, .int .u8 0, .int .u8 0, .int .u8 0, .int .u8 0, .int .u8 0, .int .u8 0, .int .u8 0] 23)) = u33 at *
            obtain ⟨gk, hgk⟩ : ∃ x, u25.heap.size = x := ⟨_, rfl⟩
            have HGK := Lib.hid (show W0.heap.size ≤ gk by rw [← hgk]; exact hb25.size)
            rw [hgk] at Hk
            try rw [hgk]
            clear hgk
            have hb33 : Below W0.heap.size W0 u33 := hb25.trans (hx33.mono hb25.size)
            refine hK.out _ _ trivial (fun hHeld => ?_)
            clear hK K
            try simp only [List.getElem_toArray, List.getElem_cons_succ, List.getElem_cons_zero, Act.put, List.setIfInBounds_toArray, List.set_cons_zero, List.set_cons_succ]
            refine wpAnyH_ready (rs := [7]) (by kernel_rfl) (by simp) ?_
            refine AllReadyH.cons rfl (fun K hK => ?_) AllReadyH.nil
            · go_simp
              have hx34 := (Below.refl u33.heap.size u33).alloc (Nat.le_refl _) (.cells #[.slice (some ⟨g, 0, none⟩) 32 32, .slice (some ⟨gc, 0, none⟩) name.length cc, .slice Ap 8 cp] 40)
              have Hk := Lib.hid (Hk.out.keep hx34 Hk.out.lt)
              have Rb := Lib.hid (lit3 u33 (some ⟨g, 0, none⟩) 32 32 seed (some ⟨gc, 0, none⟩) name.length cc name Ap 8 cp (be64 q) (HSD.out _ hb33) Rc.out Rp.out)
              generalize (u33.alloc (.cells #[.slice (some ⟨g, 0, none⟩) 32 32, .slice (some ⟨gc, 0, none⟩) name.length cc, .slice Ap 8 cp] 40)) = u34 at *
              obtain ⟨gp, hgp⟩ : ∃ x, u33.heap.size = x := ⟨_, rfl⟩
              rw [hgp] at Rb
              try rw [hgp]
              clear Rc Rp hgp
              have hb34 : Below W0.heap.size W0 u34 := hb33.trans (hx34.mono hb33.size)
              refine hK.out _ _ trivial (fun hHeld => ?_)
              clear hK K
              try simp only [List.getElem_toArray, List.getElem_cons_succ, List.getElem_cons_zero, Act.put, List.setIfInBounds_toArray, List.set_cons_zero, List.set_cons_succ]
              refine wpAnyH_ready (rs := [8]) (by kernel_rfl) (by simp) ?_
              refine AllReadyH.cons rfl (fun K hK => ?_) AllReadyH.nil
              · go_simp
                go_at_call 15
                with_reducible refine (KR.out _ _ _ _ _ _ _ _ Rb.out).mono ?_
                rintro e u35 ⟨rfl, hx35⟩
                have Hk := Lib.hid (Hk.out.keep hx35 Hk.out.lt)
                clear Rb
                go_simp
                have hb35 : Below W0.heap.size W0 u35 := hb34.trans (hx35.mono hb34.size)
                refine hK.out _ _ trivial (fun hHeld => ?_)
                clear hK K
                try simp only [List.getElem_toArray, List.getElem_cons_succ, List.getElem_cons_zero, Act.put, List.setIfInBounds_toArray, List.set_cons_zero, List.set_cons_succ]
                refine wpAnyH_ready (rs := [10]) (by kernel_rfl) (by simp) ?_
                refine AllReadyH.cons rfl (fun K hK => ?_) AllReadyH.nil
                · refine step_store_has (by rfl) 23 (.tmp 11) (.tmp 49) (by rfl) gk (by rfl) (dig.map bv) (by rfl) 23 zkey Hk.out (by rw [List.length_map, HDL.out]; exact size_key) (by rw [List.length_map, HDL.out]; rfl) (one_bv dig) ?_
                  intro u36 ok Hk2
                  clear Hk
                  have Hk := Lib.hid Hk2
                  have OK := Lib.hid ok
                  clear Hk2 ok
                  have hb36 : Below W0.heap.size W0 u36 := OK.out.below hb35 HGK.out
                  refine hK.out _ _ trivial (fun hHeld => ?_)
                  clear hK K
                  try simp only [List.getElem_toArray, List.getElem_cons_succ, List.getElem_cons_zero, Act.put, List.setIfInBounds_toArray, List.set_cons_zero, List.set_cons_succ]
                  refine wpAnyH_done (by kernel_rfl) ?_ _
                  have KG := Lib.hid (HKG.out u36 gk (show Has u36 gk 23 (dig.map bv) from Hk.out))
                  have HE := Lib.hid (show Below w.heap.size w u36 from HBW.out.trans (hb36.mono HBZ.out))
                  clear Hk
                  go_wp2_with fail
                  refine (KG.out).mono ?_
                  rintro e w' ⟨rfl, rfl⟩
                  go_wp2_with fail
                  go_ret
                  exact ⟨rfl, HE.out⟩
        · go_simp
          have hx37 := (Below.refl u24.heap.size u24).alloc (Nat.le_refl _) (.cells #[.int .u8 0, .int .u8 0, .int .u8 0, .int .u8 0, .int .u8 0, .int .u8 0, .int .u8 0, .int .u8 0, .int .u8 0, .int .u8 0, .int .u8 0, .int .u8 0, .int .u8 0, .int .u8 0, .int .u8 0, .int .u8 0, .int .u8 0, .int .u8 0, .int .u8 0, .int .u8 0, .int .u8 0, .int .u8 0, .int .u8 0, .int .u8 0, .int .u8 0, .int .u8 0, .int .u8 0, .int .u8 0, .int .u8 0, .int .u8 0, .int .u8 0, .int .u8 0] 23)
          have Rp := Lib.hid (Row.keep Rp.out hx37)
          have Hk := Lib.hid (newKey u24)
          generalize (u24.alloc (.cells #[.int .u8 0, .int .u8 0, .int .u8 0, .int .u8 0, .int .u8 0, .int .u8 0, .int .u8 0, .int .u8 0, .int .u8 0, .int .u8 0, .int .u8 0, .int .u8 0, .int .u8 0, .int .u8 0, .int .u8 0, .int .u8 0, .int .u8 0, .int .u8 0, .int .u8 0, .int .u8 0, .int .u8 0, .int .u8 0, .int .u8 0, .int .u8 0, .int .u8 0, .int .u8 0, .int .u8 0, .int .u8 0, .int .u8 0, .int .u8 0, .int .u8 0, .int .u8 0] 23)) = u37 at *
          obtain ⟨gk, hgk⟩ : ∃ x, u24.heap.size = x := ⟨_, rfl⟩
          have HGK := Lib.hid (show W0.heap.size ≤ gk by rw [← hgk]; exact hb24.size)
          rw [hgk] at Hk
          try rw [hgk]
          clear hgk
          have hb37 : Below W0.heap.size W0 u37 := hb24.trans (hx37.mono hb24.size)
          refine hK.out _ _ trivial (fun hHeld => ?_)
          clear hK K
          try simp only [List.getElem_toArray, List.getElem_cons_succ, List.getElem_cons_zero, Act.put, List.setIfInBounds_toArray, List.set_cons_zero, List.set_cons_succ]
          refine wpAnyH_ready (rs := [2]) (by kernel_rfl) (by simp) ?_
          refine AllReadyH.cons rfl (fun K hK => ?_) AllReadyH.nil
          · obtain ⟨cc, u38, hconv, hpc, hx38⟩ := run_nameB name HNM.out u37
            go_simp
            have Rp := Lib.hid (Row.keep Rp.out hx38)
            have Hk := Lib.hid (Hk.out.keep hx38 Hk.out.lt)
            have Rc := Lib.hid hpc
            obtain ⟨gc, hgc⟩ : ∃ x, u37.heap.size = x := ⟨_, rfl⟩
            rw [hgc] at Rc
            try rw [hgc]
            clear hconv hpc hgc
            have hb38 : Below W0.heap.size W0 u38 := hb37.trans (hx38.mono hb37.size)
            refine hK.out _ _ trivial (fun hHeld => ?_)
            clear hK K
            try simp only [List.getElem_toArray, List.getElem_cons_succ, List.getElem_cons_zero, Act.put, List.setIfInBounds_toArray, List.set_cons_zero, List.set_cons_succ]
            refine wpAnyH_ready (rs := [7]) (by kernel_rfl) (by simp) ?_
            refine AllReadyH.cons rfl (fun K hK => ?_) AllReadyH.nil
            · go_simp
              have hx39 := (Below.refl u38.heap.size u38).alloc (Nat.le_refl _) (.cells #[.slice (some ⟨g, 0, none⟩) 32 32, .slice (some ⟨gc, 0, none⟩) name.length cc, .slice Ap 8 cp] 40)
              have Hk := Lib.hid (Hk.out.keep hx39 Hk.out.lt)
              have Rb := Lib.hid (lit3 u38 (some ⟨g, 0, none⟩) 32 32 seed (some ⟨gc, 0, none⟩) name.length cc name Ap 8 cp (be64 q) (HSD.out _ hb38) Rc.out Rp.out)
              generalize (u38.alloc (.cells #[.slice (some ⟨g, 0, none⟩) 32 32, .slice (some ⟨gc, 0, none⟩) name.length cc, .slice Ap 8 cp] 40)) = u39 at *
              obtain ⟨gp, hgp⟩ : ∃ x, u38.heap.size = x := ⟨_, rfl⟩
              rw [hgp] at Rb
              try rw [hgp]
              clear Rc Rp hgp
              have hb39 : Below W0.heap.size W0 u39 := hb38.trans (hx39.mono hb38.size)
              refine hK.out _ _ trivial (fun hHeld => ?_)
              clear hK K
              try simp only [List.getElem_toArray, List.getElem_cons_succ, List.getElem_cons_zero, Act.put, List.setIfInBounds_toArray, List.set_cons_zero, List.set_cons_succ]
              refine wpAnyH_ready (rs := [8]) (by kernel_rfl) (by simp) ?_
              refine AllReadyH.cons rfl (fun K hK => ?_) AllReadyH.nil
              · go_simp
                go_at_call 15
                with_reducible refine (KR.out _ _ _ _ _ _ _ _ Rb.out).mono ?_
                rintro e u40 ⟨rfl, hx40⟩
                have Hk := Lib.hid (Hk.out.keep hx40 Hk.out.lt)
                clear Rb
                go_simp
                have hb40 : Below W0.heap.size W0 u40 := hb39.trans (hx40.mono hb39.size)
                refine hK.out _ _ trivial (fun hHeld => ?_)
                clear hK K
                try simp only [List.getElem_toArray, List.getElem_cons_succ, List.getElem_cons_zero, Act.put, List.setIfInBounds_toArray, List.set_cons_zero, List.set_cons_succ]
                refine wpAnyH_ready (rs := [10]) (by kernel_rfl) (by simp) ?_
                refine AllReadyH.cons rfl (fun K hK => ?_) AllReadyH.nil
                · refine step_store_has (by rfl) 23 (.tmp 11) (.tmp 49) (by rfl) gk (by rfl) (dig.map bv) (by rfl) 23 zkey Hk.out (by rw [List.length_map, HDL.out]; exact size_key) (by rw [List.length_map, HDL.out]; rfl) (one_bv dig) ?_
                  intro u41 ok Hk2
                  clear Hk
                  have Hk := Lib.hid Hk2
                  have OK := Lib.hid ok
                  clear Hk2 ok
                  have hb41 : Below W0.heap.size W0 u41 := OK.out.below hb40 HGK.out
                  refine hK.out _ _ trivial (fun hHeld => ?_)
                  clear hK K
                  try simp only [List.getElem_toArray, List.getElem_cons_succ, List.getElem_cons_zero, Act.put, List.setIfInBounds_toArray, List.set_cons_zero, List.set_cons_succ]
                  refine wpAnyH_done (by kernel_rfl) ?_ _
                  have KG := Lib.hid (HKG.out u41 gk (show Has u41 gk 23 (dig.map bv) from Hk.out))
                  have HE := Lib.hid (show Below w.heap.size w u41 from HBW.out.trans (hb41.mono HBZ.out))
                  clear Hk
                  go_wp2_with fail
                  refine (KG.out).mono ?_
                  rintro e w' ⟨rfl, rfl⟩
                  go_wp2_with fail
                  go_ret
                  exact ⟨rfl, HE.out⟩
      · go_simp
        have hx42 := (Below.refl W0.heap.size W0).alloc (Nat.le_refl _) (.cells #[.int .u8 0, .int .u8 0, .int .u8 0, .int .u8 0, .int .u8 0, .int .u8 0, .int .u8 0, .int .u8 0, .int .u8 0, .int .u8 0, .int .u8 0, .int .u8 0, .int .u8 0, .int .u8 0, .int .u8 0, .int .u8 0, .int .u8 0, .int .u8 0, .int .u8 0, .int .u8 0, .int .u8 0, .int .u8 0, .int .u8 0, .int .u8 0, .int .u8 0, .int .u8 0, .int .u8 0, .int .u8 0, .int .u8 0, .int .u8 0, .int .u8 0, .int .u8 0] 23)
        have Hk := Lib.hid (newKey W0)
        generalize (W0.alloc (.cells #[.int .u8 0, .int .u8 0, .int .u8 0, .int .u8 0, .int .u8 0, .int .u8 0, .int .u8 0, .int .u8 0, .int .u8 0, .int .u8 0, .int .u8 0, .int .u8 0, .int .u8 0, .int .u8 0, .int .u8 0, .int .u8 0, .int .u8 0, .int .u8 0, .int .u8 0, .int .u8 0, .int .u8 0, .int .u8 0, .int .u8 0, .int .u8 0, .int .u8 0, .int .u8 0, .int .u8 0, .int .u8 0, .int .u8 0, .int .u8 0, .int .u8 0, .int .u8 0] 23)) = u42 at *
        obtain ⟨gk, hgk⟩ : ∃ x, W0.heap.size = x := ⟨_, rfl⟩
        have HGK := Lib.hid (show W0.heap.size ≤ gk by rw [← hgk]; exact hb0.size)
        rw [hgk] at Hk
        try rw [hgk]
        clear hgk
        have hb42 : Below W0.heap.size W0 u42 := hb0.trans (hx42.mono hb0.size)
        refine hK.out _ _ trivial (fun hHeld => ?_)
        clear hK K
        try simp only [List.getElem_toArray, List.getElem_cons_succ, List.getElem_cons_zero, Act.put, List.setIfInBounds_toArray, List.set_cons_zero, List.set_cons_succ]
        refine wpAnyH_ready (rs := [2, 6]) (by kernel_rfl) (by simp) ?_
        refine AllReadyH.cons rfl (fun K hK => ?_) (AllReadyH.cons rfl (fun K hK => ?_) AllReadyH.nil)
        · obtain ⟨cc, u43, hconv, hpc, hx43⟩ := run_nameB name HNM.out u42
          go_simp
          have Hk := Lib.hid (Hk.out.keep hx43 Hk.out.lt)
          have Rc := Lib.hid hpc
          obtain ⟨gc, hgc⟩ : ∃ x, u42.heap.size = x := ⟨_, rfl⟩
          rw [hgc] at Rc
          try rw [hgc]
          clear hconv hpc hgc
          have hb43 : Below W0.heap.size W0 u43 := hb42.trans (hx43.mono hb42.size)
          refine hK.out _ _ trivial (fun hHeld => ?_)
          clear hK K
          try simp only [List.getElem_toArray, List.getElem_cons_succ, List.getElem_cons_zero, Act.put, List.setIfInBounds_toArray, List.set_cons_zero, List.set_cons_succ]
          refine wpAnyH_ready (rs := [6]) (by kernel_rfl) (by simp) ?_
          refine AllReadyH.cons rfl (fun K hK => ?_) AllReadyH.nil
          · go_simp
            go_at_call 16
            with_reducible refine (KP.out u43).mono ?_
            rintro e u44 ⟨vp, rfl, hownp, hx44⟩
            obtain ⟨Ap, cp, rfl, Rp0⟩ := Row.own hownp
            have Rc := Lib.hid (Row.keep Rc.out hx44)
            have Hk := Lib.hid (Hk.out.keep hx44 Hk.out.lt)
            have Rp := Lib.hid Rp0
            clear Rp0 hownp
            go_simp
            have hb44 : Below W0.heap.size W0 u44 := hb43.trans (hx44.mono hb43.size)
            refine hK.out _ _ trivial (fun hHeld => ?_)
            clear hK K
            try simp only [List.getElem_toArray, List.getElem_cons_succ, List.getElem_cons_zero, Act.put, List.setIfInBounds_toArray, List.set_cons_zero, List.set_cons_succ]
            refine wpAnyH_ready (rs := [7]) (by kernel_rfl) (by simp) ?_
            refine AllReadyH.cons rfl (fun K hK => ?_) AllReadyH.nil
            · go_simp
              have hx45 := (Below.refl u44.heap.size u44).alloc (Nat.le_refl _) (.cells #[.slice (some ⟨g, 0, none⟩) 32 32, .slice (some ⟨gc, 0, none⟩) name.length cc, .slice Ap 8 cp] 40)
              have Hk := Lib.hid (Hk.out.keep hx45 Hk.out.lt)
              have Rb := Lib.hid (lit3 u44 (some ⟨g, 0, none⟩) 32 32 seed (some ⟨gc, 0, none⟩) name.length cc name Ap 8 cp (be64 q) (HSD.out _ hb44) Rc.out Rp.out)
              generalize (u44.alloc (.cells #[.slice (some ⟨g, 0, none⟩) 32 32, .slice (some ⟨gc, 0, none⟩) name.length cc, .slice Ap 8 cp] 40)) = u45 at *
              obtain ⟨gp, hgp⟩ : ∃ x, u44.heap.size = x := ⟨_, rfl⟩
              rw [hgp] at Rb
              try rw [hgp]
              clear Rc Rp hgp
              have hb45 : Below W0.heap.size W0 u45 := hb44.trans (hx45.mono hb44.size)
              refine hK.out _ _ trivial (fun hHeld => ?_)
              clear hK K
              try simp only [List.getElem_toArray, List.getElem_cons_succ, List.getElem_cons_zero, Act.put, List.setIfInBounds_toArray, List.set_cons_zero, List.set_cons_succ]
              refine wpAnyH_ready (rs := [8]) (by kernel_rfl) (by simp) ?_
              refine AllReadyH.cons rfl (fun K hK => ?_) AllReadyH.nil
              · go_simp
                go_at_call 15
                with_reducible refine (KR.out _ _ _ _ _ _ _ _ Rb.out).mono ?_
                rintro e u46 ⟨rfl, hx46⟩
                have Hk := Lib.hid (Hk.out.keep hx46 Hk.out.lt)
                clear Rb
                go_simp
                have hb46 : Below W0.heap.size W0 u46 := hb45.trans (hx46.mono hb45.size)
                refine hK.out _ _ trivial (fun hHeld => ?_)
                clear hK K
                try simp only [List.getElem_toArray, List.getElem_cons_succ, List.getElem_cons_zero, Act.put, List.setIfInBounds_toArray, List.set_cons_zero, List.set_cons_succ]
                refine wpAnyH_ready (rs := [10]) (by kernel_rfl) (by simp) ?_
                refine AllReadyH.cons rfl (fun K hK => ?_) AllReadyH.nil
                · refine step_store_has (by rfl) 23 (.tmp 11) (.tmp 49) (by rfl) gk (by rfl) (dig.map bv) (by rfl) 23 zkey Hk.out (by rw [List.length_map, HDL.out]; exact size_key) (by rw [List.length_map, HDL.out]; rfl) (one_bv dig) ?_
                  intro u47 ok Hk2
                  clear Hk
                  have Hk := Lib.hid Hk2
                  have OK := Lib.hid ok
                  clear Hk2 ok
                  have hb47 : Below W0.heap.size W0 u47 := OK.out.below hb46 HGK.out
                  refine hK.out _ _ trivial (fun hHeld => ?_)
                  clear hK K
                  try simp only [List.getElem_toArray, List.getElem_cons_succ, List.getElem_cons_zero, Act.put, List.setIfInBounds_toArray, List.set_cons_zero, List.set_cons_succ]
                  refine wpAnyH_done (by kernel_rfl) ?_ _
                  have KG := Lib.hid (HKG.out u47 gk (show Has u47 gk 23 (dig.map bv) from Hk.out))
                  have HE := Lib.hid (show Below w.heap.size w u47 from HBW.out.trans (hb47.mono HBZ.out))
                  clear Hk
                  go_wp2_with fail
                  refine (KG.out).mono ?_
                  rintro e w' ⟨rfl, rfl⟩
                  go_wp2_with fail
                  go_ret
                  exact ⟨rfl, HE.out⟩
        · go_simp
          go_at_call 16
          with_reducible refine (KP.out u42).mono ?_
          rintro e u48 ⟨vp, rfl, hownp, hx48⟩
          obtain ⟨Ap, cp, rfl, Rp0⟩ := Row.own hownp
          have Hk := Lib.hid (Hk.out.keep hx48 Hk.out.lt)
          have Rp := Lib.hid Rp0
          clear Rp0 hownp
          go_simp
          have hb48 : Below W0.heap.size W0 u48 := hb42.trans (hx48.mono hb42.size)
          refine hK.out _ _ trivial (fun hHeld => ?_)
          clear hK K
          try simp only [List.getElem_toArray, List.getElem_cons_succ, List.getElem_cons_zero, Act.put, List.setIfInBounds_toArray, List.set_cons_zero, List.set_cons_succ]
          refine wpAnyH_ready (rs := [2]) (by kernel_rfl) (by simp) ?_
          refine AllReadyH.cons rfl (fun K hK => ?_) AllReadyH.nil
          · obtain ⟨cc, u49, hconv, hpc, hx49⟩ := run_nameB name HNM.out u48
            go_simp
            have Rp := Lib.hid (Row.keep Rp.out hx49)
            have Hk := Lib.hid (Hk.out.keep hx49 Hk.out.lt)
            have Rc := Lib.hid hpc
            obtain ⟨gc, hgc⟩ : ∃ x, u48.heap.size = x := ⟨_, rfl⟩
            rw [hgc] at Rc
            try rw [hgc]
            clear hconv hpc hgc
            have hb49 : Below W0.heap.size W0 u49 := hb48.trans (hx49.mono hb48.size)
            refine hK.out _ _ trivial (fun hHeld => ?_)
            clear hK K
            try simp only [List.getElem_toArray, List.getElem_cons_succ, List.getElem_cons_zero, Act.put, List.setIfInBounds_toArray, List.set_cons_zero, List.set_cons_succ]
            refine wpAnyH_ready (rs := [7]) (by kernel_rfl) (by simp) ?_
            refine AllReadyH.cons rfl (fun K hK => ?_) AllReadyH.nil
            · go_simp
              have hx50 := (Below.refl u49.heap.size u49).alloc (Nat.le_refl _) (.cells #[.slice (some ⟨g, 0, none⟩) 32 32, .slice (some ⟨gc, 0, none⟩) name.length cc, .slice Ap 8 cp] 40)
              have Hk := Lib.hid (Hk.out.keep hx50 Hk.out.lt)
              have Rb := Lib.hid (lit3 u49 (some ⟨g, 0, none⟩) 32 32 seed (some ⟨gc, 0, none⟩) name.length cc name Ap 8 cp (be64 q) (HSD.out _ hb49) Rc.out Rp.out)
              generalize (u49.alloc (.cells #[.slice (some ⟨g, 0, none⟩) 32 32, .slice (some ⟨gc, 0, none⟩) name.length cc, .slice Ap 8 cp] 40)) = u50 at *
              obtain ⟨gp, hgp⟩ : ∃ x, u49.heap.size = x := ⟨_, rfl⟩
              rw [hgp] at Rb
              try rw [hgp]
              clear Rc Rp hgp
              have hb50 : Below W0.heap.size W0 u50 := hb49.trans (hx50.mono hb49.size)
              refine hK.out _ _ trivial (fun hHeld => ?_)
              clear hK K
              try simp only [List.getElem_toArray, List.getElem_cons_succ, List.getElem_cons_zero, Act.put, List.setIfInBounds_toArray, List.set_cons_zero, List.set_cons_succ]
              refine wpAnyH_ready (rs := [8]) (by kernel_rfl) (by simp) ?_
              refine AllReadyH.cons rfl (fun K hK => ?_) AllReadyH.nil
              · go_simp
                go_at_call 15
                with_reducible refine (KR.out _ _ _ _ _ _ _ _ Rb.out).mono ?_
                rintro e u51 ⟨rfl, hx51⟩
                have Hk := Lib.hid (Hk.out.keep hx51 Hk.out.lt)
                clear Rb
                go_simp
                have hb51 : Below W0.heap.size W0 u51 := hb50.trans (hx51.mono hb50.size)
                refine hK.out _ _ trivial (fun hHeld => ?_)
                clear hK K
                try simp only [List.getElem_toArray, List.getElem_cons_succ, List.getElem_cons_zero, Act.put, List.setIfInBounds_toArray, List.set_cons_zero, List.set_cons_succ]
                refine wpAnyH_ready (rs := [10]) (by kernel_rfl) (by simp) ?_
                refine AllReadyH.cons rfl (fun K hK => ?_) AllReadyH.nil
                · refine step_store_has (by rfl) 23 (.tmp 11) (.tmp 49) (by rfl) gk (by rfl) (dig.map bv) (by rfl) 23 zkey Hk.out (by rw [List.length_map, HDL.out]; exact size_key) (by rw [List.length_map, HDL.out]; rfl) (one_bv dig) ?_
                  intro u52 ok Hk2
                  clear Hk
                  have Hk := Lib.hid Hk2
                  have OK := Lib.hid ok
                  clear Hk2 ok
                  have hb52 : Below W0.heap.size W0 u52 := OK.out.below hb51 HGK.out
                  refine hK.out _ _ trivial (fun hHeld => ?_)
                  clear hK K
                  try simp only [List.getElem_toArray, List.getElem_cons_succ, List.getElem_cons_zero, Act.put, List.setIfInBounds_toArray, List.set_cons_zero, List.set_cons_succ]
                  refine wpAnyH_done (by kernel_rfl) ?_ _
                  have KG := Lib.hid (HKG.out u52 gk (show Has u52 gk 23 (dig.map bv) from Hk.out))
                  have HE := Lib.hid (show Below w.heap.size w u52 from HBW.out.trans (hb52.mono HBZ.out))
                  clear Hk
                  go_wp2_with fail
                  refine (KG.out).mono ?_
                  rintro e w' ⟨rfl, rfl⟩
                  go_wp2_with fail
                  go_ret
                  exact ⟨rfl, HE.out⟩
theorem all (seed : List UInt8) (hs : seed.length = 32) (name : ByteArray) (i : Int) (w : World) (hT : Tab w) :
    Calls Tryd.prog 4 #[.agg (seed.map bv).toArray, .string name, .int .i64 i] w fun e w' => e = .returned (.bool true) ∧ Below w.heap.size w w' := by
  obtain ⟨name, rfl⟩ : ∃ l, name = str l := ⟨name.data.toList, by simp [str]⟩
  by_cases h1 : i < 0
  · exact out1 seed name hs _ rfl i w hT h1
  by_cases h2 : 60 < i
  · exact out2 seed name hs _ rfl i w hT ⟨by omega, h2⟩
  by_cases h3 : 50 < (str name).size
  · exact out3 seed name hs _ rfl i w hT ⟨by omega, by omega, h3⟩
  obtain ⟨i, rfl⟩ := Int.eq_ofNat_of_zero_le (show 0 ≤ i by omega)
  exact inn seed name hs _ rfl i w hT (by omega) (by omega)
end beaWordsLaw
end Go.Proofs.YtanfcenjlonjmaaDoor
