/-
  Contract of the reference's Order.
-/
import Derived.Test.YtjfipijdjbbogaaDoorOrdSpec
import Derived.Test.YtjfipijdjbbogaaDoorInts
import Derived.Test.YtjfipijdjbbogaaDoorRefNext
namespace Go.Proofs.YtjfipijdjbbogaaDoor
open Go.ChangeShapes Go.WideShapes Go.ChangeAt Go.RowKit
set_option linter.unusedVariables false
set_option linter.unusedSimpArgs false

theorem swap_room {p : List Int} {Z : List Value} {i j : Nat} (hi : i < p.length) (hj : j < p.length) : ((p.map iv ++ Z).set i (.int .i64 (p.getD j 0))).set j (.int .i64 (p.getD i 0)) = (swapL p i j).map iv ++ Z := by
  rw [List.set_append_left _ _ (by rw [List.length_map]; exact hi), List.set_append_left _ _ (by rw [List.length_set, List.length_map]; exact hj), swapL, List.map_set, List.map_set]
  rfl
theorem cell_room {w : World} {g t : Nat} {p : List Int} {Z : List Value} (h : Has w g t (p.map iv ++ Z)) {i : Nat} (hi : i < p.length) : w.cell? ⟨g, i, none⟩ = some (.int .i64 (p.getD i 0)) := by
  rw [h.cell, List.getElem?_append_left (by rw [List.length_map]; exact hi), List.getElem?_map, List.getD_eq_getElem?_getD, List.getElem?_eq_getElem hi]
  rfl
theorem Has.intsZ {w : World} {g : Nat} {t : TypeId} {l : List Int} {Z : List Value} {n c : Nat} (h : Has w g t (l.map iv ++ Z)) (hl : l.length = n) (hc : n ≤ c) (hm : c ≤ maxLen) : Ints w (some ⟨g, 0, none⟩) n c l := by
  have := h.row 0 n c (by simp; omega) hc hm
  rw [List.drop_zero, List.take_append_of_le_length (by simp; omega), List.take_of_length_le (by simp; omega)] at this
  exact this
set_option maxHeartbeats 1000000 in
theorem refOrder (g : Nat) (seed name : List UInt8) (n : Int) (j : Nat) (pf : List Int) (ef jf : Nat) (h : orderB seed name n j = (pf, ef, jf)) (hj : j ≤ 1000000) (hs : seed.length = 32) (hn : name.length ≤ 1099511627776) (w : World) (H : StrmR w g seed name j) :
    Calls Tryd.prog 21 #[.int .i64 n, .pointer (some ⟨g, 0, none⟩)] w fun e w' => ∃ A m c, e = .returned (.tuple #[.slice A m c, .int .i64 (ef : Int)]) ∧ Ints w' A m c pf ∧ StrmR w' g seed name jf ∧ Save g w w' := by
  by_cases hlo : n < 0
  · rw [orderB_out (Or.inl hlo)] at h
    cases h
    have HH := Lib.hid H
    clear H hs hn hj
    go_enter Tryd.func21, Tryd.ntmps21
    go_wp2_with fail
    go_ret2
    exact ⟨none, 0, 0, rfl, Ints.nil _, HH.out, Save.refl _ _⟩
  by_cases hhi : 1000 < n
  · rw [orderB_out (Or.inr hhi)] at h
    cases h
    have HH := Lib.hid H
    clear H hs hn hj
    go_enter Tryd.func21, Tryd.ntmps21
    go_wp2_with fail
    go_ret2
    exact ⟨none, 0, 0, rfl, Ints.nil _, HH.out, Save.refl _ _⟩
  obtain ⟨n, rfl⟩ : ∃ m : Nat, n = (m : Int) := ⟨n.toNat, by omega⟩
  have hn1 : n ≤ 1000 := by omega
  rw [orderB, if_neg (by omega), Int.toNat_natCast] at h
  have HD := Lib.hid h
  have HS := Lib.hid (And.intro hs hn)
  have HJ := Lib.hid hj
  have HG := Lib.hid (Has.lt H)
  have HH := Lib.hid H
  have hb0 := Below.refl w.heap.size w
  clear h H hs hn hj
  go_enter Tryd.func21, Tryd.ntmps21
  go_wp2_with fail
  go_loopw [6, 7] (fun v6 v7 wr => ∃ i : Nat, i ≤ n ∧ v7 = .int .i64 i ∧ wr.ownsRow w.heap.size 3 1 v6 i ((firstL i).map iv) ∧ Below w.heap.size w wr) (fun _ v _ => n - (intOf v).toNat)
  case atStart => exact ⟨0, by omega, rfl, World.ownsRow_nil _ _ _ _, hb0⟩
  case round =>
    obtain ⟨i, hi, rfl, hown, hb⟩ := hrel
    clear hb0
    by_cases hlt : i < n
    · have htj : (i : Int) < (n : Int) := by omega
      obtain ⟨p, hp⟩ : ∃ p, firstL i = p := ⟨_, rfl⟩
      have HP := Lib.hid (show firstL (i + 1) = p ++ [(i : Int)] by rw [firstL_snoc, hp])
      rw [hp] at hown
      clear hp
      obtain ⟨A, c, rfl, hr⟩ := Row.own hown
      go_wp2_with (at_builtin; (refine appI rfl (.tmp 23) (.tmp 25) rfl w.heap.size (.slice A i c) i p rfl (hown.alloc _) (some ⟨wr.heap.size, 0, none⟩) 1 1 [(i : Int)] rfl (lit1I wr (i : Int)) (by omega) (Nat.le_trans hb.size (by simp)) ?_); intro v8 w8 hown8 hg8)
      go_roundw
      case rel => exact ⟨i + 1, by omega, by go_num, by rw [HP.out]; exact hown8, (hb.alloc hb.size _).grown hg8 (Nat.le_trans hb.size (by simp)) (fun k hk => (hown.lt k hk).1)⟩
      case measure => simp [intOf]; omega
    · obtain rfl : i = n := by omega
      have HA := Lib.hid (Ord.first i)
      generalize firstL i = p0 at *
      by_cases hz : i = 0
      · subst hz
        obtain ⟨A, c, rfl, hr⟩ := Row.own hown
        have HE := Lib.hid HD.out
        have HR := Lib.hid hr
        have HB := Lib.hid hb
        have HHb := Lib.hid (Has.keep HH.out hb HG.out)
        clear hr hb hown
        go_wp2_with fail
        go_loopw [8] (fun v wq => v = .int .i64 (-1) ∧ wq = wr) (fun _ _ => 0)
        case atStart => exact ⟨by go_num, rfl⟩
        case round =>
          obtain ⟨rfl, rfl⟩ := hrel
          go_wp2_with fail
          go_ret2
          have h1 : (p0, 0, j) = (pf, ef, jf) := HE.out
          obtain ⟨e1, h2⟩ := Prod.mk.inj h1
          obtain ⟨e2, e3⟩ := Prod.mk.inj h2
          exact ⟨_, _, _, by rw [← e2]; rfl, by rw [← e1]; exact HR.out, by rw [← e3]; exact HHb.out, Save.of_below HB.out⟩
      obtain ⟨g1, c, Z, rfl, hg1, HB, hic, hcm, hpl⟩ := own_hasI hown (by omega)
      have HB := Lib.hid HB
      have HP := Lib.hid (Has.keep HH.out hb HG.out)
      have HV := Lib.hid (Save.of_below (g := g) hb)
      have HC := Lib.hid (And.intro hic (And.intro hcm hg1))
      clear hown hb hic hcm hg1
      go_wp2_with fail
      go_loopw [8] (fun v wr => ∃ (k : Nat) (p : List Int) (j0 : Nat), v = .int .i64 k ∧ k ≤ 1000 ∧ Hid (k < i) ∧ Hid (mixB seed name k p j0 = (pf, ef, jf)) ∧ Hid (j0 + 64 * k ≤ 2000000) ∧ Hid (p.length = i) ∧ Hid (Has wr g1 3 (p.map iv ++ Z)) ∧ Hid (StrmR wr g seed name j0) ∧ Hid (Save g w wr)) (fun v _ => (intOf v).toNat)
      case atStart => exact ⟨i - 1, p0, j, by go_num, by omega, Lib.hid (by omega), HD, Lib.hid (by have := HJ.out; omega), Lib.hid HA.out.1, HB, HP, HV⟩
      case round =>
        clear HB HP HV
        obtain ⟨k, p, j0, rfl, hk1, HK, HM, HJ0, HL, HB, HP, HV⟩ := hrel
        by_cases hge : 1 ≤ (k : Int)
        · obtain ⟨k0, hk0⟩ : ∃ k0, k = k0 + 1 := ⟨k - 1, by omega⟩
          obtain ⟨⟨x, e, j1⟩, hx⟩ : ∃ r : Nat × Nat × Nat, nextB seed name (k + 1) j0 = r := ⟨_, rfl⟩
          have KX := refNext' g seed name (k + 1) j0 x e j1 hx (by omega) (by have := HJ0.out; omega) HS.out.1 HS.out.2 wr HP.out
          rw [show ((k + 1 : Nat) : Int) = (k : Int) + 1 by omega] at KX
          have KXH := Lib.hid KX
          have hu : IntKind.u64.wrap ((k : Int) + 1) = (k : Int) + 1 := by rw [IntKind.wrap_u64]; omega
          have HMM := HM.out
          rw [hk0] at hx HMM
          clear KX HM
          by_cases he : e = 0
          · subst he
            rw [mixB_hit (e := 0) hx] at HMM
            have hxl := nextB_lt (seed := seed) (name := name) (n := k0 + 2) (i := j0)
            rw [show k0 + 1 + 1 = k0 + 2 from rfl] at hx
            rw [hx] at hxl
            have hxk : x < k + 1 := by have : x < k0 + 2 := hxl rfl; omega
            have hj1 := (nextB_at (seed := seed) (name := name) (n := k0 + 2) (i := j0)).2
            rw [hx] at hj1
            have HJ1 := Lib.hid (show j1 + 64 * k0 ≤ 2000000 by have : j1 ≤ j0 + 64 := hj1; have := HJ0.out; omega)
            rw [← hk0] at HMM
            have HM1 := Lib.hid HMM
            have hki : (k : Int) < (i : Int) := by have := HK.out; omega
            have hxi : (x : Int) < (i : Int) := by omega
            have HXK := Lib.hid hk0
            clear hx hxl hj1 HMM hk0
            go_wp2_with fail
            refine (KXH.out).mono ?_
            rintro e w3 ⟨rfl, P3, S3⟩
            have HB3 := HB.out.save S3 (by have := HG.out; have := HC.out; omega)
            have ca := cell_room HB3 (i := k) (by rw [HL.out]; omega)
            have cb := cell_room HB3 (i := x) (by rw [HL.out]; omega)
            have fa := HB3.froz k
            obtain ⟨a, ha⟩ : ∃ a, p.getD k 0 = a := ⟨_, rfl⟩
            obtain ⟨b, hb⟩ : ∃ b, p.getD x 0 = b := ⟨_, rfl⟩
            have HBM := HB3.set k (.int .i64 b)
            have cb2 : (w3.setCell ⟨g1, k, none⟩ (.int .i64 b)).cell? ⟨g1, x, none⟩ = some (.int .i64 b) := by
              rw [HBM.cell, List.getElem?_set, List.length_append, List.length_map]
              by_cases hkx : k = x
              · rw [if_pos hkx, if_pos (by rw [HL.out]; omega)]
              · rw [if_neg hkx, ← HB3.cell, cb, hb]
            have fb2 := HBM.froz x
            have HB4 := HBM.set x (.int .i64 a)
            rw [← ha, ← hb, swap_room (by rw [HL.out]; omega) (by rw [HL.out]; omega)] at HB4
            rw [ha, hb] at HB4
            rw [ha] at ca
            rw [hb] at cb
            clear ha hb HBM
            have O := (Only.setCell w3 g1 k (.int .i64 b)).trans (Only.setCell (w3.setCell ⟨g1, k, none⟩ (.int .i64 b)) g1 x (.int .i64 a))
            have HBH := Lib.hid HB4
            have P3H := Lib.hid (Has.only P3 O (by have := HG.out; have := HC.out; omega))
            have HVH := Lib.hid ((HV.out.trans S3).new O HC.out.2.2)
            clear HB4 O P3 S3 HB3 HB HP HV
            go_wp2_with fail
            go_roundw
            case rel => exact ⟨k0, swapL p k x, j1, by have := HXK.out; go_num, by have := HXK.out; omega, Lib.hid (by have := HXK.out; have := HK.out; omega), HM1, HJ1, Lib.hid (by rw [swapL_len]; exact HL.out), HBH, P3H, HVH⟩
            case measure => simp [intOf]; omega
          · rw [mixB_miss hx he] at HMM
            have HE := Lib.hid HMM
            have hef : ((e : Int) == 0) = false := by simp; exact he
            have he0 : ¬ e = 0 := he
            clear HMM hx he hk0
            go_wp2_with fail
            refine (KXH.out).mono ?_
            rintro e' w3 ⟨rfl, P3, S3⟩
            have HVH := Lib.hid (HV.out.trans S3)
            have P3H := Lib.hid P3
            clear S3 P3
            go_wp2_with fail
            go_ret2
            have h1 := HE.out
            obtain ⟨e1, h2⟩ := Prod.mk.inj h1
            obtain ⟨e2, e3⟩ := Prod.mk.inj h2
            exact ⟨none, 0, 0, by rw [← e2]; rfl, by rw [← e1]; exact Ints.nil _, by rw [← e3]; exact P3H.out, HVH.out⟩
        · have hk0 : k = 0 := by omega
          have HE := HM.out
          rw [hk0, mixB] at HE
          have HE2 := Lib.hid HE
          clear HE hk0
          go_wp2_with fail
          go_ret2
          obtain ⟨e1, h2⟩ := Prod.mk.inj HE2.out
          obtain ⟨e2, e3⟩ := Prod.mk.inj h2
          exact ⟨_, _, _, by rw [← e2]; rfl, by rw [← e1]; exact HB.out.intsZ HL.out HC.out.1 HC.out.2.1, by rw [← e3]; exact HP.out, HV.out⟩
end Go.Proofs.YtjfipijdjbbogaaDoor
