/-
  Contract of the package's Of (shuffled, handed the stream's Next as a method value).
-/
import Derived.Test.YtjfipijdjbbogaaDoorOrdSpec
import Derived.Test.YtjfipijdjbbogaaDoorInts
import Derived.Test.YtjfipijdjbbogaaDoorProgNext
namespace Go.Proofs.YtjfipijdjbbogaaDoor
open Go.ChangeShapes Go.WideShapes Go.ChangeAt Go.RowKit
set_option linter.unusedVariables false
set_option linter.unusedSimpArgs false

theorem Tab.block {w : World} (h : Tab w) : 3 < w.heap.size := World.block_lt_of_cell? w _ (h 0 (by omega))
theorem fn_next : ∀ args w, (callFunc 26 args).run Tryd.prog w = .ok (.enter 26 args) w := enters_of Tryd.func26 (by kernel_rfl) rfl
/-- The numbers laid so far, and what the new block still holds. -/
def layI (n i : Nat) : List Int := firstL i ++ List.replicate (n - i) 0
theorem layI_len {n i : Nat} (h : i ≤ n) : (layI n i).length = n := by simp [layI, firstL_len]; omega
theorem layI_set {n i : Nat} (h : i < n) : (layI n i).set i (i : Int) = layI n (i + 1) := by
  rw [layI, layI, List.set_append_right _ _ (by rw [firstL_len]; omega), firstL_len, Nat.sub_self, show n - i = (n - (i + 1)) + 1 by omega, List.replicate_succ, List.set_cons_zero, firstL_snoc, List.append_assoc]
  rfl
theorem layI_all (n : Nat) : layI n n = firstL n := by rw [layI, Nat.sub_self, List.replicate_zero, List.append_nil]
theorem swap_cells {p : List Int} {i j : Nat} : ((p.map iv).set i (.int .i64 (p.getD j 0))).set j (.int .i64 (p.getD i 0)) = (swapL p i j).map iv := by
  rw [swapL, List.map_set, List.map_set]
  rfl
theorem cell_ints {w : World} {g t : Nat} {p : List Int} (h : Has w g t (p.map iv)) {i : Nat} (hi : i < p.length) : w.cell? ⟨g, i, none⟩ = some (.int .i64 (p.getD i 0)) := by
  rw [h.cell, List.getElem?_map, List.getD_eq_getElem?_getD, List.getElem?_eq_getElem hi]
  rfl
set_option maxHeartbeats 1000000 in
theorem permShuffled (g : Nat) (seed name : List UInt8) (n : Int) (j : Nat) (pf : List Int) (ef jf : Nat) (h : orderB seed name n j = (pf, ef, jf)) (hj : j ≤ 1000000) (hs : seed.length = 32) (hn : name.length ≤ 1099511627776) (w : World) (H : StrmP w g seed name j) (hT : Tab w) :
    Calls Tryd.prog 25 #[.int .i64 n, .func (.func 26) #[.pointer (some ⟨g, 0, none⟩)] #[]] w fun e w' => ∃ A m c, e = .returned (.tuple #[.slice A m c, .int .i64 (ef : Int)]) ∧ Ints w' A m c pf ∧ StrmP w' g seed name jf ∧ Save g w w' := by
  by_cases hlo : n < 0
  · rw [orderB_out (Or.inl hlo)] at h
    cases h
    have HH := Lib.hid H
    clear H hT hs hn hj
    go_enter Tryd.func25, Tryd.ntmps25
    go_wp2_with fail
    go_ret2
    exact ⟨none, 0, 0, rfl, Ints.nil _, HH.out, Save.refl _ _⟩
  by_cases hhi : 1000 < n
  · rw [orderB_out (Or.inr hhi)] at h
    cases h
    have HH := Lib.hid H
    clear H hT hs hn hj
    go_enter Tryd.func25, Tryd.ntmps25
    go_wp2_with fail
    go_ret2
    exact ⟨none, 0, 0, rfl, Ints.nil _, HH.out, Save.refl _ _⟩
  obtain ⟨n, rfl⟩ : ∃ m : Nat, n = (m : Int) := ⟨n.toNat, by omega⟩
  have hn1 : n ≤ 1000 := by omega
  rw [orderB, if_neg (by omega), Int.toNat_natCast] at h
  have hmk := run_makeI n (by omega) w
  obtain ⟨Z, hZ⟩ : ∃ Z : List Int, List.replicate n 0 = Z := ⟨_, rfl⟩
  rw [hZ] at hmk
  have H0 := Has.new w 3 (Z.map iv)
  have hb0 := (Below.refl w.heap.size w).alloc (Nat.le_refl _) (.cells (Z.map iv).toArray 3)
  have HZ := Lib.hid (show layI n 0 = Z by rw [← hZ]; rfl)
  have HD := Lib.hid h
  have HS := Lib.hid (And.intro hs hn)
  have HJ := Lib.hid hj
  have HG := Lib.hid H.lt
  have HH := Lib.hid (H.keep hb0)
  have HTB := Lib.hid (hT.keep hb0)
  have HTL := Lib.hid hT.block
  have HV0 := Lib.hid (Save.of_below (g := g) hb0)
  have eg := fn_next
  clear h H hT hs hn hj hb0 hZ
  go_enter Tryd.func25, Tryd.ntmps25
  go_wp2_with fail
  go_loopw [21] (fun v wr => ∃ i : Nat, i ≤ n ∧ v = .int .i64 i ∧ Hid (Has wr w.heap.size 3 ((layI n i).map iv)) ∧ Hid (StrmP wr g seed name j) ∧ Hid (Tab wr) ∧ Hid (Save g w wr)) (fun v _ => n - (intOf v).toNat)
  case atStart => exact ⟨0, by omega, rfl, Lib.hid (by rw [HZ.out]; exact H0), HH, HTB, HV0⟩
  case round =>
    obtain ⟨i, hi, rfl, HB, HP, HT, HV⟩ := hrel
    clear H0 hmk HH HTB HV0
    by_cases hlt : i < n
    · have htj : (i : Int) < (n : Int) := by omega
      have hc := cell_ints HB.out (i := i) (by rw [layI_len hi]; exact hlt)
      have hf := HB.out.froz i
      have HB2 := HB.out.set i (.int .i64 (i : Int))
      rw [show ((layI n i).map iv).set i (.int .i64 (i : Int)) = ((layI n i).set i (i : Int)).map iv by rw [List.map_set]; rfl, layI_set hlt] at HB2
      have O := (Only.setCell wr w.heap.size i (.int .i64 (i : Int)))
      have HB3 := Lib.hid HB2
      have HP3 := Lib.hid (HP.out.save (k := w.heap.size) O.save (by have := HG.out; omega) (fun b hb => hb.ne HB.out (by decide)))
      have HT3 := Lib.hid (HT.out.save O.save (by have := HTL.out; omega))
      have HV3 := Lib.hid (HV.out.new O (Nat.le_refl _))
      clear HB2 HB HP HT HV O
      go_wp2_with fail
      go_roundw
      case rel => exact ⟨i + 1, by omega, by go_num, HB3, HP3, HT3, HV3⟩
      case measure => simp [intOf]; omega
    · obtain rfl : i = n := by omega
      rw [layI_all i] at HB
      have HA := Lib.hid (Ord.first i)
      generalize firstL i = p0 at *
      go_wp2_with fail
      go_loopw [8] (fun v wr => ∃ (k : Nat) (q : Int) (p : List Int) (j0 : Nat), v = .int .i64 q ∧ q ≤ 1000 ∧ Hid (q = (k : Int) ∨ k = 0 ∧ q = -1) ∧ Hid (k < i + 1 ∧ q < i) ∧ Hid (mixB seed name k p j0 = (pf, ef, jf)) ∧ Hid (j0 + 64 * k ≤ 2000000) ∧ Hid (p.length = i) ∧ Hid (Has wr w.heap.size 3 (p.map iv)) ∧ Hid (StrmP wr g seed name j0) ∧ Hid (Tab wr) ∧ Hid (Save g w wr)) (fun v _ => (intOf v).toNat)
      case atStart => exact ⟨i - 1, (i : Int) - 1, p0, j, by go_num, by omega, Lib.hid (by omega), Lib.hid (by omega), HD, Lib.hid (by have := HJ.out; omega), Lib.hid HA.out.1, HB, HP, HT, HV⟩
      case round =>
        clear HB HP HT HV
        obtain ⟨k, q, p, j0, rfl, hq, HQ, HK, HM, HJ0, HL, HB, HP, HT, HV⟩ := hrel
        by_cases hge : 1 ≤ q
        · obtain rfl : q = (k : Int) := by have := HQ.out; omega
          obtain ⟨k0, hk0⟩ : ∃ k0, k = k0 + 1 := ⟨k - 1, by omega⟩
          have hk1 : k ≤ 1000 := by omega
          obtain ⟨⟨x, e, j1⟩, hx⟩ : ∃ r : Nat × Nat × Nat, nextB seed name (k + 1) j0 = r := ⟨_, rfl⟩
          have KX := progNext' g seed name (k + 1) j0 x e j1 hx (by omega) (by have := HJ0.out; omega) HS.out.1 HS.out.2 wr HP.out HT.out
          rw [show ((k + 1 : Nat) : Int) = (k : Int) + 1 by omega] at KX
          have KXH := Lib.hid KX
          have hu : IntKind.u64.wrap ((k : Int) + 1) = (k : Int) + 1 := by rw [IntKind.wrap_u64]; omega
          have OF := Lib.hid (strm_off HS.out.1 HT.out HP.out)
          have HMM := HM.out
          rw [hk0] at hx HMM
          have HXX := Lib.hid hx
          clear KX HM
          by_cases he : e = 0
          · subst he
            rw [mixB_hit (e := 0) hx] at HMM
            have hxl := nextB_lt (seed := seed) (name := name) (n := k0 + 2) (i := j0)
            rw [show k0 + 1 + 1 = k0 + 2 from rfl] at hx
            rw [hx] at hxl
            have hxk : x < k + 1 := by have : x < k0 + 2 := hxl rfl; omega
            have hj1 := (nextB_at (seed := seed) (name := name) (n := k0 + 2) (i := j0)).2
            rw [hx] at hj1
            have HJ1 := Lib.hid (show j1 + 64 * k0 ≤ 2000000 by have : j1 ≤ j0 + 64 := hj1; have := HJ0.out; omega)
            rw [← hk0] at HMM
            have HM1 := Lib.hid HMM
            have hki : (k : Int) < (i : Int) := by have := HK.out; omega
            have hxi : (x : Int) < (i : Int) := by omega
            have HXK := Lib.hid hk0
            clear hx hxl hj1 HMM hk0 HXX
            go_wp2_with fail
            refine (KXH.out).mono ?_
            rintro e w3 ⟨rfl, P3, S3⟩
            have HB3 := HB.out.save S3 (by have := HG.out; omega)
            have ca := cell_ints HB3 (i := k) (by rw [HL.out]; omega)
            have cb := cell_ints HB3 (i := x) (by rw [HL.out]; omega)
            have fa := HB3.froz k
            obtain ⟨a, ha⟩ : ∃ a, p.getD k 0 = a := ⟨_, rfl⟩
            obtain ⟨b, hb⟩ : ∃ b, p.getD x 0 = b := ⟨_, rfl⟩
            have HBM := HB3.set k (.int .i64 b)
            have cb2 : (w3.setCell ⟨w.heap.size, k, none⟩ (.int .i64 b)).cell? ⟨w.heap.size, x, none⟩ = some (.int .i64 b) := by
              rw [HBM.cell, List.getElem?_set, List.length_map]
              by_cases hkx : k = x
              · rw [if_pos hkx, if_pos (by rw [HL.out]; omega)]
              · rw [if_neg hkx, ← HB3.cell, cb, hb]
            have fb2 := HBM.froz x
            have HB4 := HBM.set x (.int .i64 a)
            rw [← ha, ← hb, swap_cells] at HB4
            rw [ha, hb] at HB4
            rw [ha] at ca
            rw [hb] at cb
            clear ha hb HBM
            have O := (Only.setCell w3 w.heap.size k (.int .i64 b)).trans (Only.setCell (w3.setCell ⟨w.heap.size, k, none⟩ (.int .i64 b)) w.heap.size x (.int .i64 a))
            have HBH := Lib.hid HB4
            have P3H := Lib.hid (P3.save (k := w.heap.size) O.save (by have := HG.out; omega) (fun b hb => hb.ne HB3 (by decide)))
            have HTH := Lib.hid ((HT.out.save S3 OF.out).save O.save (by have := HTL.out; omega))
            have HVH := Lib.hid ((HV.out.trans S3).new O (Nat.le_refl _))
            clear HB4 O P3 S3 HB3 HB HP HT HV
            go_wp2_with fail
            go_region
            go_wp2_with fail
            go_roundw
            case rel => exact ⟨k0, (k : Int) - 1, swapL p k x, j1, by go_num, by omega, Lib.hid (by have := HXK.out; omega), Lib.hid (by have := HXK.out; have := HK.out; omega), HM1, HJ1, Lib.hid (by rw [swapL_len]; exact HL.out), HBH, P3H, HTH, Lib.hid HVH.out.drew⟩
            case measure => simp [intOf]; omega
          · rw [mixB_miss hx he] at HMM
            have HE := Lib.hid HMM
            have hef : ((e : Int) == 0) = false := by simp; exact he
            have he0 : ¬ e = 0 := he
            clear HMM hx HXX he hk0
            go_wp2_with fail
            refine (KXH.out).mono ?_
            rintro e' w3 ⟨rfl, P3, S3⟩
            have HVH := Lib.hid (HV.out.trans S3)
            have P3H := Lib.hid P3
            clear S3 P3
            go_wp2_with fail
            go_ret2
            have h1 := HE.out
            obtain ⟨e1, h2⟩ := Prod.mk.inj h1
            obtain ⟨e2, e3⟩ := Prod.mk.inj h2
            exact ⟨none, 0, 0, by rw [← e2]; rfl, by rw [← e1]; exact Ints.nil _, by rw [← e3]; exact P3H.out, HVH.out⟩
        · have hk0 : k = 0 := by have := HQ.out; omega
          have HE := HM.out
          rw [hk0, mixB] at HE
          have HE2 := Lib.hid HE
          clear HE hk0
          go_wp2_with fail
          go_ret2
          obtain ⟨e1, h2⟩ := Prod.mk.inj HE2.out
          obtain ⟨e2, e3⟩ := Prod.mk.inj h2
          exact ⟨_, _, _, by rw [← e2]; rfl, by rw [← e1]; exact HB.out.ints HL.out (by omega), by rw [← e3]; exact HP.out, HV.out⟩
theorem permOf (g : Nat) (seed name : List UInt8) (n : Int) (j : Nat) (pf : List Int) (ef jf : Nat) (h : orderB seed name n j = (pf, ef, jf)) (hj : j ≤ 1000000) (hs : seed.length = 32) (hn : name.length ≤ 1099511627776) (w : World) (H : StrmP w g seed name j) (hT : Tab w) :
    Calls Tryd.prog 20 #[.int .i64 n, .pointer (some ⟨g, 0, none⟩)] w fun e w' => ∃ A m c, e = .returned (.tuple #[.slice A m c, .int .i64 (ef : Int)]) ∧ Ints w' A m c pf ∧ StrmP w' g seed name jf ∧ Save g w w' := by
  have K := Lib.hid (permShuffled g seed name n j pf ef jf h hj hs hn w H hT)
  have hmf : ∀ (fn : Fn) (first cap : Array Value) (w : World), (Instr.makeFunc fn first cap).run Tryd.prog w = .ok (.func fn first cap) w := fun _ _ _ _ => rfl
  clear h hj hs hn H hT
  go_enter Tryd.func20, Tryd.ntmps20
  go_wp2_with fail
  refine (K.out).mono ?_
  rintro e w2 ⟨A, m, c, rfl, H2, P2, S2⟩
  go_wp2_with fail
  go_ret2
  exact ⟨A, m, c, rfl, H2, P2, S2⟩
end Go.Proofs.YtjfipijdjbbogaaDoor
