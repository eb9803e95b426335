/-
  The law ChainsOne of chapter 14.
-/
import Derived.Test.YtjfipijdjbbogaaDoorChLaw
import Derived.Test.YtjfipijdjbbogaaDoorRefOne
import Derived.Test.YtjfipijdjbbogaaDoorSameInts
namespace Go.Proofs.YtjfipijdjbbogaaDoor
open Go.ChangeShapes Go.WideShapes Go.ChangeAt Go.RowKit
set_option linter.unusedVariables false
set_option linter.unusedSimpArgs false

namespace chOneLaw
set_option maxHeartbeats 2000000 in
set_option maxRecDepth 10000 in
theorem all (z : List UInt8) (hz : z.length = 32) (servers chain k : Int) (h0 : -9223372036854775808 ≤ chain) (h1 : chain ≤ 9223372036854775807) (w : World) (hT : TabC w) :
    Calls Tryd.prog 4 #[.agg (z.map bv).toArray, .int .i64 servers, .int .i64 chain, .int .i64 k] w fun e w' => e = .returned (.bool true) ∧ Below w.heap.size w w' := by
  have hb0 := (Below.refl w.heap.size w).alloc (Nat.le_refl _) (.cells (z.map bv).toArray 23)
  have K := Lib.hid (alive14 _ (hT.keep hb0))
  by_cases hm : 60 < servers ∧ servers ≤ 1000
  · have f0 : 60 < servers := hm.1
    have f1 : servers ≤ 1000 := hm.2
    clear hm hT
    go_enter Tryd.func4, Tryd.ntmps4
    go_wp2_with fail
    refine (K.out).mono ?_
    rintro e w2 ⟨rfl, hb⟩
    go_wp2_with fail
    go_ret
    exact ⟨rfl, hb0.trans (hb.mono hb0.size)⟩
  have hq1 : (¬ 60 < servers ∧ ¬ 60 < servers) ∨ (60 < servers ∧ ¬ servers ≤ 1000) := by omega
  have H0 := Has.new w 23 (z.map bv)
  have HZ := Lib.hid hz
  obtain ⟨⟨p, ef⟩, hf⟩ : ∃ r : List Int × Nat, oneB z servers chain k = r := ⟨_, rfl⟩
  have hef : ef < 10 := by
    have := oneB_err (seed := z) (servers := servers) (chain := chain) (k := k)
    rw [hf] at this
    exact this
  have hgood : ((∀ x ∈ p, 0 ≤ x ∧ x < servers) ∧ p.Nodup) ∧ (ef = 0 → (p.length : Int) = k) := by
    by_cases he : ef = 0
    · have h := oneB_good (seed := z) (servers := servers) (chain := chain) (k := k) (by rw [hf]; exact he)
      rw [hf] at h
      obtain ⟨g1, g2, g3⟩ := h
      have g2 : p.length = k.toNat := g2
      have g3 : goodL p servers.toNat := g3
      unfold badC at g1
      exact ⟨⟨fun x hx => by have := g3.1 x hx; omega, g3.2⟩, fun _ => by omega⟩
    · have h := oneB_none (seed := z) (servers := servers) (chain := chain) (k := k) (by rw [hf]; exact he)
      rw [hf] at h
      have h : p = [] := h
      rw [h]
      exact ⟨⟨fun x hx => absurd hx (by simp), List.nodup_nil⟩, fun h => absurd h he⟩
  have hpn : p.length ≤ 1048576 := by
    by_cases he : ef = 0
    · have h := oneB_good (seed := z) (servers := servers) (chain := chain) (k := k) (by rw [hf]; exact he)
      rw [hf] at h
      have g2 : p.length = k.toNat := h.2.1
      have g1 := h.1
      unfold badC at g1
      omega
    · have h := oneB_none (seed := z) (servers := servers) (chain := chain) (k := k) (by rw [hf]; exact he)
      rw [hf] at h
      have h : p = [] := h
      rw [h]
      simp
  have KA := Lib.hid (fun (u : World) (h : TabC u) => chOne z hz servers chain k h0 h1 p ef hf u h)
  have KB := Lib.hid (fun (u : World) => refOne z hz servers chain k h0 h1 p ef hf u)
  have KN := Lib.hid (fun u => num14 (ef : Int) u (by omega))
  have HT := Lib.hid (fun (u : World) (h : Below w.heap.size w u) => hT.keep h)
  have hee : ((ef : Int) != (ef : Int)) = false := by simp
  have HB0 := Lib.hid hb0
  have HG := Lib.hid hgood
  obtain ⟨m, hm'⟩ : ∃ m, p.length = m := ⟨_, rfl⟩
  rw [hm'] at hpn
  have HM := Lib.hid hm'
  clear hm hT hz hf hef hb0 hgood h0 h1 hm'
  rcases hq1 with ⟨f0, f1⟩ | ⟨f0, f1⟩
  all_goals
    go_enter Tryd.func4, Tryd.ntmps4
    go_wp2_with fail
    refine (K.out).mono ?_
    rintro e w2 ⟨rfl, hb20⟩
    have HS2 := H0.keep hb20 (by simp)
    have hb2 := HB0.out.trans (hb20.mono HB0.out.size)
    clear hb20
    go_wp2_with ((with_reducible refine wpList_load_key rfl (.tmp 4) rfl w.heap.size rfl z HZ.out HS2 ?_))
    refine (KA.out w2 (HT.out w2 hb2)).mono ?_
    rintro e w3 ⟨A, c, rfl, L3, hb30⟩
    have HS3 := HS2.keep hb30 HS2.lt
    have hb3 := hb2.trans (hb30.mono hb2.size)
    clear HS2 hb2 hb30
    rw [HM.out] at L3
    rw [HM.out]
    go_wp2_with ((with_reducible refine wpList_load_key rfl (.tmp 4) rfl w.heap.size rfl z HZ.out HS3 ?_))
    refine (KB.out w3).mono ?_
    rintro e w4 ⟨v, rfl, ho, hb40⟩
    obtain ⟨B, d, rfl, R4⟩ := Row.own ho
    rw [HM.out] at R4 ⊢
    have L4 : Ints w4 A m c p := (L3.keep hb40).1
    have hb4 := hb3.trans (hb40.mono hb3.size)
    have KS := Lib.hid (refSame A B m c d p w4 L4 R4)
    have HB4 := Lib.hid hb4
    have HL4 := Lib.hid L4
    clear HS3 hb3 hb40 L3 L4 R4 hb4 ho
    go_wp2_with fail
    refine (KS.out).mono ?_
    rintro e w5 ⟨rfl, hb5⟩
    have HE := Lib.hid (HB4.out.trans (hb5.mono HB4.out.size))
    have HL5 := Lib.hid (HL4.out.keep hb5)
    have hbr := Below.refl w5.heap.size w5
    clear hb5
    go_wp2_with (go_at_call 10; with_reducible refine (KN.out _).mono ?_; rintro e w' ⟨rfl, rfl⟩)
    go_loopw [14] (fun v wr => ∃ i : Nat, i ≤ m ∧ v = .int .i64 i ∧ Hid (Below w5.heap.size w5 wr)) (fun v _ => m - (intOf v).toNat)
    case atStart => exact ⟨0, by omega, rfl, Lib.hid hbr⟩
    case round =>
      obtain ⟨i, hi, rfl, HW⟩ := hrel
      clear hbr
      by_cases hlt : i < m
      · have htj : (i : Int) < (m : Int) := by omega
        obtain ⟨b, off, rfl, hbl, hcA⟩ := HL5.out.at_ (by omega)
        obtain ⟨x, hx⟩ : ∃ x, p.getD i 0 = x := ⟨_, rfl⟩
        have HC0 := hcA i hlt
        have hp := HG.out.1.1 _ (getD_mem p i (by rw [HM.out]; exact hlt))
        rw [hx] at HC0 hp
        have hc := (HW.out.cell (p := ⟨b, off + i, none⟩) hbl).trans HC0
        have hx0 : ¬ x < 0 := by omega
        have hxs : ¬ servers ≤ x := by omega
        have HX := Lib.hid hx
        have HCA := Lib.hid hcA
        have HC1 := Lib.hid HC0
        clear hcA hx hp HC0
        go_wp2_with fail
        obtain ⟨wo, hwo⟩ : ∃ y : World, y = wr := ⟨_, rfl⟩
        subst hwo
        go_loopw [15] (fun v wr => ∃ k : Nat, k ≤ i ∧ v = .int .i64 k ∧ Hid (Below w5.heap.size w5 wr)) (fun v _ => i - (intOf v).toNat)
        case atStart => exact ⟨0, by omega, rfl, HW⟩
        case round =>
          obtain ⟨k', hk, rfl, HV⟩ := hrel
          clear hc
          by_cases hkl : k' < i
          · have hkj : (k' : Int) < (i : Int) := by omega
            have hkn : (k' : Int) < (m : Int) := by omega
            obtain ⟨y, hy⟩ : ∃ y, p.getD k' 0 = y := ⟨_, rfl⟩
            have HC2 := HCA.out k' (by omega)
            rw [hy] at HC2
            have ck := (HV.out.cell (p := ⟨b, off + k', none⟩) hbl).trans HC2
            have ci := (HV.out.cell (p := ⟨b, off + i, none⟩) hbl).trans HC1.out
            have he : (y == x) = false := by
              simp
              intro e
              have := getD_inj HG.out.1.2 (i := k') (j := i) (by rw [HM.out]; omega) (by rw [HM.out]; omega) (by rw [hy, HX.out, e])
              omega
            clear HC2 hy
            go_wp2_with fail
            go_region
            go_wp2_with fail
            go_roundw
            case rel => exact ⟨k' + 1, by omega, by go_num, Lib.hid HV.out.drew⟩
            case measure => simp [intOf]; omega
          · obtain rfl : k' = i := by omega
            go_wp2_with fail
            go_roundw
            case rel => exact ⟨k' + 1, by omega, by go_num, HV⟩
            case measure => simp [intOf]; omega
      · obtain rfl : i = m := by omega
        have HEE := Lib.hid (HE.out.trans (HW.out.mono HE.out.size))
        by_cases he : ef = 0
        · have hk : (i : Int) = k := by rw [← HM.out]; exact HG.out.2 he
          subst he
          have hkk : (k == k) = true := by simp
          rw [hk]
          go_wp2_with fail
          go_ret
          exact ⟨rfl, HEE.out⟩
        · have hef : ((ef : Int) == 0) = false := by simp; exact he
          go_wp2_with fail
          go_ret
          exact ⟨rfl, HEE.out⟩
end chOneLaw
end Go.Proofs.YtjfipijdjbbogaaDoor
