/-
  The law ChainsPart of chapter 14.
-/
import Derived.Test.YtjfipijdjbbogaaDoorChLaw
import Derived.Test.YtjfipijdjbbogaaDoorSameInts
namespace Go.Proofs.YtjfipijdjbbogaaDoor
open Go.ChangeShapes Go.WideShapes Go.ChangeAt Go.RowKit
set_option linter.unusedVariables false
set_option linter.unusedSimpArgs false

namespace chPartLaw
set_option maxHeartbeats 2000000 in
set_option maxRecDepth 10000 in
theorem out (z : List UInt8) (hz : z.length = 32) (servers n k less : Int) (w : World) (hT : TabC w) (h : servers < 1 ∨ 40 < servers ∨ n < 1 ∨ 12 < n ∨ k < 1 ∨ 20 < k ∨ servers < k ∨ less < 1 ∨ k < less) :
    Calls Tryd.prog 5 #[.agg (z.map bv).toArray, .int .i64 servers, .int .i64 n, .int .i64 k, .int .i64 less] w fun e w' => e = .returned (.bool true) ∧ Below w.heap.size w w' := by
  have hb0 := (Below.refl w.heap.size w).alloc (Nat.le_refl _) (.cells (z.map bv).toArray 23)
  have K := Lib.hid (alive14 _ (hT.keep hb0))
  clear hT hz
  by_cases a1 : servers < 1
  · clear h
    go_enter Tryd.func5, Tryd.ntmps5
    go_wp2_with fail
    refine (K.out).mono ?_
    rintro e w2 ⟨rfl, hb⟩
    go_wp2_with fail
    go_ret
    exact ⟨rfl, hb0.trans (hb.mono hb0.size)⟩
  by_cases a2 : 40 < servers
  · clear h
    go_enter Tryd.func5, Tryd.ntmps5
    go_wp2_with fail
    refine (K.out).mono ?_
    rintro e w2 ⟨rfl, hb⟩
    go_wp2_with fail
    go_ret
    exact ⟨rfl, hb0.trans (hb.mono hb0.size)⟩
  by_cases a3 : n < 1
  · clear h
    go_enter Tryd.func5, Tryd.ntmps5
    go_wp2_with fail
    refine (K.out).mono ?_
    rintro e w2 ⟨rfl, hb⟩
    go_wp2_with fail
    go_ret
    exact ⟨rfl, hb0.trans (hb.mono hb0.size)⟩
  by_cases a4 : 12 < n
  · clear h
    go_enter Tryd.func5, Tryd.ntmps5
    go_wp2_with fail
    refine (K.out).mono ?_
    rintro e w2 ⟨rfl, hb⟩
    go_wp2_with fail
    go_ret
    exact ⟨rfl, hb0.trans (hb.mono hb0.size)⟩
  by_cases a5 : k < 1
  · clear h
    go_enter Tryd.func5, Tryd.ntmps5
    go_wp2_with fail
    refine (K.out).mono ?_
    rintro e w2 ⟨rfl, hb⟩
    go_wp2_with fail
    go_ret
    exact ⟨rfl, hb0.trans (hb.mono hb0.size)⟩
  by_cases a6 : 20 < k
  · clear h
    go_enter Tryd.func5, Tryd.ntmps5
    go_wp2_with fail
    refine (K.out).mono ?_
    rintro e w2 ⟨rfl, hb⟩
    go_wp2_with fail
    go_ret
    exact ⟨rfl, hb0.trans (hb.mono hb0.size)⟩
  by_cases a7 : servers < k
  · clear h
    go_enter Tryd.func5, Tryd.ntmps5
    go_wp2_with fail
    refine (K.out).mono ?_
    rintro e w2 ⟨rfl, hb⟩
    go_wp2_with fail
    go_ret
    exact ⟨rfl, hb0.trans (hb.mono hb0.size)⟩
  by_cases a8 : less < 1
  · clear h
    go_enter Tryd.func5, Tryd.ntmps5
    go_wp2_with fail
    refine (K.out).mono ?_
    rintro e w2 ⟨rfl, hb⟩
    go_wp2_with fail
    go_ret
    exact ⟨rfl, hb0.trans (hb.mono hb0.size)⟩
  have a9 : k < less := by omega
  clear h
  go_enter Tryd.func5, Tryd.ntmps5
  go_wp2_with fail
  refine (K.out).mono ?_
  rintro e w2 ⟨rfl, hb⟩
  go_wp2_with fail
  go_ret
  exact ⟨rfl, hb0.trans (hb.mono hb0.size)⟩
set_option maxHeartbeats 2000000 in
set_option maxRecDepth 10000 in
theorem inn (z : List UInt8) (hz : z.length = 32) (servers : Int) (n k less : Nat) (w : World) (hT : TabC w) (h1 : 1 ≤ servers ∧ servers ≤ 40) (h2 : 1 ≤ n ∧ n ≤ 12) (h3 : 1 ≤ k ∧ k ≤ 20 ∧ (k : Int) ≤ servers) (h4 : 1 ≤ less ∧ less ≤ k) :
    Calls Tryd.prog 5 #[.agg (z.map bv).toArray, .int .i64 servers, .int .i64 n, .int .i64 k, .int .i64 less] w fun e w' => e = .returned (.bool true) ∧ Below w.heap.size w w' := by
  have hb0 := (Below.refl w.heap.size w).alloc (Nat.le_refl _) (.cells (z.map bv).toArray 23)
  have K := Lib.hid (alive14 _ (hT.keep hb0))
  have a1 : ¬ servers < 1 := by omega
  have a2 : ¬ 40 < servers := by omega
  have a3 : ¬ (n : Int) < 1 := by omega
  have a4 : ¬ 12 < (n : Int) := by omega
  have a5 : ¬ (k : Int) < 1 := by omega
  have a6 : ¬ 20 < (k : Int) := by omega
  have a7 : ¬ servers < (k : Int) := by omega
  have a8 : ¬ (less : Int) < 1 := by omega
  have a9 : ¬ (k : Int) < (less : Int) := by omega
  have H0 := Has.new w 23 (z.map bv)
  have HZ := Lib.hid hz
  obtain ⟨⟨ls, ef⟩, hf⟩ : ∃ r : List (List Int) × Nat, formB z servers n k = r := ⟨_, rfl⟩
  have KA := Lib.hid (fun (u : World) (h : TabC u) => chForm z hz servers n k ls ef hf u h)
  have HT := Lib.hid (fun (u : World) (h : Below w.heap.size w u) => hT.keep h)
  have HB0 := Lib.hid hb0
  obtain ⟨f, hff⟩ : ∃ f, (fun i : Nat => (oneB z servers (i : Int) k).2) = f := ⟨_, rfl⟩
  by_cases he : errN f n = 0
  · have hform := formB_hit (seed := z) (servers := servers) (n := n) (k := k) (by omega) (by rw [hff, Int.toNat_natCast]; exact he)
    rw [hf, Int.toNat_natCast] at hform
    obtain ⟨e1, e2⟩ := Prod.mk.inj hform
    subst e2
    have hone : ∀ i : Nat, i < n → ∃ p : List Int, p.length = k ∧ ls.getD i [] = p ∧ oneB z servers (i : Int) less = (p.take less, 0) := fun i hi => by
      have h0 : (oneB z servers (i : Int) k).2 = 0 := by
        have := errN_all he i hi
        rw [← hff] at this
        exact this
      have hg := (oneB_good h0).2.1
      have hl := oneB_less (less := (less : Int)) h0 (by omega) (by omega)
      rw [Int.toNat_natCast] at hl hg
      exact ⟨_, hg, by rw [e1, rowC_at _ _ _ _ _ hi], hl⟩
    have KO := Lib.hid (fun (i : Nat) (hi : i < n) (p : List Int) (h : oneB z servers (i : Int) less = (p, 0)) (u : World) (hT : TabC u) => chOne z hz servers (i : Int) less (by omega) (by omega) p 0 h u hT)
    have HO := Lib.hid hone
    have KN := Lib.hid (fun u => num14 0 u (by omega))
    have H4 := Lib.hid (And.intro h4 h3)
    have hls : ls.length = n := by rw [e1, rowC_len]
    have HLS := Lib.hid hls
    clear hT hz hf hb0 hff he hform e1 hone h1 h3 h4 hls
    go_enter Tryd.func5, Tryd.ntmps5
    go_wp2_with fail
    refine (K.out).mono ?_
    rintro e w2 ⟨rfl, hb20⟩
    have HS2 := H0.keep hb20 (by simp)
    have hb2 := HB0.out.trans (hb20.mono HB0.out.size)
    clear hb20 H0
    go_wp2_with ((with_reducible refine wpList_load_key rfl (.tmp 5) rfl w.heap.size rfl z HZ.out HS2 ?_))
    refine (KA.out w2 (HT.out w2 hb2)).mono ?_
    rintro e w3 ⟨A, m, c, rfl, L3, hb30⟩
    obtain rfl : m = n := by rw [← L3.len]; exact HLS.out
    have HS3 := Lib.hid (HS2.keep hb30 HS2.lt)
    have HB3 := Lib.hid (hb2.trans (hb30.mono hb2.size))
    have HL3 := Lib.hid L3
    have hbr := Below.refl w3.heap.size w3
    clear HS2 hb2 hb30 L3
    go_wp2_with (go_at_call 10; with_reducible refine (KN.out _).mono ?_; rintro e w' ⟨rfl, rfl⟩)
    go_loopw [14] (fun v wr => ∃ i : Nat, i ≤ m ∧ v = .int .i64 i ∧ Hid (Below w3.heap.size w3 wr)) (fun v _ => m - (intOf v).toNat)
    case atStart => exact ⟨0, by omega, rfl, Lib.hid hbr⟩
    case round =>
      obtain ⟨i, hi, rfl, HW⟩ := hrel
      clear hbr
      by_cases hlt : i < m
      · have htj : (i : Int) < (m : Int) := by omega
        obtain ⟨p, hpl, hpi, hpo⟩ := HO.out i hlt
        obtain ⟨b, off, rfl, hbl, hcA⟩ := HL3.out.at_ (by omega)
        obtain ⟨B, bn, d, C0, R0⟩ := hcA i hlt
        rw [hpi] at R0
        obtain rfl : bn = k := by rw [← R0.len]; exact hpl
        have K1 := Lib.hid (KO.out i hlt _ hpo wr (HT.out wr (HB3.out.trans (HW.out.mono HB3.out.size))))
        have HSR := HS3.out.keep HW.out HS3.out.lt
        have HC0 := Lib.hid (And.intro hbl C0)
        have HR0 := Lib.hid R0
        obtain ⟨b', off', rfl, hbl', _⟩ := R0.at_ (by have := H4.out.1; omega)
        have hll : (p.take less).length = less := by rw [List.length_take]; have := H4.out.1; omega
        obtain ⟨t, ht⟩ : ∃ t, p.take less = t := ⟨_, rfl⟩
        rw [ht] at K1 hll
        have HTT := Lib.hid (And.intro ht hll)
        have hlc : (less : Int) ≤ (d : Int) := by have := R0.2.1; have := H4.out.1; omega
        have hkk : ((bn : Int) != (bn : Int)) = false := by simp
        clear hcA C0 R0 hpi hpo hpl ht hll hbl'
        go_wp2_with ((with_reducible refine wpList_load_key rfl (.tmp 5) rfl w.heap.size rfl z HZ.out HSR ?_))
        refine (K1.out).mono ?_
        rintro e w4 ⟨D, dc, rfl, L4, hb40⟩
        have hb4 := HW.out.trans (hb40.mono HW.out.size)
        have hc := (hb4.cell (p := ⟨b, off + i, none⟩) HC0.out.1).trans HC0.out.2
        have R4 := HR0.out.keep hb4
        have R5 := Row.head R4 less (by have := H4.out.1; omega)
        rw [← List.map_take, HTT.out.1] at R5
        have L5 : Ints w4 D t.length dc t := L4.1
        rw [HTT.out.2] at L5
        have KS := Lib.hid (refSame D _ less dc d t w4 L5 R5)
        have HB4 := Lib.hid hb4
        clear hb40 hb4 L4 L5 R4 R5 HSR
        rw [HTT.out.2]
        go_wp2_with (go_at_call 10; with_reducible refine (KN.out _).mono ?_; rintro e w' ⟨rfl, rfl⟩)
        refine (KS.out).mono ?_
        rintro e w5 ⟨rfl, hb5⟩
        have HB5 := Lib.hid (HB4.out.trans (hb5.mono HB4.out.size))
        clear hb5 hc
        go_wp2_with fail
        go_roundw
        case rel => exact ⟨i + 1, by omega, by go_num, HB5⟩
        case measure => simp [intOf]; omega
      · obtain rfl : i = m := by omega
        go_wp2_with fail
        go_ret
        exact ⟨rfl, HB3.out.trans (HW.out.mono HB3.out.size)⟩
  · have hf9 : ∀ i : Nat, f i = 0 ∨ f i = 9 := fun i => by
      rw [← hff]
      have hnb : ¬ badC servers (i : Int) k := by unfold badC; omega
      rcases oneB_in (seed := z) hnb with h | h
      · exact Or.inl h.1
      · exact Or.inr h.1
    have he9 : ∀ m, errN f m = 0 ∨ errN f m = 9 := fun m => by
      induction m with
      | zero => exact Or.inl rfl
      | succ m ih =>
        rw [errN]
        split
        · exact hf9 m
        · exact ih
    have h9 : errN f n = 9 := by
      rcases he9 n with h | h
      · exact absurd h he
      · exact h
    have hform := formB_miss (seed := z) (servers := servers) (n := n) (k := k) (by omega) (e := 9) (by rw [hff, Int.toNat_natCast]; exact h9) (by omega)
    rw [hf] at hform
    obtain ⟨e1, e2⟩ := Prod.mk.inj hform
    subst e2
    have KN := Lib.hid (fun u => num14 9 u (by omega))
    clear hT hz hf hb0 hff he hform e1 h1 h3 h4 hf9 he9 h9
    go_enter Tryd.func5, Tryd.ntmps5
    go_wp2_with fail
    refine (K.out).mono ?_
    rintro e w2 ⟨rfl, hb20⟩
    have HS2 := H0.keep hb20 (by simp)
    have hb2 := HB0.out.trans (hb20.mono HB0.out.size)
    clear hb20 H0
    go_wp2_with ((with_reducible refine wpList_load_key rfl (.tmp 5) rfl w.heap.size rfl z HZ.out HS2 ?_))
    refine (KA.out w2 (HT.out w2 hb2)).mono ?_
    rintro e w3 ⟨A, m, c, rfl, L3, hb30⟩
    have HB3 := Lib.hid (hb2.trans (hb30.mono hb2.size))
    clear HS2 hb2 hb30 L3
    go_wp2_with (go_at_call 10; with_reducible refine (KN.out _).mono ?_; rintro e w' ⟨rfl, rfl⟩)
    go_ret
    exact ⟨rfl, HB3.out⟩
theorem all (z : List UInt8) (hz : z.length = 32) (servers n k less : Int) (w : World) (hT : TabC w) :
    Calls Tryd.prog 5 #[.agg (z.map bv).toArray, .int .i64 servers, .int .i64 n, .int .i64 k, .int .i64 less] w fun e w' => e = .returned (.bool true) ∧ Below w.heap.size w w' := by
  by_cases h : servers < 1 ∨ 40 < servers ∨ n < 1 ∨ 12 < n ∨ k < 1 ∨ 20 < k ∨ servers < k ∨ less < 1 ∨ k < less
  · exact out z hz servers n k less w hT h
  · obtain ⟨n, rfl⟩ : ∃ m : Nat, n = (m : Int) := ⟨n.toNat, by omega⟩
    obtain ⟨k, rfl⟩ : ∃ m : Nat, k = (m : Int) := ⟨k.toNat, by omega⟩
    obtain ⟨less, rfl⟩ : ∃ m : Nat, less = (m : Int) := ⟨less.toNat, by omega⟩
    exact inn z hz servers n k less w hT (by omega) (by omega) (by omega) (by omega)
end chPartLaw
end Go.Proofs.YtjfipijdjbbogaaDoor
