/-
  Contracts of the reference's RightOrder, Inverse, SameInts.
-/
import Derived.Test.YthghpbbiedemdaaDoorOrdSpec
import Derived.Test.YthghpbbiedemdaaDoorInts
namespace Go.Proofs.YthghpbbiedemdaaDoor
open Go.ChangeShapes Go.WideShapes Go.ChangeAt Go.RowKit
set_option linter.unusedVariables false
set_option linter.unusedSimpArgs false

set_option maxHeartbeats 1000000 in
theorem refRight (A : Option Addr) (n c : Nat) (ls : List Int) (w : World) (h : Ints w A n c ls) :
    Calls Tryd.prog 18 #[.slice A n c] w fun e w' => e = .returned (.bool (rightB ls)) ∧ Below w.heap.size w w' := by
  have hn := h.le
  have HH := Lib.hid h
  have HL := Lib.hid h.len
  have hb0 := Below.refl w.heap.size w
  clear h
  go_enter Tryd.func18, Tryd.ntmps18
  go_wp2_with fail
  go_loopw [3] (fun v wr => ∃ i : Nat, i ≤ n ∧ v = .int .i64 i ∧ Hid (goodL (ls.take i) n) ∧ Hid (Below w.heap.size w wr)) (fun v _ => n - (intOf v).toNat)
  case atStart => exact ⟨0, by omega, rfl, Lib.hid (by rw [List.take_zero]; exact goodL_nil n), Lib.hid hb0⟩
  case round =>
    obtain ⟨i, hi, rfl, HG, HW⟩ := hrel
    clear hb0
    by_cases hlt : i < n
    · have htj : (i : Int) < (n : Int) := by omega
      obtain ⟨b, off, rfl, hbl, hcA⟩ := HH.out.at_ (by omega)
      obtain ⟨x, hx⟩ : ∃ x, ls.getD i 0 = x := ⟨_, rfl⟩
      have HC0 := hcA i hlt
      rw [hx] at HC0
      have hc := (HW.out.cell (p := ⟨b, off + i, none⟩) hbl).trans HC0
      have HX := Lib.hid hx
      have HCA := Lib.hid hcA
      clear hcA hx
      by_cases h0 : x < 0
      · go_wp2_with fail
        go_ret
        exact ⟨ret_bool (rightB_low (i := i) (by rw [HL.out]; exact hlt) (by rw [HX.out]; exact h0)).symm, HW.out⟩
      by_cases h1 : (n : Int) ≤ x
      · go_wp2_with fail
        go_ret
        exact ⟨ret_bool (rightB_high (i := i) (by rw [HL.out]; exact hlt) (by rw [HX.out, HL.out]; omega)).symm, HW.out⟩
      have HN := Lib.hid (And.intro h0 h1)
      have HC1 := Lib.hid HC0
      clear HC0
      go_wp2_with fail
      obtain ⟨wo, hwo⟩ : ∃ y : World, y = wr := ⟨_, rfl⟩
      subst hwo
      go_loopw [4] (fun v wr => ∃ k : Nat, k ≤ i ∧ v = .int .i64 k ∧ Hid (x ∉ ls.take k) ∧ Hid (Below w.heap.size w wr)) (fun v _ => i - (intOf v).toNat)
      case atStart => exact ⟨0, by omega, rfl, Lib.hid (by simp), HW⟩
      case round =>
        obtain ⟨k, hk, rfl, HK, HV⟩ := hrel
        clear hc
        by_cases hkl : k < i
        · have hkj : (k : Int) < (i : Int) := by omega
          have hkn : (k : Int) < (n : Int) := by omega
          obtain ⟨y, hy⟩ : ∃ y, ls.getD k 0 = y := ⟨_, rfl⟩
          have HC2 := HCA.out k (by omega)
          rw [hy] at HC2
          have ck := (HV.out.cell (p := ⟨b, off + k, none⟩) hbl).trans HC2
          have ci := (HV.out.cell (p := ⟨b, off + i, none⟩) hbl).trans HC1.out
          have ht := take_snoc ls k (by rw [HL.out]; omega)
          rw [hy] at ht
          have HT := Lib.hid ht
          clear HC2 hy ht
          by_cases hxy : y = x
          · have he : (y == x) = true := by simp; exact hxy
            have HE := Lib.hid (show x ∈ ls.take i from by
              have h2 : x ∈ ls.take (k + 1) := by rw [HT.out, hxy]; simp
              exact List.IsPrefix.subset (List.take_prefix_take_left (by omega)) h2)
            clear hxy
            go_wp2_with fail
            go_region
            go_wp2_with fail
            go_ret
            exact ⟨ret_bool (rightB_twice (i := i) (by rw [HL.out]; exact hlt) (by rw [HX.out]; exact HE.out)).symm, HV.out.drew⟩
          · have he : (y == x) = false := by simp; exact hxy
            have HE := Lib.hid (show x ∉ ls.take (k + 1) from by
              rw [HT.out]
              simp
              exact ⟨HK.out, fun e => hxy e.symm⟩)
            clear hxy
            go_wp2_with fail
            go_region
            go_wp2_with fail
            go_roundw
            case rel => exact ⟨k + 1, by omega, by go_num, HE, Lib.hid HV.out.drew⟩
            case measure => simp [intOf]; omega
        · obtain rfl : k = i := by omega
          have ht := take_snoc ls k (by rw [HL.out]; omega)
          rw [HX.out] at ht
          have HG2 := Lib.hid (show goodL (ls.take (k + 1)) n by rw [ht]; exact goodL_snoc HG.out (by have := HN.out; omega) (by have := HN.out; omega) HK.out)
          clear ht
          go_wp2_with fail
          go_roundw
          case rel => exact ⟨k + 1, by omega, by go_num, HG2, HV⟩
          case measure => simp [intOf]; omega
    · obtain rfl : i = n := by omega
      go_wp2_with fail
      go_ret
      exact ⟨ret_bool (rightB_all HL.out HG.out).symm, HW.out⟩
set_option maxHeartbeats 1000000 in
theorem refInverse (A : Option Addr) (n c : Nat) (ls : List Int) (w : World) (h : Ints w A n c ls) (hn : n ≤ 1048576) :
    Calls Tryd.prog 17 #[.slice A n c] w fun e w' => ∃ B m d, e = .returned (.tuple #[.slice B m d, .bool (rightB ls)]) ∧ Ints w' B m d (backL ls) ∧ Below w.heap.size w w' := by
  have K := Lib.hid (refRight A n c ls w h)
  have HH := Lib.hid h
  have HL := Lib.hid h.len
  have HN := Lib.hid hn
  cases hr : rightB ls with
  | false =>
    rw [hr] at K
    have HE := Lib.hid (show backL ls = [] by rw [backL, hr]; rfl)
    clear h hn hr
    go_enter Tryd.func17, Tryd.ntmps17
    go_wp2_with fail
    refine (K.out).mono ?_
    rintro e w2 ⟨rfl, hb⟩
    go_wp2_with fail
    go_ret2
    exact ⟨none, 0, 0, rfl, by rw [HE.out]; exact Ints.nil _, hb⟩
  | true =>
    rw [hr] at K
    have hg := goodL_of_right hr
    rw [h.len] at hg
    have HG := Lib.hid hg
    have HE := Lib.hid (show backL ls = invK ls n n by rw [backL, if_pos hr, invL, h.len])
    clear h hr hg
    go_enter Tryd.func17, Tryd.ntmps17
    go_wp2_with fail
    refine (K.out).mono ?_
    rintro e w2 ⟨rfl, hb2⟩
    have hmk := run_makeI n HN.out w2
    obtain ⟨Z, hZ⟩ : ∃ Z : List Int, List.replicate n 0 = Z := ⟨_, rfl⟩
    rw [hZ] at hmk
    have H0 := Has.new w2 3 (Z.map iv)
    have hb0 := hb2.trans (((Below.refl w2.heap.size w2).alloc (Nat.le_refl _) (.cells (Z.map iv).toArray 3)).mono hb2.size)
    have HZ := Lib.hid (show Z = invK ls n 0 by rw [← hZ]; rfl)
    clear hZ
    have hs2 := hb2.size
    go_wp2_with fail
    go_loopw [5] (fun v wr => ∃ i : Nat, i ≤ n ∧ v = .int .i64 i ∧ Hid (Has wr w2.heap.size 3 ((invK ls n i).map iv)) ∧ Hid (Below w.heap.size w wr)) (fun v _ => n - (intOf v).toNat)
    case atStart => exact ⟨0, by omega, rfl, Lib.hid (by rw [← HZ.out]; exact H0), Lib.hid hb0⟩
    case round =>
      obtain ⟨i, hi, rfl, HB, HW⟩ := hrel
      clear H0 hb0 hmk hb2 K
      by_cases hlt : i < n
      · have htj : (i : Int) < (n : Int) := by omega
        obtain ⟨b, off, rfl, hbl, hcA⟩ := HH.out.at_ (by omega)
        obtain ⟨x, hx⟩ : ∃ x, ls.getD i 0 = x := ⟨_, rfl⟩
        have HC0 := hcA i hlt
        have hp := HG.out.1 _ (getD_mem ls i (by rw [HL.out]; exact hlt))
        rw [hx] at HC0 hp
        obtain ⟨m, rfl⟩ : ∃ m : Nat, x = (m : Int) := ⟨x.toNat, by omega⟩
        have hc := (HW.out.cell (p := ⟨b, off + i, none⟩) hbl).trans HC0
        have hmn : (m : Int) < (n : Int) := hp.2
        have hf := HB.out.froz m
        have hcell : ∃ u, wr.cell? ⟨w2.heap.size, m, none⟩ = some (.int .i64 u) := by
          have h1 : m < (invK ls n i).length := by rw [invK_len]; omega
          rw [HB.out.cell m]
          exact ⟨(invK ls n i)[m], by simp [iv, h1]⟩
        obtain ⟨u, hu⟩ := hcell
        have HB2 := HB.out.set m (.int .i64 (i : Int))
        have e : ((invK ls n i).map iv).set m (.int .i64 (i : Int)) = (invK ls n (i + 1)).map iv := by
          rw [invK, hx, Int.toNat_natCast, List.map_set]
          rfl
        rw [e] at HB2
        have HB3 := Lib.hid HB2
        have HW2 := Lib.hid (Only.below HW.out (Only.setCell wr w2.heap.size m (.int .i64 (i : Int))) hs2)
        clear hcA HC0 hx hp e HB2 HB
        go_wp2_with fail
        go_roundw
        case rel => exact ⟨i + 1, by omega, by go_num, HB3, HW2⟩
        case measure => simp [intOf]; omega
      · obtain rfl : i = n := by omega
        go_wp2_with fail
        go_ret2
        exact ⟨_, _, _, rfl, by rw [HE.out]; exact HB.out.ints (invK_len _ _ _) HN.out, HW.out⟩
set_option maxHeartbeats 1000000 in
/-- One list in two rows. -/
theorem refSame (A B : Option Addr) (n c d : Nat) (ls : List Int) (w : World) (h : Ints w A n c ls) (h' : Ints w B n d ls) :
    Calls Tryd.prog 13 #[.slice A n c, .slice B n d] w fun e w' => e = .returned (.bool true) ∧ Below w.heap.size w w' := by
  have hn := h.le
  have HH := Lib.hid h
  have HH' := Lib.hid h'
  have hb0 := Below.refl w.heap.size w
  clear h h'
  go_enter Tryd.func13, Tryd.ntmps13
  go_wp2_with fail
  go_loopw [5] (fun v wr => ∃ i : Nat, i ≤ n ∧ v = .int .i64 i ∧ Hid (Below w.heap.size w wr)) (fun v _ => n - (intOf v).toNat)
  case atStart => exact ⟨0, by omega, rfl, Lib.hid hb0⟩
  case round =>
    obtain ⟨i, hi, rfl, HW⟩ := hrel
    clear hb0
    by_cases hlt : i < n
    · have htj : (i : Int) < (n : Int) := by omega
      obtain ⟨b, off, rfl, hbl, hcA⟩ := HH.out.at_ (by omega)
      obtain ⟨b', off', rfl, hbl', hcB⟩ := HH'.out.at_ (by omega)
      obtain ⟨x, hx⟩ : ∃ x, ls.getD i 0 = x := ⟨_, rfl⟩
      have C1 := hcA i hlt
      have C2 := hcB i hlt
      rw [hx] at C1 C2
      have c1 := (HW.out.cell (p := ⟨b, off + i, none⟩) hbl).trans C1
      have c2 := (HW.out.cell (p := ⟨b', off' + i, none⟩) hbl').trans C2
      have hne : (x != x) = false := by simp
      clear hcA hcB C1 C2 hx
      go_wp2_with fail
      go_region
      go_wp2_with fail
      go_roundw
      case rel => exact ⟨i + 1, by omega, by go_num, Lib.hid HW.out.drew⟩
      case measure => simp [intOf]; omega
    · obtain rfl : i = n := by omega
      go_wp2_with fail
      go_ret
      exact ⟨rfl, HW.out⟩
end Go.Proofs.YthghpbbiedemdaaDoor
