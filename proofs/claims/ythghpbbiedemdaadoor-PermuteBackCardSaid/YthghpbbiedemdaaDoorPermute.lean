/-
  Contracts of the package's Right and Inverse.
-/
import Derived.Test.YthghpbbiedemdaaDoorOrdSpec
import Derived.Test.YthghpbbiedemdaaDoorInts
namespace Go.Proofs.YthghpbbiedemdaaDoor
open Go.ChangeShapes Go.WideShapes Go.ChangeAt Go.RowKit
set_option linter.unusedVariables false
set_option linter.unusedSimpArgs false

/-- Which numbers have been seen among the first i. -/
def seenF (ls : List Int) (i : Nat) (j : Nat) : Bool := decide ((j : Int) ∈ ls.take i)
theorem seenF_zero (ls : List Int) : (fun _ => false) = seenF ls 0 := by funext j; simp [seenF]
set_option maxHeartbeats 1000000 in
theorem permRight (A : Option Addr) (n c : Nat) (ls : List Int) (w : World) (h : Ints w A n c ls) (hn : n ≤ 1048576) :
    Calls Tryd.prog 15 #[.slice A n c] w fun e w' => e = .returned (.bool (rightB ls)) ∧ Below w.heap.size w w' := by
  have hmk := run_makeT n hn w
  have hl := h.len
  have H0 := Has.new w 4 (bN n fun _ => false)
  rw [seenF_zero ls] at H0
  have hb0 := (Below.refl w.heap.size w).alloc (Nat.le_refl _) (.cells (bN n fun _ => false).toArray 4)
  have HH := Lib.hid h
  have HL := Lib.hid hl
  clear h hl
  go_enter Tryd.func15, Tryd.ntmps15
  go_wp2_with fail
  go_loopw [11] (fun v wr => ∃ i : Nat, i ≤ n ∧ v = .int .i64 i ∧ Hid (Has wr w.heap.size 4 (bN n (seenF ls i))) ∧ Hid (goodL (ls.take i) n) ∧ Hid (Below w.heap.size w wr)) (fun v _ => n - (intOf v).toNat)
  case atStart => exact ⟨0, by omega, rfl, Lib.hid H0, Lib.hid (by rw [List.take_zero]; exact goodL_nil n), Lib.hid hb0⟩
  case round =>
    obtain ⟨i, hi, rfl, HB, HG, HW⟩ := hrel
    clear H0 hb0 hmk
    by_cases hlt : i < n
    · have htj : (i : Int) < (n : Int) := by omega
      obtain ⟨b, off, rfl, hbl, hcA⟩ := HH.out.at_ (by omega)
      obtain ⟨x, hx⟩ : ∃ x, ls.getD i 0 = x := ⟨_, rfl⟩
      have HC0 := hcA i hlt
      rw [hx] at HC0
      have hc := (HW.out.cell (p := ⟨b, off + i, none⟩) hbl).trans HC0
      have HX := Lib.hid hx
      clear hcA HC0 hx
      by_cases h0 : x < 0
      · go_wp2_with fail
        go_ret
        exact ⟨ret_bool (rightB_low (i := i) (by rw [HL.out]; exact hlt) (by rw [HX.out]; exact h0)).symm, HW.out⟩
      · obtain ⟨m, rfl⟩ : ∃ m : Nat, x = (m : Int) := ⟨x.toNat, by omega⟩
        by_cases h1 : n ≤ m
        · have h1' : (n : Int) ≤ (m : Int) := by omega
          have h0' : ¬ (m : Int) < 0 := h0
          go_wp2_with fail
          go_ret
          exact ⟨ret_bool (rightB_high (i := i) (by rw [HL.out]; exact hlt) (by rw [HX.out, HL.out]; omega)).symm, HW.out⟩
        · have h1' : ¬ (n : Int) ≤ (m : Int) := by omega
          have hmn : (m : Int) < (n : Int) := by omega
          have hs := (HB.out.cell m).trans (bN_at _ _ (by omega))
          have hf := HB.out.froz m
          cases hq : seenF ls i m with
          | true =>
            rw [hq] at hs
            have HE := Lib.hid (show (m : Int) ∈ ls.take i from of_decide_eq_true hq)
            clear hq
            go_wp2_with fail
            go_ret
            exact ⟨ret_bool (rightB_twice (i := i) (by rw [HL.out]; exact hlt) (by rw [HX.out]; exact HE.out)).symm, HW.out⟩
          | false =>
            rw [hq] at hs
            have hni : (m : Int) ∉ ls.take i := of_decide_eq_false hq
            have ht := take_snoc ls i (by rw [HL.out]; exact hlt)
            rw [HX.out] at ht
            have HG2 := Lib.hid (show goodL (ls.take (i + 1)) n by rw [ht]; exact goodL_snoc HG.out (by omega) (by omega) hni)
            have HB2 := HB.out.set m (.bool true)
            rw [bN_set (seenF ls i) (seenF ls (i + 1)) m (fun k _ hk => by
              unfold seenF
              rw [ht]
              simp
              omega) (.bool true) (by unfold seenF; rw [ht]; simp)] at HB2
            have HB3 := Lib.hid HB2
            have HW2 := Lib.hid (Only.below HW.out (Only.setCell wr w.heap.size m (.bool true)) (Nat.le_refl _))
            clear hq hni ht HB2 HB HG
            go_wp2_with fail
            go_roundw
            case rel => exact ⟨i + 1, by omega, by go_num, HB3, HG2, HW2⟩
            case measure => simp [intOf]; omega
    · obtain rfl : i = n := by omega
      go_wp2_with fail
      go_ret
      exact ⟨ret_bool (rightB_all HL.out HG.out).symm, HW.out⟩
set_option maxHeartbeats 1000000 in
theorem permInverse (A : Option Addr) (n c : Nat) (ls : List Int) (w : World) (h : Ints w A n c ls) (hn : n ≤ 1048576) :
    Calls Tryd.prog 16 #[.slice A n c] w fun e w' => ∃ B m d, e = .returned (.tuple #[.slice B m d, .bool (rightB ls)]) ∧ Ints w' B m d (backL ls) ∧ Below w.heap.size w w' := by
  have K := Lib.hid (permRight A n c ls w h hn)
  have HH := Lib.hid h
  have HL := Lib.hid h.len
  have HN := Lib.hid hn
  cases hr : rightB ls with
  | false =>
    rw [hr] at K
    have HE := Lib.hid (show backL ls = [] by rw [backL, hr]; rfl)
    clear h hn hr
    go_enter Tryd.func16, Tryd.ntmps16
    go_wp2_with fail
    refine (K.out).mono ?_
    rintro e w2 ⟨rfl, hb⟩
    go_wp2_with fail
    go_ret2
    exact ⟨none, 0, 0, rfl, by rw [HE.out]; exact Ints.nil _, hb⟩
  | true =>
    rw [hr] at K
    have hg := goodL_of_right hr
    rw [h.len] at hg
    have HG := Lib.hid hg
    have HE := Lib.hid (show backL ls = invK ls n n by rw [backL, if_pos hr, invL, h.len])
    clear h hr hg
    go_enter Tryd.func16, Tryd.ntmps16
    go_wp2_with fail
    refine (K.out).mono ?_
    rintro e w2 ⟨rfl, hb2⟩
    have hmk := run_makeI n HN.out w2
    obtain ⟨Z, hZ⟩ : ∃ Z : List Int, List.replicate n 0 = Z := ⟨_, rfl⟩
    rw [hZ] at hmk
    have H0 := Has.new w2 3 (Z.map iv)
    have hb0 := hb2.trans (((Below.refl w2.heap.size w2).alloc (Nat.le_refl _) (.cells (Z.map iv).toArray 3)).mono hb2.size)
    have HZ := Lib.hid (show Z = invK ls n 0 by rw [← hZ]; rfl)
    clear hZ
    have hs2 := hb2.size
    go_wp2_with fail
    go_loopw [15] (fun v wr => ∃ i : Nat, i ≤ n ∧ v = .int .i64 i ∧ Hid (Has wr w2.heap.size 3 ((invK ls n i).map iv)) ∧ Hid (Below w.heap.size w wr)) (fun v _ => n - (intOf v).toNat)
    case atStart => exact ⟨0, by omega, rfl, Lib.hid (by rw [← HZ.out]; exact H0), Lib.hid hb0⟩
    case round =>
      obtain ⟨i, hi, rfl, HB, HW⟩ := hrel
      clear H0 hb0 hmk hb2 K
      by_cases hlt : i < n
      · have htj : (i : Int) < (n : Int) := by omega
        obtain ⟨b, off, rfl, hbl, hcA⟩ := HH.out.at_ (by omega)
        obtain ⟨x, hx⟩ : ∃ x, ls.getD i 0 = x := ⟨_, rfl⟩
        have HC0 := hcA i hlt
        have hp := HG.out.1 _ (getD_mem ls i (by rw [HL.out]; exact hlt))
        rw [hx] at HC0 hp
        obtain ⟨m, rfl⟩ : ∃ m : Nat, x = (m : Int) := ⟨x.toNat, by omega⟩
        have hc := (HW.out.cell (p := ⟨b, off + i, none⟩) hbl).trans HC0
        have hmn : (m : Int) < (n : Int) := hp.2
        have hf := HB.out.froz m
        obtain ⟨y, hy⟩ : ∃ y, w2.heap.size = y := ⟨_, rfl⟩
        have hcell : ∃ u, wr.cell? ⟨w2.heap.size, m, none⟩ = some (.int .i64 u) := by
          have h1 : m < (invK ls n i).length := by rw [invK_len]; omega
          rw [HB.out.cell m]
          exact ⟨(invK ls n i)[m], by simp [iv, h1]⟩
        obtain ⟨u, hu⟩ := hcell
        have HB2 := HB.out.set m (.int .i64 (i : Int))
        have e : ((invK ls n i).map iv).set m (.int .i64 (i : Int)) = (invK ls n (i + 1)).map iv := by
          rw [invK, hx, Int.toNat_natCast, List.map_set]
          rfl
        rw [e] at HB2
        have HB3 := Lib.hid HB2
        have HW2 := Lib.hid (Only.below HW.out (Only.setCell wr w2.heap.size m (.int .i64 (i : Int))) hs2)
        clear hcA HC0 hx hp hy e HB2 HB
        go_wp2_with fail
        go_roundw
        case rel => exact ⟨i + 1, by omega, by go_num, HB3, HW2⟩
        case measure => simp [intOf]; omega
      · obtain rfl : i = n := by omega
        go_wp2_with fail
        go_ret2
        exact ⟨_, _, _, rfl, by rw [HE.out]; exact HB.out.ints (invK_len _ _ _) HN.out, HW.out⟩
end Go.Proofs.YthghpbbiedemdaaDoor
