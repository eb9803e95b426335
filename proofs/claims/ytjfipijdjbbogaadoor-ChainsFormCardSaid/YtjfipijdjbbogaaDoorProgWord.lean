/-
  Contract of the package's Stream.Word.
-/
import Derived.Test.YtjfipijdjbbogaaDoorProgDigest
namespace Go.Proofs.YtjfipijdjbbogaaDoor
open Go.ChangeShapes Go.WideShapes Go.ChangeAt Go.RowKit
set_option linter.unusedVariables false
set_option linter.unusedSimpArgs false

set_option maxHeartbeats 1000000 in
theorem progWord' (g : Nat) (seed name : List UInt8) (i : Nat) (hi : i ≤ 4611686018427387904) (hs : seed.length = 32) (hn : name.length ≤ 1099511627776) (w : World) (H : StrmP w g seed name i) (hT : Tab w) :
    Calls Tryd.prog 30 #[.pointer (some ⟨g, 0, none⟩)] w fun e w' => e = .returned (.int .u64 (wordB seed name i : Int)) ∧ StrmP w' g seed name (i + 1) ∧ Save g w w' := by
  obtain ⟨gn, c, d0, H0, hrow, hin, hd0, hdg⟩ := H
  obtain ⟨dig, hdig⟩ : ∃ d, digB seed name i = d := ⟨_, rfl⟩
  have hdl : dig.length = 32 := by rw [← hdig]; exact shaN_len _
  have hwb : wordB seed name i = be ((dig.drop (8 * (i % 4))).take 8) := by rw [← hdig]; rfl
  obtain ⟨q, hq⟩ : ∃ q, i / 4 = q := ⟨_, rfl⟩
  have hi4 : ((i : Int) / 4) = (q : Int) := by omega
  have hi4t : (Int.tdiv (i : Int) 4) = (q : Int) := by rw [Int.tdiv_eq_ediv_of_nonneg (by omega)]; exact hi4
  have hqw : IntKind.u64.wrap (q : Int) = (q : Int) := by rw [IntKind.wrap_u64]; omega
  obtain ⟨r, hr⟩ : ∃ r, i % 4 = r := ⟨_, rfl⟩
  have hr4 : ((i : Int) % 4) = (r : Int) := by omega
  have hr4t : (Int.tmod (i : Int) 4) = (r : Int) := by rw [Int.tmod_eq_emod_of_nonneg (by omega)]; exact hr4
  have hrw : IntKind.i64.wrap (r : Int) = (r : Int) := by rw [IntKind.wrap_i64]; omega
  have hr8 : IntKind.i64.wrap (8 * (r : Int)) = 8 * (r : Int) := by rw [IntKind.wrap_i64]; omega
  have hiw : IntKind.u64.wrap ((i : Int) + 1) = (i : Int) + 1 := by rw [IntKind.wrap_u64]; omega
  obtain ⟨x, hx⟩ : ∃ x, wordB seed name i = x := ⟨_, rfl⟩
  have hlt := H0.lt
  have HX := Lib.hid hx
  have HKG := Lib.hid (fun (u : World) (h : Bytes u (some ⟨g, 34, none⟩) 32 32 dig) => show Calls Tryd.prog 37 #[.slice (some ⟨g, 34, none⟩) 32 32, .int .i64 (8 * (r : Int))] u (fun e w' => e = .returned (.tuple #[.int .u64 (x : Int), .int .i64 0]) ∧ u = w') from by
    have := wordsGet.get64 (some ⟨g, 34, none⟩) 32 32 dig (8 * (r : Int)) u h
    have e1 : getV dig (8 * (r : Int)) 8 = (x : Int) := by
      unfold getV
      rw [if_neg (by omega), show (8 * (r : Int)).toNat = 8 * r by omega, ← hx, hwb, hr]
    have e2 : getE dig (8 * (r : Int)) 8 = 0 := by
      unfold getE
      rw [if_neg (by omega), if_neg (by omega)]
    rw [e1, e2] at this
    exact this)
  -- the end: drawn counts one more
  have HF := Lib.hid (fun (u : World) (hu : Has u g 55 (pCells seed gn name.length c i dig)) (hru : Row u (some ⟨gn, 0, none⟩) name.length c (name.map bv)) (hiu : InB u gn) =>
    show StrmP (u.setCell ⟨g, 33, none⟩ (.int .u64 ((i : Int) + 1))) g seed name (i + 1) ∧ Bytes (u.setCell ⟨g, 33, none⟩ (.int .u64 ((i : Int) + 1))) (some ⟨g, 34, none⟩) 32 32 dig from by
    have hne : gn ≠ g := hiu.ne hu (by decide)
    have h33 : Has (u.setCell ⟨g, 33, none⟩ (.int .u64 ((i : Int) + 1))) g 55 (pCells seed gn name.length c (i + 1) dig) := by rw [← pC_set hs]; exact hu.set 33 _
    exact ⟨⟨gn, c, dig, h33, hru.only (Only.setCell u g 33 _) (fun _ p hp => by cases hp; exact hne), hiu.only (Only.setCell u g 33 _) hne, hdl, fun h => by rw [← hdig, digB, digB, show (i + 1) / 4 = i / 4 by omega]⟩, pC_digest h33 hs hdl⟩)
  have HC := Lib.hid (fun (u : World) (hu : Has u g 55 (pCells seed gn name.length c i dig)) => show u.cell? ⟨g, 33, none⟩ = some (.int .u64 (i : Int)) ∧ u.frozen? ⟨g, 33, none⟩ = false from ⟨(hu.cell 33).trans (pC_33 hs), hu.froz 33⟩)
  have c33 : w.cell? ⟨g, 33, none⟩ = some (.int .u64 (i : Int)) := (H0.cell 33).trans (pC_33 hs)
  by_cases h0 : r = 0
  · have f0 : ((r : Int) == 0) = true := by rw [h0]; rfl
    have KD := Lib.hid (progDigest' (K := dig) (q := q) (show shaN ((be64 32 ++ seed) ++ ((be64 name.length ++ name) ++ (be64 8 ++ be64 q))) = dig by rw [← hdig, ← hq, digB, hs]) hs hd0 w H0 hrow hT)
    have HPD := Lib.hid (fun (u : World) (hu : Has u g 55 (splice (pCells seed gn name.length c i d0) 34 (dig.map bv))) => show Has u g 55 (pCells seed gn name.length c i dig) from by rw [← pC_dig hs hd0 dig hdl]; exact hu)
    have HS := Lib.hid (show (Tryd.prog.info? 23).map (·.size) = some (dig.map bv).length by rw [List.length_map, hdl]; exact size_key)
    have HLE := Lib.hid (show 34 + (dig.map bv).length ≤ (pCells seed gn name.length c i d0).length by rw [List.length_map, hdl, pC_len hs hd0]; omega)
    have HR0 := Lib.hid (And.intro hrow (And.intro hin H0))
    clear hi hs hn hT H0 hrow hin hd0 hdg hdig hdl hwb hq hr hx h0
    go_enter Tryd.func30, Tryd.ntmps30
    go_wp2_with fail
    refine (KD.out).mono ?_
    rintro e w2 ⟨rfl, hb2⟩
    have H2 := HR0.out.2.2.keep hb2 hlt
    have HB := Lib.hid (And.intro (HR0.out.1.keep hb2) (And.intro (HR0.out.2.1.keep hb2) hb2))
    clear KD hb2 c33
    go_wp2_with ((with_reducible refine wpList_store_part rfl 23 (.tmp 24) (.tmp 22) rfl g 34 rfl (dig.map bv) rfl 55 _ H2 HS.out HLE.out (one_bv dig) ?_); intro w3 o3 H3; have H4 := HPD.out w3 H3; have c33 := (HC.out w3 H4).1; have f33 := (HC.out w3 H4).2)
    have HW := Lib.hid (HF.out w3 H4 (HB.out.1.only o3 (fun _ p hp => by cases hp; exact HB.out.2.1.ne H2 (by decide))) (HB.out.2.1.only o3 (HB.out.2.1.ne H2 (by decide))))
    have HV := Lib.hid (((Save.of_below HB.out.2.2).trans (Only.saved' o3)).trans (Only.saved' (Only.setCell w3 g 33 (.int .u64 ((i : Int) + 1)))))
    clear H2 H3 H4 c33 f33 o3
    refine (HKG.out _ HW.out.2).mono ?_
    rintro e w' ⟨rfl, rfl⟩
    go_wp2_with fail
    go_ret
    exact ⟨ret_int (by rw [HX.out]), HW.out.1, HV.out⟩
  · have f0 : ((r : Int) == 0) = false := by simp; omega
    obtain rfl : d0 = dig := by rw [← hdig]; exact hdg (by omega)
    have f33 := H0.froz 33
    have HW := Lib.hid (HF.out w H0 hrow hin)
    have HV := Lib.hid (Only.saved' (Only.setCell w g 33 (.int .u64 ((i : Int) + 1))))
    clear hi hs hn hT H0 hrow hin hd0 hdg hdig hdl hwb hq hr hx h0
    go_enter Tryd.func30, Tryd.ntmps30
    go_wp2_with fail
    refine (HKG.out _ HW.out.2).mono ?_
    rintro e w' ⟨rfl, rfl⟩
    go_wp2_with fail
    go_ret
    exact ⟨ret_int (by rw [HX.out]), HW.out.1, HV.out⟩
end Go.Proofs.YtjfipijdjbbogaaDoor
