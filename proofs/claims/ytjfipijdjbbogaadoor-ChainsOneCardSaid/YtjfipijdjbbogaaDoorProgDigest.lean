/-
  Contract of the package's Stream.digestOf. (Written by gen_pdig.py.)
-/
import Derived.Test.YtjfipijdjbbogaaDoorProgStrm
namespace Go.Proofs.YtjfipijdjbbogaaDoor
open Go.ChangeShapes Go.WideShapes Go.ChangeAt Go.RowKit
set_option linter.unusedVariables false
set_option linter.unusedSimpArgs false

set_option maxHeartbeats 1000000 in
set_option maxRecDepth 10000 in
theorem progDigest' {seed name dig K : List UInt8} {g gn c i q : Nat} (hK : shaN ((be64 32 ++ seed) ++ ((be64 name.length ++ name) ++ (be64 8 ++ be64 q))) = K) (hs : seed.length = 32) (hd : dig.length = 32) (w : World)
    (H : Has w g 55 (pCells seed gn name.length c i dig)) (hr : Row w (some ⟨gn, 0, none⟩) name.length c (name.map bv)) (hT : Tab w) :
    Calls Tryd.prog 36 #[.pointer (some ⟨g, 0, none⟩), .int .u64 (q : Int)] w fun e w' => e = .returned (.agg (K.map bv).toArray) ∧ Below w.heap.size w w' := by
  have hkl : K.length = 32 := by rw [← hK]; exact shaN_len _
  have HKL := Lib.hid hkl
  have H1 := newKey w
  have hb1 := newKey_below (Below.refl w.heap.size w) (Nat.le_refl _)
  have HG := H.keep hb1 H.lt
  have hr1 := hr.keep hb1
  have hT1 := hT.keep hb1
  generalize hW : (w.alloc (.cells #[.int .u8 0, .int .u8 0, .int .u8 0, .int .u8 0, .int .u8 0, .int .u8 0, .int .u8 0, .int .u8 0, .int .u8 0, .int .u8 0, .int .u8 0, .int .u8 0, .int .u8 0, .int .u8 0, .int .u8 0, .int .u8 0, .int .u8 0, .int .u8 0, .int .u8 0, .int .u8 0, .int .u8 0, .int .u8 0, .int .u8 0, .int .u8 0, .int .u8 0, .int .u8 0, .int .u8 0, .int .u8 0, .int .u8 0, .int .u8 0, .int .u8 0, .int .u8 0] 23)) = W at *
  have HC := Lib.hid (fun (u : World) (h : Below W.heap.size W u) => show u.cell? ⟨g, 32, none⟩ = some (.slice (some ⟨gn, 0, none⟩) name.length c) from ((HG.keep h HG.lt).cell 32).trans (pC_32 hs))
  have HS := Lib.hid (fun (u : World) (h : Below W.heap.size W u) => show Row u (some ⟨g, 0, none⟩) 32 32 (seed.map bv) from pC_seed (HG.keep h HG.lt) hs hd)
  have HR := Lib.hid (fun (u : World) (h : Below W.heap.size W u) => hr1.keep h)
  have HT := Lib.hid (fun (u : World) (h : Below W.heap.size W u) => hT1.keep h)
  have HK1 := Lib.hid (fun (u : World) (h : Below W.heap.size W u) => H1.keep h H1.lt)
  have KP := Lib.hid (fun (u : World) => wordsPut.put64 none 0 0 [] q u (Row.nil u) (by omega))
  simp only [Nat.zero_add, List.nil_append] at KP
  have KR := Lib.hid (fun (Ap : Option Addr) (cp : Nat) (gp : Nat) (u : World) (h : PartsAt u (some ⟨gp, 0, none⟩) 3 3 [⟨some ⟨g, 0, none⟩, 32, 32, seed⟩, ⟨some ⟨gn, 0, none⟩, name.length, c, name⟩, ⟨Ap, 8, cp, be64 q⟩]) (hT : Tab u) => show Calls Tryd.prog 46 #[.slice (some ⟨gp, 0, none⟩) 3 3] u (fun e w' => e = .returned (.agg (K.map bv).toArray) ∧ Below u.heap.size u w') from by
    have := sha.Parts (some ⟨gp, 0, none⟩) 3 3 _ u h hT
    rw [show shaN (partsN [⟨some ⟨g, 0, none⟩, 32, 32, seed⟩, ⟨some ⟨gn, 0, none⟩, name.length, c, name⟩, ⟨Ap, 8, cp, be64 q⟩]) = K by rw [← hK]; simp [partsN]] at this
    exact this)
  have HB1 := Lib.hid hb1
  have HL1 := Lib.hid hb1.size
  obtain ⟨W0, hW0⟩ : ∃ x : World, x = W.drew := ⟨_, rfl⟩
  have hb0 : Below W.heap.size W W0 := by rw [hW0]; exact (Below.refl _ _).drew
  obtain ⟨gk, hgk⟩ : ∃ x, w.heap.size = x := ⟨_, rfl⟩
  have HGK := Lib.hid hgk
  have HGN := Lib.hid (show g ≠ gk by have := H.lt; omega)
  rw [hgk] at HK1
  clear hK hr hr1 hT hT1 hs hd H HG H1 hkl hb1
  go_enter Tryd.func36, Tryd.ntmps36
  go_wp2_with fail
  try rw [hW]
  try rw [hgk]
  clear hW hgk
  refine wp_region_held_drew (S := fun w' => w'.cell? ⟨g, 32, none⟩ = some (.slice (some ⟨gn, 0, none⟩) name.length c)) (by kernel_rfl) (by rw [← hW0]; exact HC.out _ hb0) (fun hHeld => ?_)
  rw [← hW0] at hHeld ⊢
  clear hW0
  refine wpAnyH_take (i := 0) (v := ?vq1) rfl (by kernel_rfl) (by kernel_rfl) (by kernel_rfl) (fun _ _ _ h => h) (Or.inl ⟨by rfl, ?yq1⟩) (by assumption) ?rq1
  case yq1 => (intro u hSu; (try dsimp only at hSu); go_simp; try with_reducible rfl)
  try simp only [List.getElem_toArray, List.getElem_cons_succ, List.getElem_cons_zero, Act.put, List.setIfInBounds_toArray, List.set_cons_zero, List.set_cons_succ]
  refine wpAnyH_take (i := 1) (v := ?vq2) rfl (by kernel_rfl) (by kernel_rfl) (by kernel_rfl) (fun _ _ _ h => h) (Or.inl ⟨by rfl, ?yq2⟩) (by assumption) ?rq2
  case yq2 => (intro u hSu; (try dsimp only at hSu); go_simp; try with_reducible rfl)
  try simp only [List.getElem_toArray, List.getElem_cons_succ, List.getElem_cons_zero, Act.put, List.setIfInBounds_toArray, List.set_cons_zero, List.set_cons_succ]
  refine wpAnyH_take (i := 2) (v := ?vq3) rfl (by kernel_rfl) (by kernel_rfl) (by kernel_rfl) (fun _ _ _ h => h) (Or.inl ⟨by rfl, ?yq3⟩) (by assumption) ?rq3
  case yq3 => (intro u hSu; (try dsimp only at hSu); go_simp; try with_reducible rfl)
  try simp only [List.getElem_toArray, List.getElem_cons_succ, List.getElem_cons_zero, Act.put, List.setIfInBounds_toArray, List.set_cons_zero, List.set_cons_succ]
  refine wpAnyH_take (i := 3) (v := ?vq4) rfl (by kernel_rfl) (by kernel_rfl) (by kernel_rfl) (fun _ _ _ h => h) (Or.inl ⟨by rfl, ?yq4⟩) (by assumption) ?rq4
  case yq4 => (intro u hSu; (try dsimp only at hSu); go_simp; try with_reducible rfl)
  try simp only [List.getElem_toArray, List.getElem_cons_succ, List.getElem_cons_zero, Act.put, List.setIfInBounds_toArray, List.set_cons_zero, List.set_cons_succ]
  refine wpAnyH_take (i := 4) (v := ?vq5) rfl (by kernel_rfl) (by kernel_rfl) (by kernel_rfl) (fun _ _ _ h => h) (Or.inl ⟨by rfl, ?yq5⟩) (by assumption) ?rq5
  case yq5 => (intro u hSu; (try dsimp only at hSu); go_simp; try with_reducible rfl)
  try simp only [List.getElem_toArray, List.getElem_cons_succ, List.getElem_cons_zero, Act.put, List.setIfInBounds_toArray, List.set_cons_zero, List.set_cons_succ]
  refine wpAnyH_take (i := 5) (v := ?vq6) rfl (by kernel_rfl) (by kernel_rfl) (by kernel_rfl) (fun _ _ _ h => h) (Or.inl ⟨by rfl, ?yq6⟩) (by assumption) ?rq6
  case yq6 => (intro u hSu; (try dsimp only at hSu); go_simp; try with_reducible rfl)
  try simp only [List.getElem_toArray, List.getElem_cons_succ, List.getElem_cons_zero, Act.put, List.setIfInBounds_toArray, List.set_cons_zero, List.set_cons_succ]
  refine wpAnyH_take (i := 6) (v := ?vq7) rfl (by kernel_rfl) (by kernel_rfl) (by kernel_rfl) (fun _ _ _ h => h) (Or.inl ⟨by rfl, ?yq7⟩) (by assumption) ?rq7
  case yq7 => (intro u hSu; (try dsimp only at hSu); go_simp; try with_reducible rfl)
  try simp only [List.getElem_toArray, List.getElem_cons_succ, List.getElem_cons_zero, Act.put, List.setIfInBounds_toArray, List.set_cons_zero, List.set_cons_succ]
  refine wpAnyH_take (i := 7) (v := ?vq8) rfl (by kernel_rfl) (by kernel_rfl) (by kernel_rfl) (fun _ _ _ h => h) (Or.inl ⟨by rfl, ?yq8⟩) (by assumption) ?rq8
  case yq8 => (intro u hSu; (try dsimp only at hSu); go_simp; try with_reducible rfl)
  try simp only [List.getElem_toArray, List.getElem_cons_succ, List.getElem_cons_zero, Act.put, List.setIfInBounds_toArray, List.set_cons_zero, List.set_cons_succ]
  refine wpAnyH_take (i := 8) (v := ?vq9) rfl (by kernel_rfl) (by kernel_rfl) (by kernel_rfl) (fun _ _ _ h => h) (Or.inl ⟨by rfl, ?yq9⟩) (by assumption) ?rq9
  case yq9 => (intro u hSu; (try dsimp only at hSu); go_simp; try with_reducible rfl)
  try simp only [List.getElem_toArray, List.getElem_cons_succ, List.getElem_cons_zero, Act.put, List.setIfInBounds_toArray, List.set_cons_zero, List.set_cons_succ]
  refine wpAnyH_ready (rs := [9]) (by kernel_rfl) (by simp) ?_
  refine AllReadyH.cons rfl (fun KQ hK => ?_) AllReadyH.nil
  go_simp
  go_at_call 47
  with_reducible refine (KP.out W0).mono ?_
  rintro e u1 ⟨vp, rfl, hownp, hx1⟩
  obtain ⟨Ap, cp, rfl, Rp0⟩ := Row.own hownp
  have Rp := Lib.hid Rp0
  have hb1 : Below W.heap.size W u1 := hb0.trans (hx1.mono hb0.size)
  clear Rp0 hownp
  go_simp
  refine hK.out _ _ (HC.out _ hb1) (fun hHeld => ?_)
  clear hK KQ
  try simp only [List.getElem_toArray, List.getElem_cons_succ, List.getElem_cons_zero, Act.put, List.setIfInBounds_toArray, List.set_cons_zero, List.set_cons_succ]
  refine wpAnyH_ready (rs := [10]) (by kernel_rfl) (by simp) ?_
  refine AllReadyH.cons rfl (fun KQ hK => ?_) AllReadyH.nil
  go_simp
  have hb2 := hb1.alloc hb1.size (.cells #[.slice (some ⟨g, 0, none⟩) 32 32, .slice (some ⟨gn, 0, none⟩) name.length c, .slice Ap 8 cp] 52)
  have Rb := Lib.hid (lit3 u1 (some ⟨g, 0, none⟩) 32 32 seed (some ⟨gn, 0, none⟩) name.length c name Ap 8 cp (be64 q) (HS.out _ hb1) (HR.out _ hb1) Rp.out)
  generalize (u1.alloc (.cells #[.slice (some ⟨g, 0, none⟩) 32 32, .slice (some ⟨gn, 0, none⟩) name.length c, .slice Ap 8 cp] 52)) = u2 at *
  obtain ⟨gp, hgp⟩ : ∃ x, u1.heap.size = x := ⟨_, rfl⟩
  rw [hgp] at Rb
  try rw [hgp]
  clear Rp hgp
  refine hK.out _ _ (HC.out _ hb2) (fun hHeld => ?_)
  clear hK KQ
  try simp only [List.getElem_toArray, List.getElem_cons_succ, List.getElem_cons_zero, Act.put, List.setIfInBounds_toArray, List.set_cons_zero, List.set_cons_succ]
  refine wpAnyH_ready (rs := [11]) (by kernel_rfl) (by simp) ?_
  refine AllReadyH.cons rfl (fun KQ hK => ?_) AllReadyH.nil
  go_simp
  go_at_call 46
  with_reducible refine (KR.out _ _ _ _ Rb.out (HT.out _ hb2)).mono ?_
  rintro e u3 ⟨rfl, hx3⟩
  have hb3 : Below W.heap.size W u3 := hb2.trans (hx3.mono hb2.size)
  go_simp
  refine hK.out _ _ (HC.out _ hb3) (fun hHeld => ?_)
  clear hK KQ
  try simp only [List.getElem_toArray, List.getElem_cons_succ, List.getElem_cons_zero, Act.put, List.setIfInBounds_toArray, List.set_cons_zero, List.set_cons_succ]
  refine wpAnyH_ready (rs := [12]) (by kernel_rfl) (by simp) ?_
  refine AllReadyH.cons rfl (fun KQ hK => ?_) AllReadyH.nil
  refine step_store_has (by rfl) 23 (.tmp 4) (.tmp 16) (by rfl) gk (by rfl) (K.map bv) (by rfl) 23 zkey (HK1.out _ hb3) (by rw [List.length_map, HKL.out]; exact size_key) (by rw [List.length_map, HKL.out]; rfl) (one_bv K) ?_
  intro u4 ok Hk2
  have hbw : Below w.heap.size w u4 := ok.below (HB1.out.trans (hb3.mono HL1.out)) (by rw [HGK.out]; exact Nat.le_refl _)
  refine hK.out _ _ ?_ (fun hHeld => ?_)
  · exact (ok.cell ⟨g, 32, none⟩ HGN.out).trans (HC.out _ hb3)
  clear hK KQ
  try simp only [List.getElem_toArray, List.getElem_cons_succ, List.getElem_cons_zero, Act.put, List.setIfInBounds_toArray, List.set_cons_zero, List.set_cons_succ]
  refine wpAnyH_done (by kernel_rfl) ?_ _
  go_wp2_with fail
  refine ret_key Tryd.results36 gk ?_ K HKL.out Hk2 ?_ ⟨rfl, hbw⟩
  · rfl
  · rfl
end Go.Proofs.YtjfipijdjbbogaaDoor
