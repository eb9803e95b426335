/-
  Contract of the reference's Parts.
-/
import Derived.Test.YtgjepiblhpmaiaaDoorShaParts
import Derived.Test.YtgjepiblhpmaiaaDoorRefSha
import Derived.Test.YtgjepiblhpmaiaaDoorStepApp
import Derived.Deep.RegionHeldLaw
namespace Go.Proofs.YtgjepiblhpmaiaaDoor
open Go.ChangeShapes Go.WideShapes Go.ChangeAt Go.RowKit
set_option linter.unusedVariables false
set_option linter.unusedSimpArgs false

theorem partsN_le (ps : List Part) (j : Nat) : (partsN (ps.take j)).length ≤ (partsN ps).length := by
  have e : partsN ps = partsN (ps.take j) ++ partsN (ps.drop j) := by rw [partsN, partsN, partsN, ← List.flatMap_append, List.take_append_drop]
  rw [e, List.length_append]
  omega

namespace refSha
set_option maxHeartbeats 1000000 in
theorem Parts (A : Option Addr) (n c : Nat) (ps : List Part) (w : World) (hps : PartsAt w A n c ps) (hsum : (partsN ps).length ≤ 70368744177664) :
    Calls Tryd.prog 27 #[.slice A n c] w fun e w' => e = .returned (.agg ((shaN (partsN ps)).map bv).toArray) ∧ Below w.heap.size w w' := by
  have hpl : ps.length = n := by simpa using hps.1.1
  have hcm := hps.1.2.2.1
  have hnc := hps.1.2.1
  have HP := Lib.hid hps
  have HPL := Lib.hid hpl
  have hn63 : n ≤ 9223372036854775807 := by unfold maxLen at hcm; omega
  have HSUM := Lib.hid hsum
  have HR1 := Has.new w 42 ((List.replicate 32 0 : List UInt8).map bv)
  have hb1 := (Below.refl w.heap.size w).alloc (Nat.le_refl _) (.cells ((List.replicate 32 0 : List UInt8).map bv).toArray 42)
  clear hps hpl hcm hnc hsum
  go_enter Tryd.func27, Tryd.ntmps27
  go_wp2
  go_loopw [3, 4] (fun v i wr => ∃ (j : Nat) (A3 : Option Addr) (c3 : Nat), j ≤ n ∧ i = .int .i64 j ∧ v = .slice A3 (partsN (ps.take j)).length c3 ∧ Bytes wr A3 (partsN (ps.take j)).length c3 (partsN (ps.take j)) ∧ Has wr w.heap.size 42 ((List.replicate 32 0 : List UInt8).map bv) ∧ Below w.heap.size w wr) (fun _ i _ => n - (intOf i).toNat)
  case atStart => exact ⟨0, none, 0, by omega, rfl, rfl, Row.nil _, HR1, hb1⟩
  case round =>
    clear HR1 hb1
    obtain ⟨j, A3, c3, hj, rfl, rfl, hr3, HR, hb⟩ := hrel
    obtain ⟨q, hq⟩ : ∃ q, q = partsN (ps.take j) := ⟨_, rfl⟩
    have hql : q.length ≤ (partsN ps).length := hq ▸ partsN_le ps j
    obtain ⟨ql, hqlen⟩ : ∃ x, x = q.length := ⟨_, rfl⟩
    rw [← hq, ← hqlen] at hr3 ⊢
    by_cases hlt : j < n
    · have hjl : j < ps.length := by rw [HPL.out]; exact hlt
      obtain ⟨b, off, rfl, hbl, hc⟩ := (HP.out.1).2.2.2.2 (by omega)
      obtain ⟨p, hp⟩ : ∃ p, p = ps[j] := ⟨_, rfl⟩
      have cj : wr.cell? ⟨b, off + j, none⟩ = some (.slice p.A p.n p.c) := by
        rw [hb.cell (p := ⟨b, off + j, none⟩) hbl, hc j hlt, List.getElem?_map, List.getElem?_eq_getElem hjl, hp]
        rfl
      have hpB := HP.out.2 p (hp ▸ List.getElem_mem hjl)
      have hple := hpB.le
      have hjn : (j : Int) < (n : Int) := by omega
      have hsn : partsN (ps.take (j + 1)) = (q ++ be64 p.n) ++ p.l := by rw [partsN_snoc ps j hjl, ← hp, ← hq]
      have hsl : (partsN (ps.take (j + 1))).length = ql + 8 + p.n := by rw [hsn, List.length_append, List.length_append, be64_len, hpB.len, hqlen]
      have hsle := partsN_le ps (j + 1)
      have hbd : ql + 8 + p.n ≤ 70368744177664 := by have := HSUM.out; omega
      have HBD := Lib.hid hbd
      have HSN := Lib.hid (And.intro hsn hsl)
      have KP := Lib.hid (refPut.put64 A3 ql c3 q p.n wr.drew (hr3.keep (Below.refl _ _).drew) (by omega) (by omega))
      have HBB := Lib.hid (show ql + 8 + p.n ≤ 140737488355328 by omega)
      have HPB := Lib.hid (fun (u : World) (h : Below wr.drew.heap.size wr.drew u) => Row.keep (Row.keep hpB hb) ((Below.refl wr.heap.size wr).drew.trans h))
      have HCJ := Lib.hid (fun (u : World) (h : Below wr.drew.heap.size wr.drew u) => ((h.cell (p := ⟨b, off + j, none⟩) (World.block_lt_of_cell? wr _ cj)).trans cj))
      have ew : IntKind.u64.wrap (p.n : Int) = (p.n : Int) := by simp only [IntKind.wrap_u64]; omega
      clear hsn hsl hsle hq hqlen hp hc hbd hql
      go_wp2
      go_region_held_law (fun w' => w'.cell? ⟨b, off + j, none⟩ = some (.slice p.A p.n p.c)) (first | exact cj | exact HCJ.out _ (by assumption))
        (first
        | (go_simp; go_at_call 47; refine (KP.out).mono ?_; rintro e w5 ⟨v5, rfl, hown5, hb5⟩)
        | ((refine step_app8 (by rfl) (.tmp 18) (.tmp 22) (by rfl) wr.drew.heap.size v5 (ql + 8) (q ++ be64 p.n) (by rfl) hown5 p.A p.n p.c p.l (by rfl) (HPB.out _ hb5) HBB.out hb5.size ?_); intro v6 w6 hown6 hg6; have hb6 : Below wr.drew.heap.size wr.drew w6 := hb5.grown hg6 hb5.size (fun k hk => (hown5.lt k hk).1)))
      have hbw : Below w.heap.size w w6 := hb.trans (((Below.refl wr.heap.size wr).drew.trans hb6).mono hb.size)
      have HR6 := (HR.keep (Below.refl wr.heap.size wr).drew HR.lt).keep hb6 HR.lt
      obtain ⟨A6, c6, rfl, hr6⟩ := Row.own hown6
      clear hown5 hg6 hb5 hown6 cj
      go_wp2
      go_roundw
      case rel =>
        refine ⟨j + 1, A6, c6, by omega, by go_num, by rw [HSN.out.2], ?_, HR6, hbw⟩
        rw [HSN.out.2, HSN.out.1]
        exact hr6
      case measure => simp [intOf]; omega
    · obtain rfl : j = n := by omega
      have hqq : q = partsN ps := by rw [hq, List.take_of_length_le (Nat.le_of_eq HPL.out)]
      have hq46 : ql ≤ 70368744177664 := by have := HSUM.out; omega
      have KS0 := Sha A3 ql c3 q wr hr3 hq46
      obtain ⟨Ks, hKs⟩ : ∃ K, K = (shaN q).map bv := ⟨_, rfl⟩
      have hKl : Ks.length = 32 := by rw [hKs, List.length_map, shaN, sha.keyN_len]
      have SK := Lib.hid (show (Tryd.prog.info? 42).map (·.size) = some Ks.length by rw [hKl]; kernel_rfl)
      have LK := Lib.hid (show ((List.replicate 32 0 : List UInt8).map bv).length = Ks.length by rw [List.length_map, hKl, List.length_replicate])
      have OK := Lib.hid (show ∀ u ∈ Ks, u.oneCell' = true from hKs ▸ one_bv _)
      rw [← hKs] at KS0
      have KS := Lib.hid KS0
      have HKs := Lib.hid (hqq ▸ hKs)
      clear hKs hKl KS0 hq hqq hqlen hql hlt
      go_wp2_with fail
      refine (KS.out).mono ?_
      rintro e w6 ⟨rfl, hb6⟩
      have hbw := hb.trans (hb6.mono hb.size)
      have HR6 := HR.keep hb6 HR.lt
      clear KS hb6 hb HR
      go_wp2_with ((with_reducible refine wpList_store_has rfl 42 (.tmp 2) (.tmp 25) rfl w.heap.size rfl Ks rfl 42 _ HR6 SK.out LK.out OK.out ?_); intro w7 o7 H7)
      refine ret_has Tryd.results27 w.heap.size ?_ 42 Ks H7 _ Tryd.underlying42 rfl SK.out ?_ ⟨by rw [HKs.out], o7.below hbw (Nat.le_refl _)⟩
      · rfl
      · rfl
end refSha
end Go.Proofs.YtgjepiblhpmaiaaDoor
