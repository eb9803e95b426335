/-
  Contract of the reference's tag and Seal.
-/
import Derived.Test.YtekpekmfddbiaaaDoorRefStream
import Derived.Test.YtekpekmfddbiaaaDoorStepApp
import Derived.Deep.Cut
namespace Go.Proofs.YtekpekmfddbiaaaDoor
open Go.ChangeShapes Go.WideShapes Go.ChangeAt Go.RowKit
set_option linter.unusedVariables false
set_option linter.unusedSimpArgs false

namespace refSeal
set_option maxRecDepth 10000 in
set_option maxHeartbeats 1600000 in
theorem tag (k : List UInt8) (hk : k.length = 32) (A : Option Addr) (n c : Nat) (l : List UInt8) (B : Option Addr) (m d : Nat) (l' : List UInt8) (hn : n ≤ 17592186044416) (hm : m ≤ 17592186044416) (w : World) (hl : Bytes w A n c l) (hl' : Bytes w B m d l') :
    Calls Tryd.prog 15 #[.agg (k.map bv).toArray, .slice A n c, .slice B m d] w fun e w' => ∃ v, e = .returned v ∧ w'.ownsRow w.heap.size 5 1 v 16 ((tagN k l l').map bv) ∧ Below w.heap.size w w' := by
  have hb1 := (Below.refl w.heap.size w).alloc (Nat.le_refl _) (.cells (k.map bv).toArray 23)
  have HQ1 := Has.new w 23 (k.map bv)
  have HKL := Lib.hid hk
  have hll := hl.len
  have hll' := hl'.len
  have hl1 := litK (w.alloc (.cells (k.map bv).toArray 23)) 116 (by omega)
  rw [show (w.alloc (.cells (k.map bv).toArray 23)).heap.size = w.heap.size + 1 by simp] at hl1
  have hbl : Below w.heap.size w ((w.alloc (.cells (k.map bv).toArray 23)).alloc (.cells #[.int .u8 116] 5)) := hb1.alloc hb1.size _
  have KP := Lib.hid (refPut.put64 (some ⟨w.heap.size + 1, 0, none⟩) 1 1 [116] n _ hl1 (by omega) (by omega))
  have HBB := Lib.hid (show 1 + 8 + n ≤ 140737488355328 by omega)
  go_enter Tryd.func15, Tryd.ntmps15
  go_wp2_with fail
  refine (KP.out).mono ?_
  rintro e w3 ⟨v3, rfl, hown3, hb3⟩
  have hbw3 := hbl.trans (hb3.mono hbl.size)
  have HQ3 := (HQ1.alloc (.cells #[.int .u8 116] 5)).keep hb3 (HQ1.alloc _).lt
  have hl3 := hl.keep hbw3
  have hown3' := own_base (base' := w.heap.size + 1) hown3 (by simp)
  have hs3 : w.heap.size + 1 ≤ w3.heap.size := HQ3.lt
  clear KP hown3 hb3 HQ1 hl1 hb1
  go_wp2_with (at_builtin; (refine app8 rfl (.tmp 13) (.tmp 14) rfl (w.heap.size + 1) v3 9 ([116] ++ be64 n) rfl hown3' A n c l rfl hl3 HBB.out hs3 ?_); intro v4 w4 hown4 hg4; have hb4 : Below w.heap.size w w4 := hbw3.grown hg4 hbw3.size (fun k hk => Nat.le_of_succ_le (hown3'.lt k hk).1); have HQ4 := HQ3.grown hg4 (fun e => by have := (hown3'.lt _ e.symm).1; omega))
  have hl4 := hl'.keep hb4
  obtain ⟨T, hT'⟩ : ∃ T, T = ([116] ++ be64 n) ++ l ++ l' := ⟨_, rfl⟩
  obtain ⟨N, hN⟩ : ∃ N, N = 9 + n + m := ⟨_, rfl⟩
  obtain ⟨R, hR⟩ : ∃ R, R = macN k T := ⟨_, rfl⟩
  have hRl : R.length = 32 := by rw [hR, macN_len]
  have htag : tagN k l l' = R.take 16 := by rw [tagN, hR, hT', hll]
  have KM := Lib.hid (fun (A9 : Option Addr) (c9 : Nat) (u : World) (HQ : Has u w.heap.size 23 (k.map bv)) (h : Row u A9 (9 + n + m) c9 ((([116] ++ be64 n) ++ l ++ l').map bv)) => show Calls Tryd.prog 20 #[.slice (some ⟨w.heap.size, 0, none⟩) 32 32, .slice A9 (9 + n + m) c9] u fun e w' => e = .returned (.agg (R.map bv).toArray) ∧ Below u.heap.size u w' by
    rw [hR, hT']
    exact refMac.Mac _ 32 32 k A9 _ c9 _ u (HQ.bytes 32 HKL.out (by simp [maxLen])) h (by omega) (by omega))
  have hr0 := Below.refl w4.heap.size w4
  have hs4 : w.heap.size + 1 ≤ w4.heap.size := HQ4.lt
  have HOW1 := Lib.hid (show (w4.alloc (.cells #[.int .u8 0, .int .u8 0, .int .u8 0, .int .u8 0, .int .u8 0, .int .u8 0, .int .u8 0, .int .u8 0, .int .u8 0, .int .u8 0, .int .u8 0, .int .u8 0, .int .u8 0, .int .u8 0, .int .u8 0, .int .u8 0, .int .u8 0, .int .u8 0, .int .u8 0, .int .u8 0, .int .u8 0, .int .u8 0, .int .u8 0, .int .u8 0, .int .u8 0, .int .u8 0, .int .u8 0, .int .u8 0, .int .u8 0, .int .u8 0, .int .u8 0, .int .u8 0] 23)).drew.ownsRow (w.heap.size + 1) 5 1 v4 (9 + n) ((([116] ++ be64 n) ++ l).map bv) from own_keep' hown4 (newKey_below hr0 (Nat.le_refl _)).drew)
  have HOW2 := Lib.hid (show w4.drew.ownsRow (w.heap.size + 1) 5 1 v4 (9 + n) ((([116] ++ be64 n) ++ l).map bv) from own_keep' hown4 hr0.drew)
  have HL1 := Lib.hid (show Bytes (w4.alloc (.cells #[.int .u8 0, .int .u8 0, .int .u8 0, .int .u8 0, .int .u8 0, .int .u8 0, .int .u8 0, .int .u8 0, .int .u8 0, .int .u8 0, .int .u8 0, .int .u8 0, .int .u8 0, .int .u8 0, .int .u8 0, .int .u8 0, .int .u8 0, .int .u8 0, .int .u8 0, .int .u8 0, .int .u8 0, .int .u8 0, .int .u8 0, .int .u8 0, .int .u8 0, .int .u8 0, .int .u8 0, .int .u8 0, .int .u8 0, .int .u8 0, .int .u8 0, .int .u8 0] 23)).drew B m d l' from hl4.keep (newKey_below hr0 (Nat.le_refl _)).drew)
  have HL2 := Lib.hid (show Bytes w4.drew B m d l' from hl4.keep hr0.drew)
  have HZ1 := Lib.hid (show Has (w4.alloc (.cells #[.int .u8 0, .int .u8 0, .int .u8 0, .int .u8 0, .int .u8 0, .int .u8 0, .int .u8 0, .int .u8 0, .int .u8 0, .int .u8 0, .int .u8 0, .int .u8 0, .int .u8 0, .int .u8 0, .int .u8 0, .int .u8 0, .int .u8 0, .int .u8 0, .int .u8 0, .int .u8 0, .int .u8 0, .int .u8 0, .int .u8 0, .int .u8 0, .int .u8 0, .int .u8 0, .int .u8 0, .int .u8 0, .int .u8 0, .int .u8 0, .int .u8 0, .int .u8 0] 23)).drew w4.heap.size 23 zkey from newKey w4)
  have HQ1 := Lib.hid (show Has (w4.alloc (.cells #[.int .u8 0, .int .u8 0, .int .u8 0, .int .u8 0, .int .u8 0, .int .u8 0, .int .u8 0, .int .u8 0, .int .u8 0, .int .u8 0, .int .u8 0, .int .u8 0, .int .u8 0, .int .u8 0, .int .u8 0, .int .u8 0, .int .u8 0, .int .u8 0, .int .u8 0, .int .u8 0, .int .u8 0, .int .u8 0, .int .u8 0, .int .u8 0, .int .u8 0, .int .u8 0, .int .u8 0, .int .u8 0, .int .u8 0, .int .u8 0, .int .u8 0, .int .u8 0] 23)).drew w.heap.size 23 (k.map bv) from HQ4.alloc (.cells #[.int .u8 0, .int .u8 0, .int .u8 0, .int .u8 0, .int .u8 0, .int .u8 0, .int .u8 0, .int .u8 0, .int .u8 0, .int .u8 0, .int .u8 0, .int .u8 0, .int .u8 0, .int .u8 0, .int .u8 0, .int .u8 0, .int .u8 0, .int .u8 0, .int .u8 0, .int .u8 0, .int .u8 0, .int .u8 0, .int .u8 0, .int .u8 0, .int .u8 0, .int .u8 0, .int .u8 0, .int .u8 0, .int .u8 0, .int .u8 0, .int .u8 0, .int .u8 0] 23))
  have HQ2 := Lib.hid (show Has w4.drew w.heap.size 23 (k.map bv) from HQ4)
  have HB1 := Lib.hid (show Below w.heap.size w (w4.alloc (.cells #[.int .u8 0, .int .u8 0, .int .u8 0, .int .u8 0, .int .u8 0, .int .u8 0, .int .u8 0, .int .u8 0, .int .u8 0, .int .u8 0, .int .u8 0, .int .u8 0, .int .u8 0, .int .u8 0, .int .u8 0, .int .u8 0, .int .u8 0, .int .u8 0, .int .u8 0, .int .u8 0, .int .u8 0, .int .u8 0, .int .u8 0, .int .u8 0, .int .u8 0, .int .u8 0, .int .u8 0, .int .u8 0, .int .u8 0, .int .u8 0, .int .u8 0, .int .u8 0] 23)).drew from (newKey_below hb4 hb4.size).drew)
  have HB2 := Lib.hid (show Below w.heap.size w w4.drew from hb4.drew)
  have HSZ := Lib.hid (And.intro (show w.heap.size + 1 ≤ (w4.alloc (.cells #[.int .u8 0, .int .u8 0, .int .u8 0, .int .u8 0, .int .u8 0, .int .u8 0, .int .u8 0, .int .u8 0, .int .u8 0, .int .u8 0, .int .u8 0, .int .u8 0, .int .u8 0, .int .u8 0, .int .u8 0, .int .u8 0, .int .u8 0, .int .u8 0, .int .u8 0, .int .u8 0, .int .u8 0, .int .u8 0, .int .u8 0, .int .u8 0, .int .u8 0, .int .u8 0, .int .u8 0, .int .u8 0, .int .u8 0, .int .u8 0, .int .u8 0, .int .u8 0] 23)).drew.heap.size by simp; omega) (And.intro (show w.heap.size + 1 ≤ w4.drew.heap.size from hs4) hs4))
  have HBD := Lib.hid (show 9 + n + m ≤ 140737488355328 by omega)
  have h4 := Lib.hid (fun k hk => (hown4.lt k hk))
  have HCT := Lib.hid (fun (u : World) (g : Nat) (h : Has u g 23 zkey) => Has.there h 0 (R.map bv).length (by rw [List.length_map, hRl]; decide))
  have hal : ∀ u : World, (u.alloc (.cells #[.int .u8 0, .int .u8 0, .int .u8 0, .int .u8 0, .int .u8 0, .int .u8 0, .int .u8 0, .int .u8 0, .int .u8 0, .int .u8 0, .int .u8 0, .int .u8 0, .int .u8 0, .int .u8 0, .int .u8 0, .int .u8 0, .int .u8 0, .int .u8 0, .int .u8 0, .int .u8 0, .int .u8 0, .int .u8 0, .int .u8 0, .int .u8 0, .int .u8 0, .int .u8 0, .int .u8 0, .int .u8 0, .int .u8 0, .int .u8 0, .int .u8 0, .int .u8 0] 23)).there u.heap.size 0 (R.map bv).length := fun u => Has.there (newKey u) 0 (R.map bv).length (by rw [List.length_map, hRl]; decide)
  have hu2 := Tryd.underlying23
  have hi2 : (Tryd.prog.info? 23).map (·.size) = some (R.map bv).length := by rw [List.length_map, hRl]; exact size_key
  have hone2 := one_bv R
  have HR := Lib.hid (And.intro htag hRl)
  have hS1 := Lib.hid (show (9 + n : Nat) = 9 + n from rfl)
  clear hT' hN hR hRl htag HQ4 hb4 hl4 hr0 hown4 hg4 HQ3 hown3' hl3 hbw3 hbl hll hll' hl hl'
  go_region_held_law (fun _ => True) (trivial)
    (first
    | ((refine step_app8 (by rfl) (.tmp 17) (.tmp 18) (by rfl) (w.heap.size + 1) v4 (9 + n) (([116] ++ be64 n) ++ l) (by rfl) HOW1.out B m d l' (by rfl) HL1.out HBD.out HSZ.out.1 ?_); intro v9 w9 hown9 hg9; have hb9 := HB1.out.grown hg9 HB1.out.size (fun k hk => Nat.le_of_succ_le (h4.out k hk).1); have HQ9 := HQ1.out.grown hg9 (fun e => by have := (h4.out _ e.symm).1; omega); have HZ9 := HZ1.out.grown hg9 (fun e => by have := (h4.out _ e.symm).2; omega); obtain ⟨A9, c9, rfl, hr9⟩ := Row.own hown9)
    | ((refine step_app8 (by rfl) (.tmp 17) (.tmp 18) (by rfl) (w.heap.size + 1) v4 (9 + n) (([116] ++ be64 n) ++ l) (by rfl) HOW2.out B m d l' (by rfl) HL2.out HBD.out HSZ.out.2.1 ?_); intro v9 w9 hown9 hg9; have hb9 := HB2.out.grown hg9 HB2.out.size (fun k hk => Nat.le_of_succ_le (h4.out k hk).1); have HQ9 := HQ2.out.grown hg9 (fun e => by have := (h4.out _ e.symm).1; omega); obtain ⟨A9, c9, rfl, hr9⟩ := Row.own hown9)
    | (go_simp; go_at_call 20; refine (KM.out A9 c9 w9 HQ9 hr9).mono ?_; rintro e w10 ⟨rfl, hb10⟩; have hB10 := hb9.trans (hb10.mono hb9.size); have HZ10 := HZ9.keep hb10 HZ9.lt; have hth := HCT.out w10 _ HZ10)
    | (go_simp; go_at_call 20; refine (KM.out A9 c9 (w9.alloc (.cells #[.int .u8 0, .int .u8 0, .int .u8 0, .int .u8 0, .int .u8 0, .int .u8 0, .int .u8 0, .int .u8 0, .int .u8 0, .int .u8 0, .int .u8 0, .int .u8 0, .int .u8 0, .int .u8 0, .int .u8 0, .int .u8 0, .int .u8 0, .int .u8 0, .int .u8 0, .int .u8 0, .int .u8 0, .int .u8 0, .int .u8 0, .int .u8 0, .int .u8 0, .int .u8 0, .int .u8 0, .int .u8 0, .int .u8 0, .int .u8 0, .int .u8 0, .int .u8 0] 23)) (HQ9.alloc (.cells #[.int .u8 0, .int .u8 0, .int .u8 0, .int .u8 0, .int .u8 0, .int .u8 0, .int .u8 0, .int .u8 0, .int .u8 0, .int .u8 0, .int .u8 0, .int .u8 0, .int .u8 0, .int .u8 0, .int .u8 0, .int .u8 0, .int .u8 0, .int .u8 0, .int .u8 0, .int .u8 0, .int .u8 0, .int .u8 0, .int .u8 0, .int .u8 0, .int .u8 0, .int .u8 0, .int .u8 0, .int .u8 0, .int .u8 0, .int .u8 0, .int .u8 0, .int .u8 0] 23)) (hr9.keep (newKey_below (Below.refl _ _) (Nat.le_refl _)))).mono ?_; rintro e w10 ⟨rfl, hb10⟩; have hB10 := (newKey_below hb9 hb9.size).trans (hb10.mono (newKey_below hb9 hb9.size).size); have HZ10 := (newKey w9).keep hb10 (newKey w9).lt; have hth := HCT.out w10 _ HZ10)
    | (go_simp; go_at_call 20; refine (KM.out A9 c9 w9 HQ9 hr9).mono ?_; rintro e w10 ⟨rfl, hb10⟩; have hB10 := hb9.trans (hb10.mono hb9.size)))
  all_goals go_upto_region 3 with fail
  all_goals (
    first
    | (change Code.wp _ _ _ _ ((w10.alloc (.cells #[.int .u8 0, .int .u8 0, .int .u8 0, .int .u8 0, .int .u8 0, .int .u8 0, .int .u8 0, .int .u8 0, .int .u8 0, .int .u8 0, .int .u8 0, .int .u8 0, .int .u8 0, .int .u8 0, .int .u8 0, .int .u8 0, .int .u8 0, .int .u8 0, .int .u8 0, .int .u8 0, .int .u8 0, .int .u8 0, .int .u8 0, .int .u8 0, .int .u8 0, .int .u8 0, .int .u8 0, .int .u8 0, .int .u8 0, .int .u8 0, .int .u8 0, .int .u8 0] 23)).setCells w10.heap.size 0 (R.map bv))
       have F := key_new hB10 hB10.size HR.out.2
       have F2 := Lib.hid (And.intro F.2.1 F.2.2)
       clear F
       generalize ((w10.alloc (.cells #[.int .u8 0, .int .u8 0, .int .u8 0, .int .u8 0, .int .u8 0, .int .u8 0, .int .u8 0, .int .u8 0, .int .u8 0, .int .u8 0, .int .u8 0, .int .u8 0, .int .u8 0, .int .u8 0, .int .u8 0, .int .u8 0, .int .u8 0, .int .u8 0, .int .u8 0, .int .u8 0, .int .u8 0, .int .u8 0, .int .u8 0, .int .u8 0, .int .u8 0, .int .u8 0, .int .u8 0, .int .u8 0, .int .u8 0, .int .u8 0, .int .u8 0, .int .u8 0] 23)).setCells w10.heap.size 0 (R.map bv)) = wx at *
       generalize w10.heap.size = g9 at *)
    | (change Code.wp _ _ _ _ (w10.setCells w4.heap.size 0 (R.map bv))
       have F := key_put hB10 HZ10 (Nat.le_of_succ_le HSZ.out.2.2) HR.out.2
       have F2 := Lib.hid (And.intro F.2.1 F.2.2)
       clear F
       generalize (w10.setCells w4.heap.size 0 (R.map bv)) = wx at *
       generalize w4.heap.size = g9 at *)
    | (change Code.wp _ _ _ _ (w10.setCells w9.heap.size 0 (R.map bv))
       have F := key_put hB10 HZ10 hb9.size HR.out.2
       have F2 := Lib.hid (And.intro F.2.1 F.2.2)
       clear F
       generalize (w10.setCells w9.heap.size 0 (R.map bv)) = wx at *
       generalize w9.heap.size = g9 at *)
    obtain ⟨H9, hb9'⟩ := F2.out
    have hS9 : Bytes wx (some ⟨g9, 0, none⟩) 16 32 (R.take 16) := by
      have h := H9.row 0 16 32 (by rw [List.length_map, HR.out.2]; decide) (by decide) (by simp [maxLen])
      rw [List.drop_zero, ← List.map_take] at h
      exact h
    clear F2 H9 hal hi2 hu2 hone2 HCT hb9 HQ9 hown9 hg9 hr9 hb10 hB10
    go_wp2_with (at_builtin; (refine app8 rfl (.const (.slice none 0 0)) (.tmp 21) rfl wx.heap.size (.slice none 0 0) 0 [] rfl (World.ownsRow_nil _ _ _ _) (some ⟨g9, 0, none⟩) 16 32 (R.take 16) rfl hS9 (by decide) (Nat.le_refl _) ?_); intro v12 w12 hown12 hg12)
    rw [Nat.zero_add, List.nil_append] at hown12
    go_ret
    exact ⟨_, rfl, by rw [HR.out.1]; exact own_base hown12 hb9'.size, hb9'.grown hg12 hb9'.size (fun k hk => by cases hk)⟩)
end refSeal
end Go.Proofs.YtekpekmfddbiaaaDoor
