/-
  Contracts of the reference's Seal and Open.
-/
import Derived.Test.YtekpekmfddbiaaaDoorRefTag
import Derived.Deep.RegionHeld
namespace Go.Proofs.YtekpekmfddbiaaaDoor
open Go.ChangeShapes Go.WideShapes Go.ChangeAt Go.RowKit
set_option linter.unusedVariables false
set_option linter.unusedSimpArgs false

namespace refSeal
set_option maxRecDepth 10000 in
set_option maxHeartbeats 1000000 in
theorem Seal (k : List UInt8) (hk : k.length = 32) (A : Option Addr) (n c : Nat) (l : List UInt8) (B : Option Addr) (m d : Nat) (l' : List UInt8) (hn : n ≤ 8796093022208) (hm : m ≤ 8796093022208) (w : World) (hl : Bytes w A n c l) (hl' : Bytes w B m d l') :
    Calls Tryd.prog 9 #[.agg (k.map bv).toArray, .slice A n c, .slice B m d] w fun e w' => ∃ A' c', e = .returned (.slice A' (m + 16) c') ∧ Bytes w' A' (m + 16) c' (sealN k l l') ∧ Below w.heap.size w w' := by
  have hb1 := (Below.refl w.heap.size w).alloc (Nat.le_refl _) (.cells (k.map bv).toArray 23)
  have HQ1 := Has.new w 23 (k.map bv)
  have HKL := Lib.hid hk
  have HLL := Lib.hid (And.intro hl.len hl'.len)
  have KS := Lib.hid (stream k hk B m d l' (by omega) (w.alloc (.cells (k.map bv).toArray 23)) (hl'.keep hb1))
  go_enter Tryd.func9, Tryd.ntmps9
  go_wp2_with ((with_reducible refine wpList_load_key rfl (.tmp 3) rfl w.heap.size rfl k HKL.out HQ1 ?_))
  refine (KS.out).mono ?_
  rintro e w2 ⟨v2, rfl, hown2, hb2⟩
  have hbw2 := hb1.trans (hb2.mono hb1.size)
  have HQ2 := HQ1.keep hb2 HQ1.lt
  obtain ⟨C, hC⟩ : ∃ C, C = xorN k l' := ⟨_, rfl⟩
  have hCl : C.length = m := by rw [hC, xorN_len, HLL.out.2]
  rw [← hC] at hown2
  obtain ⟨A2, c2, rfl, hr2⟩ := Row.own hown2
  have KT0 := tag k hk A n c l A2 m c2 C (by omega) (by omega) w2 (hl.keep hbw2) hr2
  obtain ⟨T, hTg⟩ : ∃ T, T = tagN k l C := ⟨_, rfl⟩
  rw [← hTg] at KT0
  have KT := Lib.hid KT0
  have HC := Lib.hid (And.intro hC hTg)
  have hs2 := hb2.size
  have hs2' := hbw2.size
  clear KS KT0 hC hTg hr2 hCl HQ1 hb1
  go_wp2_with ((with_reducible refine wpList_load_key rfl (.tmp 3) rfl w.heap.size rfl k HKL.out HQ2 ?_))
  refine (KT.out).mono ?_
  rintro e w3 ⟨v3, rfl, hown3, hb3⟩
  have hbw3 := hbw2.trans (hb3.mono hbw2.size)
  have hown2' := own_keep' hown2 hb3
  obtain ⟨A3, c3, rfl, hr3⟩ := Row.own hown3
  have HB := Lib.hid (show m + 16 ≤ 140737488355328 by omega)
  have HS := Lib.hid (Nat.le_trans hs2 hb3.size)
  clear KT hown2 hown3
  go_wp2_with (at_builtin; (refine app8 rfl (.tmp 16) (.tmp 17) rfl _ (.slice A2 m c2) m C rfl hown2' A3 16 c3 T rfl hr3 HB.out HS.out ?_); intro v4 w4 hown4 hg4)
  have hlt := hown2'.lt
  obtain ⟨A4, c4, rfl, hr4⟩ := Row.own hown4
  go_ret
  refine ⟨A4, c4, rfl, by rw [sealN, ← HC.out.1, ← HC.out.2]; exact hr4, hbw3.grown hg4 hbw3.size (fun k hk => ?_)⟩
  have := (hlt k hk).1
  simp at this
  omega
set_option maxRecDepth 10000 in
set_option maxHeartbeats 1000000 in
theorem OpenShort (k : List UInt8) (hk : k.length = 32) (A : Option Addr) (n c : Nat) (l : List UInt8) (B : Option Addr) (m d : Nat) (b : List UInt8) (hm : m < 16) (w : World) (hl' : Bytes w B m d b) :
    Calls Tryd.prog 10 #[.agg (k.map bv).toArray, .slice A n c, .slice B m d] w fun e w' => ∃ A' n' c', e = .returned (.tuple #[.slice A' n' c', .bool (openOk k l b)]) ∧ Bytes w' A' n' c' (openN k l b) ∧ Below w.heap.size w w' := by
  have hb1 := (Below.refl w.heap.size w).alloc (Nat.le_refl _) (.cells (k.map bv).toArray 23)
  have hd1 : (m : Int) < 16 := by omega
  have ho := open_short k l b (by rw [hl'.len]; exact hm)
  rw [ho.1, ho.2]
  clear ho
  go_enter Tryd.func10, Tryd.ntmps10
  go_wp2_with fail
  go_ret2
  exact ⟨none, 0, 0, rfl, Row.nil _, hb1⟩
set_option maxRecDepth 10000 in
set_option maxHeartbeats 1000000 in
theorem OpenLong (k : List UInt8) (hk : k.length = 32) (A : Option Addr) (n c : Nat) (l : List UInt8) (bb off p d : Nat) (b : List UInt8) (hn : n ≤ 8796093022208) (hp : p ≤ 8796093022208) (w : World) (hl : Bytes w A n c l) (hl' : Bytes w (some ⟨bb, off, none⟩) (p + 16) d b) :
    Calls Tryd.prog 10 #[.agg (k.map bv).toArray, .slice A n c, .slice (some ⟨bb, off, none⟩) (p + 16) d] w fun e w' => ∃ A' n' c', e = .returned (.tuple #[.slice A' n' c', .bool (openOk k l b)]) ∧ Bytes w' A' n' c' (openN k l b) ∧ Below w.heap.size w w' := by
  have hb1 := (Below.refl w.heap.size w).alloc (Nat.le_refl _) (.cells (k.map bv).toArray 23)
  have HQ1 := Has.new w 23 (k.map bv)
  have hbl := hl'.len
  have hpd16 : p + 16 ≤ d := hl'.2.1
  obtain ⟨U, hU⟩ : ∃ U, U = b.take p := ⟨_, rfl⟩
  obtain ⟨V, hV⟩ : ∃ V, V = b.drop p := ⟨_, rfl⟩
  have hVl : V.length = 16 := by rw [hV, List.length_drop]; omega
  have hbU : Bytes w (some ⟨bb, off, none⟩) p d U := by rw [hU]; exact hl'.head p (by omega)
  have hbV : Bytes w (some ⟨bb, off + p, none⟩) 16 (d - p) V := by
    have h := hl'.tail p (by omega)
    rw [show p + 16 - p = 16 by omega] at h
    rw [hV]; exact h
  obtain ⟨T, hTg⟩ : ∃ T, T = tagN k l U := ⟨_, rfl⟩
  have hTl : T.length = 16 := by rw [hTg, tagN_len]
  have hd1 : ¬ (p : Int) + 16 < 16 := by omega
  have hpd : ¬ p = d := by omega
  have hpd' : ¬ d = p := by omega
  have hp0 : (0 : Int) ≤ (p : Int) := by omega
  have hpd2 : (p : Int) ≤ (d : Int) := by omega
  have hpd3 : (p : Int) ≤ (p : Int) + 16 := by omega
  have hpd4 : (p : Int) + 16 ≤ (d : Int) := by omega
  have ewp : IntKind.i64.wrap (p : Int) = (p : Int) := by rw [IntKind.wrap_i64]; omega
  have KT0 := tag k hk A n c l (some ⟨bb, off, none⟩) p d U (by omega) (by omega) (w.alloc (.cells (k.map bv).toArray 23)).drew (hl.keep hb1.drew) (hbU.keep hb1.drew)
  rw [← hTg] at KT0
  have KT := Lib.hid KT0
  have hst : ∀ u, Bytes u (some ⟨bb, off + p, none⟩) 16 (d - p) V → (convert 24 9 (.slice (some ⟨bb, off + p, none⟩) 16 (d - p))).run Tryd.prog u = .ok (.string (str V)) u := fun u h => run_str Tryd.underlying24 Tryd.underlying5 Tryd.underlying9 h
  have HST := Lib.hid (fun (u : World) (A2 : Option Addr) (c2 : Nat) (h : Row u A2 16 c2 (T.map bv)) => show (convert 24 9 (.slice A2 16 c2)).run Tryd.prog u = .ok (.string (str T)) u from run_str Tryd.underlying24 Tryd.underlying5 Tryd.underlying9 h)
  have hu2 := Tryd.underlying23
  have hi2 : (Tryd.prog.info? 23).map (·.size) = some (k.map bv).length := by rw [List.length_map, hk]; exact size_key
  have HRG := Lib.hid (fun (u : World) (h : Below (w.alloc (.cells (k.map bv).toArray 23)).drew.heap.size (w.alloc (.cells (k.map bv).toArray 23)).drew u) => And.intro (Has.range (Has.keep (w := (w.alloc (.cells (k.map bv).toArray 23)).drew) HQ1 h HQ1.lt) 0 (k.map bv) (by rw [List.drop_zero, List.take_length])) (hst u ((hbV.keep hb1.drew).keep h)))
  have HR0 := Lib.hid (Below.refl (w.alloc (.cells (k.map bv).toArray 23)).drew.heap.size (w.alloc (.cells (k.map bv).toArray 23)).drew)
  have HB1 := Lib.hid hb1.drew
  have HKL := Lib.hid hk
  have HU := Lib.hid (And.intro hU hbU)
  have HV := Lib.hid (And.intro hV hTg)
  have HBL := Lib.hid hbl
  have HQ := Lib.hid (show Has (w.alloc (.cells (k.map bv).toArray 23)).drew w.heap.size 23 (k.map bv) from HQ1)
  clear hU hV hTg hbV KT0 HQ1 hb1 hbl hbU hl' hst
  by_cases hTV : T = V
  · have hcmp : ((str T).toList == (str V).toList) = true := by simp [hTV]
    have HTV := Lib.hid hTV
    clear hTV
    go_enter Tryd.func10, Tryd.ntmps10
    go_wp2_with fail
    go_region_held (fun w' => w'.rangeAt w.heap.size 0 (k.map bv) ∧ (convert 24 9 (.slice (some ⟨bb, off + p, none⟩) 16 (d - p))).run Tryd.prog w' = .ok (.string (str V)) w')
      (first | exact HRG.out _ HR0.out | exact HRG.out _ hb2)
      ((go_at_call 15; with_reducible refine (KT.out).mono ?_; rintro e w2 ⟨v2, rfl, hown2, hb2⟩; obtain ⟨A2, c2, rfl, hr2⟩ := Row.own hown2; have hst2 := HST.out w2 A2 c2 hr2))
    have hbw2 := HB1.out.trans (hb2.mono HB1.out.size)
    have HQ2 := HQ.out.keep hb2 HQ.out.lt
    have KS := Lib.hid (stream k HKL.out (some ⟨bb, off, none⟩) p d U (by omega) w2 (HU.out.2.keep hbw2))
    have ho := open_right k l b (by rw [HBL.out]; omega) (by rw [HBL.out, Nat.add_sub_cancel, ← HU.out.1, ← HV.out.1, ← HV.out.2]; exact HTV.out)
    rw [HBL.out, Nat.add_sub_cancel, ← HU.out.1] at ho
    have HO := Lib.hid ho
    clear ho HRG HR0 HB1 KT HQ hb2 hown2 hr2 hst2
    go_wp2_with ((with_reducible refine wpList_load_key rfl (.tmp 3) rfl w.heap.size rfl k HKL.out HQ2 ?_))
    refine (KS.out).mono ?_
    rintro e w3 ⟨v3, rfl, hown3, hb3⟩
    obtain ⟨A3, c3, rfl, hr3⟩ := Row.own hown3
    clear KS HQ2 hown3
    go_wp2_with fail
    go_ret2
    exact ⟨A3, p, c3, by rw [HO.out.1]; rfl, by rw [HO.out.2]; exact hr3, hbw2.trans (hb3.mono hbw2.size)⟩
  · have hcmp : ((str T).toList == (str V).toList) = false := by rw [str_toList, str_toList]; simp [hTV]
    have HTV := Lib.hid hTV
    clear hTV
    go_enter Tryd.func10, Tryd.ntmps10
    go_wp2_with fail
    go_region_held (fun w' => w'.rangeAt w.heap.size 0 (k.map bv) ∧ (convert 24 9 (.slice (some ⟨bb, off + p, none⟩) 16 (d - p))).run Tryd.prog w' = .ok (.string (str V)) w')
      (first | exact HRG.out _ HR0.out | exact HRG.out _ hb2)
      ((go_at_call 15; with_reducible refine (KT.out).mono ?_; rintro e w2 ⟨v2, rfl, hown2, hb2⟩; obtain ⟨A2, c2, rfl, hr2⟩ := Row.own hown2; have hst2 := HST.out w2 A2 c2 hr2))
    have hbw2 := HB1.out.trans (hb2.mono HB1.out.size)
    have ho := open_wrong k l b (by rw [HBL.out, Nat.add_sub_cancel, ← HU.out.1, ← HV.out.1, ← HV.out.2]; exact HTV.out)
    have HO := Lib.hid ho
    clear ho HRG HR0 HB1 KT HQ hb2 hown2 hr2 hst2
    go_wp2_with fail
    go_ret2
    exact ⟨none, 0, 0, by rw [HO.out.1]; rfl, by rw [HO.out.2]; exact Row.nil _, hbw2⟩
theorem Open (k : List UInt8) (hk : k.length = 32) (A : Option Addr) (n c : Nat) (l : List UInt8) (B : Option Addr) (m d : Nat) (b : List UInt8) (hn : n ≤ 8796093022208) (hm : m ≤ 8796093022208) (w : World) (hl : Bytes w A n c l) (hl' : Bytes w B m d b) :
    Calls Tryd.prog 10 #[.agg (k.map bv).toArray, .slice A n c, .slice B m d] w fun e w' => ∃ A' n' c', e = .returned (.tuple #[.slice A' n' c', .bool (openOk k l b)]) ∧ Bytes w' A' n' c' (openN k l b) ∧ Below w.heap.size w w' := by
  by_cases h : m < 16
  · exact OpenShort k hk A n c l B m d b h w hl'
  · obtain ⟨p, rfl⟩ : ∃ p, m = p + 16 := ⟨m - 16, by omega⟩
    obtain ⟨bb, off, rfl, _, _⟩ := hl'.at_ (by omega)
    exact OpenLong k hk A n c l bb off p d b hn (by omega) w hl hl'
end refSeal
end Go.Proofs.YtekpekmfddbiaaaDoor
