/-
  Contracts of the package's One (chapter 14), of its first, and of what One hands to it.
-/
import Derived.Test.YtjfipijdjbbogaaDoorChainSpec
import Derived.Test.YtjfipijdjbbogaaDoorChTab
import Derived.Test.YtjfipijdjbbogaaDoorLists
import Derived.Test.YtjfipijdjbbogaaDoorPermuteOf
import Derived.Test.YtjfipijdjbbogaaDoorProgNew
import Derived.Test.YtjfipijdjbbogaaDoorItoa
import Derived.Shelf.Abstract
import Derived.Laws.Cover3
import Derived.Deep.RegionHeldLaw
import Derived.Deep.Cut
namespace Go.Proofs.YtjfipijdjbbogaaDoor
open Go.ChangeShapes Go.WideShapes Go.ChangeAt Go.RowKit
set_option linter.unusedVariables false
set_option linter.unusedSimpArgs false

theorem size_i : (Tryd.prog.info? 3).map (·.size) = some 1 := by kernel_rfl
theorem splice_allI {α : Type} (L r : List α) (h : r.length = L.length) : splice L 0 r = r := by
  rw [splice, List.take_zero, List.nil_append, List.drop_of_length_le (by omega), List.append_nil]
theorem fn_one1 : ∀ args w, (callFunc 19 args).run Tryd.prog w = .ok (.enter 19 args) w := enters_of Tryd.func19 (by kernel_rfl) rfl
/-- What One hands to first. -/
theorem chOne1 (gv gs g : Nat) (seed name : List UInt8) (n : Int) (pf : List Int) (ef jf : Nat) (h : orderB seed name n 0 = (pf, ef, jf)) (hs : seed.length = 32) (hn : name.length ≤ 1099511627776) (w : World)
    (HV : Has w gv 3 [.int .i64 n]) (HS : Has w gs 43 [.pointer (some ⟨g, 0, none⟩)]) (H : StrmP w g seed name 0) (hT : Tab w) :
    Calls Tryd.prog 19 #[.pointer (some ⟨gv, 0, none⟩), .pointer (some ⟨gs, 0, none⟩)] w fun e w' => ∃ A m c, e = .returned (.tuple #[.slice A m c, .int .i64 (ef : Int)]) ∧ Ints w' A m c pf ∧ Save g w w' := by
  have K := Lib.hid (permOf g seed name n 0 pf ef jf h (by omega) hs hn w H hT)
  have hc1 : w.cell? ⟨gv, 0, none⟩ = some (.int .i64 n) := HV.cell 0
  have hc2 : w.cell? ⟨gs, 0, none⟩ = some (.pointer (some ⟨g, 0, none⟩)) := HS.cell 0
  clear h hs hn H hT HV HS
  go_enter Tryd.func19, Tryd.ntmps19
  go_wp2_with fail
  refine (K.out).mono ?_
  rintro e w' ⟨A, m, c, rfl, hi, _, hsv⟩
  have HI := Lib.hid (And.intro hi hsv)
  clear hi hsv K
  go_wp2_with fail
  go_ret2
  exact ⟨A, m, c, rfl, HI.out.1, HI.out.2⟩
set_option maxHeartbeats 1000000 in
set_option maxRecDepth 10000 in
/-- The first k of the order. -/
theorem chTake (gv gs g B : Nat) (seed name : List UInt8) (n : Int) (k : Nat) (pf : List Int) (ef jf : Nat) (h : orderB seed name n 0 = (pf, ef, jf)) (p : List Int) (hp : (ef = 0 → k ≤ pf.length ∧ p = pf.take k) ∧ (ef ≠ 0 → p = [])) (hk : k ≤ 20) (hs : seed.length = 32) (hn : name.length ≤ 1099511627776) (w : World)
    (HV : Has w gv 3 [.int .i64 n]) (HS : Has w gs 43 [.pointer (some ⟨g, 0, none⟩)]) (H : StrmP w g seed name 0) (hT : Tab w) (hB : B ≤ g) (hBw : B ≤ w.heap.size) :
    Calls Tryd.prog 18 #[.int .i64 (k : Int), .func (.func 19) #[] #[.pointer (some ⟨gv, 0, none⟩), .pointer (some ⟨gs, 0, none⟩)]] w fun e' w' => ∃ A c, e' = .returned (.tuple #[.slice A p.length c, .int .i64 (ef : Int)]) ∧ LI w' ⟨A, p.length, c, p⟩ ∧ Below B w w' := by
  have K := Lib.hid (chOne1 gv gs g seed name n pf ef jf h hs hn w HV HS H hT)
  have eg := fn_one1
  have HB := Lib.hid (And.intro hB hBw)
  clear h hs hn HV HS H hT hB hBw
  by_cases he : ef = 0
  · subst he
    obtain ⟨hkl, rfl⟩ := hp.1 rfl
    clear hp
    obtain ⟨Z, hZ⟩ : ∃ Z : List Int, List.replicate k 0 = Z := ⟨_, rfl⟩
    have hmk := Lib.hid (run_makeI k (by omega))
    have HZ := Lib.hid (show Z.length = k by rw [← hZ, List.length_replicate])
    have HTK := Lib.hid (show (pf.take k).length = k by rw [List.length_take]; omega)
    have HKL := Lib.hid hkl
    have HK := Lib.hid (show k ≤ 1048576 by omega)
    rw [hZ] at hmk
    clear hZ hkl hk
    go_enter Tryd.func18, Tryd.ntmps18
    go_wp2_with fail
    refine (K.out).mono ?_
    rintro e1 w1 ⟨A, m, c, rfl, hi, hsv⟩
    have hm := hi.len
    have hb1 := Save.below (Below.refl B w) hsv HB.out.1 HB.out.2
    have hmk1 := hmk.out w1
    have HBW := Lib.hid (Nat.le_trans HB.out.2 hb1.size)
    have H1 := Lib.hid (Has.new w1 3 (Z.map iv))
    have hb2 := Lib.hid (hb1.alloc HBW.out (.cells (Z.map iv).toArray 3))
    have HI := Lib.hid (show Row _ A m c (pf.map iv) from hi.keep ((Below.refl w1.heap.size w1).alloc (Nat.le_refl _) (.cells (Z.map iv).toArray 3)))
    have HMK := Lib.hid (show k = Nat.min m k by have := HKL.out; show k = min m k; omega)
    have HZK := Lib.hid (show 0 + k ≤ (Z.map iv).length by rw [List.length_map, HZ.out]; omega)
    have HON := Lib.hid (one_iv pf)
    clear hi hsv K hm hb1 hmk
    go_wp2_with ((with_reducible refine wpList_copy_has rfl (.tmp 19) (.tmp 20) 34 34 rfl 3 Tryd.underlying34 size_i w1.heap.size 0 k k rfl A m c rfl (pf.map iv) HI.out 3 (Z.map iv) H1.out k HMK.out HZK.out HON.out ?_); intro w4 o4 H4)
    rw [← List.map_take, splice_allI _ _ (by rw [List.length_map, List.length_map, HTK.out, HZ.out])] at H4
    have H4' := Lib.hid H4
    have HB4 := Lib.hid (o4.below hb2.out HBW.out)
    clear H4 o4 H1 hb2
    go_wp2_with fail
    go_ret2
    rw [HTK.out]
    exact ⟨_, k, rfl, ⟨Has.ints H4'.out HTK.out HK.out, fun x hx => by cases hx; exact ⟨_, _, H4'.out⟩⟩, HB4.out⟩
  · obtain rfl := hp.2 he
    clear hp
    have hef : ((ef : Int) == 0) = false := by simp; exact he
    have he0 : ¬ ef = 0 := he
    clear he
    go_enter Tryd.func18, Tryd.ntmps18
    go_wp2_with fail
    refine (K.out).mono ?_
    rintro e1 w1 ⟨A, m, c, rfl, hi, hsv⟩
    have hb1 := Lib.hid (Save.below (Below.refl B w) hsv HB.out.1 HB.out.2)
    clear hi hsv K
    go_wp2_with fail
    go_ret2
    exact ⟨none, 0, rfl, ⟨Ints.nil _, fun x hx => by cases hx⟩, hb1.out⟩
theorem nameC_strP (chain : Int) : str (nameC chain) = (⟨#[99, 104, 97, 105, 110, 32]⟩ : ByteArray) ++ str (Lib.itoa chain) := by
  apply ByteArray.ext
  simp [str, nameC]
theorem str_sizeP (a : List UInt8) : (str a).size = a.length := by simp [str, ByteArray.size]
set_option maxHeartbeats 1000000 in
set_option maxRecDepth 10000 in
theorem chOneBad (seed : List UInt8) (servers chain k : Int) (h : badC servers chain k) (w : World) :
    Calls Tryd.prog 11 #[.agg (seed.map bv).toArray, .int .i64 servers, .int .i64 chain, .int .i64 k] w fun e' w' => e' = .returned (.tuple #[.slice none 0 0, .int .i64 1]) ∧ Below w.heap.size w w' := by
  have hb0 := (Below.refl w.heap.size w).alloc (Nat.le_refl _) (.cells (seed.map bv).toArray 23)
  have hb := hb0.alloc hb0.size (.cells #[.int .i64 servers] 3)
  clear hb0
  by_cases h1 : servers < 1
  · clear h
    go_enter Tryd.func11, Tryd.ntmps11
    go_wp2_with fail
    go_ret2
    exact ⟨rfl, hb⟩
  by_cases h2 : 1000 < servers
  · clear h
    go_enter Tryd.func11, Tryd.ntmps11
    go_wp2_with fail
    go_ret2
    exact ⟨rfl, hb⟩
  by_cases h3 : k < 1
  · clear h
    go_enter Tryd.func11, Tryd.ntmps11
    go_wp2_with fail
    go_ret2
    exact ⟨rfl, hb⟩
  by_cases h4 : 20 < k
  · clear h
    go_enter Tryd.func11, Tryd.ntmps11
    go_wp2_with fail
    go_ret2
    exact ⟨rfl, hb⟩
  by_cases h5 : servers < k
  · clear h
    go_enter Tryd.func11, Tryd.ntmps11
    go_wp2_with fail
    go_ret2
    exact ⟨rfl, hb⟩
  have h6 : chain < 0 := by unfold badC at h; omega
  clear h
  go_enter Tryd.func11, Tryd.ntmps11
  go_wp2_with fail
  go_ret2
  exact ⟨rfl, hb⟩
set_option maxHeartbeats 1000000 in
set_option maxRecDepth 10000 in
theorem chOne (seed : List UInt8) (hs : seed.length = 32) (servers chain k : Int) (h0 : -9223372036854775808 ≤ chain) (h1 : chain ≤ 9223372036854775807) (p : List Int) (e : Nat) (h : oneB seed servers chain k = (p, e)) (w : World) (hT : TabC w) :
    Calls Tryd.prog 11 #[.agg (seed.map bv).toArray, .int .i64 servers, .int .i64 chain, .int .i64 k] w fun e' w' => ∃ A c, e' = .returned (.tuple #[.slice A p.length c, .int .i64 (e : Int)]) ∧ LI w' ⟨A, p.length, c, p⟩ ∧ Below w.heap.size w w' := by
  by_cases hbad : badC servers chain k
  · rw [oneB_bad hbad] at h
    cases h
    exact (chOneBad seed servers chain k hbad w).mono fun e' w' h => ⟨none, 0, h.1, ⟨Ints.nil _, fun x hx => by cases hx⟩, h.2⟩
  have hns : 1 ≤ servers ∧ servers ≤ 1000 ∧ 1 ≤ k ∧ k ≤ 20 ∧ k ≤ servers ∧ 0 ≤ chain := by unfold badC at hbad; omega
  obtain ⟨k, rfl⟩ : ∃ m : Nat, k = (m : Int) := ⟨k.toNat, by omega⟩
  obtain ⟨servers, rfl⟩ : ∃ m : Nat, servers = (m : Int) := ⟨servers.toNat, by omega⟩
  have f1 : ¬ (servers : Int) < 1 := by omega
  have f2 : ¬ 1000 < (servers : Int) := by omega
  have f3 : ¬ (k : Int) < 1 := by omega
  have f4 : ¬ 20 < (k : Int) := by omega
  have f5 : ¬ (servers : Int) < (k : Int) := by omega
  have f6 : ¬ chain < 0 := by omega
  obtain ⟨⟨po, eo, jo⟩, ho⟩ : ∃ r : List Int × Nat × Nat, orderB seed (nameC chain) servers 0 = r := ⟨_, rfl⟩
  obtain ⟨s, hss⟩ : ∃ s, str (Lib.itoa chain) = s := ⟨_, rfl⟩
  have hnl := nameC_len chain h0 h1
  have hz : ¬ 9223372036854775807 < 6 + s.size := by
    rw [← hss, str_sizeP]
    have := Lib.itoa_length_le chain h0 h1
    omega
  have hee : e = eo ∧ (eo = 0 → k ≤ po.length ∧ p = po.take k) ∧ (eo ≠ 0 → p = []) := by
    by_cases he : eo = 0
    · subst he
      have hor := orderB_in (seed := seed) (name := nameC chain) (show servers ≤ 1000 by omega) 0
      rw [ho] at hor
      have hpo : Ord po servers := by
        rcases hor with h | h
        · exact h.2
        · exact absurd h.1 (by show ¬ (0 : Nat) = 9; omega)
      rw [oneB_hit hbad ho, Int.toNat_natCast] at h
      obtain ⟨e1, e2⟩ := Prod.mk.inj h
      exact ⟨e2.symm, fun _ => ⟨by rw [hpo.1]; omega, e1.symm⟩, fun h => absurd rfl h⟩
    · rw [oneB_miss hbad ho he] at h
      obtain ⟨e1, e2⟩ := Prod.mk.inj h
      exact ⟨e2.symm, fun h => absurd h he, fun _ => e1.symm⟩
  obtain ⟨rfl, hp⟩ := hee
  clear h
  have hb0 := (Below.refl w.heap.size w).alloc (Nat.le_refl _) (.cells (seed.map bv).toArray 23)
  have H0 := (Has.new w 23 (seed.map bv)).alloc (.cells #[.int .i64 (servers : Int)] 3)
  have H1 := Has.new (w.alloc (.cells (seed.map bv).toArray 23)) 3 [.int .i64 (servers : Int)]
  have hbW := hb0.alloc hb0.size (.cells #[.int .i64 (servers : Int)] 3)
  have hsz0 : (w.alloc (.cells (seed.map bv).toArray 23)).heap.size = w.heap.size + 1 := by simp
  rw [hsz0] at H1
  obtain ⟨W, hW⟩ : ∃ x, (w.alloc (.cells (seed.map bv).toArray 23)).alloc (.cells #[.int .i64 (servers : Int)] 3) = x := ⟨_, rfl⟩
  have hWs : W.heap.size = w.heap.size + 2 := by rw [← hW]; simp
  rw [show (w.alloc (.cells (seed.map bv).toArray 23)).alloc (.cells [.int .i64 (servers : Int)].toArray 3) = W from hW] at H1
  rw [hW] at H0 hbW
  have hTW := hT.keep hbW
  have hbD : Below W.heap.size W.drew W.drew := Below.refl _ _
  have KD := Lib.hid (fun (u : World) (hu : Below W.heap.size W.drew u) => show Calls Tryd.prog 17 #[.int .i64 chain] u (fun e w' => e = .returned (.string s) ∧ Below u.heap.size u w' ∧ Below W.heap.size W.drew w') from by
    have h := progItoa chain h0 h1 u (show Pow u from Pow.keep (w := W.drew) hTW.2 hu)
    rw [hss] at h
    exact h.mono fun e w' h => ⟨h.1, h.2, hu.trans (h.2.mono hu.size)⟩)
  have KN := Lib.hid (fun (u : World) (hu : Below W.heap.size W.drew u) => show Calls Tryd.prog 16 #[.agg (seed.map bv).toArray, .string ((⟨#[99, 104, 97, 105, 110, 32]⟩ : ByteArray) ++ s)] u (fun e w' => ∃ g, e = .returned (.pointer (some ⟨g, 0, none⟩)) ∧ StrmP w' g seed (nameC chain) 0 ∧ u.heap.size ≤ g ∧ W.heap.size ≤ g ∧ Below u.heap.size u w' ∧ Below W.heap.size W.drew w') from by
    have h := progNew' seed (nameC chain) hs hnl u
    rw [nameC_strP, hss] at h
    exact h.mono fun e w' h => by
      obtain ⟨g, h1, h2, h3, h4⟩ := h
      exact ⟨g, h1, h2, h3, Nat.le_trans hu.size h3, h4, hu.trans (h4.mono hu.size)⟩)
  have KF := Lib.hid (fun (gs g : Nat) (u : World) (HS : Has u gs 43 [.pointer (some ⟨g, 0, none⟩)]) (H : StrmP u g seed (nameC chain) 0) (hg : W.heap.size ≤ g) (hu : Below W.heap.size W.drew u) =>
    show Calls Tryd.prog 18 #[.int .i64 (k : Int), .func (.func 19) #[] #[.pointer (some ⟨w.heap.size + 1, 0, none⟩), .pointer (some ⟨gs, 0, none⟩)]] u (fun e' w' => ∃ A c, e' = .returned (.tuple #[.slice A p.length c, .int .i64 (e : Int)]) ∧ LI w' ⟨A, p.length, c, p⟩ ∧ Below w.heap.size w w') from
    (chTake (w.heap.size + 1) gs g W.heap.size seed (nameC chain) servers k po e jo ho p hp (by omega) hs hnl u (Has.keep (w := W.drew) H1 hu H1.lt) HS H (Tab.keep (w := W.drew) hTW.1 hu) hg hu.size).mono fun e' w' h => by
      obtain ⟨A, c, h1, h2, h3⟩ := h
      exact ⟨A, c, h1, h2, hbW.trans ((show Below W.heap.size W w' from (show Below W.heap.size W W.drew from (Below.refl _ _).drew).trans (hu.trans h3)).mono hbW.size)⟩)
  have hmf : ∀ (fn : Fn) (first cap : Array Value) (w : World), (Instr.makeFunc fn first cap).run Tryd.prog w = .ok (.func fn first cap) w := fun _ _ _ _ => rfl
  have SX := Lib.hid (show (Tryd.prog.info? 23).map (·.size) = some (seed.map bv).length by rw [List.length_map, hs]; exact size_key)
  have HRG := Lib.hid (fun (u : World) (h : Below W.heap.size W.drew u) => Has.range (Has.keep (w := W.drew) H0 h H0.lt) 0 (seed.map bv) (by rw [List.drop_zero, List.take_length]))
  have hu1 := Tryd.underlying23
  have hi1 := SX.out
  have hone1 := one_bv seed
  have hlen1 : (seed.map bv).length = 32 := by rw [List.length_map, hs]
  have HAL := Lib.hid (fun (u : World) (o : Obj) (hu : Below W.heap.size W.drew u) => show Below W.heap.size W.drew (u.alloc o) from hu.alloc hu.size _)
  have HSC := Lib.hid (fun (u : World) (p : Nat) (v : Value) (hu : Below W.heap.size W.drew u) (hp : W.heap.size ≤ p) => show Below W.heap.size W.drew (u.setCell ⟨p, 0, none⟩ v) from hu.setCell hp v)
  have HAD := Lib.hid (show Below W.heap.size W.drew (W.alloc (.cells #[.pointer none] 43)).drew from HAL.out W.drew _ hbD)
  have HCL := Lib.hid (fun (u : World) (gp : Nat) (h : Has u gp 43 [.pointer none]) => show u.cell? ⟨gp, 0, none⟩ = some (.pointer none) from h.cell 0)
  have HPN := Lib.hid (fun (u v : World) (hv : Below (u.alloc (.cells #[.pointer none] 43)).heap.size (u.alloc (.cells #[.pointer none] 43)) v) => show Has v u.heap.size 43 [.pointer none] from Has.keep (Has.new u 43 [.pointer none]) hv (by simp))
  have HPA := Lib.hid (fun (v : World) (hv : Below (W.alloc (.cells #[.pointer none] 43)).drew.heap.size (W.alloc (.cells #[.pointer none] 43)).drew v) => show Has v W.heap.size 43 [.pointer none] from HPN.out W.drew v hv)
  have HW := Lib.hid hW
  clear hs ho hnl hss hbad H0 H1 h0 h1 hT hTW hb0 hbW hsz0 hp hWs hns
  clear hW
  go_enter Tryd.func11, Tryd.ntmps11
  go_upto_region 3 with fail
  rw [HW.out]
  go_region_held_law (fun u => u.rangeAt w.heap.size 0 (seed.map bv)) (first
      | exact HRG.out _ (HSC.out _ W.heap.size _ hb9 (Nat.le_refl _)) | exact HRG.out _ (HSC.out _ w8.heap.size _ hb9 hb8.size) | exact HRG.out _ (HAL.out _ _ hb9) | exact HRG.out _ hb9 | exact HRG.out _ (HAL.out _ _ hb8) | exact HRG.out _ hb8 | exact HRG.out _ HAD.out | exact HRG.out _ hbD)
    (first
    | (go_at_call 16; with_reducible refine (KN.out _ hb8).mono ?_; rintro e9 w9 ⟨g, rfl, X9, hg9, hgW, hx9, hb9⟩; have HP9 := Lib.hid (HP8.out.keep hx9 HP8.out.lt); have hc9 : w9.cell? ⟨W.heap.size, 0, none⟩ = some (.pointer none) := HCL.out _ _ HP9.out; have hf9 := HP9.out.froz 0)
    | (go_at_call 16; with_reducible refine (KN.out _ (HAL.out w8 _ hb8)).mono ?_; rintro e9 w9 ⟨g, rfl, X9, hg9, hgW, hx9, hb9⟩; have HP9 := Lib.hid (HPN.out w8 w9 hx9); have hc9 : w9.cell? ⟨w8.heap.size, 0, none⟩ = some (.pointer none) := HCL.out _ _ HP9.out; have hf9 := HP9.out.froz 0)
    | (go_at_call 16; with_reducible refine (KN.out _ hb8).mono ?_; rintro e9 w9 ⟨g, rfl, X9, hg9, hgW, hx9, hb9⟩)
    | (go_at_call 17; with_reducible refine (KD.out _ HAD.out).mono ?_; rintro e8 w8 ⟨rfl, hx8, hb8⟩; have HP8 := Lib.hid (HPA.out w8 hx8))
    | (go_at_call 17; with_reducible refine (KD.out _ hbD).mono ?_; rintro e8 w8 ⟨rfl, hx8, hb8⟩))
  · have K := Lib.hid (KF.out w9.heap.size g _ (Has.new w9 43 [.pointer (some ⟨g, 0, none⟩)]) (X9.keep ((Below.refl w9.heap.size w9).alloc (Nat.le_refl _) _)) hgW (HAL.out _ _ hb9))
    clear hx9 hb9 hx8 hb8 hg9 hgW X9
    go_wp2_with fail
    refine (K.out).mono ?_
    rintro e' w11 ⟨A, c, rfl, h1, h2⟩
    have HE := Lib.hid (And.intro h1 h2)
    clear h1 h2 K
    go_wp2_with fail
    go_ret2
    exact ⟨A, c, rfl, HE.out.1, HE.out.2⟩
  · have K := Lib.hid (KF.out w8.heap.size g _ (HP9.out.set 0 (.pointer (some ⟨g, 0, none⟩))) (X9.save (Only.setCell w9 w8.heap.size 0 _).save (by simp at hg9; omega) (fun b hb => hb.ne HP9.out (by decide))) hgW (HSC.out _ w8.heap.size _ hb9 hb8.size))
    clear HP9 hc9 hf9 hx9 hb9 hx8 hb8 hg9 hgW X9
    go_wp2_with fail
    refine (K.out).mono ?_
    rintro e' w11 ⟨A, c, rfl, h1, h2⟩
    have HE := Lib.hid (And.intro h1 h2)
    clear h1 h2 K
    go_wp2_with fail
    go_ret2
    exact ⟨A, c, rfl, HE.out.1, HE.out.2⟩
  · have K := Lib.hid (KF.out W.heap.size g _ (HP9.out.set 0 (.pointer (some ⟨g, 0, none⟩))) (X9.save (Only.setCell w9 W.heap.size 0 _).save (by have := HP8.out.lt; omega) (fun b hb => hb.ne HP9.out (by decide))) hgW (HSC.out _ W.heap.size _ hb9 (Nat.le_refl _)))
    clear HP9 HP8 hc9 hf9 hx9 hb9 hx8 hb8 hg9 hgW X9
    go_wp2_with fail
    refine (K.out).mono ?_
    rintro e' w11 ⟨A, c, rfl, h1, h2⟩
    have HE := Lib.hid (And.intro h1 h2)
    clear h1 h2 K
    go_wp2_with fail
    go_ret2
    exact ⟨A, c, rfl, HE.out.1, HE.out.2⟩
end Go.Proofs.YtjfipijdjbbogaaDoor
