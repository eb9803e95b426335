/-
  Contracts of the package's Form (chapter 14), of its each, and of what Form hands to it.
-/
import Derived.Test.YtjfipijdjbbogaaDoorChainsOne
import Derived.Deep.Cut
namespace Go.Proofs.YtjfipijdjbbogaaDoor
open Go.ChangeShapes Go.WideShapes Go.ChangeAt Go.RowKit
set_option linter.unusedVariables false
set_option linter.unusedSimpArgs false

def halfL (n : Nat) (ps : List Li) : List Li := ps ++ List.replicate (n - ps.length) default
theorem halfL_len {n : Nat} {ps : List Li} (h : ps.length ≤ n) : (halfL n ps).length = n := by simp [halfL]; omega
theorem halfL_set {n : Nat} {ps : List Li} (h : ps.length < n) (p : Li) : (halfL n ps).set ps.length p = halfL n (ps ++ [p]) := by
  rw [halfL, halfL, List.set_append_right _ _ (Nat.le_refl _), Nat.sub_self, List.length_append, show n - ps.length = (n - (ps.length + 1)) + 1 by omega, List.replicate_succ, List.set_cons_zero, List.append_assoc]
  rfl
theorem halfL_all {n : Nat} {ps : List Li} (h : ps.length = n) : halfL n ps = ps := by rw [halfL, h, Nat.sub_self, List.replicate_zero, List.append_nil]
theorem fn_form1 : ∀ args w, (callFunc 15 args).run Tryd.prog w = .ok (.enter 15 args) w := enters_of Tryd.func15 (by kernel_rfl) rfl
/-- What Form hands to each. -/
theorem chForm1 (gk gs gn : Nat) (seed : List UInt8) (hs : seed.length = 32) (servers i k : Int) (h0 : -9223372036854775808 ≤ i) (h1 : i ≤ 9223372036854775807) (p : List Int) (e : Nat) (h : oneB seed servers i k = (p, e)) (w : World) (hT : TabC w)
    (HK : Has w gk 23 (seed.map bv)) (HS : Has w gs 3 [.int .i64 servers]) (HN : Has w gn 3 [.int .i64 k]) :
    Calls Tryd.prog 15 #[.int .i64 i, .pointer (some ⟨gk, 0, none⟩), .pointer (some ⟨gs, 0, none⟩), .pointer (some ⟨gn, 0, none⟩)] w fun e' w' => ∃ A c, e' = .returned (.tuple #[.slice A p.length c, .int .i64 (e : Int)]) ∧ LI w' ⟨A, p.length, c, p⟩ ∧ Below w.heap.size w w' := by
  have K := Lib.hid (chOne seed hs servers i k h0 h1 p e h w hT)
  have hc1 : w.cell? ⟨gs, 0, none⟩ = some (.int .i64 servers) := HS.cell 0
  have hc2 : w.cell? ⟨gn, 0, none⟩ = some (.int .i64 k) := HN.cell 0
  have HSL := Lib.hid hs
  clear h h0 h1 hs hT HS HN
  go_enter Tryd.func15, Tryd.ntmps15
  go_wp2_with ((with_reducible refine wpList_load_key rfl (.tmp 1) rfl gk rfl seed HSL.out HK ?_))
  refine (K.out).mono ?_
  rintro e' w' ⟨A, c, rfl, hi, hb⟩
  have HE := Lib.hid (And.intro hi hb)
  clear hi hb K HK
  go_wp2_with fail
  go_ret2
  exact ⟨A, c, rfl, HE.out.1, HE.out.2⟩
set_option maxHeartbeats 1000000 in
set_option maxRecDepth 10000 in
/-- The chains from 0 to n - 1, up to the first error. -/
theorem chEach (gk gs gn : Nat) (seed : List UInt8) (hs : seed.length = 32) (servers n k : Int) (ls : List (List Int)) (ef : Nat) (h : formB seed servers n k = (ls, ef)) (w : World) (hT : TabC w)
    (HGK : Has w gk 23 (seed.map bv)) (HGS : Has w gs 3 [.int .i64 servers]) (HGN : Has w gn 3 [.int .i64 k]) :
    Calls Tryd.prog 14 #[.int .i64 n, .func (.func 15) #[] #[.pointer (some ⟨gk, 0, none⟩), .pointer (some ⟨gs, 0, none⟩), .pointer (some ⟨gn, 0, none⟩)]] w fun e' w' => ∃ A m c, e' = .returned (.tuple #[.slice A m c, .int .i64 (ef : Int)]) ∧ ListsOf w' A m c ls ∧ Below w.heap.size w w' := by
  by_cases hlo : n < 1
  · rw [formB_bad (Or.inl hlo)] at h
    cases h
    clear hs hT HGK HGS HGN
    go_enter Tryd.func14, Tryd.ntmps14
    go_wp2_with fail
    go_ret2
    exact ⟨none, 0, 0, rfl, ListsOf.nil _, Below.refl _ _⟩
  by_cases hhi : 1000 < n
  · rw [formB_bad (Or.inr hhi)] at h
    cases h
    clear hs hT HGK HGS HGN
    go_enter Tryd.func14, Tryd.ntmps14
    go_wp2_with fail
    go_ret2
    exact ⟨none, 0, 0, rfl, ListsOf.nil _, Below.refl _ _⟩
  obtain ⟨n, rfl⟩ : ∃ m : Nat, n = (m : Int) := ⟨n.toNat, by omega⟩
  have hn1 : n ≤ 1000 := by omega
  have hmk := run_makeL n (by omega) w
  obtain ⟨Z, hZ⟩ : ∃ Z : List Li, List.replicate n (default : Li) = Z := ⟨_, rfl⟩
  rw [hZ] at hmk
  have H1 := Has.new w 34 (Z.map Li.val)
  have hb1 := (Below.refl w.heap.size w).alloc (Nat.le_refl _) (.cells (Z.map Li.val).toArray 34)
  have HZ := Lib.hid (show Z = halfL n [] by rw [← hZ]; rfl)
  have HF := Lib.hid h
  have HN := Lib.hid (show ¬ ((n : Int) < 1 ∨ 1000 < (n : Int)) from by omega)
  have KO := Lib.hid (fun (i : Nat) (hi : i < n) (p : List Int) (e : Nat) (h : oneB seed servers (i : Int) k = (p, e)) (u : World) (hu : Below w.heap.size w u) => chForm1 gk gs gn seed hs servers (i : Int) k (by omega) (by omega) p e h u (hT.keep hu) (HGK.keep hu HGK.lt) (HGS.keep hu HGS.lt) (HGN.keep hu HGN.lt))
  obtain ⟨f, hf⟩ : ∃ f, (fun i : Nat => (oneB seed servers (i : Int) k).2) = f := ⟨_, rfl⟩
  have HFF := Lib.hid hf
  have eg := fn_form1
  clear hs h hf hT hZ HGK HGS HGN
  go_enter Tryd.func14, Tryd.ntmps14
  go_wp2_with fail
  go_loopw [20] (fun v wr => ∃ (i : Nat) (ps : List Li), i ≤ n ∧ v = .int .i64 i ∧ Hid ((∀ p ∈ ps, LI wr p) ∧ ps.map Li.l = rowC seed servers k i ∧ errN f i = 0 ∧ ps.length = i) ∧ Hid (Has wr w.heap.size 34 ((halfL n ps).map Li.val)) ∧ Hid (Below w.heap.size w wr)) (fun v _ => n - (intOf v).toNat)
  case atStart => exact ⟨0, [], by omega, rfl, Lib.hid ⟨fun p h => absurd h (by simp), rfl, rfl, rfl⟩, Lib.hid (by rw [← HZ.out]; exact H1), Lib.hid hb1⟩
  case round =>
    clear H1 hb1 hmk
    obtain ⟨i, ps, hi, rfl, HP, HB, HW⟩ := hrel
    by_cases hlt : i < n
    · have htj : (i : Int) < (n : Int) := by omega
      obtain ⟨⟨p1, e1⟩, h1⟩ : ∃ r : List Int × Nat, oneB seed servers (i : Int) k = r := ⟨_, rfl⟩
      have K1 := Lib.hid (KO.out i hlt p1 e1 h1 wr HW.out)
      have hfi : f i = e1 := by rw [← HFF.out]; show (oneB seed servers (i : Int) k).2 = e1; rw [h1]
      have hst := errN_step (f := f) HP.out.2.2.1
      rw [hfi] at hst
      by_cases he : e1 = 0
      · subst he
        have HST := Lib.hid hst
        have HR := Lib.hid (show rowC seed servers k (i + 1) = rowC seed servers k i ++ [p1] by rw [rowC_snoc, h1])
        clear h1 hfi hst
        go_wp2_with fail
        refine (K1.out).mono ?_
        rintro e' w2 ⟨A2, c2, rfl, hl2, hb2⟩
        have HB2 := HB.out.keep hb2 HB.out.lt
        have hbw := HW.out.trans (hb2.mono HW.out.size)
        have hil : ps.length < n := by have := HP.out.2.2.2; omega
        obtain ⟨u, hu⟩ : ∃ u, w2.cell? ⟨w.heap.size, i, none⟩ = some u := by
          rw [HB2.cell, List.getElem?_map, List.getElem?_eq_getElem (by rw [halfL_len (by omega)]; exact hlt)]
          exact ⟨_, rfl⟩
        have hf2 := HB2.froz i
        have O := Only.setCell w2 w.heap.size i (.slice A2 p1.length c2)
        have HB3 := HB2.set i (.slice A2 p1.length c2)
        have e : ((halfL n ps).map Li.val).set i (.slice A2 p1.length c2) = (halfL n (ps ++ [⟨A2, p1.length, c2, p1⟩])).map Li.val := by
          rw [← halfL_set hil, HP.out.2.2.2, List.map_set]
          rfl
        rw [e] at HB3
        have HB4 := Lib.hid HB3
        have HW4 := Lib.hid (Only.below hbw O (Nat.le_refl _))
        have HQ := Lib.hid (show ∀ p ∈ ps ++ [(⟨A2, p1.length, c2, p1⟩ : Li)], LI (w2.setCell ⟨w.heap.size, i, none⟩ (.slice A2 p1.length c2)) p from fun p hp => by
          rcases List.mem_append.1 hp with hp | hp
          · exact ((HP.out.1 p hp).keep hb2).only HB2 (by decide) O
          · rw [List.mem_singleton.1 hp]
            exact hl2.only HB2 (by decide) O)
        clear HB HB2 hbw hil O HB3 e hl2 hb2
        go_wp2_with fail
        go_roundw
        case rel => exact ⟨i + 1, ps ++ [⟨A2, p1.length, c2, p1⟩], by omega, by go_num, Lib.hid ⟨HQ.out, by rw [List.map_append, HP.out.2.1, HR.out]; rfl, HST.out, by rw [List.length_append, HP.out.2.2.2]; rfl⟩, HB4, HW4⟩
        case measure => simp [intOf]; omega
      · have hall : errN f n = e1 := by rw [errN_stay (m := i + 1) (by rw [hst]; exact he) (by omega), hst]
        have hform := formB_miss (seed := seed) (servers := servers) (k := k) HN.out (e := e1) (by rw [HFF.out, Int.toNat_natCast]; exact hall) he
        rw [HF.out] at hform
        obtain ⟨e2, e3⟩ := Prod.mk.inj hform
        have HE := Lib.hid (And.intro e2 e3)
        have hef : ((e1 : Int) == 0) = false := by simp; exact he
        have he0 : ¬ e1 = 0 := he
        clear h1 hfi hst hall hform e2 e3 he
        go_wp2_with fail
        refine (K1.out).mono ?_
        rintro e' w2 ⟨A2, c2, rfl, hl2, hb2⟩
        have HBB := Lib.hid (HW.out.trans (hb2.mono HW.out.size))
        clear hl2 hb2
        go_wp2_with fail
        go_ret2
        exact ⟨none, 0, 0, by rw [HE.out.2]; rfl, by rw [HE.out.1]; exact ListsOf.nil _, HBB.out⟩
    · obtain rfl : i = n := by omega
      have hform := formB_hit (seed := seed) (servers := servers) (k := k) HN.out (by rw [HFF.out, Int.toNat_natCast]; exact HP.out.2.2.1)
      rw [HF.out, Int.toNat_natCast] at hform
      obtain ⟨e2, e3⟩ := Prod.mk.inj hform
      have HE := Lib.hid (And.intro e2 e3)
      have hr := HB.out
      rw [halfL_all HP.out.2.2.2] at hr
      have HR := Lib.hid (hr.row 0 i i (by simp; have := HP.out.2.2.2; omega) (Nat.le_refl _) (by unfold maxLen; omega))
      clear hform e2 e3 hr
      go_wp2_with fail
      go_ret2
      refine ⟨_, i, i, by rw [HE.out.2]; rfl, ⟨ps, ⟨?_, HP.out.1⟩, by rw [HE.out.1]; exact HP.out.2.1⟩, HW.out⟩
      have := HR.out
      rw [List.drop_zero, List.take_of_length_le (by simp; have := HP.out.2.2.2; omega)] at this
      exact this
theorem chForm (seed : List UInt8) (hs : seed.length = 32) (servers n k : Int) (ls : List (List Int)) (ef : Nat) (h : formB seed servers n k = (ls, ef)) (w : World) (hT : TabC w) :
    Calls Tryd.prog 7 #[.agg (seed.map bv).toArray, .int .i64 servers, .int .i64 n, .int .i64 k] w fun e' w' => ∃ A m c, e' = .returned (.tuple #[.slice A m c, .int .i64 (ef : Int)]) ∧ ListsOf w' A m c ls ∧ Below w.heap.size w w' := by
  have hb0 := (Below.refl w.heap.size w).alloc (Nat.le_refl _) (.cells (seed.map bv).toArray 23)
  have hb1 := hb0.alloc hb0.size (.cells #[.int .i64 servers] 3)
  have hb2 := hb1.alloc hb1.size (.cells #[.int .i64 k] 3)
  have H0 := ((Has.new w 23 (seed.map bv)).alloc (.cells #[.int .i64 servers] 3)).alloc (.cells #[.int .i64 k] 3)
  have H1 := ((Has.new (w.alloc (.cells (seed.map bv).toArray 23)) 3 [.int .i64 servers]).at_ (show _ = w.heap.size + 1 by simp)).alloc (.cells #[.int .i64 k] 3)
  have H2 := (Has.new ((w.alloc (.cells (seed.map bv).toArray 23)).alloc (.cells #[.int .i64 servers] 3)) 3 [.int .i64 k]).at_ (show _ = w.heap.size + 1 + 1 by simp)
  have K := Lib.hid (chEach w.heap.size (w.heap.size + 1) (w.heap.size + 1 + 1) seed hs servers n k ls ef h _ (hT.keep hb2) H0 H1 H2)
  have HB := Lib.hid hb2
  have hmf : ∀ (fn : Fn) (first cap : Array Value) (w : World), (Instr.makeFunc fn first cap).run Tryd.prog w = .ok (.func fn first cap) w := fun _ _ _ _ => rfl
  clear hb0 hb1 hb2 H0 H1 H2 h hs hT
  go_enter Tryd.func7, Tryd.ntmps7
  go_wp2_with fail
  refine (K.out).mono ?_
  rintro e' w' ⟨A, m, c, rfl, hl, hb⟩
  have HL := Lib.hid hl
  have HBB := Lib.hid (HB.out.trans (hb.mono HB.out.size))
  clear hl hb K
  go_wp2_with fail
  go_ret2
  exact ⟨A, m, c, rfl, HL.out, HBB.out⟩
end Go.Proofs.YtjfipijdjbbogaaDoor
