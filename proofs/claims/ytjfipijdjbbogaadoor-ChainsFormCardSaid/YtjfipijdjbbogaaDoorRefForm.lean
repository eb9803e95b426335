/-
  Contract of the reference's Form (chapter 14).
-/
import Derived.Test.YtjfipijdjbbogaaDoorRefOne
import Derived.Test.YtjfipijdjbbogaaDoorLists
namespace Go.Proofs.YtjfipijdjbbogaaDoor
open Go.ChangeShapes Go.WideShapes Go.ChangeAt Go.RowKit
set_option linter.unusedVariables false
set_option linter.unusedSimpArgs false

set_option maxHeartbeats 1000000 in
set_option maxRecDepth 10000 in
theorem refForm (seed : List UInt8) (hs : seed.length = 32) (servers n k : Int) (ls : List (List Int)) (ef : Nat) (h : formB seed servers n k = (ls, ef)) (w : World) :
    Calls Tryd.prog 8 #[.agg (seed.map bv).toArray, .int .i64 servers, .int .i64 n, .int .i64 k] w fun e' w' => ∃ A m c, e' = .returned (.tuple #[.slice A m c, .int .i64 (ef : Int)]) ∧ ListsOf w' A m c ls ∧ Below w.heap.size w w' := by
  have hb0 := (Below.refl w.heap.size w).alloc (Nat.le_refl _) (.cells (seed.map bv).toArray 23)
  by_cases hlo : n < 1
  · rw [formB_bad (Or.inl hlo)] at h
    cases h
    clear hs
    go_enter Tryd.func8, Tryd.ntmps8
    go_wp2_with fail
    go_ret2
    exact ⟨none, 0, 0, rfl, ListsOf.nil _, hb0⟩
  by_cases hhi : 1000 < n
  · rw [formB_bad (Or.inr hhi)] at h
    cases h
    clear hs
    go_enter Tryd.func8, Tryd.ntmps8
    go_wp2_with fail
    go_ret2
    exact ⟨none, 0, 0, rfl, ListsOf.nil _, hb0⟩
  obtain ⟨n, rfl⟩ : ∃ m : Nat, n = (m : Int) := ⟨n.toNat, by omega⟩
  have H0 := Has.new w 23 (seed.map bv)
  have HS := Lib.hid hs
  have HF := Lib.hid h
  have HN := Lib.hid (show ¬ ((n : Int) < 1 ∨ 1000 < (n : Int)) from by omega)
  have hsz : (w.alloc (.cells (seed.map bv).toArray 23)).heap.size = w.heap.size + 1 := by simp
  have KO := Lib.hid (fun (i : Nat) (hi : i < n) (p : List Int) (e : Nat) (h : oneB seed servers (i : Int) k = (p, e)) (u : World) => refOne seed hs servers (i : Int) k (by omega) (by omega) p e h u)
  have HSZ := Lib.hid hsz
  obtain ⟨f, hf⟩ : ∃ f, (fun i : Nat => (oneB seed servers (i : Int) k).2) = f := ⟨_, rfl⟩
  have HFF := Lib.hid hf
  clear hs h hsz hf
  go_enter Tryd.func8, Tryd.ntmps8
  go_wp2_with fail
  go_loopw [10, 11] (fun v10 v11 wr => ∃ (i : Nat) (ps : List Li), i ≤ n ∧ v11 = .int .i64 i ∧ wr.ownsRow (w.heap.size + 1) 34 1 v10 i (ps.map Li.val) ∧ Hid ((∀ p ∈ ps, LI wr p) ∧ ps.map Li.l = rowC seed servers k i ∧ errN f i = 0) ∧ Has wr w.heap.size 23 (seed.map bv) ∧ Below w.heap.size w wr) (fun _ v _ => n - (intOf v).toNat)
  case atStart => exact ⟨0, [], by omega, rfl, World.ownsRow_nil _ _ _ _, Lib.hid ⟨fun p h => absurd h (by simp), rfl, rfl⟩, H0, hb0⟩
  case round =>
    clear H0 hb0
    obtain ⟨i, ps, hi, rfl, hown, HP, HK, hb⟩ := hrel
    by_cases hlt : i < n
    · have htj : (i : Int) < (n : Int) := by omega
      obtain ⟨⟨p1, e1⟩, h1⟩ : ∃ r : List Int × Nat, oneB seed servers (i : Int) k = r := ⟨_, rfl⟩
      have K1 := Lib.hid (KO.out i hlt p1 e1 h1 wr)
      have hfi : f i = e1 := by rw [← HFF.out]; show (oneB seed servers (i : Int) k).2 = e1; rw [h1]
      have hst := errN_step (f := f) HP.out.2.2
      rw [hfi] at hst
      by_cases he : e1 = 0
      · subst he
        have HST := Lib.hid hst
        have HR := Lib.hid (show rowC seed servers k (i + 1) = rowC seed servers k i ++ [p1] by rw [rowC_snoc, h1])
        obtain ⟨A, c, rfl, hr⟩ := Row.own hown
        clear h1 hfi hst
        go_wp2_with ((with_reducible refine wpList_load_key rfl (.tmp 4) rfl w.heap.size rfl seed HS.out HK ?_))
        refine (K1.out).mono ?_
        rintro e' w2 ⟨v, rfl, ho2, hb2⟩
        obtain ⟨A2, c2, rfl, hl2⟩ := LI.own ho2
        have hown2 := own_past hown hb2
        have HK2 := HK.keep hb2 HK.lt
        have hbw := hb.trans (hb2.mono hb.size)
        have HP2 := Lib.hid (show ∀ p ∈ ps, LI w2 p from fun p hp => (HP.out.1 p hp).keep hb2)
        have HL2 := Lib.hid hl2
        have hs2 := hbw.size
        have HLT := Lib.hid HK2.lt
        clear ho2 hl2 hb2 hown HK hr hb
        go_wp2_with (at_builtin; (refine appL rfl (.tmp 36) (.tmp 38) rfl (w.heap.size + 1) (.slice A i c) i ps rfl (hown2.alloc _) (some ⟨w2.heap.size, 0, none⟩) 1 1 [⟨A2, p1.length, c2, p1⟩] rfl (lit1L w2 ⟨A2, p1.length, c2, p1⟩) (by omega) (by have := HLT.out; simp; omega) ?_); intro v8 w8 hown8 hg8)
        have hga := hown2.alloc (.cells #[.slice A2 p1.length c2] 34)
        have HQ := Lib.hid (show ∀ p ∈ ps ++ [(⟨A2, p1.length, c2, p1⟩ : Li)], LI w8 p from fun p hp => by
          have hal := (Below.refl w2.heap.size w2).alloc (Nat.le_refl _) (.cells #[.slice A2 p1.length c2] 34)
          rcases List.mem_append.1 hp with hp | hp
          · exact ((HP2.out p hp).keep hal).grown hga (by decide) hg8
          · rw [List.mem_singleton.1 hp]
            exact (HL2.out.keep hal).grown hga (by decide) hg8)
        have HK8 := (HK2.alloc (.cells #[.slice A2 p1.length c2] 34)).grown hg8 (by
          intro e
          have := (hga.lt _ e.symm).1
          omega)
        have hb8 := (hbw.alloc hs2 (.cells #[.slice A2 p1.length c2] 34)).grown hg8 (by simp; omega) (fun k hk => by have := (hga.lt k hk).1; omega)
        clear hga hown2 HK2 hbw hg8
        go_roundw
        case rel => exact ⟨i + 1, ps ++ [⟨A2, p1.length, c2, p1⟩], by omega, by go_num, hown8, Lib.hid ⟨HQ.out, by rw [List.map_append, HP.out.2.1, HR.out]; rfl, HST.out⟩, HK8, hb8⟩
        case measure => simp [intOf]; omega
      · have hall : errN f n = e1 := by rw [errN_stay (m := i + 1) (by rw [hst]; exact he) (by omega), hst]
        have hform := formB_miss (seed := seed) (servers := servers) (k := k) HN.out (e := e1) (by rw [HFF.out, Int.toNat_natCast]; exact hall) he
        rw [HF.out] at hform
        obtain ⟨e2, e3⟩ := Prod.mk.inj hform
        have HE := Lib.hid (And.intro e2 e3)
        have hef : ((e1 : Int) == 0) = false := by simp; exact he
        have he0 : ¬ e1 = 0 := he
        obtain ⟨A, c, rfl, hr⟩ := Row.own hown
        clear h1 hfi hst hall hform e2 e3 he
        go_wp2_with ((with_reducible refine wpList_load_key rfl (.tmp 4) rfl w.heap.size rfl seed HS.out HK ?_))
        refine (K1.out).mono ?_
        rintro e' w2 ⟨v, rfl, ho2, hb2⟩
        have HB := Lib.hid (hb.trans (hb2.mono hb.size))
        clear ho2 hb2 hown HK hr hb
        go_wp2_with fail
        go_ret2
        exact ⟨none, 0, 0, by rw [HE.out.2]; rfl, by rw [HE.out.1]; exact ListsOf.nil _, HB.out⟩
    · obtain rfl : i = n := by omega
      have hform := formB_hit (seed := seed) (servers := servers) (k := k) HN.out (by rw [HFF.out, Int.toNat_natCast]; exact HP.out.2.2)
      rw [HF.out, Int.toNat_natCast] at hform
      obtain ⟨e2, e3⟩ := Prod.mk.inj hform
      have HE := Lib.hid (And.intro e2 e3)
      obtain ⟨A, c, rfl, hr⟩ := Row.own hown
      clear hform e2 e3
      go_wp2_with fail
      go_ret2
      exact ⟨A, i, c, by rw [HE.out.2]; rfl, ⟨ps, ⟨hr, HP.out.1⟩, by rw [HE.out.1]; exact HP.out.2.1⟩, hb⟩
end Go.Proofs.YtjfipijdjbbogaaDoor
