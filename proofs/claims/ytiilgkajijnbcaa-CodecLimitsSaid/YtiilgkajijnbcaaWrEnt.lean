/-
  Contract of the reference's Entries; what writing entries means.
-/
import Derived.Test.YtiilgkajijnbcaaApi
import Derived.Test.YtiilgkajijnbcaaLow
import Derived.Deep.RegionHeldLaw
namespace Go.Proofs.Ytiilgkajijnbcaa
open Go.ChangeShapes Go.WideShapes Go.ChangeAt Go.RowKit
set_option linter.unusedVariables false
set_option linter.unusedSimpArgs false

/-! ### The spec -/
/-- The length of every box, if they are of one length. -/
def sizeN (es : List (Nat × List UInt8)) : Nat := (es.getD 0 (0, [])).2.length
def longE (es : List (Nat × List UInt8)) : Bool := es.any fun e => decide (1048576 < e.2.length)
def oddE (es : List (Nat × List UInt8)) : Bool := es.any fun e => decide (e.2.length ≠ sizeN es ∨ ¬ rightN e.1)
def bodyE (es : List (Nat × List UInt8)) : List UInt8 := es.flatMap fun e => be64 e.1 ++ e.2
/-- The bytes of entries, and the error. -/
def wEntries (es : List (Nat × List UInt8)) : List UInt8 × Nat :=
  if 1000 < es.length then ([], 3) else if longE es = true then ([], 3) else if oddE es = true then ([], 1) else ((be64 es.length ++ be64 (sizeN es)) ++ bodyE es, 0)
section
variable {es : List (Nat × List UInt8)} {j : Nat}
theorem longE_true (hj : j < es.length) (h : 1048576 < (es.getD j (0, [])).2.length) : longE es = true := by
  refine List.any_eq_true.2 ⟨es.getD j (0, []), ?_, by simpa using h⟩
  rw [List.getD_eq_getElem?_getD, List.getElem?_eq_getElem hj]
  exact List.getElem_mem hj
theorem longE_false (h : ∀ k, k < es.length → (es.getD k (0, [])).2.length ≤ 1048576) : longE es = false := by
  rw [longE, List.any_eq_false]
  intro e he
  obtain ⟨k, hk, rfl⟩ := List.mem_iff_getElem.1 he
  have := h k hk
  simpa [hk] using this
theorem oddE_true (hj : j < es.length) (h : (es.getD j (0, [])).2.length ≠ sizeN es ∨ ¬ rightN (es.getD j (0, [])).1) : oddE es = true := by
  refine List.any_eq_true.2 ⟨es.getD j (0, []), ?_, by simpa using h⟩
  rw [List.getD_eq_getElem?_getD, List.getElem?_eq_getElem hj]
  exact List.getElem_mem hj
theorem oddE_false (h : ∀ k, k < es.length → (es.getD k (0, [])).2.length = sizeN es ∧ rightN (es.getD k (0, [])).1) : oddE es = false := by
  rw [oddE, List.any_eq_false]
  intro e he
  obtain ⟨k, hk, rfl⟩ := List.mem_iff_getElem.1 he
  have := h k hk
  simpa [hk] using this
theorem bodyE_take (h : j < es.length) : bodyE (es.take (j + 1)) = (bodyE (es.take j) ++ be64 (es.getD j (0, [])).1) ++ (es.getD j (0, [])).2 := by
  rw [List.take_succ_eq_append_getElem h, bodyE, bodyE, List.flatMap_append, List.flatMap_cons, List.flatMap_nil, List.append_nil, List.append_assoc]
  simp [h]
end
theorem getD_data (es : List Ent) (j : Nat) : (es.map Ent.data).getD j (0, []) = (es.getD j default).data := by
  rw [List.getD_eq_getElem?_getD, List.getElem?_map, List.getD_eq_getElem?_getD]
  cases es[j]? <;> rfl
/-- Entry j as it lies in memory. -/
theorem Entries.get {w : World} {A : Option Addr} {n c : Nat} {es : List Ent} (h : Entries w A n c es) (j : Nat) (hj : j < n) : (es.getD j default).ok w := by
  have hj' : j < es.length := by rw [h.2.1]; exact hj
  refine h.2.2 _ ?_
  rw [List.getD_eq_getElem?_getD, List.getElem?_eq_getElem hj']
  exact List.getElem_mem hj'
theorem bodyE_len (es : List (Nat × List UInt8)) (z : Nat) (h : ∀ e ∈ es, e.2.length = z) : (bodyE es).length = es.length * (8 + z) := by
  induction es with
  | nil => simp [bodyE]
  | cons e r ih =>
    have ih := ih (fun e he => h e (by simp [he]))
    rw [bodyE] at ih ⊢
    rw [List.flatMap_cons, List.length_append, ih, List.length_append, be64_len, h e (by simp), List.length_cons, Nat.succ_mul]
    omega
set_option maxHeartbeats 4000000 in
theorem refEntries' (A : Option Addr) (n c : Nat) (es : List Ent) (l : List UInt8) (k : Nat) (hk : wEntries (es.map Ent.data) = (l, k)) (w : World) (h : Entries w A n c es) :
    Calls Try.prog 13 #[.slice A n c] w fun e w' => ∃ v, e = .returned (.tuple #[v, .int .i64 (k : Int)]) ∧ w'.ownsRow w.heap.size 5 1 v l.length (l.map bv) ∧ Below w.heap.size w w' := by
  obtain ⟨ds, hds⟩ : ∃ ds, es.map Ent.data = ds := ⟨_, rfl⟩
  have hdl : ds.length = n := by rw [← hds, List.length_map]; exact h.2.1
  rw [hds] at hk
  have hD := fun j => show ds.getD j (0, []) = (es.getD j default).data by rw [← hds]; exact getD_data es j
  have hle := h.le
  by_cases hn : 1000 < n
  · have h1 : (1000 : Int) < (n : Int) := by omega
    rw [wEntries, hdl, if_pos hn] at hk
    obtain ⟨rfl, rfl⟩ := Prod.mk.inj hk
    clear hk hn
    go_enter Try.func13, Try.ntmps13
    go_wp2_with fail
    go_ret2
    exact ⟨_, rfl, World.ownsRow_nil _ _ _ _, Below.refl _ _⟩
  · have h1 : ¬ (1000 : Int) < (n : Int) := by omega
    rw [wEntries, hdl, if_neg hn] at hk
    have HK := Lib.hid hk
    have HD := Lib.hid hD
    have HDL := Lib.hid hdl
    have HH := Lib.hid h
    have HN := Lib.hid hn
    clear hk hD hdl h hn hds
    go_enter Try.func13, Try.ntmps13
    go_wp2_with fail
    go_loop [4, 5] (fun z i => ∃ j m : Nat, j ≤ n ∧ i = .int .i64 j ∧ z = .int .i64 m ∧ Hid (m = if j = 0 then 0 else sizeN ds) ∧ Hid (∀ k, k < j → (ds.getD k (0, [])).2.length ≤ 1048576) ∧ m ≤ 1048576) (fun _ i => n - (intOf i).toNat)
    case atStart => exact ⟨0, 0, Nat.zero_le _, rfl, rfl, Lib.hid rfl, Lib.hid (fun k hk => absurd hk (by omega)), by omega⟩
    case round =>
      obtain ⟨j, m, hj, rfl, rfl, HM, HP, hm⟩ := hrel
      by_cases hlt : j < n
      · obtain ⟨b, off, rfl, hbl, hc⟩ := HH.out.at_ (by omega)
        obtain ⟨c0, c1⟩ := hc j hlt
        obtain ⟨_, d1⟩ := hc 0 (by omega)
        rw [show off + 0 * 2 + 1 = off + 1 by omega] at d1
        have hel := (HH.out.get j hlt).1.len
        have hel0 := (HH.out.get 0 (by omega)).1.len
        obtain ⟨e, he⟩ : ∃ e, es.getD j default = e := ⟨_, rfl⟩
        obtain ⟨e0, he0⟩ : ∃ e, es.getD 0 default = e := ⟨_, rfl⟩
        rw [he] at c0 c1 hel
        rw [he0] at d1 hel0
        have hjn : (j : Int) < (n : Int) := by omega
        have h0n : (0 : Int) < (n : Int) := by omega
        have HE := Lib.hid (show (ds.getD j (0, [])).2.length = e.n ∧ sizeN ds = e0.n by
          rw [sizeN, HD.out, HD.out, he, he0]
          exact ⟨hel, hel0⟩)
        clear he he0 hel hel0 hc
        by_cases hb : 1048576 < e.n
        · have h2 : (1048576 : Int) < (e.n : Int) := by omega
          have HKK := Lib.hid (show l = [] ∧ k = 3 by
            have := HK.out
            rw [longE_true (by rw [HDL.out]; exact hlt) (by rw [HE.out.1]; exact hb), if_pos rfl] at this
            obtain ⟨rfl, rfl⟩ := Prod.mk.inj this
            exact ⟨rfl, rfl⟩)
          clear hb
          go_wp2_with fail
          go_ret2
          exact ⟨_, by rw [HKK.out.2]; rfl, by rw [HKK.out.1]; exact World.ownsRow_nil _ _ _ _, Below.refl _ _⟩
        · have h2 : ¬ (1048576 : Int) < (e.n : Int) := by omega
          have HM2 := Lib.hid (show e0.n ≤ 1048576 by
            by_cases hj0 : j = 0
            · subst hj0
              rw [← HE.out.2]
              show (ds.getD 0 (0, [])).2.length ≤ _
              rw [HE.out.1]
              omega
            · have := HP.out 0 (by omega)
              rw [← HE.out.2]
              exact this)
          have HP2 := Lib.hid (show ∀ k, k < j + 1 → (ds.getD k (0, [])).2.length ≤ 1048576 from fun k hk => by
            rcases Nat.lt_or_eq_of_le (Nat.le_of_lt_succ hk) with h | rfl
            · exact HP.out k h
            · rw [HE.out.1]; omega)
          clear hb
          go_wp2_with fail
          go_roundw
          case rel => exact ⟨j + 1, e0.n, by omega, by go_num, rfl, Lib.hid (by rw [if_neg (by omega), HE.out.2]), HP2, HM2.out⟩
          case measure => simp [intOf]; omega
      · obtain rfl : j = n := by omega
        have HMS := Lib.hid (show m = sizeN ds by
          rw [HM.out]
          by_cases hj0 : j = 0
          · rw [if_pos hj0, sizeN, show ds = [] from List.eq_nil_of_length_eq_zero (by rw [HDL.out]; exact hj0)]
            rfl
          · rw [if_neg hj0])
        have HNL := Lib.hid (show longE ds = false from longE_false fun k hk => HP.out k (by rw [← HDL.out]; exact hk))
        have hn1 : j ≤ 1000 := by have := HN.out; omega
        have KP1 := Lib.hid (refPut.put64 none 0 0 [] j w (Row.nil w) (by omega) (by omega))
        clear hlt HM HP h1
        go_wp2_with fail
        refine (KP1.out).mono ?_
        rintro e w1 ⟨v1, rfl, hown1, hb1⟩
        rw [Nat.zero_add, List.nil_append] at hown1
        obtain ⟨A1, c1, rfl, hr1⟩ := Row.own hown1
        have KP2 := Lib.hid (refPut.put64 A1 8 c1 (be64 j) m w1 hr1 (by omega) (by omega))
        clear KP1 hown1 hr1
        go_wp2_with fail
        refine (KP2.out).mono ?_
        rintro e w2 ⟨v2, rfl, hown2, hb2⟩
        have hown2' := own_base hown2 hb1.size
        have hbw2 := hb1.trans (hb2.mono hb1.size)
        obtain ⟨hdr, hhdr⟩ : ∃ h, be64 j ++ be64 m = h := ⟨_, rfl⟩
        rw [hhdr] at hown2'
        have HH0 := Lib.hid hhdr
        clear KP2 hown2 hb1 hb2 hhdr
        go_wp2_with fail
        go_loopw [6, 7] (fun v i wr => ∃ i' q : Nat, i' ≤ j ∧ i = .int .i64 i' ∧ wr.ownsRow w.heap.size 5 1 v q ((hdr ++ bodyE (ds.take i')).map bv) ∧ Hid (q = 16 + i' * (8 + m)) ∧ Hid (∀ k, k < i' → (ds.getD k (0, [])).2.length = sizeN ds ∧ rightN (ds.getD k (0, [])).1) ∧ Below w.heap.size w wr) (fun _ i _ => j - (intOf i).toNat)
        case atStart => exact ⟨0, 8 + 8, Nat.zero_le _, rfl, by simpa [bodyE] using hown2', Lib.hid (by omega), Lib.hid (fun k hk => absurd hk (by omega)), hbw2⟩
        case round =>
          clear hown2' hbw2
          obtain ⟨i, q, hi, rfl, hown, HQ, HP, hb⟩ := hrel
          by_cases hlt : i < j
          · obtain ⟨b, off, rfl, hbl, hc⟩ := HH.out.at_ (by omega)
            obtain ⟨c0, c1⟩ := hc i hlt
            have d0 := (hb.cell (p := ⟨b, off + i * 2, none⟩) hbl).trans c0
            have d1 := (hb.cell (p := ⟨b, off + i * 2 + 1, none⟩) hbl).trans c1
            obtain ⟨hbx, hx64⟩ := HH.out.get i hlt
            obtain ⟨e, he⟩ : ∃ e, es.getD i default = e := ⟨_, rfl⟩
            rw [he] at d0 d1 hbx hx64
            have hin : (i : Int) < (j : Int) := by omega
            have HE := Lib.hid (show ds.getD i (0, []) = (e.x, e.l) ∧ e.l.length = e.n by
              rw [HD.out, he]
              exact ⟨rfl, hbx.len⟩)
            have HX := Lib.hid (hbx.keep hb)
            have hqb : q ≤ 1100000000 := by
              have := HQ.out
              have h1 : i * (8 + m) ≤ 1000 * 1048584 := Nat.mul_le_mul (by omega) (by omega)
              omega
            clear he hc c0 c1 hbx
            by_cases hnm : e.n = m
            · subst hnm
              by_cases hr : rightN e.x
              · have A1 := Lib.hid (fun w => refRight' (decide_eq_true hr) hx64 rfl w)
                have HP2 := Lib.hid (show ∀ k, k < i + 1 → (ds.getD k (0, [])).2.length = sizeN ds ∧ rightN (ds.getD k (0, [])).1 from fun k hk => by
                  rcases Nat.lt_or_eq_of_le (Nat.le_of_lt_succ hk) with h | rfl
                  · exact HP.out k h
                  · rw [HE.out.1]
                    exact ⟨by rw [← HMS.out]; exact HE.out.2, hr⟩)
                obtain ⟨A6, c6, rfl, hr6⟩ := Row.own hown
                have KP := Lib.hid (show Calls Try.prog 38 #[.slice A6 q c6, .int .u64 (e.x : Int)] wr.drew _ from refPut.put64 A6 q c6 (hdr ++ bodyE (ds.take i)) e.x wr.drew (show Bytes wr.drew A6 q c6 _ from hr6) (by omega) hx64)
                have HC := Lib.hid (fun (u : World) (h : Below wr.drew.heap.size wr.drew u) => show u.cell? ⟨b, off + i * 2, none⟩ = some (.int .u64 (e.x : Int)) ∧ u.cell? ⟨b, off + i * 2 + 1, none⟩ = some (.slice e.A e.n e.c) from
                  have hbb : b < wr.drew.heap.size := Nat.lt_of_lt_of_le hbl hb.size
                  ⟨(h.cell (p := ⟨b, off + i * 2, none⟩) hbb).trans d0, (h.cell (p := ⟨b, off + i * 2 + 1, none⟩) hbb).trans d1⟩)
                have HBX := Lib.hid (fun (u : World) (h : Below wr.drew.heap.size wr.drew u) => show Bytes u e.A e.n e.c e.l from (show Bytes wr.drew e.A e.n e.c e.l from HX.out).keep h)
                have HM8 := Lib.hid (show q + 8 + e.n ≤ 140737488355328 by omega)
                have HBA := Lib.hid (fun (u : World) (h : Below wr.drew.heap.size wr.drew u) => show w.heap.size ≤ u.heap.size from Nat.le_trans hb.size h.size)
                have HBB := Lib.hid hb
                clear hown hr hr6 HP
                go_wp2_with fail
                refine (A1.out _).mono ?_
                rintro e' w' ⟨rfl, rfl⟩
                go_wp2_with fail
                clear A1 d0 d1
                go_region_held_law (fun w' => w'.cell? ⟨b, off + i * 2, none⟩ = some (.int .u64 (e.x : Int)) ∧ w'.cell? ⟨b, off + i * 2 + 1, none⟩ = some (.slice e.A e.n e.c)) (first | exact HC.out _ (Below.refl _ _) | exact HC.out _ hb5 | exact HC.out _ hb9)
                  (first
                  | ((refine step_app8 (by rfl) (.tmp 65) (.tmp 70) (by rfl) w.heap.size v5 (q + 8) ((hdr ++ bodyE (ds.take i)) ++ be64 e.x) (by rfl) HO5.out e.A e.n e.c e.l (by rfl) (HBX.out _ hb5) HM8.out (HBA.out _ hb5) ?_); intro v9 w9 hown9 hg9; have hb9 := hb5.grown hg9 (Nat.le_trans (Nat.le_refl _) hb5.size) (fun k hk => (HB5.out k hk)); simp only [List.getElem_toArray, List.getElem_cons_succ, List.getElem_cons_zero])
                  | (go_at_call 38; with_reducible refine (KP.out).mono ?_; rintro e' w5 ⟨v5, rfl, hown5, hb5⟩; have HB5 := Lib.hid (fun k hk => (hown5.lt k hk).1); have HO5 := Lib.hid (own_base hown5 (HBA.out _ (Below.refl _ _)))))
                have hfin := hown9
                rw [show ((hdr ++ bodyE (ds.take i)) ++ be64 e.x) ++ e.l = hdr ++ bodyE (ds.take (i + 1)) by
                  rw [bodyE_take (by rw [HDL.out]; exact hlt), HE.out.1, List.append_assoc, List.append_assoc, List.append_assoc]] at hfin
                have hbw9 := HBB.out.drew.trans (hb9.mono (HBA.out _ (Below.refl _ _)))
                have HQ2 := Lib.hid (show q + 8 + e.n = 16 + (i + 1) * (8 + e.n) by rw [HQ.out, Nat.succ_mul]; omega)
                clear hown9 hg9
                go_wp2_with fail
                go_roundw
                case rel => exact ⟨i + 1, q + 8 + e.n, by omega, by go_num, hfin, HQ2, HP2, hbw9⟩
                case measure => simp [intOf]; omega
              · have A1 := Lib.hid (fun w => refRight' (decide_eq_false hr) hx64 rfl w)
                have HKK := Lib.hid (show l = [] ∧ k = 1 by
                  have := HK.out
                  rw [HNL.out, if_neg (by simp), oddE_true (j := i) (by rw [HDL.out]; exact hlt) (by rw [HE.out.1]; exact .inr hr), if_pos rfl] at this
                  obtain ⟨rfl, rfl⟩ := Prod.mk.inj this
                  exact ⟨rfl, rfl⟩)
                clear hr HP hown
                go_wp2_with fail
                refine (A1.out _).mono ?_
                rintro e' w' ⟨rfl, rfl⟩
                go_wp2_with fail
                go_ret2
                exact ⟨_, by rw [HKK.out.2]; rfl, by rw [HKK.out.1]; exact World.ownsRow_nil _ _ _ _, hb⟩
            · have hne : ((e.n : Int) == (m : Int)) = false := by simp; exact fun h => hnm (by omega)
              have HKK := Lib.hid (show l = [] ∧ k = 1 by
                have := HK.out
                rw [HNL.out, if_neg (by simp), oddE_true (j := i) (by rw [HDL.out]; exact hlt) (by rw [HE.out.1, ← HMS.out]; exact .inl (by rw [HE.out.2]; exact hnm)), if_pos rfl] at this
                obtain ⟨rfl, rfl⟩ := Prod.mk.inj this
                exact ⟨rfl, rfl⟩)
              clear HP hown
              go_wp2_with fail
              go_ret2
              exact ⟨_, by rw [HKK.out.2]; rfl, by rw [HKK.out.1]; exact World.ownsRow_nil _ _ _ _, hb⟩
          · obtain rfl : i = j := by omega
            have HEND := Lib.hid (show l = hdr ++ bodyE ds ∧ k = 0 ∧ l.length = q by
              have := HK.out
              rw [HNL.out, if_neg (by simp), oddE_false (fun k hk => HP.out k (by rw [← HDL.out]; exact hk)), if_neg (by simp)] at this
              obtain ⟨rfl, rfl⟩ := Prod.mk.inj this
              rw [← HH0.out, HMS.out]
              refine ⟨rfl, rfl, ?_⟩
              rw [HQ.out, List.length_append, List.length_append, be64_len, be64_len, bodyE_len ds (sizeN ds), HDL.out, HMS.out]
              intro e he
              obtain ⟨p, hp, rfl⟩ := List.mem_iff_getElem.1 he
              have := (HP.out p (by rw [← HDL.out]; exact hp)).1
              simpa [hp] using this)
            rw [List.take_of_length_le (Nat.le_of_eq HDL.out)] at hown
            have HF := Lib.hid hown
            clear hown HP
            go_wp2_with fail
            go_ret2
            exact ⟨_, by rw [HEND.out.2.1]; rfl, by rw [HEND.out.2.2, HEND.out.1]; exact HF.out, hb⟩
end Go.Proofs.Ytiilgkajijnbcaa
