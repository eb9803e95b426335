/-
  Contract of the reference's Batch; what writing a batch means.
-/
import Derived.Test.YtiilgkajijnbcaaApiBat
import Derived.Test.YtiilgkajijnbcaaLow
import Derived.Deep.RegionHeld
import Derived.Deep.RegionHeldLaw
namespace Go.Proofs.Ytiilgkajijnbcaa
open Go.ChangeShapes Go.WideShapes Go.ChangeAt Go.RowKit
set_option linter.unusedVariables false
set_option linter.unusedSimpArgs false

/-! ### The spec -/
def sizeL (es : List (List UInt8 × List UInt8)) : Nat := (es.getD 0 ([], [])).2.length
def longL (es : List (List UInt8 × List UInt8)) : Bool := es.any fun e => decide (1048576 < e.2.length)
def oddL (es : List (List UInt8 × List UInt8)) : Bool := es.any fun e => decide (e.2.length ≠ sizeL es)
def bodyL (es : List (List UInt8 × List UInt8)) : List UInt8 := es.flatMap fun e => e.1 ++ e.2
def bodyI (is : List Nat) : List UInt8 := is.flatMap be64
def headB (d : BatD) : List UInt8 := (be64 d.r.toNat ++ be64 d.ch.toNat) ++ be64 d.inner.length
/-- The bytes of a batch, and the error. -/
def wBatch (d : BatD) : List UInt8 × Nat :=
  if 20 < d.inner.length ∨ 1000 < d.ls.length then ([], 3) else if longL d.ls = true then ([], 3) else if d.r < 0 ∨ d.ch < 0 then ([], 1) else if oddL d.ls = true then ([], 1)
  else ((((headB d ++ bodyI d.inner) ++ be64 d.ls.length) ++ be64 (sizeL d.ls)) ++ bodyL d.ls, 0)
section
variable {es : List (List UInt8 × List UInt8)} {j : Nat}
theorem longL_true (hj : j < es.length) (h : 1048576 < (es.getD j ([], [])).2.length) : longL es = true := by
  refine List.any_eq_true.2 ⟨es.getD j ([], []), ?_, by simpa using h⟩
  rw [List.getD_eq_getElem?_getD, List.getElem?_eq_getElem hj]
  exact List.getElem_mem hj
theorem longL_false (h : ∀ k, k < es.length → (es.getD k ([], [])).2.length ≤ 1048576) : longL es = false := by
  rw [longL, List.any_eq_false]
  intro e he
  obtain ⟨k, hk, rfl⟩ := List.mem_iff_getElem.1 he
  have := h k hk
  simpa [hk] using this
theorem oddL_true (hj : j < es.length) (h : (es.getD j ([], [])).2.length ≠ sizeL es) : oddL es = true := by
  refine List.any_eq_true.2 ⟨es.getD j ([], []), ?_, by simpa using h⟩
  rw [List.getD_eq_getElem?_getD, List.getElem?_eq_getElem hj]
  exact List.getElem_mem hj
theorem oddL_false (h : ∀ k, k < es.length → (es.getD k ([], [])).2.length = sizeL es) : oddL es = false := by
  rw [oddL, List.any_eq_false]
  intro e he
  obtain ⟨k, hk, rfl⟩ := List.mem_iff_getElem.1 he
  have := h k hk
  simpa [hk] using this
theorem bodyL_take (h : j < es.length) : bodyL (es.take (j + 1)) = (bodyL (es.take j) ++ (es.getD j ([], [])).1) ++ (es.getD j ([], [])).2 := by
  rw [List.take_succ_eq_append_getElem h, bodyL, bodyL, List.flatMap_append, List.flatMap_cons, List.flatMap_nil, List.append_nil, List.append_assoc]
  simp [h]
theorem bodyI_take {is : List Nat} (h : j < is.length) : bodyI (is.take (j + 1)) = bodyI (is.take j) ++ be64 (is.getD j 0) := by
  rw [List.take_succ_eq_append_getElem h, bodyI, bodyI, List.flatMap_append, List.flatMap_cons, List.flatMap_nil, List.append_nil]
  simp [h]
end
theorem bodyI_len (is : List Nat) : (bodyI is).length = is.length * 8 := by
  induction is with
  | nil => rfl
  | cons e r ih =>
    rw [bodyI] at ih ⊢
    rw [List.flatMap_cons, List.length_append, ih, be64_len, List.length_cons, Nat.succ_mul]
    omega
theorem bodyL_len (es : List (List UInt8 × List UInt8)) (z : Nat) (h : ∀ e ∈ es, e.1.length = 32 ∧ e.2.length = z) : (bodyL es).length = es.length * (32 + z) := by
  induction es with
  | nil => simp [bodyL]
  | cons e r ih =>
    have ih := ih (fun e he => h e (by simp [he]))
    rw [bodyL] at ih ⊢
    have h1 := h e (by simp)
    rw [List.flatMap_cons, List.length_append, ih, List.length_append, h1.1, h1.2, List.length_cons, Nat.succ_mul]
    omega
/-- A letter's name as a row. -/
theorem Letters.to {w : World} {A : Option Addr} {n c : Nat} {ls : List Let} (h : Letters w A n c ls) (j : Nat) (hj : j < n) (b off : Nat) (hA : A = some ⟨b, off, none⟩) : Bytes w (some ⟨b, off + j * 33, none⟩) 32 32 (ls.getD j default).to := by
  obtain ⟨b', off', e, hb, hc⟩ := h.at_ (by omega)
  rw [hA] at e
  injection e with e
  injection e with e1 e2
  subst e1 e2
  have ht := (h.get j hj).1
  refine ⟨by rw [List.length_map, ht], Nat.le_refl _, by simp [maxLen], fun h => (by cases h), fun _ => ⟨_, _, rfl, hb, fun i hi => ?_⟩⟩
  rw [(hc j hj).1 i _ (List.getElem?_eq_getElem (by rw [List.length_map, ht]; exact hi))]
  exact (List.getElem?_eq_getElem _).symm
set_option maxRecDepth 10000 in
set_option maxHeartbeats 8000000 in
theorem refBatch' (r ch : Int) (hr : -9223372036854775808 ≤ r ∧ r ≤ 9223372036854775807) (hch : -9223372036854775808 ≤ ch ∧ ch ≤ 9223372036854775807) (Ai : Option Addr) (ni ci : Nat) (inner : List Nat) (Al : Option Addr) (nl cl : Nat) (es : List Let) (l : List UInt8) (k : Nat)
    (hk : wBatch ⟨r, ch, inner, es.map Let.data⟩ = (l, k)) (w : World) (hi : Nums w Ai ni ci inner) (hl : Letters w Al nl cl es) :
    Calls Try.prog 23 #[.agg (bcells r ch Ai ni ci Al nl cl).toArray] w fun e w' => ∃ v, e = .returned (.tuple #[v, .int .i64 (k : Int)]) ∧ w'.ownsRow w.heap.size 5 1 v l.length (l.map bv) ∧ Below w.heap.size w w' := by
  obtain ⟨ds, hds⟩ : ∃ ds, es.map Let.data = ds := ⟨_, rfl⟩
  have hdl : ds.length = nl := by rw [← hds, List.length_map]; exact hl.2.1
  have hil := hi.len
  rw [hds] at hk
  have HD := Lib.hid (fun j (hj : j < nl) => show ds.getD j ([], []) = (es.getD j default).data by rw [← hds]; exact getD_ldata es j (by rw [hl.2.1]; exact hj))
  have hle := hl.le
  have hle2 := hi.le
  have H1 := Has.new w 53 (bcells r ch Ai ni ci Al nl cl)
  have hb1 := (Below.refl w.heap.size w).alloc (Nat.le_refl _) (.cells (bcells r ch Ai ni ci Al nl cl).toArray 53)
  have hz1 : (w.alloc (.cells (bcells r ch Ai ni ci Al nl cl).toArray 53)).heap.size = w.heap.size + 1 := by simp
  have c0 : (w.alloc (.cells (bcells r ch Ai ni ci Al nl cl).toArray 53)).cell? ⟨w.heap.size, 0, none⟩ = some (.int .i64 r) := H1.cell 0
  have c1 : (w.alloc (.cells (bcells r ch Ai ni ci Al nl cl).toArray 53)).cell? ⟨w.heap.size, 1, none⟩ = some (.int .i64 ch) := H1.cell 1
  have c2 : (w.alloc (.cells (bcells r ch Ai ni ci Al nl cl).toArray 53)).cell? ⟨w.heap.size, 2, none⟩ = some (.slice Ai ni ci) := H1.cell 2
  have c3 : (w.alloc (.cells (bcells r ch Ai ni ci Al nl cl).toArray 53)).cell? ⟨w.heap.size, 3, none⟩ = some (.slice Al nl cl) := H1.cell 3
  have hi1 := hi.keep hb1
  have hl1 := hl.keep hb1
  rw [wBatch] at hk
  simp only [hdl, hil] at hk
  by_cases hn : 20 < ni
  · have h1 : (20 : Int) < (ni : Int) := by omega
    rw [if_pos (.inl hn)] at hk
    obtain ⟨rfl, rfl⟩ := Prod.mk.inj hk
    clear hk hn
    go_enter Try.func23, Try.ntmps23
    go_wp2_with fail
    go_ret2
    exact ⟨_, rfl, World.ownsRow_nil _ _ _ _, hb1⟩
  have h1 : ¬ (20 : Int) < (ni : Int) := by omega
  by_cases hn2 : 1000 < nl
  · have h2 : (1000 : Int) < (nl : Int) := by omega
    rw [if_pos (.inr hn2)] at hk
    obtain ⟨rfl, rfl⟩ := Prod.mk.inj hk
    clear hk hn2 hn
    go_enter Try.func23, Try.ntmps23
    go_wp2_with fail
    go_ret2
    exact ⟨_, rfl, World.ownsRow_nil _ _ _ _, hb1⟩
  have h2 : ¬ (1000 : Int) < (nl : Int) := by omega
  rw [if_neg (by omega)] at hk
  have HK := Lib.hid hk
  have HDL := Lib.hid hdl
  have HIL := Lib.hid hil
  have HN := Lib.hid hn
  have HN2 := Lib.hid hn2
  have HI := Lib.hid hi1
  have HL := Lib.hid hl1
  have HB1 := Lib.hid hb1
  clear hk hdl hil hn hn2 hi hl hi1 hl1 hds hb1
  go_enter Try.func23, Try.ntmps23
  go_wp2_with fail
  change Code.wp _ _ _ _ (w.alloc (.cells (bcells r ch Ai ni ci Al nl cl).toArray 53))
  generalize w.alloc (.cells (bcells r ch Ai ni ci Al nl cl).toArray 53) = w1 at *
  go_loop [4, 5] (fun z i => ∃ j m : Nat, j ≤ nl ∧ i = .int .i64 j ∧ z = .int .i64 m ∧ Hid (m = if j = 0 then 0 else sizeL ds) ∧ Hid (∀ k, k < j → (ds.getD k ([], [])).2.length ≤ 1048576) ∧ m ≤ 1048576) (fun _ i => nl - (intOf i).toNat)
  case atStart => exact ⟨0, 0, Nat.zero_le _, rfl, rfl, Lib.hid rfl, Lib.hid (fun k hk => absurd hk (by omega)), by omega⟩
  case round =>
    obtain ⟨j, m, hj, rfl, rfl, HM, HP, hm⟩ := hrel
    by_cases hlt : j < nl
    · obtain ⟨b, off, rfl, hbl, hc⟩ := HL.out.at_ (by omega)
      have d1 := (hc j hlt).2
      have d0 := (hc 0 (by omega)).2
      rw [show off + 0 * 33 + 32 = off + 32 by omega] at d0
      have hel := (HL.out.get j hlt).2.len
      have hel0 := (HL.out.get 0 (by omega)).2.len
      obtain ⟨e, he⟩ : ∃ e, es.getD j default = e := ⟨_, rfl⟩
      obtain ⟨e0, he0⟩ : ∃ e, es.getD 0 default = e := ⟨_, rfl⟩
      rw [he] at d1 hel
      rw [he0] at d0 hel0
      have hjn : (j : Int) < (nl : Int) := by omega
      have h0n : (0 : Int) < (nl : Int) := by omega
      have HE := Lib.hid (show (ds.getD j ([], [])).2.length = e.n ∧ sizeL ds = e0.n by
        rw [sizeL, HD.out j hlt, HD.out 0 (by omega), he, he0]
        exact ⟨hel, hel0⟩)
      clear he he0 hel hel0 hc c0 c1 c2
      by_cases hb : 1048576 < e.n
      · have h3 : (1048576 : Int) < (e.n : Int) := by omega
        have HKK := Lib.hid (show l = [] ∧ k = 3 by
          have := HK.out
          rw [longL_true (by rw [HDL.out]; exact hlt) (by rw [HE.out.1]; exact hb), if_pos rfl] at this
          obtain ⟨rfl, rfl⟩ := Prod.mk.inj this
          exact ⟨rfl, rfl⟩)
        clear hb
        go_wp2_with fail
        go_ret2
        exact ⟨_, by rw [HKK.out.2]; rfl, by rw [HKK.out.1]; exact World.ownsRow_nil _ _ _ _, HB1.out⟩
      · have h3 : ¬ (1048576 : Int) < (e.n : Int) := by omega
        have HM2 := Lib.hid (show e0.n ≤ 1048576 by
          by_cases hj0 : j = 0
          · subst hj0
            rw [← HE.out.2]
            show (ds.getD 0 ([], [])).2.length ≤ _
            rw [HE.out.1]
            omega
          · have := HP.out 0 (by omega)
            rw [← HE.out.2]
            exact this)
        have HP2 := Lib.hid (show ∀ k, k < j + 1 → (ds.getD k ([], [])).2.length ≤ 1048576 from fun k hk => by
          rcases Nat.lt_or_eq_of_le (Nat.le_of_lt_succ hk) with h | rfl
          · exact HP.out k h
          · rw [HE.out.1]; omega)
        clear hb
        go_wp2_with fail
        go_roundw
        case rel => exact ⟨j + 1, e0.n, by omega, by go_num, rfl, Lib.hid (by rw [if_neg (by omega), HE.out.2]), HP2, HM2.out⟩
        case measure => simp [intOf]; omega
    · obtain rfl : j = nl := by omega
      have HMS := Lib.hid (show m = sizeL ds by
        rw [HM.out]
        by_cases hj0 : j = 0
        · rw [if_pos hj0, sizeL, show ds = [] from List.eq_nil_of_length_eq_zero (by rw [HDL.out]; exact hj0)]
          rfl
        · rw [if_neg hj0])
      have HNL := Lib.hid (show longL ds = false from longL_false fun k hk => HP.out k (by rw [← HDL.out]; exact hk))
      have hn1 : j ≤ 1000 := by have := HN2.out; omega
      have hn20 : ni ≤ 20 := by have := HN.out; omega
      have HK2 := Lib.hid (show (if r < 0 ∨ ch < 0 then ([], 1) else if oddL ds = true then ([], 1) else ((((headB ⟨r, ch, inner, ds⟩ ++ bodyI inner) ++ be64 j) ++ be64 (sizeL ds)) ++ bodyL ds, 0)) = (l, k) by
        have := HK.out
        rw [HNL.out, if_neg (by simp)] at this
        exact this)
      clear hlt HM HP h1 h2 HK
      by_cases hr0 : r < 0
      · have HKK := Lib.hid (show l = [] ∧ k = 1 by
          have := HK2.out
          rw [if_pos (.inl hr0)] at this
          obtain ⟨rfl, rfl⟩ := Prod.mk.inj this
          exact ⟨rfl, rfl⟩)
        clear HK2
        go_wp2_with fail
        go_ret2
        exact ⟨_, by rw [HKK.out.2]; rfl, by rw [HKK.out.1]; exact World.ownsRow_nil _ _ _ _, HB1.out⟩
      by_cases hc0 : ch < 0
      · have HKK := Lib.hid (show l = [] ∧ k = 1 by
          have := HK2.out
          rw [if_pos (.inr hc0)] at this
          obtain ⟨rfl, rfl⟩ := Prod.mk.inj this
          exact ⟨rfl, rfl⟩)
        clear HK2
        go_wp2_with fail
        go_ret2
        exact ⟨_, by rw [HKK.out.2]; rfl, by rw [HKK.out.1]; exact World.ownsRow_nil _ _ _ _, HB1.out⟩
      go_wp2_with fail
      obtain ⟨R, rfl⟩ : ∃ R : Nat, r = (R : Int) := ⟨r.toNat, by omega⟩
      obtain ⟨C, rfl⟩ : ∃ C : Nat, ch = (C : Int) := ⟨ch.toNat, by omega⟩
      have hR : R < 9223372036854775808 := by omega
      have hC : C < 9223372036854775808 := by omega
      have HK3 := Lib.hid (show (if oddL ds = true then ([], 1) else (((((be64 R ++ be64 C) ++ be64 ni) ++ bodyI inner ++ be64 j) ++ be64 m) ++ bodyL ds, 0)) = (l, k) by
        have := HK2.out
        rw [if_neg (by omega)] at this
        simp only [headB, HIL.out, Int.toNat_natCast, ← HMS.out] at this
        exact this)
      have HBX := Lib.hid (fun (u : World) (h : Below w1.heap.size w1 u) => show Has u w.heap.size 53 (bcells R C Ai ni ci Al j cl) from H1.keep h H1.lt)
      have HC := Lib.hid (fun (u : World) (h : Below w1.drew.heap.size w1.drew u) => show u.cell? ⟨w.heap.size, 0, none⟩ = some (.int .i64 (R : Int)) ∧ u.cell? ⟨w.heap.size, 1, none⟩ = some (.int .i64 (C : Int)) ∧ u.cell? ⟨w.heap.size, 2, none⟩ = some (.slice Ai ni ci) from
        have H : Has u w.heap.size 53 (bcells R C Ai ni ci Al j cl) := HBX.out u ((Below.refl w1.heap.size w1).drew.trans h)
        ⟨H.cell 0, H.cell 1, H.cell 2⟩)
      have KA := Lib.hid (show Calls Try.prog 38 #[.slice none 0 0, .int .u64 (R : Int)] w1.drew _ from refPut.put64 none 0 0 [] R w1.drew (Row.nil _) (by omega) (by omega))
      have KB := Lib.hid (fun (A : Option Addr) (c : Nat) (q : World) (h : Row q A (0 + 8) c ((([] : List UInt8) ++ be64 R).map bv)) => refPut.put64 A (0 + 8) c ([] ++ be64 R) C q (show Bytes q A (0 + 8) c _ from h) (by omega) (by omega))
      have KC := Lib.hid (fun (A : Option Addr) (c : Nat) (q : World) (h : Row q A (0 + 8 + 8) c (((([] : List UInt8) ++ be64 R) ++ be64 C).map bv)) => refPut.put64 A (0 + 8 + 8) c (([] ++ be64 R) ++ be64 C) ni q (show Bytes q A (0 + 8 + 8) c _ from h) (by omega) (by omega))
      have hw1 : IntKind.u64.wrap (R : Int) = (R : Int) := by rw [IntKind.wrap_u64]; omega
      have hw2 : IntKind.u64.wrap (C : Int) = (C : Int) := by rw [IntKind.wrap_u64]; omega
      have hw3 : IntKind.u64.wrap (ni : Int) = (ni : Int) := by rw [IntKind.wrap_u64]; omega
      have HH1 := Lib.hid H1
      clear HK2 hr0 hc0 hr hch H1 c0 c1 c2 c3 hR hC
      go_region_held (fun w' => w'.cell? ⟨w.heap.size, 0, none⟩ = some (.int .i64 (R : Int)) ∧ w'.cell? ⟨w.heap.size, 1, none⟩ = some (.int .i64 (C : Int)) ∧ w'.cell? ⟨w.heap.size, 2, none⟩ = some (.slice Ai ni ci))
        (first | exact HC.out _ (by assumption) | exact HC.out _ (Below.refl _ _))
        (first
        | (go_at_call 38; with_reducible refine (KA.out).mono ?_; rintro e' wa ⟨va, rfl, howna, hba⟩; obtain ⟨Aa, ca, rfl, hra⟩ := Row.own howna)
        | (go_at_call 38; with_reducible refine (KB.out Aa ca wa hra).mono ?_; rintro e' wb ⟨vb, rfl, hownb, hbb0⟩; have hbb := hba.trans (hbb0.mono hba.size); obtain ⟨Ab, cb, rfl, hrb⟩ := Row.own hownb)
        | (go_at_call 38; with_reducible refine (KC.out Ab cb wb hrb).mono ?_; rintro e' wc ⟨vc, rfl, hownc, hbc0⟩; have hbc := hbb.trans (hbc0.mono hbb.size)))
      have hownc' := own_base (base' := w1.heap.size) hownc hbb.size
      have hbw := (Below.refl w1.heap.size w1).drew.trans hbc
      obtain ⟨hdr, hhdr⟩ : ∃ h, ([] ++ be64 R ++ be64 C ++ be64 ni) = h := ⟨_, rfl⟩
      rw [hhdr] at hownc'
      have HH0 := Lib.hid hhdr
      clear KA KB KC HC hba hra howna hbb0 hbb hrb hownb hownc hbc0 hbc hw1 hw2 hhdr
      have hw4 : IntKind.u64.wrap (j : Int) = (j : Int) := by rw [IntKind.wrap_u64]; omega
      have hw5 : IntKind.u64.wrap (m : Int) = (m : Int) := by rw [IntKind.wrap_u64]; omega
      go_wp2_with fail
      go_loopw [6, 7] (fun v i wr => ∃ i' q : Nat, i' ≤ ni ∧ i = .int .i64 i' ∧ wr.ownsRow w1.heap.size 5 1 v q ((hdr ++ bodyI (inner.take i')).map bv) ∧ Hid (q = 24 + i' * 8) ∧ Below w1.heap.size w1 wr) (fun _ i _ => ni - (intOf i).toNat)
      case atStart => exact ⟨0, 0 + 8 + 8 + 8, Nat.zero_le _, rfl, by simpa [bodyI] using hownc', Lib.hid (by omega), hbw⟩
      case round =>
        clear hownc' hbw
        obtain ⟨i, q, hi, rfl, hown, HQ, hb⟩ := hrel
        have HB := Lib.hid (HBX.out wr hb)
        have d2 : wr.cell? ⟨w.heap.size, 2, none⟩ = some (.slice Ai ni ci) := HB.out.cell 2
        by_cases hlt : i < ni
        · obtain ⟨b2, off2, rfl, hbl2, hc2⟩ := HI.out.at_ (by omega)
          have d5 := (hb.cell (p := ⟨b2, off2 + i, none⟩) hbl2).trans (hc2 i hlt)
          have hx64 := HI.out.lt i
          obtain ⟨x, hx⟩ : ∃ x, inner.getD i 0 = x := ⟨_, rfl⟩
          rw [hx] at d5 hx64
          have HX := Lib.hid hx
          have hin : (i : Int) < (ni : Int) := by omega
          obtain ⟨A6, c6, rfl, hr6⟩ := Row.own hown
          have KP := Lib.hid (refPut.put64 A6 q c6 (hdr ++ bodyI (inner.take i)) x wr hr6 (by have := HQ.out; omega) hx64)
          clear hc2 hx hr6 hown
          go_wp2_with fail
          refine (KP.out).mono ?_
          rintro e' w5 ⟨v5, rfl, hown5, hb5⟩
          have hown5' := own_base (base' := w1.heap.size) hown5 hb.size
          rw [show (hdr ++ bodyI (inner.take i)) ++ be64 x = hdr ++ bodyI (inner.take (i + 1)) by
            rw [bodyI_take (by rw [HIL.out]; exact hlt), HX.out, List.append_assoc]] at hown5'
          have hbw5 := hb.trans (hb5.mono hb.size)
          clear KP hown5 hb5 d2 d5
          go_wp2_with fail
          go_roundw
          case rel => exact ⟨i + 1, q + 8, by omega, by go_num, hown5', Lib.hid (by rw [HQ.out]; omega), hbw5⟩
          case measure => simp [intOf]; omega
        · obtain rfl : i = ni := by omega
          have d3 : wr.cell? ⟨w.heap.size, 3, none⟩ = some (.slice Al j cl) := HB.out.cell 3
          rw [List.take_of_length_le (Nat.le_of_eq HIL.out)] at hown
          obtain ⟨A6, c6, rfl, hr6⟩ := Row.own hown
          have hq24 : q ≤ 184 := by have := HQ.out; omega
          have KP := Lib.hid (refPut.put64 A6 q c6 (hdr ++ bodyI inner) j wr hr6 (by omega) (by omega))
          clear hlt hown hr6
          go_wp2_with fail
          refine (KP.out).mono ?_
          rintro e' w5 ⟨v5, rfl, hown5, hb5⟩
          obtain ⟨A7, c7, rfl, hr7⟩ := Row.own hown5
          have KP2 := Lib.hid (refPut.put64 A7 (q + 8) c7 ((hdr ++ bodyI inner) ++ be64 j) m w5 hr7 (by omega) (by omega))
          have hbw5 := hb.trans (hb5.mono hb.size)
          clear KP hr7 hown5 hb5 d2 d3 hb HB
          go_wp2_with fail
          refine (KP2.out).mono ?_
          rintro e' w6 ⟨v6, rfl, hown6, hb6⟩
          have hown6' := own_base (base' := w1.heap.size) hown6 hbw5.size
          have hbw6 := hbw5.trans (hb6.mono hbw5.size)
          obtain ⟨hdr2, hhdr2⟩ : ∃ h, ((hdr ++ bodyI inner) ++ be64 j) ++ be64 m = h := ⟨_, rfl⟩
          rw [hhdr2] at hown6'
          have HH2 := Lib.hid hhdr2
          clear KP2 hown6 hb6 hbw5 hhdr2 hw3 hw4 hw5
          go_wp2_with fail
          go_loopw [6, 8] (fun v i' wr => ∃ t q' : Nat, t ≤ j ∧ i' = .int .i64 t ∧ wr.ownsRow w1.heap.size 5 1 v q' ((hdr2 ++ bodyL (ds.take t)).map bv) ∧ Hid (q' = q + 16 + t * (32 + m)) ∧ Hid (∀ k, k < t → (ds.getD k ([], [])).2.length = sizeL ds) ∧ Below w1.heap.size w1 wr) (fun _ i' _ => j - (intOf i').toNat)
          case atStart => exact ⟨0, q + 8 + 8, Nat.zero_le _, rfl, by simpa [bodyL] using hown6', Lib.hid (by omega), Lib.hid (fun k hk => absurd hk (by omega)), hbw6⟩
          case round =>
            clear hown6' hbw6
            obtain ⟨t, q', ht, rfl, hown, HQ', HP, hb⟩ := hrel
            have HB := Lib.hid (HBX.out wr hb)
            have d3 : wr.cell? ⟨w.heap.size, 3, none⟩ = some (.slice Al j cl) := HB.out.cell 3
            by_cases hlt : t < j
            · obtain ⟨b, off, hAl, hbl, hc⟩ := HL.out.at_ (by omega)
              have HTO := Lib.hid (HL.out.to t hlt b off hAl)
              subst hAl
              have hd1 := (hc t hlt).2
              have d1 := (hb.cell (p := ⟨b, off + t * 33 + 32, none⟩) hbl).trans hd1
              obtain ⟨ht32, hbx⟩ := HL.out.get t hlt
              obtain ⟨e, he⟩ : ∃ e, es.getD t default = e := ⟨_, rfl⟩
              have HT1 := Lib.hid (show Bytes w1 (some ⟨b, off + t * 33, none⟩) 32 32 e.to from he ▸ HTO.out)
              rw [he] at d1 hbx ht32 hd1
              have HD1 := Lib.hid hd1
              have hin : (t : Int) < (j : Int) := by omega
              have HE := Lib.hid (show ds.getD t ([], []) = (e.to, e.l) ∧ e.l.length = e.n by
                rw [HD.out t hlt, he]
                exact ⟨rfl, hbx.len⟩)
              have HX := Lib.hid hbx
              have hqb : q' ≤ 1100000000 := by
                have := HQ'.out
                have h1 : t * (32 + m) ≤ 1000 * 1048608 := Nat.mul_le_mul (by omega) (by omega)
                omega
              clear he hc hbx HTO ht32 hd1
              by_cases hnm : e.n = m
              · subst hnm
                have HP2 := Lib.hid (show ∀ k, k < t + 1 → (ds.getD k ([], [])).2.length = sizeL ds from fun k hk => by
                  rcases Nat.lt_or_eq_of_le (Nat.le_of_lt_succ hk) with h | rfl
                  · exact HP.out k h
                  · rw [HE.out.1]
                    rw [← HMS.out]; exact HE.out.2)
                obtain ⟨A6, c6, rfl, hr6⟩ := Row.own hown
                have HC := Lib.hid (fun (u : World) (h : Below w1.heap.size w1 u) => show u.cell? ⟨w.heap.size, 3, none⟩ = some (.slice (some ⟨b, off, none⟩) j cl) ∧ u.cell? ⟨b, off + t * 33 + 32, none⟩ = some (.slice e.A e.n e.c) from
                  ⟨(HBX.out u h).cell 3, (h.cell (p := ⟨b, off + t * 33 + 32, none⟩) hbl).trans HD1.out⟩)
                have HT := Lib.hid (fun (u : World) (h : Below w1.heap.size w1 u) => show Bytes u (some ⟨b, off + t * 33, none⟩) 32 32 e.to from HT1.out.keep h)
                have HBY := Lib.hid (fun (u : World) (h : Below w1.heap.size w1 u) => show Bytes u e.A e.n e.c e.l from HX.out.keep h)
                have HM8 := Lib.hid (show q' + 32 ≤ 140737488355328 by omega)
                have HM9 := Lib.hid (show q' + 32 + e.n ≤ 140737488355328 by omega)
                have HBD := Lib.hid (show Below w1.heap.size w1 wr.drew from hb.drew)
                have HBB := Lib.hid hb
                have HO0 := Lib.hid (show wr.drew.ownsRow w1.heap.size 5 1 (.slice A6 q' c6) q' ((hdr2 ++ bodyL (ds.take t)).map bv) from hown)
                have HKK := Lib.hid (fun k hk => (HO0.out.lt k hk).1)
                clear hown hr6 HP
                go_wp2_with fail
                clear d1 d3
                go_region_held_law (fun w' => w'.cell? ⟨w.heap.size, 3, none⟩ = some (.slice (some ⟨b, off, none⟩) j cl) ∧ w'.cell? ⟨b, off + t * 33 + 32, none⟩ = some (.slice e.A e.n e.c)) (first | exact HC.out _ HBD.out | exact HC.out _ hb8 | exact HC.out _ hb9)
                  (first
                  | ((refine step_app8 (by rfl) (.tmp 100) (.tmp 106) (by rfl) w1.heap.size (.slice A6 q' c6) q' (hdr2 ++ bodyL (ds.take t)) (by rfl) HO0.out (some ⟨b, off + t * 33, none⟩) 32 32 e.to (by rfl) (HT.out _ HBD.out) HM8.out HBD.out.size ?_); intro v8 w8 hown8 hg8; have hb8 : Below w1.heap.size w1 w8 := HBD.out.grown hg8 HBD.out.size HKK.out; simp only [List.getElem_toArray, List.getElem_cons_succ, List.getElem_cons_zero])
                  | ((refine step_app8 (by rfl) (.tmp 107) (.tmp 113) (by rfl) w1.heap.size v8 (q' + 32) ((hdr2 ++ bodyL (ds.take t)) ++ e.to) (by rfl) hown8 e.A e.n e.c e.l (by rfl) (HBY.out _ hb8) HM9.out hb8.size ?_); intro v9 w9 hown9 hg9; have hb9 : Below w1.heap.size w1 w9 := hb8.grown hg9 hb8.size (fun k hk => (hown8.lt k hk).1); simp only [List.getElem_toArray, List.getElem_cons_succ, List.getElem_cons_zero]))
                rw [show ((hdr2 ++ bodyL (ds.take t)) ++ e.to) ++ e.l = hdr2 ++ bodyL (ds.take (t + 1)) by
                  rw [bodyL_take (by rw [HDL.out]; exact hlt), HE.out.1, List.append_assoc, List.append_assoc, List.append_assoc]] at hown9
                have HQ2 := Lib.hid (show q' + 32 + e.n = q + 16 + (t + 1) * (32 + e.n) by rw [HQ'.out, Nat.succ_mul]; omega)
                clear hg9 hown8 hg8 hb8 HO0 HKK HC HT HBY HBD
                go_wp2_with fail
                go_roundw
                case rel => exact ⟨t + 1, q' + 32 + e.n, by omega, by go_num, hown9, HQ2, HP2, hb9⟩
                case measure => simp [intOf]; omega
              · have hne : ((e.n : Int) == (m : Int)) = false := by simp; exact fun h => hnm (by omega)
                have HKK := Lib.hid (show l = [] ∧ k = 1 by
                  have := HK3.out
                  rw [oddL_true (j := t) (by rw [HDL.out]; exact hlt) (by rw [HE.out.1, ← HMS.out]; show e.l.length ≠ m; rw [HE.out.2]; exact hnm), if_pos rfl] at this
                  obtain ⟨rfl, rfl⟩ := Prod.mk.inj this
                  exact ⟨rfl, rfl⟩)
                clear HP hown
                go_wp2_with fail
                go_ret2
                exact ⟨_, by rw [HKK.out.2]; rfl, by rw [HKK.out.1]; exact World.ownsRow_nil _ _ _ _, HB1.out.trans (hb.mono HB1.out.size)⟩
            · obtain rfl : t = j := by omega
              have HEND := Lib.hid (show l = hdr2 ++ bodyL ds ∧ k = 0 ∧ l.length = q' by
                have := HK3.out
                rw [oddL_false (fun k hk => HP.out k (by rw [← HDL.out]; exact hk)), if_neg (by simp)] at this
                obtain ⟨rfl, rfl⟩ := Prod.mk.inj this
                rw [← HH2.out, ← HH0.out]
                refine ⟨by simp only [List.nil_append], rfl, ?_⟩
                have hbl : (bodyL ds).length = ds.length * (32 + m) := bodyL_len ds m fun e he => by
                  obtain ⟨p, hp, rfl⟩ := List.mem_iff_getElem.1 he
                  have h1 := HP.out p (by rw [← HDL.out]; exact hp)
                  have h2 := HD.out p (by rw [← HDL.out]; exact hp)
                  have h3 := (HL.out.get p (by rw [← HDL.out]; exact hp)).1
                  have h4 : ds.getD p ([], []) = ds[p] := by simp [hp]
                  rw [← h4]
                  exact ⟨by rw [h2]; exact h3, by rw [h1, HMS.out]⟩
                rw [HQ'.out, HQ.out]
                simp only [List.length_append, be64_len, bodyI_len, HIL.out, hbl, HDL.out, List.length_nil])
              rw [List.take_of_length_le (Nat.le_of_eq HDL.out)] at hown
              have HF := Lib.hid (own_base (base' := w.heap.size) hown HB1.out.size)
              clear hown HP
              go_wp2_with fail
              go_ret2
              exact ⟨_, by rw [HEND.out.2.1]; rfl, by rw [HEND.out.2.2, HEND.out.1]; exact HF.out, HB1.out.trans (hb.mono HB1.out.size)⟩
end Go.Proofs.Ytiilgkajijnbcaa
