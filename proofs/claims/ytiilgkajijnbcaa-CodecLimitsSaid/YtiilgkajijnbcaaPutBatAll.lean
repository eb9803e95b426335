/-
  Contract of the package's Batch.
-/
import Derived.Test.YtiilgkajijnbcaaPutBatB
import Derived.Deep.RegionHeldLaw
namespace Go.Proofs.Ytiilgkajijnbcaa
open Go.ChangeShapes Go.WideShapes Go.ChangeAt Go.RowKit
set_option linter.unusedVariables false
set_option linter.unusedSimpArgs false

/-! ### Parts that survive an append to a row of slices: they lie below block B, or in blocks of another type -/
def PY (B : Nat) (w : World) (p : Pc) : Prop := Bytes w p.A p.n p.c p.l ∧ (0 < p.n → ∀ x, p.A = some x → x.block < w.heap.size ∧ (x.block < B ∨ ∃ cur t fr, t ≠ 25 ∧ w.heap[x.block]? = some (.cells cur t fr)))
section
variable {B : Nat} {w w' : World} {p : Pc}
theorem PY.of_px (h : PX B w p) : PY B w p := ⟨h.1, fun hn x hx => ⟨(h.2 hn x hx).1, by
  rcases (h.2 hn x hx).2 with h1 | ⟨cur, fr, h1⟩
  · exact .inl h1
  · exact .inr ⟨cur, _, fr, by decide, h1⟩⟩⟩
theorem PY.of_same (h : PY B w p) (hs : w.heap.size ≤ w'.heap.size) (hk : 0 < p.n → ∀ x, p.A = some x → w'.heap[x.block]? = w.heap[x.block]?) : PY B w' p := by
  refine ⟨?_, fun hn x hx => ⟨Nat.lt_of_lt_of_le (h.2 hn x hx).1 hs, by rw [hk hn x hx]; exact (h.2 hn x hx).2⟩⟩
  obtain ⟨h1, h2, h3, h0, h4⟩ := h.1
  refine ⟨h1, h2, h3, h0, fun hn => ?_⟩
  obtain ⟨b, off, e, hlt, hc⟩ := h4 hn
  refine ⟨b, off, e, Nat.lt_of_lt_of_le hlt hs, fun j hj => ?_⟩
  rw [← hc j hj]
  simp only [World.cell?, hk hn _ e]
theorem PY.keep (h : PY B w p) (hb : Below w.heap.size w w') : PY B w' p := h.of_same hb.size fun hn x hx => hb.block _ (h.2 hn x hx).1
theorem PY.alloc (h : PY B w p) (o : Obj) : PY B (w.alloc o) p := h.keep ((Below.refl _ _).alloc (Nat.le_refl _) o)
theorem PY.grown {base m : Nat} {v : Value} {xs : List Value} (h : PY B w p) (ho : w.ownsRow base 25 1 v m xs) (hB : B ≤ base) (hg : w.grownBy w' v.ownBlock) : PY B w' p := by
  refine h.of_same hg.size fun hn x hx => hg.block _ (h.2 hn x hx).1 fun eq => ?_
  have hlt := (ho.lt x.block eq.symm).1
  rcases (h.2 hn x hx).2 with h1 | ⟨cur, t, fr, ht, h1⟩
  · omega
  · rcases ho.2 with ⟨rfl, _⟩ | ⟨g, cap, cur', rfl, _, hgg, _⟩
    · simp [Value.ownBlock] at eq
    · simp [Value.ownBlock] at eq
      rw [eq, hgg] at h1
      cases h1
      exact ht rfl
/-- A part of a block that is known whole. -/
theorem PY.has {g off m c : Nat} {t : TypeId} {cs : List Value} {l : List UInt8} (H : Has w g t cs) (ht : t ≠ 25) (hb : Bytes w (some ⟨g, off, none⟩) m c l) : PY B w ⟨some ⟨g, off, none⟩, m, c, l⟩ :=
  ⟨hb, fun hn x hx => by
    obtain rfl := Option.some.inj (show some (⟨g, off, none⟩ : Addr) = some x from hx)
    exact ⟨H.lt, .inr ⟨_, t, _, ht, H⟩⟩⟩
end
theorem lit1P (w : World) (A : Option Addr) (n c : Nat) (l : List UInt8) : Row (w.alloc (.cells #[.slice A n c] 25)) (some ⟨w.heap.size, 0, none⟩) 1 1 (([⟨A, n, c, l⟩] : List Pc).map Pc.val) := by
  have := (Has.new w 25 [.slice A n c]).row 0 1 1 (by simp) (Nat.le_refl _) (by decide)
  exact this
theorem letTo {w : World} {g n c : Nat} {A : Option Addr} {u : List UInt8} (h : Has w g 96 (lcells u A n c)) (hl : u.length = 32) : Bytes w (some ⟨g, 0, none⟩) 32 32 u := by
  have := h.row 0 32 32 (by rw [lcells_len _ _ _ hl]; omega) (Nat.le_refl _) (by simp [maxLen])
  rw [List.drop_zero, lcells, List.take_append_of_le_length (by rw [List.length_map]; omega), List.take_of_length_le (by rw [List.length_map]; omega)] at this
  exact this
theorem own_row {w : World} {base n c : Nat} {e : TypeId} {A : Option Addr} {xs : List Value} (h : w.ownsRow base e 1 (.slice A n c) n xs) : Row w A n c xs := by
  obtain ⟨A', c', h1, hr⟩ := Row.own h
  cases h1
  exact hr
set_option maxHeartbeats 4000000 in
theorem progBatch' (r ch : Int) (hr : -9223372036854775808 ≤ r ∧ r ≤ 9223372036854775807) (hch : -9223372036854775808 ≤ ch ∧ ch ≤ 9223372036854775807) (Ai : Option Addr) (ni ci : Nat) (inner : List Nat) (Al : Option Addr) (nl cl : Nat) (es : List Let) (l : List UInt8) (k : Nat)
    (hk : wBatch ⟨r, ch, inner, es.map Let.data⟩ = (l, k)) (w : World) (hi : Nums w Ai ni ci inner) (hl : Letters w Al nl cl es) :
    Calls Try.prog 22 #[.agg (bcells r ch Ai ni ci Al nl cl).toArray] w fun e w' => ∃ v, e = .returned (.tuple #[v, .int .i64 (k : Int)]) ∧ (∃ A' c', v = .slice A' l.length c' ∧ Bytes w' A' l.length c' l) ∧ Below w.heap.size w w' := by
  have H1 := Has.new w 53 (bcells r ch Ai ni ci Al nl cl)
  have hb1 := (Below.refl w.heap.size w).alloc (Nat.le_refl _) (.cells (bcells r ch Ai ni ci Al nl cl).toArray 53)
  have hz1 : (w.alloc (.cells (bcells r ch Ai ni ci Al nl cl).toArray 53)).heap.size = w.heap.size + 1 := by simp
  have KC := Lib.hid (fun (u : World) (hb : Below w.heap.size w u) => cCheckB' r ch Ai ni ci inner Al nl cl es k (by rw [hk]) u (hi.keep hb) (hl.keep hb))
  by_cases h0 : k = 0
  · subst h0
    obtain ⟨ds, hds⟩ : ∃ ds, es.map Let.data = ds := ⟨_, rfl⟩
    have hdl : ds.length = nl := by rw [← hds, List.length_map]; exact hl.2.1
    have hil := hi.len
    have hD := fun j (hj : j < nl) => show ds.getD j ([], []) = (es.getD j default).data by rw [← hds]; exact getD_ldata es j (by rw [hl.2.1]; exact hj)
    have hez := hl.each
    rw [hds] at hk hez
    have hfacts : (ni ≤ 20 ∧ nl ≤ 1000) ∧ longL ds = false ∧ (0 ≤ r ∧ 0 ≤ ch) ∧ oddL ds = false := by
      have h2 : (wBatch ⟨r, ch, inner, ds⟩).2 = 0 := by rw [hk]
      obtain ⟨k1, k2, k3, k4, _⟩ := errB_of h2
      simp only [hdl, hil] at k1 k2 k3 k4
      by_cases hn : 20 < ni ∨ 1000 < nl
      · exact absurd (k1 hn) (by omega)
      · cases hlo : longL ds with
        | true => exact absurd (k2 hn hlo) (by omega)
        | false =>
          by_cases hrc : r < 0 ∨ ch < 0
          · exact absurd (k3 hn hlo hrc) (by omega)
          · cases hod : oddL ds with
            | true => exact absurd (k4 hn hlo hrc hod) (by omega)
            | false => exact ⟨by omega, rfl, by omega, rfl⟩
    obtain ⟨⟨hn20, hn1000⟩, hlo, ⟨hr0, hch0⟩, hod⟩ := hfacts
    obtain ⟨rn, rfl⟩ : ∃ n : Nat, r = (n : Int) := ⟨r.toNat, by omega⟩
    obtain ⟨cn, rfl⟩ : ∃ n : Nat, ch = (n : Int) := ⟨ch.toNat, by omega⟩
    obtain ⟨z, hz⟩ : ∃ z, sizeL ds = z := ⟨_, rfl⟩
    rw [wBatch, if_neg (by simp only [hdl, hil]; omega), if_neg (by simp [hlo]), if_neg (by simp only []; omega), if_neg (by simp [hod])] at hk
    have hl0 : l = (((((be64 rn ++ be64 cn) ++ be64 ni) ++ bodyI inner) ++ be64 nl) ++ be64 z) ++ bodyL ds := by
      have := (Prod.mk.inj hk).1
      rw [← this]
      simp only [headB, hdl, hil, hz, Int.toNat_natCast]
    have hnz : z ≤ 1048576 := by
      rw [longL, List.any_eq_false] at hlo
      rw [← hz, sizeL]
      by_cases hn0 : nl = 0
      · rw [show ds = [] from List.eq_nil_of_length_eq_zero (by omega)]; simp
      · have hm : ds.getD 0 ([], []) ∈ ds := by
          rw [List.getD_eq_getElem?_getD, List.getElem?_eq_getElem (by omega)]
          exact List.getElem_mem _
        simpa using hlo _ hm
    have hall : ∀ e ∈ ds, e.1.length = 32 ∧ e.2.length = z := fun e he => by
      refine ⟨?_, ?_⟩
      · rw [← hds] at he
        obtain ⟨x, hx, rfl⟩ := List.mem_map.1 he
        exact (hl.2.2 x hx).1
      · rw [oddL, List.any_eq_false] at hod
        have := hod e he
        simp at this
        rw [← hz]
        exact this
    have hll : l.length ≤ 140737488355328 := by
      rw [hl0]
      simp only [List.length_append, be64_len, bodyI_len, bodyL_len ds z hall, hdl, hil]
      have h1 : nl * (32 + z) ≤ 1000 * 1048608 := Nat.mul_le_mul (by omega) (by omega)
      omega
    rw [hz] at hez
    have KB := Lib.hid (fun (u : World) (hb : Below w.heap.size w u) => cBodies' Al nl cl es (by omega) u (hl.keep hb))
    have KS := Lib.hid (fun (B : Nat) (A' : Option Addr) (c' : Nat) (u : World) (hr : PcsAt u A' nl c' (es.map Let.pc)) (hB : B ≤ u.heap.size) => cSizes' B A' nl c' (es.map Let.pc) z hez (by omega) u hr.1 hB)
    have HI := Lib.hid hi
    have HH := Lib.hid hl
    have HL0 := Lib.hid hl0
    have HD := Lib.hid hD
    have HDL := Lib.hid hdl
    have HIL := Lib.hid hil
    have HLL := Lib.hid hll
    have HBD := Lib.hid (And.intro hn20 hn1000)
    have hle := hl.le
    have hle2 := hi.le
    have hrm : rn ≤ 9223372036854775807 := by omega
    have hcm : cn ≤ 9223372036854775807 := by omega
    clear hk hl0 hD hdl hil hds hlo hod hz hall hll hez hl hi hr hch hr0 hch0
    go_enter Try.func22, Try.ntmps22
    go_wp2_with ((with_reducible refine wpList_load_bat rfl (.tmp 1) rfl w.heap.size rfl (rn : Int) (cn : Int) Ai ni ci Al nl cl H1 ?_))
    refine (KC.out _ hb1).mono ?_
    rintro e w2 ⟨rfl, hb20⟩
    have H2 := H1.keep hb20 H1.lt
    have hb2 := hb1.trans (hb20.mono hb1.size)
    have hg2 : w.heap.size < w2.heap.size := H2.lt
    clear KC hb20 hb1 H1 hz1
    go_wp2_with fail
    -- the head: three counts in a literal
    have HC := Lib.hid (fun (u : World) (hb : Below (w.heap.size + 1) w2 u) => show Has u w.heap.size 53 (bcells (rn : Int) (cn : Int) Ai ni ci Al nl cl) from Has.keep (w := w2) H2 hb (Nat.lt_succ_self _))
    have HCC := Lib.hid (fun (u : World) (hb : Below (w.heap.size + 1) w2.drew u) => show u.cell? ⟨w.heap.size, 0, none⟩ = some (.int .i64 (rn : Int)) ∧ u.cell? ⟨w.heap.size, 1, none⟩ = some (.int .i64 (cn : Int)) ∧ u.cell? ⟨w.heap.size, 2, none⟩ = some (.slice Ai ni ci) from by
      have hU := HC.out u ⟨hb.os, hb.tape, hb.output, hb.size, hb.block⟩
      exact ⟨hU.cell 0, hU.cell 1, hU.cell 2⟩)
    have h00 := HCC.out w2.drew (Below.refl _ _)
    obtain ⟨h0a, h0b, h0c⟩ := id h00
    have K1 := Lib.hid (fun (u : World) => cCount' rn hrm u)
    have K2 := Lib.hid (fun (u : World) => cCount' cn hcm u)
    have K3 := Lib.hid (fun (u : World) => cCount' ni hle2 u)
    have HSZ := Lib.hid (show w.heap.size + 1 ≤ w2.drew.heap.size from hg2)
    go_region_held_law (fun w' => w'.cell? ⟨w.heap.size, 0, none⟩ = some (.int .i64 (rn : Int)) ∧ w'.cell? ⟨w.heap.size, 1, none⟩ = some (.int .i64 (cn : Int)) ∧ w'.cell? ⟨w.heap.size, 2, none⟩ = some (.slice Ai ni ci)) (first | exact HCC.out _ (hb5.alloc (Nat.le_trans HSZ.out hb5.size) _) | exact HCC.out _ hb5 | exact HCC.out _ hb4 | exact HCC.out _ hb3 | exact h00)
      (first
      | (go_at_call 46; with_reducible refine (K3.out w4).mono ?_; rintro e w5 ⟨v5, rfl, hown5, hb50⟩; obtain ⟨A5, c5, rfl, hp5⟩ := PX.own (B := w.heap.size + 1) hown5; have P5 := Lib.hid (PY.of_px hp5); have Q3 := Lib.hid (P3b.out.keep hb50); have Q4 := Lib.hid (P4.out.keep hb50); have hb5 := hb4.trans (hb50.mono (Nat.le_trans HSZ.out hb4.size)); clear hown5 hp5 hb50)
      | (go_at_call 46; with_reducible refine (K2.out w3).mono ?_; rintro e w4 ⟨v4, rfl, hown4, hb40⟩; obtain ⟨A4, c4, rfl, hp4⟩ := PX.own (B := w.heap.size + 1) hown4; have P4 := Lib.hid (PY.of_px hp4); have P3b := Lib.hid (P3.out.keep hb40); have hb4 := hb3.trans (hb40.mono (Nat.le_trans HSZ.out hb3.size)); clear hown4 hp4 hb40)
      | (go_at_call 46; with_reducible refine (K1.out _).mono ?_; rintro e w3 ⟨v3, rfl, hown3, hb30⟩; obtain ⟨A3, c3, rfl, hp3⟩ := PX.own (B := w.heap.size + 1) hown3; have P3 := Lib.hid (PY.of_px hp3); have hb3 := hb30.mono HSZ.out; clear hown3 hp3 hb30))
    have hb6 := Lib.hid ((((Below.refl (w.heap.size + 1) w2).drew).trans hb5).alloc (Nat.le_trans HSZ.out hb5.size) (.cells #[.slice A3 8 c3, .slice A4 8 c4, .slice A5 8 c5] 25))
    have HO6 := Lib.hid (own_litPc w5 (w.heap.size + 1) [⟨A3, 8, c3, be64 rn⟩, ⟨A4, 8, c4, be64 cn⟩, ⟨A5, 8, c5, be64 ni⟩] 3 rfl (by decide) (Nat.le_trans HSZ.out hb5.size))
    have HP6 := Lib.hid (show (∀ x ∈ ([⟨A3, 8, c3, be64 rn⟩, ⟨A4, 8, c4, be64 cn⟩, ⟨A5, 8, c5, be64 ni⟩] : List Pc), PY (w.heap.size + 1) (w5.alloc (.cells #[.slice A3 8 c3, .slice A4 8 c4, .slice A5 8 c5] 25)) x) ∧ catP [⟨A3, 8, c3, be64 rn⟩, ⟨A4, 8, c4, be64 cn⟩, ⟨A5, 8, c5, be64 ni⟩] = ((be64 rn ++ be64 cn) ++ be64 ni) ++ bodyI (inner.take 0) from ⟨fun x hx => by
      simp only [List.mem_cons, List.not_mem_nil, or_false] at hx
      rcases hx with rfl | rfl | rfl
      · exact Q3.out.alloc _
      · exact Q4.out.alloc _
      · exact P5.out.alloc _, by simp [catP, bodyI]⟩)
    have HO6' := Lib.hid (show (w5.alloc (.cells #[.slice A3 8 c3, .slice A4 8 c4, .slice A5 8 c5] 25)).ownsRow (w.heap.size + 1) 25 1 (.slice (some ⟨w5.heap.size, 0, none⟩) 3 3) 3 (([⟨A3, 8, c3, be64 rn⟩, ⟨A4, 8, c4, be64 cn⟩, ⟨A5, 8, c5, be64 ni⟩] : List Pc).map Pc.val) from HO6.out)
    obtain ⟨g5, hg5⟩ : ∃ x, x = w5.heap.size := ⟨_, rfl⟩
    obtain ⟨w6, hw6⟩ : ∃ x, x = w5.alloc (.cells #[.slice A3 8 c3, .slice A4 8 c4, .slice A5 8 c5] 25) := ⟨_, rfl⟩
    rw [← hw6, ← hg5] at HO6'
    rw [← hw6] at HP6 hb6 ⊢
    rw [← hg5]
    have d2 : w6.cell? ⟨w.heap.size, 2, none⟩ = some (.slice Ai ni ci) := (HC.out w6 hb6.out).cell 2
    clear hw6 hg5 HO6 Q3 Q4 P5 P4 P3 P3b hb5 hb4 hb3 h00 h0a h0b h0c K1 K2 K3 HSZ HCC
    go_wp2_with fail
    go_loopw [5, 29] (fun v i wr => ∃ (j m : Nat) (ps : List Pc), j ≤ ni ∧ i = .int .i64 j ∧ wr.ownsRow (w.heap.size + 1) 25 1 v m (ps.map Pc.val) ∧ Hid (m = 3 + j) ∧ Hid ((∀ x ∈ ps, PY (w.heap.size + 1) wr x) ∧ catP ps = ((be64 rn ++ be64 cn) ++ be64 ni) ++ bodyI (inner.take j)) ∧ Hid (Below (w.heap.size + 1) w2 wr)) (fun _ i _ => ni - (intOf i).toNat)
    case atStart => exact ⟨0, 3, _, Nat.zero_le _, rfl, HO6'.out, Lib.hid rfl, HP6, hb6⟩
    case round =>
      clear hb6 HO6' HP6 d2
      obtain ⟨j, m, ps, hj, rfl, hown, HM, HP, HB⟩ := hrel
      have hbw := hb2.trans (HB.out.mono (Nat.le_succ _))
      have hsz : w.heap.size + 1 ≤ wr.heap.size := Nat.le_trans hg2 HB.out.size
      by_cases hlt : j < ni
      · obtain ⟨b, off, rfl, hbl, hc⟩ := HI.out.at_ (by omega)
        have c0 := (hbw.cell (p := ⟨b, off + j, none⟩) hbl).trans (hc j hlt)
        obtain ⟨x, hx⟩ : ∃ x, inner.getD j 0 = x := ⟨_, rfl⟩
        rw [hx] at c0
        have hjn : (j : Int) < (ni : Int) := by omega
        have HST := Lib.hid (show bodyI (inner.take (j + 1)) = bodyI (inner.take j) ++ be64 x by
          rw [bodyI_take (by rw [HIL.out]; exact hlt), hx])
        have KN := Lib.hid (fun (u : World) => cNumber' x u)
        have HOW := Lib.hid hown
        have HMB := Lib.hid (show m + 1 ≤ 1048576 by have := HM.out; have := HBD.out; omega)
        clear hc hx hown
        go_wp2_with fail
        refine (KN.out wr).mono ?_
        rintro e w7 ⟨v7, rfl, hown7, hb70⟩
        obtain ⟨A7, c7, rfl, hp7⟩ := PX.own (B := w.heap.size + 1) hown7
        have hb7a := hb70.alloc hb70.size (.cells #[.slice A7 8 c7] 25)
        have HO8 := Lib.hid (own_below HOW.out hb7a)
        have HL8 := Lib.hid (lit1P w7 A7 8 c7 (be64 x))
        have HS8 := Lib.hid (Nat.le_trans hsz hb7a.size)
        have HBN := Lib.hid (HB.out.trans (hb7a.mono hsz))
        have HPN := Lib.hid (show (∀ y ∈ ps ++ [⟨A7, 8, c7, be64 x⟩], PY (w.heap.size + 1) (w7.alloc (.cells #[.slice A7 8 c7] 25)) y) ∧ catP (ps ++ [⟨A7, 8, c7, be64 x⟩]) = ((be64 rn ++ be64 cn) ++ be64 ni) ++ bodyI (inner.take (j + 1)) from ⟨fun y hy => by
          rcases List.mem_append.1 hy with h | h
          · exact (HP.out.1 y h).keep hb7a
          · obtain rfl := List.mem_singleton.1 h
            exact (PY.of_px hp7).alloc _, by
          rw [catP_app, HP.out.2, HST.out]
          simp [catP]⟩)
        clear hb7a hp7 hown7 hb70 HOW KN c0 hbw HB HP
        go_wp2_with (at_builtin; (refine wpList_appP rfl (.tmp 33) (.tmp 36) rfl (w.heap.size + 1) u5 m ps rfl HO8.out _ 1 1 [⟨A7, 8, c7, be64 x⟩] rfl HL8.out HMB.out HS8.out ?_); intro v9 w9 hown9 hg9)
        go_roundw
        case rel => exact ⟨j + 1, m + 1, _, by omega, by go_num, hown9, Lib.hid (by have := HM.out; omega), Lib.hid ⟨fun y hy => (HPN.out.1 y hy).grown HO8.out (Nat.le_refl _) hg9, HPN.out.2⟩, Lib.hid (HBN.out.grown hg9 HS8.out (fun k hk => (HO8.out.lt k hk).1))⟩
        case measure => simp [intOf]; omega
      · obtain rfl : j = ni := by omega
        rw [List.take_of_length_le (Nat.le_of_eq HIL.out)] at HP
        have d3 : wr.cell? ⟨w.heap.size, 3, none⟩ = some (.slice Al nl cl) := (HC.out wr HB.out).cell 3
        have HOW := Lib.hid hown
        clear hown
        go_wp2_with fail
        refine (KB.out wr hbw).mono ?_
        rintro e w7 ⟨A7, c7, rfl, hr7, hb70⟩
        have KS7 := Lib.hid (KS.out (w.heap.size + 1) A7 c7 w7 hr7 (Nat.le_trans hsz hb70.size))
        have HB7 := Lib.hid hb70
        clear hr7 hb70 KB KS d3
        go_wp2_with fail
        refine (KS7.out).mono ?_
        rintro e w8 ⟨g8, p, q, rfl, hown8, hp8, hq8, hpl, hql, hb80⟩
        have hb8 := HB7.out.trans (hb80.mono HB7.out.size)
        have HO9 := Lib.hid (own_below HOW.out hb8)
        have HL9 := Lib.hid (own_row hown8)
        have HMB := Lib.hid (show m + 2 ≤ 1048576 by have := HM.out; have := HBD.out; omega)
        have HS9 := Lib.hid (Nat.le_trans hsz hb8.size)
        have HBN := Lib.hid (HB.out.trans (hb8.mono hsz))
        have HPN := Lib.hid (show (∀ y ∈ ps ++ [p, q], PY (w.heap.size + 1) w8 y) ∧ catP (ps ++ [p, q]) = (((((be64 rn ++ be64 cn) ++ be64 j) ++ bodyI inner) ++ be64 nl) ++ be64 z) ++ bodyL (ds.take 0) from ⟨fun y hy => by
          rcases List.mem_append.1 hy with h | h
          · exact (HP.out.1 y h).keep hb8
          · simp only [List.mem_cons, List.not_mem_nil, or_false] at h
            rcases h with rfl | rfl
            · exact PY.of_px hp8
            · exact PY.of_px hq8, by
          rw [catP_app, HP.out.2]
          simp [catP, hpl, hql, bodyL]⟩)
        clear hown8 hp8 hq8 hpl hql hb80 hb8 HB7 KS7 HOW HP hbw
        go_wp2_with (at_builtin; (refine wpList_appP rfl (.tmp 39) (.tmp 43) rfl (w.heap.size + 1) u5 m ps rfl HO9.out _ 2 2 [p, q] rfl HL9.out HMB.out HS9.out ?_); intro v9 w9 hown9 hg9; have HB9 := Lib.hid (HBN.out.grown hg9 HS9.out (fun k hk => (HO9.out.lt k hk).1)); have d3 : w9.cell? ⟨w.heap.size, 3, none⟩ = some (.slice Al nl cl) := (HC.out w9 HB9.out).cell 3)
        have HP9 := Lib.hid (show (∀ y ∈ ps ++ [p, q], PY (w.heap.size + 1) w9 y) ∧ catP (ps ++ [p, q]) = (((((be64 rn ++ be64 cn) ++ be64 j) ++ bodyI inner) ++ be64 nl) ++ be64 z) ++ bodyL (ds.take 0) from ⟨fun y hy => (HPN.out.1 y hy).grown HO9.out (Nat.le_refl _) hg9, HPN.out.2⟩)
        have HOA := Lib.hid hown9
        have HMA := Lib.hid (show m + 2 = 5 + j + 2 * 0 by have := HM.out; omega)
        obtain ⟨wo, hwo⟩ : ∃ x : World, x = wr := ⟨_, rfl⟩
        subst hwo
        clear hown9 hg9 HO9 HL9 HMB HS9 HBN HPN HM HB hsz d3 hj hlt
        go_loopw [5, 48] (fun v i wr => ∃ (i' m : Nat) (ps : List Pc), i' ≤ nl ∧ i = .int .i64 i' ∧ wr.ownsRow (w.heap.size + 1) 25 1 v m (ps.map Pc.val) ∧ Hid (m = 5 + j + 2 * i') ∧ Hid ((∀ x ∈ ps, PY (w.heap.size + 1) wr x) ∧ catP ps = (((((be64 rn ++ be64 cn) ++ be64 j) ++ bodyI inner) ++ be64 nl) ++ be64 z) ++ bodyL (ds.take i')) ∧ Hid (Below (w.heap.size + 1) w2 wr)) (fun _ i _ => nl - (intOf i).toNat)
        case atStart => exact ⟨0, m + 2, _, Nat.zero_le _, rfl, HOA.out, HMA, HP9, HB9⟩
        case round =>
          clear HP9 HOA HMA HB9
          obtain ⟨i, m', ps', hii, rfl, hown, HM, HP, HB⟩ := hrel
          have hbw := hb2.trans (HB.out.mono (Nat.le_succ _))
          have hsz : w.heap.size + 1 ≤ wr.heap.size := Nat.le_trans hg2 HB.out.size
          by_cases hlt : i < nl
          · obtain ⟨b, off, rfl, hbl, hc⟩ := HH.out.all (by omega)
            obtain ⟨hto, hbx⟩ := HH.out.get i hlt
            have c0 := range_keep (hc i hlt) hbw hbl
            have hge := HD.out i hlt
            obtain ⟨e, he⟩ : ∃ e, es.getD i default = e := ⟨_, rfl⟩
            rw [he] at c0 hge hto hbx
            have HC0 := Lib.hid c0
            have HTO := Lib.hid hto
            have HE := Lib.hid (show PY (w.heap.size + 1) w ⟨e.A, e.n, e.c, e.l⟩ from ⟨hbx, fun hn x hx => by
              have := (PX.old hbx).2 hn x hx
              rcases this.2 with h | ⟨cur, fr, h⟩
              · exact ⟨this.1, .inl (Nat.lt_succ_of_lt h)⟩
              · exact ⟨this.1, .inr ⟨cur, _, fr, by decide, h⟩⟩⟩)
            have HST := Lib.hid (show bodyL (ds.take (i + 1)) = (bodyL (ds.take i) ++ e.to) ++ e.l by
              rw [bodyL_take (by rw [HDL.out]; exact hlt), hge]
              rfl)
            have hjn : (i : Int) < (nl : Int) := by omega
            have HN := newLet wr
            have hbn := (Below.refl wr.heap.size wr).alloc (Nat.le_refl _) (.cells #[.int .u8 0, .int .u8 0, .int .u8 0, .int .u8 0, .int .u8 0, .int .u8 0, .int .u8 0, .int .u8 0, .int .u8 0, .int .u8 0, .int .u8 0, .int .u8 0, .int .u8 0, .int .u8 0, .int .u8 0, .int .u8 0, .int .u8 0, .int .u8 0, .int .u8 0, .int .u8 0, .int .u8 0, .int .u8 0, .int .u8 0, .int .u8 0, .int .u8 0, .int .u8 0, .int .u8 0, .int .u8 0, .int .u8 0, .int .u8 0, .int .u8 0, .int .u8 0, .slice none 0 0] 96)
            have HOW := Lib.hid hown
            have HMB := Lib.hid (show m' + 2 ≤ 1048576 by have := HM.out; have := HBD.out; omega)
            clear hc c0 he hge hto hbx hown
            go_wp2_with (first
              | ((with_reducible refine wpList_load_let rfl (.tmp 50) rfl b (off + i * 33) rfl e.to e.A e.n e.c HTO.out HC0.out ?_))
              | ((with_reducible refine wpList_store_let rfl (.tmp 9) (.tmp 51) rfl wr.heap.size rfl e.to e.A e.n e.c HTO.out rfl (lcells (List.replicate 32 0) none 0 0) HN rfl ?_); intro w3' o3 H3))
            have hb3 := (o3.below hbn (Nat.le_refl _)).drew
            have h32 : w3'.drew.cell? ⟨wr.heap.size, 32, none⟩ = some (.slice e.A e.n e.c) := (H3.cell 32).trans (lcells_32 _ _ _ HTO.out)
            have hb4 := hb3.alloc hb3.size (.cells #[.slice (some ⟨wr.heap.size, 0, none⟩) 32 32, .slice e.A e.n e.c] 25)
            have HO9 := Lib.hid (own_below HOW.out hb4)
            have HL9 := Lib.hid (lit2 w3'.drew (some ⟨wr.heap.size, 0, none⟩) 32 32 e.to e.A e.n e.c e.l)
            have HS9 := Lib.hid (Nat.le_trans hsz hb4.size)
            have HBN := Lib.hid (HB.out.trans (hb4.mono hsz))
            have HPN := Lib.hid (show (∀ y ∈ ps' ++ [⟨some ⟨wr.heap.size, 0, none⟩, 32, 32, e.to⟩, ⟨e.A, e.n, e.c, e.l⟩], PY (w.heap.size + 1) (w3'.drew.alloc (.cells #[.slice (some ⟨wr.heap.size, 0, none⟩) 32 32, .slice e.A e.n e.c] 25)) y) ∧ catP (ps' ++ [⟨some ⟨wr.heap.size, 0, none⟩, 32, 32, e.to⟩, ⟨e.A, e.n, e.c, e.l⟩]) = (((((be64 rn ++ be64 cn) ++ be64 j) ++ bodyI inner) ++ be64 nl) ++ be64 z) ++ bodyL (ds.take (i + 1)) from ⟨fun y hy => by
              rcases List.mem_append.1 hy with h | h
              · exact (HP.out.1 y h).keep hb4
              · simp only [List.mem_cons, List.not_mem_nil, or_false] at h
                rcases h with rfl | rfl
                · exact (PY.has (w := w3'.drew) (show Has w3'.drew wr.heap.size 96 _ from H3) (by decide) (letTo (show Has w3'.drew wr.heap.size 96 _ from H3) HTO.out)).alloc _
                · exact HE.out.keep (hbw.trans (hb4.mono (Nat.le_of_succ_le hsz))), by
              rw [catP_app, HP.out.2, HST.out]
              simp [catP]⟩)
            have HC32 := Lib.hid (fun (u u' : World) (hu : u = w3'.drew.alloc (.cells #[.slice (some ⟨wr.heap.size, 0, none⟩) 32 32, .slice e.A e.n e.c] 25)) (hg : u.grownBy u' u5.ownBlock) => show u'.cell? ⟨wr.heap.size, 32, none⟩ = some (.slice e.A e.n e.c) from by
              subst hu
              have HU : Has (w3'.drew.alloc (.cells #[.slice (some ⟨wr.heap.size, 0, none⟩) 32 32, .slice e.A e.n e.c] 25)) wr.heap.size 96 (lcells e.to e.A e.n e.c) := (show Has w3'.drew wr.heap.size 96 _ from H3).alloc _
              have HU' := HU.grown hg (fun eq => by have := (HOW.out.lt _ eq.symm).2; omega)
              exact (HU'.cell 32).trans (lcells_32 _ _ _ HTO.out))
            have h32a := Lib.hid (show (w3'.drew.alloc (.cells #[.slice (some ⟨wr.heap.size, 0, none⟩) 32 32, .slice e.A e.n e.c] 25)).cell? ⟨wr.heap.size, 32, none⟩ = some (.slice e.A e.n e.c) from (Has.cell ((show Has w3'.drew wr.heap.size 96 _ from H3).alloc _) 32).trans (lcells_32 _ _ _ HTO.out))
            clear H3 o3 hbn HN hb3 hb4 HP HB hbw HOW HC0
            go_region_held_law (fun w' => w'.cell? ⟨wr.heap.size, 32, none⟩ = some (.slice e.A e.n e.c)) (first | exact HC32.out _ _ rfl hg9 | exact h32a.out | exact h32)
              (first
              | ((refine step_appP (by rfl) (.tmp 52) (.tmp 57) (by rfl) (w.heap.size + 1) u5 m' ps' (by rfl) HO9.out ⟨w3'.drew.heap.size, 0, none⟩ 2 2 [⟨some ⟨wr.heap.size, 0, none⟩, 32, 32, e.to⟩, ⟨e.A, e.n, e.c, e.l⟩] (by rfl) HL9.out HMB.out HS9.out ?_); intro v9 w9 hown9 hg9; simp only [List.getElem_toArray, List.getElem_cons_succ, List.getElem_cons_zero]))
            have HOA := Lib.hid hown9
            have HPA := Lib.hid (And.intro (fun y hy => (HPN.out.1 y hy).grown HO9.out (Nat.le_refl _) hg9) HPN.out.2)
            have HBA := Lib.hid (HBN.out.grown hg9 HS9.out (fun k hk => (HO9.out.lt k hk).1))
            have HMA := Lib.hid (show m' + 2 = 5 + j + 2 * (i + 1) by have := HM.out; omega)
            clear hown9 hg9 HPN HBN HO9 HL9 HS9 HC32 h32a h32 HE HST
            go_wp2_with fail
            go_roundw
            case rel => exact ⟨i + 1, m' + 2, _, by omega, by go_num, HOA.out, HMA, HPA, HBA⟩
            case measure => simp [intOf]; omega
          · obtain rfl : i = nl := by omega
            rw [List.take_of_length_le (Nat.le_of_eq HDL.out)] at HP
            obtain ⟨A6, c6, rfl, hr6⟩ := Row.own hown
            have HLe := Lib.hid (show catP ps' = l by rw [HP.out.2, HL0.out])
            have KJ := Lib.hid (joinNil A6 m' c6 ps' wr (by have := HM.out; omega) (by have := HM.out; have := HBD.out; omega) ⟨hr6, fun p hp => (HP.out.1 p hp).1⟩ (by rw [HLe.out]; exact HLL.out))
            rw [HLe.out] at KJ
            have HBW := Lib.hid hbw
            clear hown hr6 hbw
            go_wp2_with fail
            refine (KJ.out).mono ?_
            rintro e w7 ⟨A7, c7, rfl, hr7, hb7⟩
            have HR7 := Lib.hid hr7
            have HB7 := Lib.hid (HBW.out.trans (hb7.mono (Nat.le_of_succ_le hsz)))
            clear KJ hr7 hb7 HB
            go_wp2_with fail
            go_ret2
            exact ⟨_, rfl, ⟨A7, c7, rfl, HR7.out⟩, HB7.out⟩
  · have h1 : ((k : Int) == 0) = false := by simp; exact h0
    have HL := Lib.hid (show l = [] by
      unfold wBatch at hk
      split at hk
      · exact (Prod.mk.inj hk).1.symm
      · split at hk
        · exact (Prod.mk.inj hk).1.symm
        · split at hk
          · exact (Prod.mk.inj hk).1.symm
          · split at hk
            · exact (Prod.mk.inj hk).1.symm
            · exact absurd (Prod.mk.inj hk).2.symm h0)
    clear hk hl hi h0 hr hch
    go_enter Try.func22, Try.ntmps22
    go_wp2_with ((with_reducible refine wpList_load_bat rfl (.tmp 1) rfl w.heap.size rfl r ch Ai ni ci Al nl cl H1 ?_))
    refine (KC.out _ hb1).mono ?_
    rintro e w2 ⟨rfl, hb20⟩
    have HB := Lib.hid (hb1.trans (hb20.mono hb1.size))
    go_wp2_with fail
    go_ret2
    exact ⟨_, rfl, ⟨none, 0, by rw [HL.out]; rfl, by rw [HL.out]; exact Row.nil _⟩, HB.out⟩
end Go.Proofs.Ytiilgkajijnbcaa
