/-
  Contract of the package's Entries.
-/
import Derived.Test.YtiilgkajijnbcaaPutEnt
import Derived.Test.YtiilgkajijnbcaaWide
import Derived.Test.YtiilgkajijnbcaaBatMem
import Derived.Deep.RegionHeldLaw
namespace Go.Proofs.Ytiilgkajijnbcaa
open Go.ChangeShapes Go.WideShapes Go.ChangeAt Go.RowKit
set_option linter.unusedVariables false
set_option linter.unusedSimpArgs false

/-- 'append(parts, p ..)' of parts. -/
theorem wpList_appP {w : World} {ops : Array Oper} {rest : List Oper} {o : Oper} {a : Act} {Q : Exit → Act → World → Prop} (hgd : o.guard = none) (s x : Operand)
    (ho : o.op = .call { callee := .builtin .append, args := #[s, x], argTypes := #[77, 77] })
    (base : Nat) (v : Value) (n : Nat) (ps : List Pc) (hs : a.eval s = v) (hown : w.ownsRow base 25 1 v n (ps.map Pc.val))
    (A : Option Addr) (m c : Nat) (qs : List Pc) (hx : a.eval x = .slice A m c) (hr : Row w A m c (qs.map Pc.val)) (hbytes : n + m ≤ 1048576) (hbase : base ≤ w.heap.size)
    (h : ∀ v' w', w'.ownsRow base 25 1 v' (n + m) ((ps ++ qs).map Pc.val) → w.grownBy w' v.ownBlock → wpList Try.prog ops Q rest (a.put o.dst v') w') : wpList Try.prog ops Q (o :: rest) a w := by
  obtain ⟨i0, hi, hz0, hz1, hz2⟩ := info_parts Try.infoBS
  exact wpList_appendRow hgd s x 77 ho base 25 i0 (.slice none 0 0) 24 Try.underlying77 hi hz0 hz1 hz2 rfl v n (ps.map Pc.val) hs hown A m c (qs.map Pc.val) hx hr (one_pc qs) (by decide) (by omega) hbase fun v' w' h2 h3 => h v' w' (by rw [List.map_append]; exact h2) h3
theorem step_appP {w : World} {ops : Array Oper} {o : Oper} {a : Act} {K : Act → World → Prop} {Q : Exit → Act → World → Prop} {E : Prop} (hgd : o.guard = none) (s x : Operand)
    (ho : o.op = .call { callee := .builtin .append, args := #[s, x], argTypes := #[77, 77] })
    (base : Nat) (v : Value) (n : Nat) (ps : List Pc) (hs : a.eval s = v) (hown : w.ownsRow base 25 1 v n (ps.map Pc.val))
    (ad : Addr) (m c : Nat) (qs : List Pc) (hx : a.eval x = .slice (some ad) m c) (hr : Row w (some ad) m c (qs.map Pc.val)) (hbytes : n + m ≤ 1048576) (hbase : base ≤ w.heap.size)
    (h : ∀ v' w', w'.ownsRow base 25 1 v' (n + m) ((ps ++ qs).map Pc.val) → w.grownBy w' v.ownBlock → K (a.put o.dst v') w') :
    if Region.wanted o (yielded ops a.tmps) = true then Oper.wp Try.prog o a w K Q else E := by
  obtain ⟨i0, hi, hz0, hz1, hz2⟩ := info_parts Try.infoBS
  exact step_appRowW hgd s x 77 ho base 25 i0 (.slice none 0 0) 1 24 Try.underlying77 hi hz0 hz1 hz2 rfl (by decide) v n (ps.map Pc.val) hs hown ad m c (qs.map Pc.val) hx (RowW.of_row hr) (one_pc qs) (by decide) (by omega) hbase fun v' w' h2 h3 => h v' w' (by rw [List.map_append]; exact h2) h3
/-- A literal of two parts, as a row. -/
theorem lit2 (w : World) (A : Option Addr) (n c : Nat) (l : List UInt8) (B : Option Addr) (m d : Nat) (t : List UInt8) : Row (w.alloc (.cells #[.slice A n c, .slice B m d] 25)) (some ⟨w.heap.size, 0, none⟩) 2 2 (([⟨A, n, c, l⟩, ⟨B, m, d, t⟩] : List Pc).map Pc.val) := by
  have := (Has.new w 25 [.slice A n c, .slice B m d]).row 0 2 2 (by simp) (Nat.le_refl _) (by decide)
  exact this
theorem catP_app (ps qs : List Pc) : catP (ps ++ qs) = catP ps ++ catP qs := by rw [catP, catP, catP, List.flatMap_append]
set_option maxHeartbeats 2000000 in
theorem progEntries' (A : Option Addr) (n c : Nat) (es : List Ent) (l : List UInt8) (k : Nat) (hk : wEntries (es.map Ent.data) = (l, k)) (w : World) (h : Entries w A n c es) :
    Calls Try.prog 12 #[.slice A n c] w fun e w' => ∃ v, e = .returned (.tuple #[v, .int .i64 (k : Int)]) ∧ (∃ A' c', v = .slice A' l.length c' ∧ Bytes w' A' l.length c' l) ∧ Below w.heap.size w w' := by
  have KC := Lib.hid (cCheckE' A n c es k (by rw [hk]) w h)
  by_cases h0 : k = 0
  · subst h0
    obtain ⟨ds, hds⟩ : ∃ ds, es.map Ent.data = ds := ⟨_, rfl⟩
    have hdl : ds.length = n := by rw [← hds, List.length_map]; exact h.2.1
    have hlen : n ≤ 1000 ∧ longE ds = false ∧ oddE ds = false := by
      rw [hds] at hk
      have h2 : (wEntries ds).2 = 0 := by rw [hk]
      obtain ⟨k1, k2, k3, _⟩ := err_of h2
      rw [hdl] at k1 k2 k3
      refine ⟨?_, ?_, ?_⟩
      · by_cases hn : 1000 < n
        · exact absurd (k1 hn) (by omega)
        · omega
      · cases hl : longE ds with
        | false => rfl
        | true =>
          by_cases hn : 1000 < n
          · exact absurd (k1 hn) (by omega)
          · exact absurd (k2 hn hl) (by omega)
      · by_cases hn : 1000 < n
        · exact absurd (k1 hn) (by omega)
        · cases hl : longE ds with
          | true => exact absurd (k2 hn hl) (by omega)
          | false =>
            cases ho : oddE ds with
            | false => rfl
            | true => exact absurd (k3 hn hl ho) (by omega)
    obtain ⟨hn, hlo, hod⟩ := hlen
    rw [hds] at hk
    rw [wEntries, if_neg (by omega), if_neg (by simp [hlo]), if_neg (by simp [hod])] at hk
    obtain ⟨hl, _⟩ := Prod.mk.inj hk
    obtain ⟨z, hz⟩ : ∃ z, sizeN ds = z := ⟨_, rfl⟩
    have hD := fun j (hj : j < n) => show ds.getD j (0, []) = ((es.getD j default).x, (es.getD j default).l) by rw [← hds]; exact getD_data es j
    have hnz : z ≤ 1048576 := by
      rw [longE, List.any_eq_false] at hlo
      rw [← hz, sizeN]
      by_cases hn0 : n = 0
      · rw [show ds = [] from List.eq_nil_of_length_eq_zero (by omega)]; simp
      · have hm : ds.getD 0 (0, []) ∈ ds := by
          rw [List.getD_eq_getElem?_getD, List.getElem?_eq_getElem (by omega)]
          exact List.getElem_mem _
        simpa using hlo _ hm
    have hall : ∀ e ∈ ds, e.2.length = z := fun e he => by
      rw [oddE, List.any_eq_false] at hod
      have := hod e he
      simp at this
      rw [← hz]
      exact this.1
    have hll : l.length ≤ 140737488355328 := by
      rw [← hl, List.length_append, List.length_append, be64_len, be64_len, bodyE_len ds z hall, hdl]
      have h1 : n * (8 + z) ≤ 1000 * 1048584 := Nat.mul_le_mul (by omega) (by omega)
      omega
    have KB := Lib.hid (fun (u : World) (hb : Below w.heap.size w u) => cBoxes' A n c es (by omega) u (h.keep hb))
    have hez := h.each
    rw [hds, hz] at hez
    have KS := Lib.hid (fun (A' : Option Addr) (c' : Nat) (u : World) (hr : PcsAt u A' n c' (es.map Ent.pc)) (hB : w.heap.size ≤ u.heap.size) => cSizes' w.heap.size A' n c' (es.map Ent.pc) z hez (by omega) u hr.1 hB)
    have HH := Lib.hid h
    have HL := Lib.hid hl
    have HD := Lib.hid hD
    have HDL := Lib.hid hdl
    have HLL := Lib.hid hll
    have hle := h.le
    rw [hz] at hl
    have HL := Lib.hid hl
    have HN := Lib.hid hn
    clear hk hl hD hdl hds hlo hod hz hall hll hez h
    go_enter Try.func12, Try.ntmps12
    go_wp2_with fail
    refine (KC.out).mono ?_
    rintro e w1 ⟨rfl, hb1⟩
    clear KC
    go_wp2_with fail
    refine (KB.out _ hb1).mono ?_
    rintro e w2 ⟨A2, c2, rfl, hr2, hb20⟩
    have hb2 := hb1.trans (hb20.mono hb1.size)
    have KS2 := Lib.hid (KS.out A2 c2 w2 hr2 hb2.size)
    clear KB KS hr2 hb20 hb1
    go_wp2_with fail
    refine (KS2.out).mono ?_
    rintro e w3 ⟨g3, p, q, rfl, hown3, hp3, hq3, hpl, hql, hb30⟩
    have hb3 := hb2.trans (hb30.mono hb2.size)
    have HO3 := Lib.hid (own_base hown3 hb2.size)
    have HP3 := Lib.hid (show (∀ x ∈ [p, q], PX w.heap.size w3 x) ∧ catP [p, q] = be64 n ++ be64 z ++ bodyE (ds.take 0) from ⟨fun x hx => by
      simp only [List.mem_cons, List.not_mem_nil, or_false] at hx
      rcases hx with rfl | rfl
      · exact hp3
      · exact hq3, by simp [catP, hpl, hql, bodyE]⟩)
    clear KS2 hown3 hp3 hq3 hpl hql hb30 hb2
    go_wp2_with fail
    go_loopw [5, 18] (fun v i wr => ∃ (j m : Nat) (ps : List Pc), j ≤ n ∧ i = .int .i64 j ∧ wr.ownsRow w.heap.size 25 1 v m (ps.map Pc.val) ∧ Hid (m = 2 + 2 * j) ∧ Hid ((∀ x ∈ ps, PX w.heap.size wr x) ∧ catP ps = be64 n ++ be64 z ++ bodyE (ds.take j)) ∧ Below w.heap.size w wr) (fun _ i _ => n - (intOf i).toNat)
    case atStart => exact ⟨0, 2, [p, q], Nat.zero_le _, rfl, HO3.out, Lib.hid rfl, HP3, hb3⟩
    case round =>
      clear hb3 HO3 HP3
      obtain ⟨j, m, ps, hj, rfl, hown, HM, HP, hb⟩ := hrel
      by_cases hlt : j < n
      · obtain ⟨b, off, rfl, hbl, hc⟩ := HH.out.at_ (by omega)
        obtain ⟨c0, c1⟩ := hc j hlt
        have d0 := (hb.cell (p := ⟨b, off + j * 2, none⟩) hbl).trans c0
        have d1 := (hb.cell (p := ⟨b, off + j * 2 + 1, none⟩) hbl).trans c1
        have hge := HD.out j hlt
        obtain ⟨hbx, hx64⟩ := HH.out.get j hlt
        obtain ⟨e, he⟩ : ∃ e, es.getD j default = e := ⟨_, rfl⟩
        rw [he] at d0 d1 hge hbx
        have hjn : (j : Int) < (n : Int) := by omega
        have HN1 := newEnt wr
        have hb2 := hb.alloc hb.size (.cells #[.int .u64 0, .slice none 0 0] 39)
        have hbw := (Below.refl wr.heap.size wr).alloc (Nat.le_refl _) (.cells #[.int .u64 0, .slice none 0 0] 39)
        have HE := Lib.hid (show PX w.heap.size w ⟨e.A, e.n, e.c, e.l⟩ from PX.old hbx)
        have HST := Lib.hid (show bodyE (ds.take (j + 1)) = (bodyE (ds.take j) ++ be64 e.x) ++ e.l by
          rw [bodyE_take (by rw [HDL.out]; exact hlt), hge])
        have HOW := Lib.hid hown
        clear hc c0 c1 he hge hbx hx64 hown
        have K1 := Lib.hid (fun (u : World) => cNumber' e.x u)
        go_wp2_with ((refine wpList_store_has rfl 39 (.tmp 7) (.tmp 21) rfl wr.heap.size rfl [.int .u64 (e.x : Int), .slice e.A e.n e.c] rfl 39 [.int .u64 0, .slice none 0 0] HN1 size_ent rfl (one_xe e.x e.A e.n e.c) ?_); intro w3 o3 H3)
        have hb3 := o3.below hb2 hb.size
        have hbw3 := o3.below hbw (Nat.le_refl _)
        have HOW3 := Lib.hid (show w3.drew.ownsRow w.heap.size 25 1 u5 m (ps.map Pc.val) from own_below HOW.out hbw3.drew)
        have HP3 := Lib.hid (show ∀ x ∈ ps, PX w.heap.size w3.drew x from fun x hx => (HP.out.1 x hx).keep hbw3.drew)
        have HC := Lib.hid (fun (u : World) (hb : Below w3.drew.heap.size w3.drew u) => show u.cell? ⟨wr.heap.size, 0, none⟩ = some (.int .u64 (e.x : Int)) ∧ u.cell? ⟨wr.heap.size, 1, none⟩ = some (.slice e.A e.n e.c) from
          ⟨(show Has u wr.heap.size 39 [.int .u64 (e.x : Int), .slice e.A e.n e.c] from Has.keep (w := w3.drew) H3 hb H3.lt).cell 0, (show Has u wr.heap.size 39 [.int .u64 (e.x : Int), .slice e.A e.n e.c] from Has.keep (w := w3.drew) H3 hb H3.lt).cell 1⟩)
        obtain ⟨h00, h01⟩ := HC.out w3.drew (Below.refl _ _)
        have HOWB := Lib.hid (fun (k : Nat) (hk : u5.ownBlock = some k) => (HOW.out.lt k hk))
        have HCG := Lib.hid (fun (u u' : World) (hb : Below w3.drew.heap.size w3.drew u) (hg : u.grownBy u' u5.ownBlock) => show u'.cell? ⟨wr.heap.size, 0, none⟩ = some (.int .u64 (e.x : Int)) ∧ u'.cell? ⟨wr.heap.size, 1, none⟩ = some (.slice e.A e.n e.c) from by
          have HU : Has u wr.heap.size 39 [.int .u64 (e.x : Int), .slice e.A e.n e.c] := Has.keep (w := w3.drew) H3 hb H3.lt
          have HU' := HU.grown hg (fun eq => by have := (HOWB.out _ eq.symm).2; omega)
          exact ⟨HU'.cell 0, HU'.cell 1⟩)
        have HBD := Lib.hid (show Below w.heap.size w w3.drew from hb3.drew)
        have HMB := Lib.hid (show m + 2 ≤ 1048576 by have := HM.out; have := HN.out; omega)
        have HSZ := Lib.hid (show w.heap.size ≤ w3.drew.heap.size from hb3.size)
        clear H3 o3 hbw3 hb2 hbw HN1 hb3 d0 d1
        go_region_held_law (fun w' => w'.cell? ⟨wr.heap.size, 0, none⟩ = some (.int .u64 (e.x : Int)) ∧ w'.cell? ⟨wr.heap.size, 1, none⟩ = some (.slice e.A e.n e.c)) (first | exact HCG.out _ _ (hb5.alloc hb5.size _) hg9 | exact HC.out _ (hb5.alloc hb5.size _) | exact HC.out _ hb5 | exact ⟨h00, h01⟩)
          (first
          | ((refine step_appP (by rfl) (.tmp 22) (.tmp 28) (by rfl) w.heap.size u5 m ps (by rfl) HO7.out ⟨w5.heap.size, 0, none⟩ 2 2 [⟨A5, 8, c5, be64 e.x⟩, ⟨e.A, e.n, e.c, e.l⟩] (by rfl) HL7.out HMB.out HS7.out ?_); intro v9 w9 hown9 hg9)
          | (go_at_call 36; with_reducible refine (K1.out _).mono ?_; rintro e' w5 ⟨v5, rfl, hown5, hb5⟩; obtain ⟨A5, c5, rfl, hp5⟩ := PX.own (B := w.heap.size) hown5; have HP5 := Lib.hid hp5; have HO7 := Lib.hid (own_below HOW3.out (hb5.alloc hb5.size (.cells #[.slice A5 8 c5, .slice e.A e.n e.c] 25))); have HL7 := Lib.hid (lit2 w5 A5 8 c5 (be64 e.x) e.A e.n e.c e.l); have HS7 := Lib.hid (Nat.le_trans HSZ.out (hb5.alloc hb5.size (.cells #[.slice A5 8 c5, .slice e.A e.n e.c] 25)).size)))
        have HPN := Lib.hid (show (∀ x ∈ ps ++ [⟨A5, 8, c5, be64 e.x⟩, ⟨e.A, e.n, e.c, e.l⟩], PX w.heap.size w9 x) ∧ catP (ps ++ [⟨A5, 8, c5, be64 e.x⟩, ⟨e.A, e.n, e.c, e.l⟩]) = be64 n ++ be64 z ++ bodyE (ds.take (j + 1)) from ⟨fun x hx => by
          have hba := hb5.alloc hb5.size (.cells #[.slice A5 8 c5, .slice e.A e.n e.c] 25)
          have h7 : PX w.heap.size (w5.alloc (.cells #[.slice A5 8 c5, .slice e.A e.n e.c] 25)) x := by
            rcases List.mem_append.1 hx with hx | hx
            · exact (HP3.out x hx).keep hba
            · simp only [List.mem_cons, List.not_mem_nil, or_false] at hx
              rcases hx with rfl | rfl
              · exact HP5.out.alloc _
              · exact HE.out.keep (HBD.out.trans (hba.mono HSZ.out))
          exact h7.grown HO7.out (by decide) (Nat.le_refl _) hg9, by
          rw [catP_app, HP.out.2, HST.out]
          simp [catP]⟩)
        have hb9 := (HBD.out.trans ((hb5.alloc hb5.size (.cells #[.slice A5 8 c5, .slice e.A e.n e.c] 25)).mono HSZ.out)).grown hg9 (HBD.out.trans ((hb5.alloc hb5.size (.cells #[.slice A5 8 c5, .slice e.A e.n e.c] 25)).mono HSZ.out)).size (fun k hk => (HOWB.out k hk).1)
        have HO9 := Lib.hid hown9
        clear hown9 hg9 hb5 hown5 hp5 h00 h01
        go_wp2_with fail
        go_roundw
        case rel => exact ⟨j + 1, m + 2, _, by omega, by go_num, HO9.out, Lib.hid (by have := HM.out; omega), HPN, hb9⟩
        case measure => simp [intOf]; omega
      · obtain rfl : j = n := by omega
        rw [List.take_of_length_le (Nat.le_of_eq HDL.out)] at HP
        obtain ⟨A6, c6, rfl, hr6⟩ := Row.own hown
        have HLe := Lib.hid (show catP ps = l by rw [HP.out.2, ← HL.out, HDL.out])
        have KJ := Lib.hid (joinNil A6 m c6 ps wr (by have := HM.out; omega) (by have := HM.out; omega) ⟨hr6, fun p hp => (HP.out.1 p hp).1⟩ (by rw [HLe.out]; exact HLL.out))
        rw [HLe.out] at KJ
        clear hown hr6
        go_wp2_with fail
        refine (KJ.out).mono ?_
        rintro e w7 ⟨A7, c7, rfl, hr7, hb7⟩
        have HR7 := Lib.hid hr7
        have HB7 := Lib.hid (hb.trans (hb7.mono hb.size))
        clear KJ hr7 hb7 hb
        go_wp2_with fail
        go_ret2
        exact ⟨_, rfl, ⟨A7, c7, rfl, HR7.out⟩, HB7.out⟩
  · have h1 : ((k : Int) == 0) = false := by simp; exact h0
    have HL := Lib.hid (show l = [] by
      unfold wEntries at hk
      split at hk
      · exact (Prod.mk.inj hk).1.symm
      · split at hk
        · exact (Prod.mk.inj hk).1.symm
        · split at hk
          · exact (Prod.mk.inj hk).1.symm
          · exact absurd (Prod.mk.inj hk).2.symm h0)
    clear hk h h0
    go_enter Try.func12, Try.ntmps12
    go_wp2_with fail
    refine (KC.out).mono ?_
    rintro e w1 ⟨rfl, hb1⟩
    go_wp2_with fail
    go_ret2
    exact ⟨_, rfl, ⟨none, 0, by rw [HL.out]; rfl, by rw [HL.out]; exact Row.nil _⟩, hb1⟩
end Go.Proofs.Ytiilgkajijnbcaa
