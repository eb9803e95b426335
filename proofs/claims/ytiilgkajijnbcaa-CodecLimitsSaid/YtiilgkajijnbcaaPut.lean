/-
  Contracts of the package's number, count, Note; parts of bytes that survive.
-/
import Derived.Test.YtiilgkajijnbcaaJoin
import Derived.Test.YtiilgkajijnbcaaApi
import Derived.Test.YtiilgkajijnbcaaWrNote
import Derived.Deep.RegionHeldLaw
namespace Go.Proofs.Ytiilgkajijnbcaa
open Go.ChangeShapes Go.WideShapes Go.ChangeAt Go.RowKit
set_option linter.unusedVariables false
set_option linter.unusedSimpArgs false

theorem cNumber' (x : Nat) (w : World) :
    Calls Try.prog 36 #[.int .u64 (x : Int)] w fun e w' => ∃ v, e = .returned v ∧ w'.ownsRow w.heap.size 5 1 v 8 ((be64 x).map bv) ∧ Below w.heap.size w w' := by
  have KP := Lib.hid (wordsPut.put64 none 0 0 [] x w (Row.nil w) (by omega))
  go_enter Try.func36, Try.ntmps36
  go_wp2_with fail
  refine (KP.out).mono ?_
  rintro e w2 ⟨v, rfl, hown, hb⟩
  rw [Nat.zero_add, List.nil_append] at hown
  have HO := Lib.hid hown
  clear hown KP
  go_wp2_with fail
  go_ret
  exact ⟨_, rfl, HO.out, hb⟩
theorem cCount' (n : Nat) (h : n ≤ 9223372036854775807) (w : World) :
    Calls Try.prog 46 #[.int .i64 (n : Int)] w fun e w' => ∃ v, e = .returned v ∧ w'.ownsRow w.heap.size 5 1 v 8 ((be64 n).map bv) ∧ Below w.heap.size w w' := by
  have h1 : (n : Int) ≤ 9223372036854775807 := by omega
  have KP := Lib.hid (cNumber' n w)
  go_enter Try.func46, Try.ntmps46
  go_wp2_with fail
  refine (KP.out).mono ?_
  rintro e w2 ⟨v, rfl, hown, hb⟩
  have HO := Lib.hid hown
  clear hown KP
  go_wp2_with fail
  go_ret
  exact ⟨_, rfl, HO.out, hb⟩

/-! ### Parts that survive: they lie below block B, or in blocks of bytes -/
def PX (B : Nat) (w : World) (p : Pc) : Prop := Bytes w p.A p.n p.c p.l ∧ (0 < p.n → ∀ x, p.A = some x → x.block < w.heap.size ∧ (x.block < B ∨ ∃ cur fr, w.heap[x.block]? = some (.cells cur 5 fr)))
section
variable {B : Nat} {w w' : World} {p : Pc}
theorem PX.of_same (h : PX B w p) (hs : w.heap.size ≤ w'.heap.size) (hk : 0 < p.n → ∀ x, p.A = some x → w'.heap[x.block]? = w.heap[x.block]?) : PX B w' p := by
  refine ⟨?_, fun hn x hx => ⟨Nat.lt_of_lt_of_le (h.2 hn x hx).1 hs, by rw [hk hn x hx]; exact (h.2 hn x hx).2⟩⟩
  obtain ⟨h1, h2, h3, h0, h4⟩ := h.1
  refine ⟨h1, h2, h3, h0, fun hn => ?_⟩
  obtain ⟨b, off, e, hlt, hc⟩ := h4 hn
  refine ⟨b, off, e, Nat.lt_of_lt_of_le hlt hs, fun j hj => ?_⟩
  rw [← hc j hj]
  simp only [World.cell?, hk hn _ e]
theorem PX.keep (h : PX B w p) (hb : Below w.heap.size w w') : PX B w' p := h.of_same hb.size fun hn x hx => hb.block _ (h.2 hn x hx).1
theorem PX.alloc (h : PX B w p) (o : Obj) : PX B (w.alloc o) p := h.keep ((Below.refl _ _).alloc (Nat.le_refl _) o)
theorem PX.drew (h : PX B w p) : PX B w.drew p := h
theorem PX.grown {base k m : Nat} {e : TypeId} {v : Value} {xs : List Value} (h : PX B w p) (ho : w.ownsRow base e k v m xs) (he : e ≠ 5) (hB : B ≤ base) (hg : w.grownBy w' v.ownBlock) : PX B w' p := by
  refine h.of_same hg.size fun hn x hx => hg.block _ (h.2 hn x hx).1 fun eq => ?_
  have hlt := (ho.lt x.block eq.symm).1
  rcases (h.2 hn x hx).2 with h1 | ⟨cur, fr, h1⟩
  · omega
  · rcases ho.2 with ⟨rfl, _⟩ | ⟨g, cap, cur', rfl, _, hgg, _⟩
    · simp [Value.ownBlock] at eq
    · simp [Value.ownBlock] at eq
      rw [eq, hgg] at h1
      cases h1
      exact he rfl
theorem PX.own {base n : Nat} {v : Value} {l : List UInt8} (h : w.ownsRow base 5 1 v n (l.map bv)) : ∃ A c, v = .slice A n c ∧ PX B w ⟨A, n, c, l⟩ := by
  obtain ⟨A, c, rfl, hr⟩ := Row.own h
  refine ⟨A, c, rfl, hr, fun hn x hx => ?_⟩
  obtain rfl : A = some x := hx
  rcases h.2 with ⟨h2, _⟩ | ⟨g, cap, cur, h2, _, hg, _⟩
  · cases h2
  · cases h2
    exact ⟨(Array.getElem?_eq_some_iff.1 hg).1, .inr ⟨_, _, hg⟩⟩
theorem PX.old {A : Option Addr} {n c : Nat} {l : List UInt8} (h : Bytes w A n c l) : PX w.heap.size w ⟨A, n, c, l⟩ := by
  refine ⟨h, fun hn x hx => ?_⟩
  obtain ⟨b, off, e, hb, _⟩ := h.2.2.2.2 hn
  have hx' : A = some x := hx
  rw [e] at hx'
  cases hx'
  exact ⟨hb, .inl hb⟩
end
theorem Try.infoBS : (Try.prog.info? 25).map (fun i => (i.zero, i.size, i.bytes)) = some (some (.slice none 0 0), 1, 24) := by kernel_rfl
theorem one_pc (ps : List Pc) : ∀ u ∈ ps.map Pc.val, u.oneCell' = true := by
  intro u hu
  obtain ⟨p, _, rfl⟩ := List.mem_map.1 hu
  rfl
/-- A literal of parts. -/
theorem litPc (w : World) (ps : List Pc) (n : Nat) (h : ps.length = n) (hm : n ≤ maxLen) (hp : ∀ p ∈ ps, Bytes w p.A p.n p.c p.l) : PcsAt (w.alloc (.cells (ps.map Pc.val).toArray 25)) (some ⟨w.heap.size, 0, none⟩) n n ps := by
  refine ⟨?_, fun p hq => (hp p hq).keep ((Below.refl _ _).alloc (Nat.le_refl _) _)⟩
  have := (Has.new w 25 (ps.map Pc.val)).row 0 n n (by simp; omega) (Nat.le_refl _) hm
  rw [List.drop_zero, List.take_of_length_le (by simp; omega)] at this
  exact this
theorem own_litPc (w : World) (base : Nat) (ps : List Pc) (n : Nat) (h : ps.length = n) (hm : n ≤ maxLen) (hb : base ≤ w.heap.size) : (w.alloc (.cells (ps.map Pc.val).toArray 25)).ownsRow base 25 1 (.slice (some ⟨w.heap.size, 0, none⟩) n n) n (ps.map Pc.val) :=
  ⟨by rw [List.length_map, Nat.mul_one]; exact h, .inr ⟨w.heap.size, n, _, rfl, hb, heap_alloc_new w _, Nat.le_refl _, hm, by simpa using h, by simp only []; rw [Nat.mul_one, List.take_of_length_le (by simp; omega)]⟩⟩
/-- bytes.Join of a literal of three parts. -/
theorem join3 (w : World) (p q r : Pc) (hp : Bytes w p.A p.n p.c p.l) (hq : Bytes w q.A q.n q.c q.l) (hr : Bytes w r.A r.n r.c r.l) (l : List UInt8) (hl : (p.l ++ q.l) ++ r.l = l) (n : Nat) (hn : l.length = n) (hs : n ≤ 140737488355328) :
    Calls Try.prog 37 #[.slice (some ⟨w.heap.size, 0, none⟩) 3 3, .slice none 0 0] (w.alloc (.cells #[.slice p.A p.n p.c, .slice q.A q.n q.c, .slice r.A r.n r.c] 25)) fun e w' => ∃ A c, e = .returned (.slice A n c) ∧ Bytes w' A n c l ∧ Below w.heap.size w w' := by
  have hc : catP [p, q, r] = l := by rw [← hl]; simp [catP]
  have hk := joinNil (some ⟨w.heap.size, 0, none⟩) 3 3 [p, q, r] (w.alloc (.cells ([p, q, r].map Pc.val).toArray 25)) (by omega) (by omega) (litPc w [p, q, r] 3 rfl (by decide) (fun x hx => by
    simp only [List.mem_cons, List.not_mem_nil, or_false] at hx
    rcases hx with rfl | rfl | rfl
    · exact hp
    · exact hq
    · exact hr)) (by rw [hc]; omega)
  rw [hc, hn] at hk
  refine Calls.mono (show Calls Try.prog 37 _ (w.alloc (.cells #[.slice p.A p.n p.c, .slice q.A q.n q.c, .slice r.A r.n r.c] 25)) _ from hk) ?_
  rintro e w' ⟨A, c, rfl, hb, hbel⟩
  exact ⟨A, c, rfl, hb, ((Below.refl _ _).alloc (Nat.le_refl _) _).trans (hbel.mono (by simp))⟩

set_option maxHeartbeats 1000000 in
theorem progNote' (x y : Nat) (l : List UInt8) (hx : x < 18446744073709551616) (hy : y < 18446744073709551616) (hl : l.length = 32) (w : World) :
    Calls Try.prog 31 #[.agg (ncells x y l).toArray] w fun e w' => ∃ v, e = .returned v ∧ (∃ A c, v = .slice A 48 c ∧ Bytes w' A 48 c (wNote x y l)) ∧ Below w.heap.size w w' := by
  have H1 := Has.new w 67 (ncells x y l)
  have hb1 := (Below.refl w.heap.size w).alloc (Nat.le_refl _) (.cells (ncells x y l).toArray 67)
  have hz1 : (w.alloc (.cells (ncells x y l).toArray 67)).heap.size = w.heap.size + 1 := by simp
  have HLN := Lib.hid (And.intro hl (wNote_len x y l hl))
  clear hx hy hl
  go_enter Try.func31, Try.ntmps31
  go_wp2_with fail
  change Code.wp _ _ _ _ (w.alloc (.cells (ncells x y l).toArray 67))
  generalize (w.alloc (.cells (ncells x y l).toArray 67)) = w1 at *
  have HC := Lib.hid (fun (u : World) (hb : Below w1.drew.heap.size w1.drew u) => show u.cell? ⟨w.heap.size, 0, none⟩ = some (.int .u64 (x : Int)) ∧ u.cell? ⟨w.heap.size, 1, none⟩ = some (.int .u64 (y : Int)) from
    ⟨(show Has u w.heap.size 67 (ncells x y l) from Has.keep (w := w1.drew) H1 hb H1.lt).cell 0, (show Has u w.heap.size 67 (ncells x y l) from Has.keep (w := w1.drew) H1 hb H1.lt).cell 1⟩)
  have HB := Lib.hid (fun (u : World) (hb : Below w1.drew.heap.size w1.drew u) => show Row u (some ⟨w.heap.size, 2, none⟩) 32 32 (l.map bv) from noteB (Has.keep (w := w1.drew) H1 hb H1.lt) HLN.out.1)
  have HBL := Lib.hid (show Below w.heap.size w w1.drew from hb1.drew)
  have HZ := Lib.hid (show w.heap.size ≤ w1.drew.heap.size by show _ ≤ w1.heap.size; omega)
  have K1 := Lib.hid (cNumber' x w1.drew)
  have K2 := Lib.hid (fun (u : World) => cNumber' y u)
  have K3 := Lib.hid (fun (u : World) (p q r : Pc) (hp : Row u p.A p.n p.c (p.l.map bv)) (hq : Row u q.A q.n q.c (q.l.map bv)) (hr : Row u r.A r.n r.c (r.l.map bv)) (hl : (p.l ++ q.l) ++ r.l = wNote x y l) => join3 u p q r hp hq hr (wNote x y l) hl 48 HLN.out.2 (by omega))
  obtain ⟨h00, h01⟩ := HC.out w1.drew (Below.refl _ _)
  clear H1 hb1
  go_region_held_law (fun w' => w'.cell? ⟨w.heap.size, 0, none⟩ = some (.int .u64 (x : Int)) ∧ w'.cell? ⟨w.heap.size, 1, none⟩ = some (.int .u64 (y : Int))) (first | exact HC.out _ (hb5.trans (hb7.mono hb5.size)) | exact HC.out _ (hb5.alloc hb5.size _) | exact HC.out _ hb5 | exact HC.out _ hb3 | exact ⟨h00, h01⟩)
    (first
    | (go_at_call 37; with_reducible refine (K3.out w5 ⟨A3, 8, c3, be64 x⟩ ⟨A5, 8, c5, be64 y⟩ ⟨some ⟨w.heap.size, 2, none⟩, 32, 32, l⟩ HP3.out HP5.out HP7.out rfl).mono ?_; rintro e w7 ⟨A7, c7, rfl, hr7, hb7⟩)
    | (go_at_call 36; with_reducible refine (K2.out w3).mono ?_; rintro e w5 ⟨v5, rfl, hown5, hb50⟩; obtain ⟨A5, c5, rfl, hr5⟩ := Row.own hown5; have hb5 := hb3.trans (hb50.mono hb3.size); have HP5 := Lib.hid hr5; have HP3 := Lib.hid (HQ3.out.keep hb50); have HP7 := Lib.hid (HB.out w5 hb5))
    | (go_at_call 36; with_reducible refine (K1.out).mono ?_; rintro e w3 ⟨v3, rfl, hown3, hb3⟩; obtain ⟨A3, c3, rfl, hr3⟩ := Row.own hown3; have HQ3 := Lib.hid hr3))
  have HE := Lib.hid (show Bytes w7 A7 48 c7 (wNote x y l) from hr7)
  have HF := Lib.hid (HBL.out.trans ((hb5.trans (hb7.mono hb5.size)).mono HZ.out))
  clear hr7 hb7 hb5 hb50 hb3 hr3 hr5 hown3 hown5 h00 h01
  go_wp2_with fail
  go_ret
  exact ⟨_, rfl, ⟨A7, c7, rfl, HE.out⟩, HF.out⟩
end Go.Proofs.Ytiilgkajijnbcaa
