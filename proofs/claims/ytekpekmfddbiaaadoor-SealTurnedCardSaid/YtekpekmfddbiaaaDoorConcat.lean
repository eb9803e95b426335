/-
  Contracts of slices.Grow (of nil) and slices.Concat of slices of bytes, and of bytes.Clone.
-/
import Derived.Test.YtekpekmfddbiaaaDoorAppZero
namespace Go.Proofs.YtekpekmfddbiaaaDoor
open Go.ChangeShapes Go.WideShapes Go.ChangeAt Go.RowKit
set_option linter.unusedVariables false
set_option linter.unusedSimpArgs false

/-- A row of the call's own, cut to nothing. -/
theorem own_cut {w : World} {base g n c : Nat} {e : TypeId} {xs : List Value} (h : w.ownsRow base e 1 (.slice (some ⟨g, 0, none⟩) n c) n xs) : w.ownsRow base e 1 (.slice (some ⟨g, 0, none⟩) 0 c) 0 [] := by
  refine ⟨rfl, ?_⟩
  rcases h.2 with ⟨h1, _⟩ | ⟨g', cap, cur, h1, h2, h3, h4, h5, h6, h7⟩
  · cases h1
  · cases h1
    exact .inr ⟨g, c, cur, rfl, h2, h3, Nat.zero_le _, h5, h6, by simp⟩
theorem own_some {w : World} {base n : Nat} {e : TypeId} {v : Value} {xs : List Value} (h : w.ownsRow base e 1 v n xs) (hn : 0 < n) :
    ∃ g c, v = .slice (some ⟨g, 0, none⟩) n c ∧ base ≤ g ∧ g < w.heap.size ∧ Row w (some ⟨g, 0, none⟩) n c xs := by
  obtain ⟨A, c, hv, hr⟩ := Row.own h
  have hlt := h.lt
  rcases h.2 with ⟨h1, h2⟩ | ⟨g, cap, cur, h1, h2, h3, h4⟩
  · omega
  · rw [hv] at h1
    obtain ⟨rfl, _, rfl⟩ : A = some ⟨g, 0, none⟩ ∧ n = n ∧ c = cap := by cases h1; exact ⟨rfl, rfl, rfl⟩
    exact ⟨g, c, hv, h2, (Array.getElem?_eq_some_iff.1 h3).1, hr⟩

/-- A slice of bytes among others. -/
structure Piece where
  A : Option Addr
  n : Nat
  c : Nat
  l : List UInt8
def Piece.val (p : Piece) : Value := .slice p.A p.n p.c
def PiecesAt (w : World) (A : Option Addr) (n c : Nat) (ps : List Piece) : Prop := Row w A n c (ps.map Piece.val) ∧ ∀ p ∈ ps, Bytes w p.A p.n p.c p.l
def catN (ps : List Piece) : List UInt8 := ps.flatMap Piece.l
theorem catN_snoc (ps : List Piece) (j : Nat) (h : j < ps.length) : catN (ps.take (j + 1)) = catN (ps.take j) ++ ps[j].l := by
  rw [List.take_succ_eq_append_getElem h, catN, catN, List.flatMap_append, List.flatMap_cons, List.flatMap_nil, List.append_nil]
theorem catN_le (ps : List Piece) (j : Nat) : (catN (ps.take j)).length ≤ (catN ps).length := by
  have e : catN ps = catN (ps.take j) ++ catN (ps.drop j) := by rw [catN, catN, catN, ← List.flatMap_append, List.take_append_drop]
  rw [e, List.length_append]
  omega

namespace slicesOf
set_option maxHeartbeats 400000 in
theorem Grow (n : Nat) (hn : n ≤ 70368744177664) (w : World) :
    Calls Tryd.prog 26 #[.slice none 0 0, .int .i64 (n : Int)] w fun e w' => ∃ v, e = .returned v ∧ w'.ownsRow w.heap.size 5 1 v 0 [] ∧ Below w.heap.size w w' := by
  have h1 : ¬ (n : Int) < 0 := by omega
  have HB := Lib.hid (show 0 + n ≤ 140737488355328 by omega)
  by_cases h0 : n = 0
  · subst h0
    go_enter Tryd.func26, Tryd.ntmps26
    go_wp2_with fail
    go_ret
    exact ⟨_, rfl, World.ownsRow_nil _ _ _ _, Below.refl _ _⟩
  · have h2 : (0 : Int) < (n : Int) := by omega
    have HN := Lib.hid (show 0 < 0 + n by omega)
    go_enter Tryd.func26, Tryd.ntmps26
    go_wp2_with (at_builtin; (refine app0 rfl (.tmp 20) (.tmp 21) rfl w.heap.size (.slice none 0 0) 0 [] rfl (World.ownsRow_nil _ _ _ _) n rfl HB.out (Nat.le_refl _) ?_); intro v2 w2 hown2 hg2; have hb2 : Below w.heap.size w w2 := (Below.refl _ _).grown hg2 (Nat.le_refl _) (fun k hk => by cases hk); obtain ⟨g2, c2, rfl, hgb2, hgs2, hr2⟩ := own_some hown2 HN.out; have hc2 : 0 ≤ (c2 : Int) := by omega)
    go_ret
    exact ⟨_, rfl, own_cut hown2, hb2⟩
set_option maxHeartbeats 800000 in
theorem Concat (A : Option Addr) (n c : Nat) (ps : List Piece) (w : World) (hps : PiecesAt w A n c ps) (hsum : (catN ps).length ≤ 70368744177600) :
    Calls Tryd.prog 19 #[.slice A n c] w fun e w' => ∃ v, e = .returned v ∧ w'.ownsRow w.heap.size 5 1 v (catN ps).length ((catN ps).map bv) ∧ Below w.heap.size w w' := by
  have hpl : ps.length = n := by simpa using hps.1.1
  have hcm := hps.1.2.2.1
  have hnc := hps.1.2.1
  have HP := Lib.hid hps
  have HPL := Lib.hid hpl
  have hn63 : n ≤ 9223372036854775807 := by unfold maxLen at hcm; omega
  have HSUM := Lib.hid hsum
  clear hps hpl hcm hnc hsum
  go_enter Tryd.func19, Tryd.ntmps19
  go_wp2
  go_loopw [3, 11] (fun z i wr => ∃ j : Nat, j ≤ n ∧ i = .int .i64 j ∧ z = .int .i64 ((catN (ps.take j)).length : Int) ∧ wr = w) (fun _ i _ => n - (intOf i).toNat)
  case atStart => exact ⟨0, by omega, rfl, rfl, rfl⟩
  case round =>
    obtain ⟨j, hj, rfl, rfl, rfl⟩ := hrel
    obtain ⟨q, hq⟩ : ∃ q, q = (catN (ps.take j)).length := ⟨_, rfl⟩
    have hql : q ≤ (catN ps).length := hq ▸ catN_le ps j
    rw [← hq] at ⊢
    by_cases hlt : j < n
    · have hjl : j < ps.length := by rw [HPL.out]; exact hlt
      obtain ⟨b, off, rfl, hbl, hc⟩ := (HP.out.1).2.2.2.2 (by omega)
      obtain ⟨p, hp⟩ : ∃ p, p = ps[j] := ⟨_, rfl⟩
      have cj : wr.cell? ⟨b, off + j, none⟩ = some (.slice p.A p.n p.c) := by
        rw [hc j hlt, List.getElem?_map, List.getElem?_eq_getElem hjl, hp]
        rfl
      have hpB := HP.out.2 p (hp ▸ List.getElem_mem hjl)
      have hpl := hpB.len
      have hjn : (j : Int) < (n : Int) := by omega
      have hsn : (catN (ps.take (j + 1))).length = q + p.n := by rw [catN_snoc ps j hjl, ← hp, List.length_append, ← hq, hpl]
      have hsle := catN_le ps (j + 1)
      have hbd : q + p.n ≤ 70368744177600 := by have := HSUM.out; omega
      have HSN := Lib.hid hsn
      have hneg : ¬ (q : Int) + (p.n : Int) < 0 := by omega
      clear hsn hsle hq hp hc hql hpB hpl
      go_wp2
      go_roundw
      case rel =>
        refine ⟨j + 1, by omega, by go_num, ?_, trivial⟩
        rw [HSN.out]
        go_num
      case measure => simp [intOf]; omega
    · obtain rfl : j = n := by omega
      have hqq : q = (catN ps).length := by rw [hq, List.take_of_length_le (Nat.le_of_eq HPL.out)]
      have hq46 : q ≤ 70368744177664 := by have := HSUM.out; omega
      have HQ := Lib.hid hqq
      clear hq hqq hql hlt
      go_wp2_with fail
      refine (Grow q hq46 wr).mono ?_
      rintro e w2 ⟨v2, rfl, hown2, hb2⟩
      go_wp2
      obtain ⟨wr1, hwr1⟩ : ∃ x : World, x = wr := ⟨_, rfl⟩
      subst hwr1
      go_loopw [6, 27] (fun v i wr' => ∃ (i0 : Nat), i0 ≤ j ∧ i = .int .i64 i0 ∧ wr'.ownsRow wr1.heap.size 5 1 v (catN (ps.take i0)).length ((catN (ps.take i0)).map bv) ∧ Below wr1.heap.size wr1 wr') (fun _ i _ => j - (intOf i).toNat)
      case atStart => exact ⟨0, by omega, rfl, hown2, hb2⟩
      case round =>
        clear hown2 hb2
        obtain ⟨i0, hi0, rfl, hown, hb⟩ := hrel
        obtain ⟨q1, hq1⟩ : ∃ q, q = catN (ps.take i0) := ⟨_, rfl⟩
        obtain ⟨m1, hm1⟩ : ∃ m, m = q1.length := ⟨_, rfl⟩
        have hql : q1.length ≤ (catN ps).length := hq1 ▸ catN_le ps i0
        rw [← hq1, ← hm1] at hown
        by_cases hlt : i0 < j
        · have hjl : i0 < ps.length := by rw [HPL.out]; exact hlt
          obtain ⟨b, off, rfl, hbl, hc⟩ := (HP.out.1).2.2.2.2 (by omega)
          obtain ⟨p, hp⟩ : ∃ p, p = ps[i0] := ⟨_, rfl⟩
          have cj : wr.cell? ⟨b, off + i0, none⟩ = some (.slice p.A p.n p.c) := by
            rw [hb.cell (p := ⟨b, off + i0, none⟩) hbl, hc i0 hlt, List.getElem?_map, List.getElem?_eq_getElem hjl, hp]
            rfl
          have hpB := (HP.out.2 p (hp ▸ List.getElem_mem hjl)).keep hb
          have hpl := hpB.len
          have hjn : (i0 : Int) < (j : Int) := by omega
          have hsn : catN (ps.take (i0 + 1)) = q1 ++ p.l := by rw [catN_snoc ps i0 hjl, ← hp, ← hq1]
          have hsl : (catN (ps.take (i0 + 1))).length = m1 + p.n := by rw [hsn, List.length_append, ← hm1, hpl]
          have hsle := catN_le ps (i0 + 1)
          have HBD := Lib.hid (show m1 + p.n ≤ 140737488355328 by have := HSUM.out; omega)
          have HSN := Lib.hid (And.intro hsn hsl)
          clear hsn hsl hsle hq1 hm1 hp hc hql hpl
          go_wp2_with (at_builtin; (refine app8 rfl (.tmp 31) (.tmp 32) rfl wr1.heap.size u6 m1 q1 rfl hown p.A p.n p.c p.l rfl hpB HBD.out hb.size ?_); intro v3 w3 hown3 hg3)
          go_roundw
          case rel =>
            refine ⟨i0 + 1, by omega, by go_num, ?_, hb.grown hg3 hb.size (fun k hk => (hown.lt k hk).1)⟩
            rw [HSN.out.2, HSN.out.1]
            exact hown3
          case measure => simp [intOf]; omega
        · obtain rfl : i0 = j := by omega
          have hqq : q1 = catN ps := by rw [hq1, List.take_of_length_le (Nat.le_of_eq HPL.out)]
          have HQ2 := Lib.hid (And.intro hqq hm1)
          clear hq1 hm1 hqq hql hlt
          go_wp2
          go_ret
          exact ⟨_, rfl, by rw [← HQ2.out.1, ← HQ2.out.2]; exact hown, hb⟩
end slicesOf
end Go.Proofs.YtekpekmfddbiaaaDoor
