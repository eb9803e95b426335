/-
  ShaSums: the walk; what a slice of slices of bytes that came in reads as.
-/
import Derived.Test.YtikmhhhnegdfoaaDoorShaLaw
import Derived.Test.YtikmhhhnegdfoaaDoorRefParts
import Derived.Deep.Matrix
namespace Go.Proofs.YtikmhhhnegdfoaaDoor
open Go.ChangeShapes Go.WideShapes Go.ChangeAt Go.RowKit
set_option linter.unusedVariables false
set_option linter.unusedSimpArgs false

theorem PartsAt.nil (w : World) : PartsAt w none 0 0 [] := ⟨Row.nil w, fun p hp => by cases hp⟩
theorem PartsAt.of_rows {w : World} {x : Addr} {len cap : Nat} {A : Nat → Option Addr} {L C : Nat → Nat} {Z : Nat → List Int} (hl : len ≤ cap) (hm : cap ≤ maxLen)
    (h : ∀ r, r < cap → w.cell? (x.add r) = some (.slice (A r) (L r) (C r)) ∧ L r ≤ C r ∧ C r ≤ maxLen ∧ (Z r).length = C r ∧ (∀ n ∈ Z r, (Lit.int .u8 n).wf = true) ∧ (A r = none → C r = 0) ∧
        ∀ a', A r = some a' → 0 ≤ a'.block ∧ ∀ c, c < C r → w.cell? (a'.add c) = some (.int .u8 ((Z r).getD c 0))) : ∃ ps, PartsAt w (some x) len cap ps := by
  have each : ∀ r, r < len → ∃ l, Bytes w (A r) (L r) (C r) l := by
    intro r hr
    obtain ⟨_, h2, h3, h4, h5, h6, h7⟩ := h r (by omega)
    refine Bytes.of_row (zs := Z r) ?_
    cases hA : A r with
    | none =>
      have hc := h6 hA
      exact .inl ⟨rfl, by omega, hc, List.eq_nil_of_length_eq_zero (by omega)⟩
    | some a' => exact .inr ⟨a', rfl, h2, h3, h4, fun i hi => (h7 a' hA).2 i (by omega), h5⟩
  obtain ⟨l, hlr⟩ := Deep.choose_lt each
  refine ⟨(List.range len).map fun r => ⟨A r, L r, C r, l r⟩, ⟨by simp, hl, hm, fun h => (by cases h), fun hn => ?_⟩, fun p hp => ?_⟩
  · have hc0 := (h 0 (by omega)).1
    obtain ⟨b, off, spot⟩ := x
    have hspot : spot = none := by simpa [Addr.add] using World.cell?_spot hc0
    subst hspot
    refine ⟨b, off, rfl, ?_, fun j hj => ?_⟩
    · have := World.block_lt_of_cell? w _ hc0
      simpa [Addr.add] using this
    · have hc := (h j (by omega)).1
      rw [add_plain] at hc
      rw [hc]
      simp [Part.val, hj]
  · obtain ⟨r, hr, rfl⟩ := List.mem_map.1 hp
    exact hlr r (List.mem_range.1 hr)
theorem partsN_small (ps : List Part) (h : ∀ p ∈ ps, p.l.length ≤ 200) : (partsN ps).length ≤ 208 * ps.length := by
  induction ps with
  | nil => simp [partsN]
  | cons p ps ih =>
    have h1 := h p (by simp)
    have h2 := ih fun q hq => h q (by simp [hq])
    simp only [partsN, List.flatMap_cons, List.length_append, List.length_cons, be64_len] at h2 ⊢
    omega

namespace shaSumsLaw
set_option maxHeartbeats 400000 in
theorem out (A : Option Addr) (n c : Nat) (B : Option Addr) (m d : Nat) (w : World) (hT : Tab w) (h : 500 < n ∨ 10 < m) :
    Calls Tryd.prog 3 #[.slice A n c, .slice B m d] w fun e w' => e = .returned (.bool true) ∧ Below w.heap.size w w' := by
  have K := Lib.hid (shaLaw.alive w hT)
  by_cases h1 : 500 < n
  · have h1' : (500 : Int) < (n : Int) := by omega
    go_enter Tryd.func3, Tryd.ntmps3
    go_wp2_with fail
    refine (K.out).mono ?_
    rintro e w2 ⟨rfl, hb⟩
    go_wp2_with fail
    go_ret
    exact ⟨rfl, hb⟩
  · have h2 : 10 < m := by omega
    have h1' : ¬ (500 : Int) < (n : Int) := by omega
    have h2' : (10 : Int) < (m : Int) := by omega
    go_enter Tryd.func3, Tryd.ntmps3
    go_wp2_with fail
    refine (K.out).mono ?_
    rintro e w2 ⟨rfl, hb⟩
    go_wp2_with fail
    go_ret
    exact ⟨rfl, hb⟩
set_option maxHeartbeats 1000000 in
theorem inn (A : Option Addr) (n c : Nat) (l : List UInt8) (B : Option Addr) (m d : Nat) (ps : List Part) (w : World) (hl : Bytes w A n c l) (hps : PartsAt w B m d ps) (hT : Tab w) (hn : n ≤ 500) (hm : m ≤ 10) :
    Calls Tryd.prog 3 #[.slice A n c, .slice B m d] w fun e w' => e = .returned (.bool true) ∧ Below w.heap.size w w' := by
  have K := Lib.hid (shaLaw.alive w hT)
  have h1' : ¬ (500 : Int) < (n : Int) := by omega
  have h2' : ¬ (10 : Int) < (m : Int) := by omega
  have hpl : ps.length = m := by simpa using hps.1.1
  have HPL := Lib.hid hpl
  have HP := Lib.hid hps
  clear hpl hps
  go_enter Tryd.func3, Tryd.ntmps3
  go_wp2_with fail
  refine (K.out).mono ?_
  rintro e w2 ⟨rfl, hb2⟩
  clear K
  go_wp2
  go_loopw [6] (fun i wr => wr = w2 ∧ ∃ j : Nat, j ≤ m ∧ i = .int .i64 j ∧ ∀ r (hr : r < ps.length), r < j → (ps[r]).n ≤ 200) (fun i _ => m - (intOf i).toNat)
  case atStart => exact ⟨rfl, 0, by omega, rfl, fun r _ h => absurd h (by omega)⟩
  case round =>
    obtain ⟨rfl, j, hj, rfl, hall⟩ := hrel
    by_cases hlt : j < m
    · have hjl : j < ps.length := by rw [HPL.out]; exact hlt
      obtain ⟨b, off, rfl, hbl, hc⟩ := (HP.out.1).2.2.2.2 (by omega)
      obtain ⟨p, hp⟩ : ∃ p, p = ps[j] := ⟨_, rfl⟩
      have cj : wr.cell? ⟨b, off + j, none⟩ = some (.slice p.A p.n p.c) := by
        rw [hb2.cell (p := ⟨b, off + j, none⟩) hbl, hc j hlt, List.getElem?_map, List.getElem?_eq_getElem hjl, hp]
        rfl
      have hpn := (HP.out.2 p (hp ▸ List.getElem_mem hjl)).le
      have HALL := Lib.hid hall
      have Hp := Lib.hid hp
      clear hp hc hall
      by_cases hbig : 200 < p.n
      · have hb' : (200 : Int) < (p.n : Int) := by omega
        go_wp2
        go_ret
        exact ⟨rfl, hb2⟩
      · have hb' : ¬ (200 : Int) < (p.n : Int) := by omega
        go_wp2
        go_roundw
        case rel =>
          refine ⟨trivial, j + 1, by omega, by go_num, fun r hr hrj => ?_⟩
          rcases Nat.lt_succ_iff_lt_or_eq.1 hrj with h | h
          · exact HALL.out r hr h
          · subst h
            rw [← Hp.out]
            omega
        case measure => simp [intOf]; omega
    · obtain rfl : j = m := by omega
      have hsmall : ∀ p ∈ ps, p.l.length ≤ 200 := by
        intro p hp
        obtain ⟨r, hr, rfl⟩ := List.mem_iff_getElem.1 hp
        rw [(HP.out.2 _ hp).len]
        exact hall r hr (by rw [HPL.out] at hr; exact hr)
      have hsum : (partsN ps).length ≤ 70368744177664 := by have := partsN_small ps hsmall; rw [HPL.out] at this; omega
      have hl2 := hl.keep hb2
      have HB := Lib.hid (show 0 + n ≤ 140737488355328 by omega)
      have HPS := Lib.hid ((HP.out).keep hb2)
      have heq1 := eq_key (shaN l) (shaN_len _)
      have heq2 := eq_key (shaN (partsN ps)) (shaN_len _)
      obtain ⟨X, hX⟩ : ∃ X, X = ((shaN l).map bv).toArray := ⟨_, rfl⟩
      obtain ⟨Y, hY⟩ : ∃ X, X = ((shaN (partsN ps)).map bv).toArray := ⟨_, rfl⟩
      rw [← hX] at heq1
      rw [← hY] at heq2
      have HX := Lib.hid hX
      have HY := Lib.hid hY
      have HT2 := Lib.hid (hT.keep hb2)
      have HSUM := Lib.hid hsum
      have hn46 := Lib.hid (show n ≤ 70368744177664 by omega)
      clear hX hY hall hlt hsum hsmall hj
      go_wp2_with (at_builtin; (refine app8 rfl (.const (.slice none 0 0)) (.tmp 33) rfl wr.heap.size (.slice none 0 0) 0 [] rfl (World.ownsRow_nil _ _ _ _) A n c l rfl hl2 HB.out (Nat.le_refl _) ?_); intro v4 w4 hown4 hg4)
      have hb4 : Below wr.heap.size wr w4 := (Below.refl _ _).grown hg4 (Nat.le_refl _) (fun k hk => by cases hk)
      rw [Nat.zero_add, List.nil_append] at hown4
      obtain ⟨A4, c4, rfl, hr4⟩ := Row.own hown4
      clear hown4 hg4
      refine (sha.Sum A4 n c4 l w4 hr4 ((HT2.out).keep hb4)).mono ?_
      rintro e w5 ⟨rfl, hb5⟩
      rw [← HX.out]
      have hb5' := hb4.trans (hb5.mono hb4.size)
      clear hr4 hb4 hb5
      go_wp2_with fail
      refine (refSha.Sha A n c l w5 (hl2.keep hb5') hn46.out).mono ?_
      rintro e w6 ⟨rfl, hb6⟩
      rw [← HX.out]
      have hb6' := hb5'.trans (hb6.mono hb5'.size)
      clear hb5' hb6
      go_wp2_with fail
      refine (sha.Parts B j d ps w6 ((HPS.out).keep hb6') ((HT2.out).keep hb6')).mono ?_
      rintro e w7 ⟨rfl, hb7⟩
      rw [← HY.out]
      have hb7' := hb6'.trans (hb7.mono hb6'.size)
      clear hb6' hb7
      go_wp2_with fail
      refine (refSha.Parts B j d ps w7 ((HPS.out).keep hb7') HSUM.out).mono ?_
      rintro e w8 ⟨rfl, hb8⟩
      rw [← HY.out]
      have hb8' := hb7'.trans (hb8.mono hb7'.size)
      clear hb7' hb8
      go_wp2_with fail
      go_ret
      exact ⟨rfl, hb2.trans (hb8'.mono hb2.size)⟩
theorem all (A : Option Addr) (n c : Nat) (l : List UInt8) (B : Option Addr) (m d : Nat) (ps : List Part) (w : World) (hl : Bytes w A n c l) (hps : PartsAt w B m d ps) (hT : Tab w) :
    Calls Tryd.prog 3 #[.slice A n c, .slice B m d] w fun e w' => e = .returned (.bool true) ∧ Below w.heap.size w w' := by
  by_cases h : 500 < n ∨ 10 < m
  · exact out A n c B m d w hT h
  · exact inn A n c l B m d ps w hl hps hT (by omega) (by omega)
end shaSumsLaw
end Go.Proofs.YtikmhhhnegdfoaaDoor
