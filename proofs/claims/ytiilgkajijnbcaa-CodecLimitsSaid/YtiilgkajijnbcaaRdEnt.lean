/-
  Contract of the reference's ReadEntries.
-/
import Derived.Test.YtiilgkajijnbcaaRdC
import Derived.Test.YtiilgkajijnbcaaApi
import Derived.Test.YtiilgkajijnbcaaRdNote
namespace Go.Proofs.Ytiilgkajijnbcaa
open Go.ChangeShapes Go.WideShapes Go.ChangeAt Go.RowKit
set_option linter.unusedVariables false
set_option linter.unusedSimpArgs false

/-- Entries of z bytes each, at most k, while nothing fails. -/
def entS (b : List UInt8) (z : Nat) : Nat → St → List (Nat × List UInt8) × St
  | 0, s => ([], s)
  | k + 1, s => if s.e = 0 then (((elemS b s).1, (takeS b z (elemS b s).2).1) :: (entS b z k (takeS b z (elemS b s).2).2).1, (entS b z k (takeS b z (elemS b s).2).2).2) else ([], s)
/-- What bytes are read as, as entries, with the error. -/
def entriesS (b : List UInt8) : List (Nat × List UInt8) × Nat :=
  if endS b (entS b (sizeS b (mostS b 1000 ⟨0, 0⟩).1 (mostS b 1000 ⟨0, 0⟩).2).1 (mostS b 1000 ⟨0, 0⟩).1 (sizeS b (mostS b 1000 ⟨0, 0⟩).1 (mostS b 1000 ⟨0, 0⟩).2).2).2 = 0
  then ((entS b (sizeS b (mostS b 1000 ⟨0, 0⟩).1 (mostS b 1000 ⟨0, 0⟩).2).1 (mostS b 1000 ⟨0, 0⟩).1 (sizeS b (mostS b 1000 ⟨0, 0⟩).1 (mostS b 1000 ⟨0, 0⟩).2).2).1, 0)
  else ([], endS b (entS b (sizeS b (mostS b 1000 ⟨0, 0⟩).1 (mostS b 1000 ⟨0, 0⟩).2).1 (mostS b 1000 ⟨0, 0⟩).1 (sizeS b (mostS b 1000 ⟨0, 0⟩).1 (mostS b 1000 ⟨0, 0⟩).2).2).2)
theorem entS_step {b : List UInt8} {z k x : Nat} {s s1 s2 : St} {l : List UInt8} (h0 : s.e = 0) (h1 : elemS b s = (x, s1)) (h2 : takeS b z s1 = (l, s2)) : entS b z (k + 1) s = ((x, l) :: (entS b z k s2).1, (entS b z k s2).2) := by
  rw [entS, if_pos h0, h1]
  simp only []
  rw [h2]
theorem entS_stop {b : List UInt8} {z k : Nat} {s : St} (h : k = 0 ∨ s.e ≠ 0) : entS b z k s = ([], s) := by
  cases k with
  | zero => rfl
  | succ k =>
    rw [entS, if_neg]
    rcases h with h | h
    · omega
    · exact h
theorem entriesS_eq {b : List UInt8} {N z k : Nat} {s1 s2 s3 : St} {es : List (Nat × List UInt8)} (h1 : mostS b 1000 ⟨0, 0⟩ = (N, s1)) (h2 : sizeS b N s1 = (z, s2)) (h3 : entS b z N s2 = (es, s3)) (h4 : endS b s3 = k) :
    entriesS b = if k = 0 then (es, 0) else ([], k) := by
  rw [entriesS, h1]
  simp only []
  rw [h2]
  simp only []
  rw [h3]
  simp only []
  rw [h4]
set_option maxHeartbeats 4000000 in
theorem refReadEntries' (A : Option Addr) (n c : Nat) (b : List UInt8) (w : World) (hb : Bytes w A n c b) :
    Calls Try.prog 26 #[.slice A n c] w fun e w' => ∃ A' m c' es k, e = .returned (.tuple #[.slice A' m c', .int .i64 ((k : Nat) : Int)]) ∧ entriesS b = (es.map Ent.data, k) ∧ Entries w' A' m c' es ∧ Below w.heap.size w w' := by
  obtain ⟨N, s1, h1⟩ : ∃ x s, mostS b 1000 ⟨0, 0⟩ = (x, s) := ⟨_, _, rfl⟩
  obtain ⟨z, s2, h2⟩ : ∃ x s, sizeS b N s1 = (x, s) := ⟨_, _, rfl⟩
  obtain ⟨es3, s3, h3⟩ : ∃ x s, entS b z N s2 = (x, s) := ⟨_, _, rfl⟩
  obtain ⟨q, h4⟩ : ∃ q, endS b s3 = q := ⟨_, rfl⟩
  have o0 := St.start b
  have o1 : s1.ok b := by have := mostS_ok 1000 o0; rw [h1] at this; exact this
  have o2 : s2.ok b := by have := sizeS_ok N o1; rw [h2] at this; exact this
  have hN : N ≤ 1000 := by have := mostS_le b 1000 ⟨0, 0⟩; rw [h1] at this; exact this
  have hz : z ≤ 1048576 := by have := sizeS_le b N s1; rw [h2] at this; exact this
  have hb1 := (Below.refl w.heap.size w).alloc (Nat.le_refl _) (.cells #[.slice A n c, .int .i64 0, .int .i64 0] 104)
  have H1 := newRdr w A n c
  have hB := hb.keep hb1
  have hO : Off w.heap.size A n := Off.of_row hb (Nat.le_refl _)
  have KM := Lib.hid (show Calls Try.prog 55 #[.pointer (some ⟨w.heap.size, 0, none⟩), .int .u64 1000] (w.alloc (.cells #[.slice A n c, .int .i64 0, .int .i64 0] 104)) _ from rdMost' w.heap.size A n c b ⟨0, 0⟩ s1 1000 N h1 (by omega) o0 _ H1 hB hO)
  have KS := Lib.hid (fun (w : World) (g : Nat) (H : Rdr w g A n c s1) (hb : Bytes w A n c b) (hO : Off g A n) => rdSize' g A n c b s1 s2 N z h2 o1 w H hb hO)
  have HSP := Lib.hid (show ∀ es : List (Nat × List UInt8), entS b z N s2 = (es, s3) → entriesS b = if q = 0 then (es, 0) else ([], q) from fun es h => entriesS_eq h1 h2 h h4)
  have HE3 := Lib.hid (And.intro h3 (And.intro h4 o2))
  have HBL := Lib.hid hb.len
  have HB0 := Lib.hid hb
  clear h1 h2 h3 h4 o0 o1 o2 hB
  go_enter Try.func26, Try.ntmps26
  go_wp2_with fail
  refine (KM.out).mono ?_
  rintro e w2 ⟨rfl, H2, S2⟩
  have b2 := S2.below hb1 (Nat.le_refl _) (by simp)
  have z2 : w.heap.size + 1 ≤ w2.heap.size := by have := S2.size; simpa using this
  clear KM H1 S2 hb1
  go_wp2_with fail
  refine (KS.out w2 w.heap.size H2 (HB0.out.keep b2) hO).mono ?_
  rintro e w3 ⟨rfl, H3, S3⟩
  have b3 := S3.below b2 (Nat.le_refl _) (by omega)
  have z3 := S3.size
  have z3' : w.heap.size + 1 ≤ w3.heap.size := by omega
  clear KS H2 S3 b2
  go_wp2_with fail
  go_loopw [7, 8] (fun v i wr => ∃ (j : Nat) (s : St) (es : List Ent), j ≤ N ∧ i = .int .i64 j ∧ wr.ownsRow (w.heap.size + 1) 39 2 v j (es.flatMap Ent.cells) ∧ Hid (entS b z N s2 = (es.map Ent.data ++ (entS b z (N - j) s).1, (entS b z (N - j) s).2)) ∧ Hid (∀ e ∈ es, PBy wr e.A e.n e.c e.l ∧ e.x < 18446744073709551616) ∧ Hid (es.length = j) ∧ Rdr wr w.heap.size A n c s ∧ Hid (s.ok b) ∧ Below w.heap.size w wr ∧ w.heap.size + 1 ≤ wr.heap.size) (fun _ i _ => N - (intOf i).toNat)
  case atStart => exact ⟨0, s2, [], Nat.zero_le _, rfl, World.ownsRow_nil _ _ _ _, Lib.hid (by simp), Lib.hid (fun e he => by cases he), Lib.hid rfl, H3, Lib.hid HE3.out.2.2, b3, z3'⟩
  case round =>
    clear H3 b3 z3 z3'
    obtain ⟨j, s, es, hj, rfl, hown, HP, HB, HL, H, HOK, hb4, hz4⟩ := hrel
    by_cases hgo : j < N ∧ s.e = 0
    · obtain ⟨hlt, he⟩ := hgo
      obtain ⟨p, e⟩ := s
      obtain rfl : e = 0 := he
      have d2 : wr.cell? ⟨w.heap.size, 2, none⟩ = some (.int .i64 0) := H.c2
      have hjn : (j : Int) < (N : Int) := by omega
      obtain ⟨x, t1, g1⟩ : ∃ x s, elemS b ⟨p, 0⟩ = (x, s) := ⟨_, _, rfl⟩
      obtain ⟨l, t2, g2⟩ : ∃ x s, takeS b z t1 = (x, s) := ⟨_, _, rfl⟩
      have ot1 : t1.ok b := by have := elemS_ok HOK.out; rw [g1] at this; exact this
      have ot2 : t2.ok b := by have := takeS_ok z ot1; rw [g2] at this; exact this
      have hx64 : x < 18446744073709551616 := by have := elemS_lt b ⟨p, 0⟩; rw [g1] at this; exact this
      have KE := Lib.hid (rdElem' w.heap.size A n c b ⟨p, 0⟩ t1 x g1 HOK.out wr H (HB0.out.keep hb4) hO)
      have KT := Lib.hid (fun (w' : World) (H : Rdr w' w.heap.size A n c t1) (hb : Bytes w' A n c b) => rdTake' w.heap.size A n c b t1 t2 z l g2 ot1 (by omega) w' H hb hO)
      have HST := Lib.hid (show entS b z (N - j) ⟨p, 0⟩ = ((x, l) :: (entS b z (N - (j + 1)) t2).1, (entS b z (N - (j + 1)) t2).2) by
        rw [show N - j = (N - (j + 1)) + 1 by omega]
        exact entS_step rfl g1 g2)
      have HX := Lib.hid (And.intro ot2 hx64)
      clear g1 g2 ot1 ot2 hx64
      go_wp2_with fail
      refine (KE.out).mono ?_
      rintro e w5 ⟨rfl, H5, S5⟩
      have hb5 := S5.below hb4 (Nat.le_refl _) (by omega)
      have hz5 := S5.size
      have hown5 := own_save hown S5 (by omega)
      have HB5 := Lib.hid (fun e he => show PBy w5 e.A e.n e.c e.l ∧ e.x < 18446744073709551616 from ⟨(HB.out e he).1.save H (by decide) S5, (HB.out e he).2⟩)
      clear KE hown HB S5 H d2 hb4
      go_wp2_with fail
      refine (KT.out w5 H5 (HB0.out.keep hb5)).mono ?_
      rintro e w6 ⟨v6, rfl, hown6, H6, S6⟩
      have hb6 := S6.below hb5 (Nat.le_refl _) (by omega)
      have hz6 := S6.size
      have hown6' := own_save hown5 S6 (by omega)
      obtain ⟨A6, c6, rfl, hp6⟩ := PBy.own hown6
      have HB6 := Lib.hid (fun e he => show PBy w6 e.A e.n e.c e.l ∧ e.x < 18446744073709551616 from ⟨(HB5.out e he).1.save H5 (by decide) S6, (HB5.out e he).2⟩)
      have HLIT := Lib.hid (litW w6 39 2 [nv x, .slice A6 l.length c6] rfl)
      have hk7 := (Below.refl w6.heap.size w6).alloc (Nat.le_refl _) (.cells #[.int .u64 (x : Int), .slice A6 l.length c6] 39)
      have HO7 := Lib.hid (hown6'.alloc (.cells #[.int .u64 (x : Int), .slice A6 l.length c6] 39))
      have H7 := H6.alloc (.cells #[.int .u64 (x : Int), .slice A6 l.length c6] 39)
      have hb7 := hb6.alloc (by omega) (.cells #[.int .u64 (x : Int), .slice A6 l.length c6] 39)
      have HBS := Lib.hid (show w.heap.size + 1 ≤ (w6.alloc (.cells #[.int .u64 (x : Int), .slice A6 l.length c6] 39)).heap.size by simp; omega)
      have HB7 := Lib.hid (show ∀ e ∈ es ++ [⟨x, A6, l.length, c6, l⟩], PBy (w6.alloc (.cells #[.int .u64 (x : Int), .slice A6 l.length c6] 39)) e.A e.n e.c e.l ∧ e.x < 18446744073709551616 from fun e he => by
        rcases List.mem_append.1 he with h | h
        · exact ⟨(HB6.out e h).1.keep hk7, (HB6.out e h).2⟩
        · obtain rfl := List.mem_singleton.1 h
          exact ⟨hp6.keep hk7, HX.out.2⟩)
      have HNB := Lib.hid (show j ≤ 1048576 by omega)
      clear KT hown5 hown6 hown6' hp6 HB5 HB6 H5 H6 S6 hb5 hb6 hk7
      go_wp2_with (at_builtin; (refine appEnt rfl (.tmp 33) (.tmp 39) rfl (w.heap.size + 1) u7 j es rfl HO7.out _ ⟨x, A6, l.length, c6, l⟩ rfl HLIT.out HNB.out HBS.out ?_); intro v8 w8 hown8 hg8)
      have hb8 := hb7.grown hg8 (by have := HBS.out; omega) (fun k hk => by have := (HO7.out.lt k hk).1; omega)
      have H8 : Rdr w8 w.heap.size A n c t2 := Has.grown H7 hg8 (fun e => by have := (HO7.out.lt _ e.symm).1; omega)
      have HB8 := Lib.hid (fun e he => show PBy w8 e.A e.n e.c e.l ∧ e.x < 18446744073709551616 from ⟨(HB7.out e he).1.grown HO7.out (by decide) hg8, (HB7.out e he).2⟩)
      have hz8 : w.heap.size + 1 ≤ w8.heap.size := Nat.le_trans HBS.out hg8.size
      clear HB7 HO7 H7 hb7 HLIT HBS hg8
      go_roundw
      case rel => exact ⟨j + 1, t2, es ++ [⟨x, A6, l.length, c6, l⟩], by omega, by go_num, hown8, Lib.hid (by rw [HP.out, HST.out]; simp [Ent.data]), HB8, Lib.hid (by simp [HL.out]), H8, Lib.hid HX.out.1, hb8, hz8⟩
      case measure => simp [intOf]; omega
    · have hstop : N - j = 0 ∨ s.e ≠ 0 := by
        by_cases h : j < N
        · exact .inr fun h0 => hgo ⟨h, h0⟩
        · exact .inl (by omega)
      have HE := Lib.hid (show entS b z N s2 = (es.map Ent.data, s) by
        have := HP.out
        rw [entS_stop hstop] at this
        simpa using this)
      have HS3 := Lib.hid (show s3 = s by
        have h := HE3.out.1
        rw [HE.out] at h
        exact (Prod.mk.inj h).2.symm)
      have KE := Lib.hid (rdEnd' w.heap.size A n c b s q (by rw [← HS3.out]; exact HE3.out.2.1) HBL.out wr H)
      have HH := Lib.hid H
      by_cases hlt : j < N
      · have he : s.e ≠ 0 := fun h0 => hgo ⟨hlt, h0⟩
        obtain ⟨p, e⟩ := s
        have d2 : wr.cell? ⟨w.heap.size, 2, none⟩ = some (.int .i64 (e : Int)) := H.c2
        have he1 : ((e : Int) == 0) = false := by simp; exact he
        have hjn : (j : Int) < (N : Int) := by omega
        clear hgo hstop H he hlt
        go_wp2_with fail
        refine (KE.out).mono ?_
        rintro e w5 ⟨rfl, S5⟩
        have hb5 := S5.below hb4 (Nat.le_refl _) (by omega)
        have hown5 := own_save hown S5 (by omega)
        have HB5 := Lib.hid (fun e he => show PBy w5 e.A e.n e.c e.l ∧ e.x < 18446744073709551616 from ⟨(HB.out e he).1.save HH.out (by decide) S5, (HB.out e he).2⟩)
        by_cases hq : q = 0
        · subst hq
          obtain ⟨A8, c8, rfl, hr8⟩ := RowW.own hown5
          have HR := Lib.hid hr8
          clear hown hown5 hr8
          go_wp2_with fail
          go_ret2
          exact ⟨A8, j, c8, es, 0, rfl, by rw [HSP.out _ (HS3.out ▸ HE.out)]; simp, ⟨HR.out, HL.out, fun e he => ⟨(HB5.out e he).1.1, (HB5.out e he).2⟩⟩, hb5⟩
        · have h1 : ((q : Int) == 0) = false := by simp; exact hq
          have HQ := Lib.hid hq
          clear hq hown hown5
          go_wp2_with fail
          go_ret2
          exact ⟨none, 0, 0, [], q, rfl, by rw [HSP.out _ (HS3.out ▸ HE.out), if_neg HQ.out]; rfl, ⟨RowW.nil _ _, rfl, fun e he => by cases he⟩, hb5⟩
      · have hjn : ¬ (j : Int) < (N : Int) := by omega
        clear hgo hstop H hlt
        go_wp2_with fail
        refine (KE.out).mono ?_
        rintro e w5 ⟨rfl, S5⟩
        have hb5 := S5.below hb4 (Nat.le_refl _) (by omega)
        have hown5 := own_save hown S5 (by omega)
        have HB5 := Lib.hid (fun e he => show PBy w5 e.A e.n e.c e.l ∧ e.x < 18446744073709551616 from ⟨(HB.out e he).1.save HH.out (by decide) S5, (HB.out e he).2⟩)
        by_cases hq : q = 0
        · subst hq
          obtain ⟨A8, c8, rfl, hr8⟩ := RowW.own hown5
          have HR := Lib.hid hr8
          clear hown hown5 hr8
          go_wp2_with fail
          go_ret2
          exact ⟨A8, j, c8, es, 0, rfl, by rw [HSP.out _ (HS3.out ▸ HE.out)]; simp, ⟨HR.out, HL.out, fun e he => ⟨(HB5.out e he).1.1, (HB5.out e he).2⟩⟩, hb5⟩
        · have h1 : ((q : Int) == 0) = false := by simp; exact hq
          have HQ := Lib.hid hq
          clear hq hown hown5
          go_wp2_with fail
          go_ret2
          exact ⟨none, 0, 0, [], q, rfl, by rw [HSP.out _ (HS3.out ▸ HE.out), if_neg HQ.out]; rfl, ⟨RowW.nil _ _, rfl, fun e he => by cases he⟩, hb5⟩
end Go.Proofs.Ytiilgkajijnbcaa
