/-
  Contract of the package's ReadEntries.
-/
import Derived.Test.YtiilgkajijnbcaaRpB
import Derived.Test.YtiilgkajijnbcaaRdEnt
namespace Go.Proofs.Ytiilgkajijnbcaa
open Go.ChangeShapes Go.WideShapes Go.ChangeAt Go.RowKit
set_option linter.unusedVariables false
set_option linter.unusedSimpArgs false

/-- Entries of z bytes each, k of them, also behind a failure. -/
def entA (b : List UInt8) (z : Nat) : Nat → St → List (Nat × List UInt8) × St
  | 0, s => ([], s)
  | k + 1, s => (((elemS b s).1, (takeS b z (elemS b s).2).1) :: (entA b z k (takeS b z (elemS b s).2).2).1, (entA b z k (takeS b z (elemS b s).2).2).2)
theorem entA_step {b : List UInt8} {z k x : Nat} {s s1 s2 : St} {l : List UInt8} (h1 : elemS b s = (x, s1)) (h2 : takeS b z s1 = (l, s2)) : entA b z (k + 1) s = ((x, l) :: (entA b z k s2).1, (entA b z k s2).2) := by
  rw [entA, h1]
  simp only []
  rw [h2]
theorem takeS_same {b : List UInt8} {n : Nat} {s : St} (h : s.e ≠ 0) : (takeS b n s).2 = s := by rw [takeS, if_neg h]
theorem numS_same {b : List UInt8} {s : St} (h : s.e ≠ 0) : (numS b s).2 = s := by
  unfold numS
  exact takeS_same h
theorem elemS_same {b : List UInt8} {s : St} (h : s.e ≠ 0) : (elemS b s).2 = s := by
  unfold elemS
  show (if _ then _ else _ : St) = s
  rw [numS_same h, if_neg (fun h' => h h'.1)]
theorem entA_bad {b : List UInt8} {z : Nat} : ∀ (k : Nat) (s : St), s.e ≠ 0 → (entA b z k s).2 = s
  | 0, s, _ => rfl
  | k + 1, s, h => by
    have h1 := elemS_same (b := b) h
    have h2 : (takeS b z (elemS b s).2).2 = s := by rw [h1]; exact takeS_same h
    rw [entA, h2]
    exact entA_bad k s h
theorem entA_entS {b : List UInt8} {z : Nat} : ∀ (k : Nat) (s : St), (entA b z k s).2 = (entS b z k s).2 ∧ ((entA b z k s).2.e = 0 → (entA b z k s).1 = (entS b z k s).1)
  | 0, s => ⟨rfl, fun _ => rfl⟩
  | k + 1, s => by
    by_cases h : s.e = 0
    · have ih := entA_entS (b := b) (z := z) k (takeS b z (elemS b s).2).2
      rw [entA, entS, if_pos h]
      exact ⟨ih.1, fun he => by rw [ih.2 he]⟩
    · have hb := entA_bad (b := b) (z := z) (k + 1) s h
      rw [entS_stop (.inr h)]
      exact ⟨hb, fun he => absurd (by rw [hb] at he; exact he) h⟩
theorem endS_zero {b : List UInt8} {s : St} (h : endS b s = 0) : s.e = 0 := by
  unfold endS at h
  split at h
  · cases h
  · exact h
theorem PBy.saveR {B g : Nat} {w w' : World} {A : Option Addr} {n c : Nat} {l b : List UInt8} {s : St} (h : PBy w A n c l) (H : Rdp B w g b s) (ho : Save g w w') : PBy w' A n c l := by
  obtain ⟨A', n', c', h1, _⟩ := H
  exact h.save h1 (by decide) ho
theorem entA_ok {b : List UInt8} {z : Nat} : ∀ (k : Nat) (s : St), s.ok b → (entA b z k s).2.ok b
  | 0, s, h => h
  | k + 1, s, h => entA_ok k _ (takeS_ok z (elemS_ok h))
set_option maxHeartbeats 4000000 in
theorem progReadEntries' (A : Option Addr) (n c : Nat) (b : List UInt8) (w : World) (hb : Bytes w A n c b) :
    Calls Try.prog 15 #[.slice A n c] w fun e w' => ∃ A' m c' es k, e = .returned (.tuple #[.slice A' m c', .int .i64 ((k : Nat) : Int)]) ∧ entriesS b = (es.map Ent.data, k) ∧ Entries w' A' m c' es ∧ Below w.heap.size w w' := by
  obtain ⟨N, s1, h1⟩ : ∃ x s, mostS b 1000 ⟨0, 0⟩ = (x, s) := ⟨_, _, rfl⟩
  obtain ⟨z, s2, h2⟩ : ∃ x s, sizeS b N s1 = (x, s) := ⟨_, _, rfl⟩
  obtain ⟨es3, s3, h3⟩ : ∃ x s, entA b z N s2 = (x, s) := ⟨_, _, rfl⟩
  obtain ⟨q, h4⟩ : ∃ q, endS b s3 = q := ⟨_, rfl⟩
  have o0 := St.start b
  have o1 : s1.ok b := by have := mostS_ok 1000 o0; rw [h1] at this; exact this
  have o2 : s2.ok b := by have := sizeS_ok N o1; rw [h2] at this; exact this
  have o3 : s3.ok b := by have := entA_ok (z := z) N s2 o2; rw [h3] at this; exact this
  have hN : N ≤ 1000 := by have := mostS_le b 1000 ⟨0, 0⟩; rw [h1] at this; exact this
  have hsame := entA_entS (b := b) (z := z) N s2
  rw [h3] at hsame
  have hsame : s3 = (entS b z N s2).2 ∧ (s3.e = 0 → es3 = (entS b z N s2).1) := hsame
  have HSP := Lib.hid (show entriesS b = if q = 0 then (es3, 0) else ([], q) from by
    rw [entriesS_eq (es := (entS b z N s2).1) (s3 := s3) h1 h2 (by rw [hsame.1]) h4]
    by_cases hq : q = 0
    · rw [if_pos hq, if_pos hq, hsame.2 (endS_zero (h4.trans hq))]
    · rw [if_neg hq, if_neg hq])
  have hb1 := (Below.refl w.heap.size w).alloc (Nat.le_refl _) (.cells #[.slice A n c, .int .i64 0] 85)
  have H1 := newRdp (B := w.heap.size) w A n c b hb hb.oldA (Nat.le_refl _)
  have hz1 : (w.alloc (.cells #[.slice A n c, .int .i64 0] 85)).heap.size = w.heap.size + 1 := by simp
  have KS := Lib.hid (rpSizes' w.heap.size w.heap.size b ⟨0, 0⟩ s1 s2 N z h1 h2 o0 _ H1)
  have KE4 := Lib.hid (fun (u : World) (H : Rdp w.heap.size u w.heap.size b s3) => rpEnd' w.heap.size w.heap.size b s3 q h4 o3 u H)
  have HE3 := Lib.hid (And.intro h3 o2)
  clear h1 h2 h3 h4 o0 o1 o2 o3 hsame hb H1
  go_enter Try.func15, Try.ntmps15
  go_wp2_with fail
  change Calls _ _ _ (w.alloc (.cells #[.slice A n c, .int .i64 0] 85)) _
  generalize (w.alloc (.cells #[.slice A n c, .int .i64 0] 85)) = w1 at *
  refine (KS.out).mono ?_
  rintro e w2 ⟨y, rfl, hy, hy20, H2, S2⟩
  have b2 := S2.below hb1 (Nat.le_refl _) (by omega)
  have z2 : w.heap.size + 1 ≤ w2.heap.size := by have := S2.size; omega
  have HY := Lib.hid (show entA b y N s2 = (es3, s3) by
    by_cases hN0 : N = 0
    · subst hN0
      exact HE3.out.1
    · rw [hy hN0]
      exact HE3.out.1)
  clear KS S2 hb1 hz1 hy
  go_wp2_with fail
  go_loopw [7, 16] (fun v i wr => ∃ (j : Nat) (s : St) (es : List Ent), j ≤ N ∧ i = .int .i64 j ∧ wr.ownsRow (w.heap.size + 1) 39 2 v j (es.flatMap Ent.cells) ∧ Hid (entA b y N s2 = (es.map Ent.data ++ (entA b y (N - j) s).1, (entA b y (N - j) s).2)) ∧ Hid (∀ e ∈ es, PBy wr e.A e.n e.c e.l ∧ e.x < 18446744073709551616) ∧ Hid (es.length = j) ∧ Rdp w.heap.size wr w.heap.size b s ∧ Hid (s.ok b) ∧ Below w.heap.size w wr ∧ w.heap.size + 1 ≤ wr.heap.size) (fun _ i _ => N - (intOf i).toNat)
  case atStart => exact ⟨0, s2, [], Nat.zero_le _, rfl, World.ownsRow_nil _ _ _ _, Lib.hid (by simp), Lib.hid (fun e he => by cases he), Lib.hid rfl, H2, Lib.hid HE3.out.2, b2, z2⟩
  case round =>
    clear H2 b2 z2
    obtain ⟨j, s, es, hj, rfl, hown, HP, HB, HL, H, HOK, hb4, hz4⟩ := hrel
    by_cases hlt : j < N
    · have hjn : (j : Int) < (N : Int) := by omega
      obtain ⟨x, t1, g1⟩ : ∃ x s1, elemS b s = (x, s1) := ⟨_, _, rfl⟩
      obtain ⟨l, t2, g2⟩ : ∃ x s, takeS b y t1 = (x, s) := ⟨_, _, rfl⟩
      have ot1 : t1.ok b := by have := elemS_ok HOK.out; rw [g1] at this; exact this
      have ot2 : t2.ok b := by have := takeS_ok y ot1; rw [g2] at this; exact this
      have hx64 : x < 18446744073709551616 := by have := elemS_lt b s; rw [g1] at this; exact this
      have KE := Lib.hid (rpElem' w.heap.size w.heap.size b s t1 x g1 HOK.out wr H)
      have KT := Lib.hid (fun (w' : World) (H : Rdp w.heap.size w' w.heap.size b t1) => rpTake' w.heap.size w.heap.size b t1 t2 y l g2 ot1 (by omega) w' H)
      have HST := Lib.hid (show entA b y (N - j) s = ((x, l) :: (entA b y (N - (j + 1)) t2).1, (entA b y (N - (j + 1)) t2).2) by
        rw [show N - j = (N - (j + 1)) + 1 by omega]
        exact entA_step g1 g2)
      have HX := Lib.hid (And.intro ot2 hx64)
      have HH := Lib.hid H
      clear g1 g2 ot1 ot2 hx64 H
      go_wp2_with fail
      refine (KE.out).mono ?_
      rintro e w5 ⟨rfl, H5, S5⟩
      have hb5 := S5.below hb4 (Nat.le_refl _) (by omega)
      have hz5 := S5.size
      have hown5 := own_save hown S5 (by omega)
      have HB5 := Lib.hid (fun e he => show PBy w5 e.A e.n e.c e.l ∧ e.x < 18446744073709551616 from ⟨(HB.out e he).1.saveR HH.out S5, (HB.out e he).2⟩)
      have HH5 := Lib.hid H5
      clear KE hown HB S5 HH hb4 H5
      go_wp2_with fail
      refine (KT.out w5 HH5.out).mono ?_
      rintro e w6 ⟨v6, rfl, hown6, H6, S6⟩
      have hb6 := S6.below hb5 (Nat.le_refl _) (by omega)
      have hz6 := S6.size
      have hown6' := own_save hown5 S6 (by omega)
      obtain ⟨A6, c6, rfl, hp6⟩ := PBy.own hown6
      have HB6 := Lib.hid (fun e he => show PBy w6 e.A e.n e.c e.l ∧ e.x < 18446744073709551616 from ⟨(HB5.out e he).1.saveR HH5.out S6, (HB5.out e he).2⟩)
      have HLIT := Lib.hid (litW w6 39 2 [nv x, .slice A6 l.length c6] rfl)
      have hk7 := (Below.refl w6.heap.size w6).alloc (Nat.le_refl _) (.cells #[.int .u64 (x : Int), .slice A6 l.length c6] 39)
      have HO7 := Lib.hid (hown6'.alloc (.cells #[.int .u64 (x : Int), .slice A6 l.length c6] 39))
      have H7 := Lib.hid (H6.alloc (.cells #[.int .u64 (x : Int), .slice A6 l.length c6] 39))
      have hb7 := hb6.alloc (by omega) (.cells #[.int .u64 (x : Int), .slice A6 l.length c6] 39)
      have HBS := Lib.hid (show w.heap.size + 1 ≤ (w6.alloc (.cells #[.int .u64 (x : Int), .slice A6 l.length c6] 39)).heap.size by simp; omega)
      have HB7 := Lib.hid (show ∀ e ∈ es ++ [⟨x, A6, l.length, c6, l⟩], PBy (w6.alloc (.cells #[.int .u64 (x : Int), .slice A6 l.length c6] 39)) e.A e.n e.c e.l ∧ e.x < 18446744073709551616 from fun e he => by
        rcases List.mem_append.1 he with h | h
        · exact ⟨(HB6.out e h).1.keep hk7, (HB6.out e h).2⟩
        · obtain rfl := List.mem_singleton.1 h
          exact ⟨hp6.keep hk7, HX.out.2⟩)
      have HNB := Lib.hid (show j ≤ 1048576 by omega)
      clear KT hown5 hown6 hown6' hp6 HB5 HB6 H6 S6 hb5 hb6 hk7
      go_wp2_with (at_builtin; (refine appEnt rfl (.tmp 18) (.tmp 23) rfl (w.heap.size + 1) u7 j es rfl HO7.out _ ⟨x, A6, l.length, c6, l⟩ rfl HLIT.out HNB.out HBS.out ?_); intro v8 w8 hown8 hg8)
      have hb8 := hb7.grown hg8 (by have := HBS.out; omega) (fun k hk => by have := (HO7.out.lt k hk).1; omega)
      have H8 : Rdp w.heap.size w8 w.heap.size b t2 := H7.out.step (hg8.block w.heap.size (by have := HBS.out; omega) (fun e => by have := (HO7.out.lt _ e.symm).1; omega)) ((Below.refl _ _).grown hg8 (by have := HBS.out; omega) (fun k hk => by have := (HO7.out.lt k hk).1; omega))
      have HB8 := Lib.hid (fun e he => show PBy w8 e.A e.n e.c e.l ∧ e.x < 18446744073709551616 from ⟨(HB7.out e he).1.grown HO7.out (by decide) hg8, (HB7.out e he).2⟩)
      have hz8 : w.heap.size + 1 ≤ w8.heap.size := Nat.le_trans HBS.out hg8.size
      clear HB7 HO7 H7 hb7 HLIT HBS hg8
      go_roundw
      case rel => exact ⟨j + 1, t2, es ++ [⟨x, A6, l.length, c6, l⟩], by omega, by go_num, hown8, Lib.hid (by rw [HP.out, HST.out]; simp [Ent.data]), HB8, Lib.hid (by simp [HL.out]), H8, Lib.hid HX.out.1, hb8, hz8⟩
      case measure => simp [intOf]; omega
    · obtain rfl : j = N := by omega
      have HE := Lib.hid (show es3 = es.map Ent.data ∧ s3 = s by
        have h := HP.out
        rw [HY.out] at h
        obtain ⟨e1, e2⟩ := Prod.mk.inj h
        rw [Nat.sub_self] at e1 e2
        exact ⟨by simpa [entA] using e1, e2⟩)
      have KE := Lib.hid (KE4.out wr (by rw [HE.out.2]; exact H))
      have HH := Lib.hid H
      have hjn : ¬ (j : Int) < (j : Int) := by omega
      clear H hlt KE4
      go_wp2_with fail
      refine (KE.out).mono ?_
      rintro e w5 ⟨rfl, S5⟩
      have hb5 := S5.below hb4 (Nat.le_refl _) (by omega)
      have hown5 := own_save hown S5 (by omega)
      have HB5 := Lib.hid (fun e he => show PBy w5 e.A e.n e.c e.l ∧ e.x < 18446744073709551616 from ⟨(HB.out e he).1.saveR HH.out S5, (HB.out e he).2⟩)
      by_cases hq : q = 0
      · subst hq
        obtain ⟨A8, c8, rfl, hr8⟩ := RowW.own hown5
        have HR := Lib.hid hr8
        clear hown hown5 hr8
        go_wp2_with fail
        go_ret2
        exact ⟨A8, j, c8, es, 0, rfl, by rw [HSP.out, ← HE.out.1]; simp, ⟨HR.out, HL.out, fun e he => ⟨(HB5.out e he).1.1, (HB5.out e he).2⟩⟩, hb5⟩
      · have h1 : ((q : Int) == 0) = false := by simp; exact hq
        have HQ := Lib.hid hq
        clear hq hown hown5
        go_wp2_with fail
        go_ret2
        exact ⟨none, 0, 0, [], q, rfl, by rw [HSP.out, if_neg HQ.out]; rfl, ⟨RowW.nil _ _, rfl, fun e he => by cases he⟩, hb5⟩
end Go.Proofs.Ytiilgkajijnbcaa
