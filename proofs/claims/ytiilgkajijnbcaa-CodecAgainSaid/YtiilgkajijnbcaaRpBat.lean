/-
  Contract of the package's ReadBatch. (Written by gen_rpbat.py.)
-/
import Derived.Test.YtiilgkajijnbcaaBatMem
import Derived.Test.YtiilgkajijnbcaaRpKey
import Derived.Test.YtiilgkajijnbcaaRpEnt
import Derived.Deep.RegionHeldLaw
namespace Go.Proofs.Ytiilgkajijnbcaa
open Go.ChangeShapes Go.WideShapes Go.ChangeAt Go.RowKit
set_option linter.unusedVariables false
set_option linter.unusedSimpArgs false

/-! ### What is read behind a failure, too -/
def numsA (b : List UInt8) : Nat → St → List Nat × St
  | 0, s => ([], s)
  | k + 1, s => ((numS b s).1 :: (numsA b k (numS b s).2).1, (numsA b k (numS b s).2).2)
def letsA (b : List UInt8) (z : Nat) : Nat → St → List (List UInt8 × List UInt8) × St
  | 0, s => ([], s)
  | k + 1, s => (((keyS b s).1, (takeS b z (keyS b s).2).1) :: (letsA b z k (takeS b z (keyS b s).2).2).1, (letsA b z k (takeS b z (keyS b s).2).2).2)
section
variable {b : List UInt8}
theorem numsA_step {k x : Nat} {s s1 : St} (h1 : numS b s = (x, s1)) : numsA b (k + 1) s = (x :: (numsA b k s1).1, (numsA b k s1).2) := by rw [numsA, h1]
theorem letsA_step {z k : Nat} {s s1 s2 : St} {u l : List UInt8} (h1 : keyS b s = (u, s1)) (h2 : takeS b z s1 = (l, s2)) : letsA b z (k + 1) s = ((u, l) :: (letsA b z k s2).1, (letsA b z k s2).2) := by
  rw [letsA, h1]
  simp only []
  rw [h2]
theorem keyS_same {s : St} (h : s.e ≠ 0) : (keyS b s).2 = s := by
  unfold keyS
  exact takeS_same h
theorem numsA_bad : ∀ (k : Nat) (s : St), s.e ≠ 0 → (numsA b k s).2 = s
  | 0, s, _ => rfl
  | k + 1, s, h => by
    rw [numsA, numS_same h]
    exact numsA_bad k s h
theorem letsA_bad {z : Nat} : ∀ (k : Nat) (s : St), s.e ≠ 0 → (letsA b z k s).2 = s
  | 0, s, _ => rfl
  | k + 1, s, h => by
    have h2 : (takeS b z (keyS b s).2).2 = s := by rw [keyS_same h]; exact takeS_same h
    rw [letsA, h2]
    exact letsA_bad k s h
theorem numsA_S : ∀ (k : Nat) (s : St), (numsA b k s).2 = (numsS b k s).2 ∧ ((numsA b k s).2.e = 0 → (numsA b k s).1 = (numsS b k s).1)
  | 0, s => ⟨rfl, fun _ => rfl⟩
  | k + 1, s => by
    by_cases h : s.e = 0
    · have ih := numsA_S k (numS b s).2
      rw [numsA, numsS, if_pos h]
      exact ⟨ih.1, fun he => by rw [ih.2 he]⟩
    · have hb := numsA_bad (b := b) (k + 1) s h
      rw [numsS_stop (.inr h)]
      exact ⟨hb, fun he => absurd (by rw [hb] at he; exact he) h⟩
theorem letsA_S {z : Nat} : ∀ (k : Nat) (s : St), (letsA b z k s).2 = (letsS b z k s).2 ∧ ((letsA b z k s).2.e = 0 → (letsA b z k s).1 = (letsS b z k s).1)
  | 0, s => ⟨rfl, fun _ => rfl⟩
  | k + 1, s => by
    by_cases h : s.e = 0
    · have ih := letsA_S (z := z) k (takeS b z (keyS b s).2).2
      rw [letsA, letsS, if_pos h]
      exact ⟨ih.1, fun he => by rw [ih.2 he]⟩
    · have hb := letsA_bad (b := b) (z := z) (k + 1) s h
      rw [letsS_stop (.inr h)]
      exact ⟨hb, fun he => absurd (by rw [hb] at he; exact he) h⟩
theorem mostS_same {m : Nat} {s : St} (h : s.e ≠ 0) : (mostS b m s).2 = s := by
  have h1 : (takeS b 8 s).2 = s := takeS_same h
  have h2 : (numS b s).1 = 0 := by
    unfold numS
    rw [h1, if_neg h]
  unfold mostS
  rw [h2, if_neg (by omega)]
  exact numS_same h
theorem sizeS_same {m : Nat} {s : St} (h : s.e ≠ 0) : (sizeS b m s).2 = s := by
  have h2 : (numS b s).1 = 0 := by
    unfold numS
    rw [show (takeS b 8 s).2 = s from takeS_same h, if_neg h]
  have h3 : (mostS b 1048576 s).1 = 0 := by
    unfold mostS
    rw [h2, if_neg (by omega)]
    exact h2
  unfold sizeS
  show (if _ then _ else _ : St) = s
  rw [if_neg (fun h' => h'.2 h3)]
  exact mostS_same h
theorem letsS_same {z : Nat} {k : Nat} {s : St} (h : s.e ≠ 0) : (letsS b z k s).2 = s := by rw [letsS_stop (.inr h)]
end
theorem RowT.saveR {t : TypeId} {B g : Nat} {w w' : World} {A : Option Addr} {n c : Nat} {vs : List Value} {b : List UInt8} {s : St} (h : RowT t w A n c vs) (H : Rdp B w g b s) (ho : Save g w w') (ht : 85 ≠ t := by decide) : RowT t w' A n c vs := by
  obtain ⟨A', n', c', h1, _⟩ := H
  exact h.save h1 ht ho
/-! ### The blocks of ReadBatch's walk: the result, the reader, the batch -/
structure Sitp (w0 w : World) (gb : Nat) (b : List UInt8) (s : St) (cs : List Value) : Prop where
  rd : Rdp w0.heap.size w (w0.heap.size + 1) b s
  res : Has w w0.heap.size 53 (bcells 0 0 none 0 0 none 0 0)
  bat : Has w gb 53 cs
  below : Below w0.heap.size w0 w
  size : gb + 1 ≤ w.heap.size
  gb : w0.heap.size + 2 ≤ gb
section
variable {w0 w w' : World} {gb : Nat} {b : List UInt8} {s s' : St} {cs : List Value}
theorem Sitp.call (h : Sitp w0 w gb b s cs) (H : Rdp w0.heap.size w' (w0.heap.size + 1) b s') (S : Save (w0.heap.size + 1) w w') : Sitp w0 w' gb b s' cs :=
  ⟨H, h.res.save S (by omega), h.bat.save S (by have := h.gb; omega), S.below h.below (by omega) (by have := h.size; have := h.gb; omega), Nat.le_trans h.size S.size, h.gb⟩
theorem Sitp.done (h : Sitp w0 w gb b s cs) (S : Save (w0.heap.size + 1) w w') : Has w' w0.heap.size 53 (bcells 0 0 none 0 0 none 0 0) ∧ Has w' gb 53 cs ∧ Below w0.heap.size w0 w' :=
  ⟨h.res.save S (by omega), h.bat.save S (by have := h.gb; omega), S.below h.below (by omega) (by have := h.size; have := h.gb; omega)⟩
theorem Sitp.set (h : Sitp w0 w gb b s cs) (i : Nat) (v : Value) : Sitp w0 (w.setCell ⟨gb, i, none⟩ v) gb b s (cs.set i v) :=
  ⟨h.rd.only (Only.setCell _ _ _ _) (by have := h.gb; omega) (by have := h.gb; omega), h.res.only (Only.setCell _ _ _ _) (by have := h.gb; omega), h.bat.set i v, (Only.setCell _ _ _ _).below h.below (by have := h.gb; omega), Nat.le_trans h.size (Nat.le_of_eq (Only.setCell _ _ _ _).size.symm), h.gb⟩
theorem Sitp.drew (h : Sitp w0 w gb b s cs) : Sitp w0 w.drew gb b s cs := ⟨h.rd, h.res, h.bat, h.below.drew, h.size, h.gb⟩
theorem Sitp.on (h : Sitp w0 w gb b s cs) (hb : Below w.heap.size w w') : Sitp w0 w' gb b s cs :=
  ⟨h.rd.keep hb, h.res.keep hb h.res.lt, h.bat.keep hb h.bat.lt, h.below.trans (hb.mono h.below.size), Nat.le_trans h.size hb.size, h.gb⟩
theorem Sitp.alloc (h : Sitp w0 w gb b s cs) (o : Obj) : Sitp w0 (w.alloc o) gb b s cs := h.on ((Below.refl _ _).alloc (Nat.le_refl _) o)
theorem Sitp.grown {row : Option Nat} (h : Sitp w0 w gb b s cs) (hg : w.grownBy w' row) (hr : ∀ k, row = some k → gb + 1 ≤ k) : Sitp w0 w' gb b s cs := by
  have ne : ∀ k, k < gb + 1 → some k ≠ row := fun k hk e => by have := hr k e.symm; omega
  have hgb := h.gb
  have hsz := h.size
  have hbl := h.below.grown hg (by omega) (fun k hk => by have := hr k hk; omega)
  exact ⟨h.rd.step (hg.block _ h.rd.lt (ne _ (by omega))) ((Below.refl _ _).grown hg (by omega) (fun k hk => by have := hr k hk; omega)), h.res.grown hg (ne _ (by omega)), h.bat.grown hg (ne _ (by omega)), hbl, Nat.le_trans h.size hg.size, h.gb⟩
end
set_option maxRecDepth 10000 in
set_option maxHeartbeats 8000000 in
theorem progReadBatch' (A : Option Addr) (n c : Nat) (b : List UInt8) (w : World) (hb : Bytes w A n c b) :
    Calls Try.prog 24 #[.slice A n c] w fun e w' => ∃ (d : BatD) (Ai : Option Addr) (ni ci : Nat) (Al : Option Addr) (nl cl : Nat) (es : List Let) (k : Nat), e = .returned (.tuple #[.agg (bcells d.r d.ch Ai ni ci Al nl cl).toArray, .int .i64 (k : Int)]) ∧ batchS b = (d, k) ∧ Nums w' Ai ni ci d.inner ∧ Letters w' Al nl cl es ∧ d.ls = es.map Let.data ∧ d.ok ∧ Below w.heap.size w w' := by
  obtain ⟨r0⟩ := BatR.there b
  obtain ⟨o1, o2, o3, o4, o5, o6, hr, hch, hN, hm, hz⟩ := r0.ok
  obtain ⟨q, h8⟩ : ∃ q, endS b r0.s7 = q := ⟨_, rfl⟩
  have hspec := batchS_eq r0 h8
  obtain ⟨RR, hRR⟩ : ∃ R, batchS b = R := ⟨_, rfl⟩
  rw [hRR] at hspec ⊢
  clear hRR
  obtain ⟨r, ch, N, inner, m, z, ls, s1, s2, s3, s4, s5, s6, s7, h1, h2, h3, h4, h5, h6, h7⟩ := r0
  simp only [] at o1 o2 o3 o4 o5 o6 hr hch hN hm hz h8 hspec
  have o7 : s7.ok b := by
    have := letsA_S (b := b) (z := z) m s6
    rw [h7] at this
    have h := (show (letsA b z m s6).2 = s7 from this.1)
    rw [← h]
    clear this h
    have : ∀ (k : Nat) (s : St), s.ok b → (letsA b z k s).2.ok b := fun k => by
      induction k with
      | zero => exact fun s h => h
      | succ k ih => exact fun s h => ih _ (takeS_ok z (keyS_ok h))
    exact this m s6 o6
  have HD := Lib.hid (fun (is : List Nat) (xs : List (List UInt8 × List UInt8)) => show BatD.ok ⟨(r : Int), (ch : Int), is, xs⟩ from ⟨⟨by show 0 ≤ (r : Int); omega, by show (r : Int) ≤ 9223372036854775807; omega⟩, ⟨by show 0 ≤ (ch : Int); omega, by show (ch : Int) ≤ 9223372036854775807; omega⟩⟩)
  have HBD := Lib.hid (And.intro hN hm)
  have HLA := Lib.hid (fun (y : Nat) (hy : m ≠ 0 → y = z) => show (letsA b y m s6).2 = s7 from by
    have h := (letsA_S (b := b) (z := z) m s6).1
    rw [h7] at h
    by_cases hm0 : m = 0
    · subst hm0
      exact h
    · rw [hy hm0]
      exact h)
  have H4 := Lib.hid (show (numsA b N s3).2 = s4 by
    have h := (numsA_S (b := b) N s3).1
    rw [h4] at h
    exact h)
  have HFINA := Lib.hid (fun (y : Nat) (hy : m ≠ 0 → y = z) (hq : q = 0) (is : List Nat) (xs : List (List UInt8 × List UInt8)) (hi : (numsA b N s3).1 = is) (hx : (letsA b y m s6).1 = xs) => show RR = (⟨(r : Int), (ch : Int), is, xs⟩, 0) from by
    have e7 : s7.e = 0 := endS_zero (h8.trans hq)
    have e4 : s4.e = 0 := by
      by_cases h : s4.e = 0
      · exact h
      · have f5 : s5 = s4 := by have := mostS_same (b := b) (m := 1000) h; rw [h5] at this; exact this
        have f6 : s6 = s4 := by have := sizeS_same (b := b) (m := m) (s := s5) (by rw [f5]; exact h); rw [h6] at this; rw [← f5]; exact this
        have f7 : s7 = s6 := by have := letsS_same (b := b) (z := z) (k := m) (s := s6) (by rw [f6]; exact h); rw [h7] at this; exact this
        exact absurd (by rw [f7, f6] at e7; exact e7) h
    have hi2 : is = inner := by
      have h := (numsA_S (b := b) N s3).2 (by rw [H4.out]; exact e4)
      rw [h4] at h
      exact hi.symm.trans h
    have hx2 : xs = ls := by
      have h := (letsA_S (b := b) (z := y) m s6).2 (by rw [HLA.out y hy]; exact e7)
      have h' : (letsS b y m s6).1 = ls := by
        by_cases hm0 : m = 0
        · subst hm0
          have := congrArg Prod.fst h7
          exact this
        · rw [hy hm0, h7]
      exact hx.symm.trans (h.trans h')
    rw [hspec, if_pos hq, hi2, hx2])
  have HBAD := Lib.hid (fun (hq : q ≠ 0) => show RR = (batZero, q) from by rw [hspec, if_neg hq])
  have O3 := Lib.hid o3
  have O6 := Lib.hid o6
  have o0 := St.start b
  have hb1 := (Below.refl w.heap.size w).alloc (Nat.le_refl _) (.cells #[.int .i64 0, .int .i64 0, .slice none 0 0, .slice none 0 0] 53)
  have HR1 := (newBatch w).alloc (.cells #[.slice A n c, .int .i64 0] 85)
  have hz1 : (w.alloc (.cells #[.int .i64 0, .int .i64 0, .slice none 0 0, .slice none 0 0] 53)).heap.size = w.heap.size + 1 := by simp
  have H1 := (newRdp (B := w.heap.size) (w.alloc (.cells #[.int .i64 0, .int .i64 0, .slice none 0 0, .slice none 0 0] 53)) A n c b (hb.keep hb1) hb.oldA (by omega)).cast hz1
  have hb2 := hb1.alloc hb1.size (.cells #[.slice A n c, .int .i64 0] 85)
  have hz2 : ((w.alloc (.cells #[.int .i64 0, .int .i64 0, .slice none 0 0, .slice none 0 0] 53)).alloc (.cells #[.slice A n c, .int .i64 0] 85)).heap.size = w.heap.size + 2 := by simp
  have K1 := Lib.hid (fun (w' : World) (H : Rdp w.heap.size w' (w.heap.size + 1) b ⟨0, 0⟩) => show Calls Try.prog 48 #[.pointer (some ⟨w.heap.size + 1, 0, none⟩), .int .i64 9223372036854775807] w' _ from rpCount' w.heap.size (w.heap.size + 1) b ⟨0, 0⟩ s1 9223372036854775807 r h1 (Nat.le_refl _) o0 w' H)
  have K2 := Lib.hid (fun (w' : World) (H : Rdp w.heap.size w' (w.heap.size + 1) b s1) => show Calls Try.prog 48 #[.pointer (some ⟨w.heap.size + 1, 0, none⟩), .int .i64 9223372036854775807] w' _ from rpCount' w.heap.size (w.heap.size + 1) b s1 s2 9223372036854775807 ch h2 (Nat.le_refl _) o1 w' H)
  have K3 := Lib.hid (fun (w' : World) (H : Rdp w.heap.size w' (w.heap.size + 1) b s2) => show Calls Try.prog 48 #[.pointer (some ⟨w.heap.size + 1, 0, none⟩), .int .i64 20] w' _ from rpCount' w.heap.size (w.heap.size + 1) b s2 s3 20 N h3 (by omega) o2 w' H)
  have K56 := Lib.hid (fun (w' : World) {gb : Nat} (cs : List Value) (H : Sitp w w' gb b s4 cs) => rpSizes' w.heap.size (w.heap.size + 1) b s4 s5 s6 m z h5 h6 o4 w' H.rd)
  have KEND := Lib.hid (fun (w' : World) (H : Rdp w.heap.size w' (w.heap.size + 1) b s7) => rpEnd' w.heap.size (w.heap.size + 1) b s7 q h8 o7 w' H)
  clear o0 o1 o2 o3 o4 o5 o6 o7 hr hch hN hm hz h1 h2 h3 h4 h5 h6 h7 h8 hspec hb hz1 hb1
  go_enter Try.func24, Try.ntmps24
  go_wp2_with fail
  change Calls _ _ _ ((w.alloc (.cells #[.int .i64 0, .int .i64 0, .slice none 0 0, .slice none 0 0] 53)).alloc (.cells #[.slice A n c, .int .i64 0] 85)) _
  generalize ((w.alloc (.cells #[.int .i64 0, .int .i64 0, .slice none 0 0, .slice none 0 0] 53)).alloc (.cells #[.slice A n c, .int .i64 0] 85)) = w3 at *
  refine (K1.out w3 H1).mono ?_
  rintro e w4 ⟨rfl, H4', S4⟩
  have HR4 := HR1.save S4 (by omega)
  have b4 := S4.below hb2 (by omega) (by omega)
  have z4 : w.heap.size + 2 ≤ w4.heap.size := by have := S4.size; omega
  have HX4 := Lib.hid H4'
  clear K1 H1 HR1 hb2 hz2 H4' S4
  go_wp2_with fail
  refine (K2.out w4 HX4.out).mono ?_
  rintro e w5 ⟨rfl, H5', S5⟩
  have HR5 := HR4.save S5 (by omega)
  have b5 := S5.below b4 (by omega) (by omega)
  have z5 : w.heap.size + 2 ≤ w5.heap.size := by have := S5.size; omega
  have HN5 := newBatch w5
  have HR6 := HR5.alloc (.cells #[.int .i64 0, .int .i64 0, .slice none 0 0, .slice none 0 0] 53)
  have H6 := Lib.hid (H5'.alloc (.cells #[.int .i64 0, .int .i64 0, .slice none 0 0, .slice none 0 0] 53))
  have b6 := b5.alloc b5.size (.cells #[.int .i64 0, .int .i64 0, .slice none 0 0, .slice none 0 0] 53)
  have hz6 : (w5.alloc (.cells #[.int .i64 0, .int .i64 0, .slice none 0 0, .slice none 0 0] 53)).heap.size = w5.heap.size + 1 := by simp
  clear K2 HX4 HR4 b4 S5 H5' HR5 b5 z4
  go_wp2_with ((refine wpList_store_bat rfl (.tmp 5) (.tmp 13) rfl w5.heap.size rfl (r : Int) (ch : Int) none 0 0 none 0 0 rfl (bcells 0 0 none 0 0 none 0 0) HN5 rfl ?_); intro w7 o7 H7b)
  have SIT7 := Lib.hid (show Sitp w w7 w5.heap.size b s2 (bcells r ch none 0 0 none 0 0) from ⟨H6.out.only o7 (by omega) (by omega), HR6.only o7 (by omega), H7b, o7.below b6 (by omega), by have := o7.size; omega, z5⟩)
  obtain ⟨gb, hgb⟩ : ∃ g, w5.heap.size = g := ⟨_, rfl⟩
  rw [hgb] at SIT7 ⊢
  clear H6 HR6 b6 hz6 o7 H7b HN5 hgb z5
  refine (K3.out w7 SIT7.out.rd).mono ?_
  rintro e w8 ⟨rfl, H, S⟩
  have SIT8 := Lib.hid (SIT7.out.call H S)
  clear H S K3 SIT7
  go_wp2_with fail
  go_loopw [15] (fun i wr => ∃ (j : Nat) (s : St) (xs : List Nat) (Ai : Option Addr) (ci : Nat), j ≤ N ∧ i = .int .i64 j ∧ wr.ownsRow (gb + 1) 37 1 (.slice Ai j ci) j (xs.map nv) ∧ Hid (Sitp w wr gb b s (bcells r ch Ai j ci none 0 0)) ∧ Hid (numsA b N s3 = (xs ++ (numsA b (N - j) s).1, (numsA b (N - j) s).2)) ∧ Hid (xs.length = j ∧ ∀ x ∈ xs, x < 18446744073709551616) ∧ Hid (s.ok b)) (fun i _ => N - (intOf i).toNat)
  case atStart => exact ⟨0, s3, [], none, 0, Nat.zero_le _, rfl, World.ownsRow_nil _ _ _ _, SIT8, Lib.hid (by simp), Lib.hid ⟨rfl, fun x hx => by cases hx⟩, Lib.hid O3.out⟩
  case round =>
    clear SIT8
    obtain ⟨j, s, xs, Ai, ci, hj, rfl, hown, SITR, HP, HL, HOK⟩ := hrel
    by_cases hlt : j < N
    · have hjn : (j : Int) < (N : Int) := by omega
      obtain ⟨x, t1, g1⟩ := two_of (numS b s)
      have ot1 : t1.ok b := by have := numS_ok HOK.out; rw [g1] at this; exact this
      have hx64 : x < 18446744073709551616 := by have := numS_lt b s; rw [g1] at this; exact this
      have SITD := Lib.hid (SITR.out.drew)
      have HOD := Lib.hid (show wr.drew.ownsRow (gb + 1) 37 1 (.slice Ai j ci) j (xs.map nv) from hown)
      have d3 : wr.drew.cell? ⟨gb, 2, none⟩ = some (.slice Ai j ci) := SITR.out.bat.cell 2
      have KE := Lib.hid (rpAny' w.heap.size (w.heap.size + 1) b s t1 x g1 HOK.out wr.drew SITD.out.rd)
      have HST := Lib.hid (show numsA b (N - j) s = (x :: (numsA b (N - (j + 1)) t1).1, (numsA b (N - (j + 1)) t1).2) by
        rw [show N - j = (N - (j + 1)) + 1 by omega]
        exact numsA_step g1)
      have HX := Lib.hid (And.intro ot1 (show ∀ y ∈ xs ++ [x], y < 18446744073709551616 from fun y hy => by
        rcases List.mem_append.1 hy with h | h
        · exact HL.out.2 y h
        · obtain rfl := List.mem_singleton.1 h; exact hx64))
      have HNB := Lib.hid (show j ≤ 1048576 by have := HBD.out; omega)
      clear g1 ot1 hx64 hown
      go_wp2_with fail
      refine wp_region_held_drew (S := fun _ => True) (by kernel_rfl) trivial (fun hHeld => ?_)
      refine wpAnyH_take (i := 0) (v := ?vq5) rfl (by kernel_rfl) (by kernel_rfl) (by kernel_rfl) (fun _ _ _ h => h) (Or.inl ⟨by rfl, ?yq5⟩) (by assumption) ?rq5
      case yq5 => (intro u hSu; (try dsimp only at hSu); go_simp; try with_reducible rfl)
      try simp only [List.getElem_toArray, List.getElem_cons_succ, List.getElem_cons_zero, Act.put, List.setIfInBounds_toArray, List.set_cons_zero, List.set_cons_succ]
      refine wpAnyH_ready (rs := [1, 2]) (by kernel_rfl) (by simp) ?_
      refine AllReadyH.cons rfl (fun K hK => ?_) (AllReadyH.cons rfl (fun K hK => ?_) AllReadyH.nil)
      · go_simp
        refine hK.out _ _ trivial (fun hHeld => ?_)
        clear hK K
        try simp only [List.getElem_toArray, List.getElem_cons_succ, List.getElem_cons_zero, Act.put, List.setIfInBounds_toArray, List.set_cons_zero, List.set_cons_succ]
        refine wpAnyH_ready (rs := [2]) (by kernel_rfl) (by simp) ?_
        refine AllReadyH.cons rfl (fun K hK => ?_) AllReadyH.nil
        go_simp
        go_at_call 52
        refine (KE.out).mono ?_
        rintro e w5 ⟨rfl, H5, S5⟩
        have SIT5 := Lib.hid (SITD.out.call H5 S5)
        have HO7 := Lib.hid ((own_save HOD.out S5 (by have := SITD.out.gb; omega)).alloc (.cells #[.int .u64 (x : Int)] 37))
        have HLIT := Lib.hid (litN w5 x)
        have SIT7 := Lib.hid (SIT5.out.alloc (.cells #[.int .u64 (x : Int)] 37))
        have d5 : w5.cell? ⟨gb, 2, none⟩ = some (.slice Ai j ci) := SIT5.out.bat.cell 2
        have d7 : (w5.alloc (.cells #[.int .u64 (x : Int)] 37)).cell? ⟨gb, 2, none⟩ = some (.slice Ai j ci) := SIT7.out.bat.cell 2
        clear H5 S5
        go_simp
        refine hK.out _ _ trivial (fun hHeld => ?_)
        clear hK K
        try simp only [List.getElem_toArray, List.getElem_cons_succ, List.getElem_cons_zero, Act.put, List.setIfInBounds_toArray, List.set_cons_zero, List.set_cons_succ]
        refine wpAnyH_ready (rs := [3]) (by kernel_rfl) (by simp) ?_
        refine AllReadyH.cons rfl (fun K hK => ?_) AllReadyH.nil
        go_simp
        refine hK.out _ _ trivial (fun hHeld => ?_)
        clear hK K
        try simp only [List.getElem_toArray, List.getElem_cons_succ, List.getElem_cons_zero, Act.put, List.setIfInBounds_toArray, List.set_cons_zero, List.set_cons_succ]
        refine wpAnyH_ready (rs := [4]) (by kernel_rfl) (by simp) ?_
        refine AllReadyH.cons rfl (fun K hK => ?_) AllReadyH.nil
        refine step_num (by rfl) (.tmp 18) (.tmp 20) (by rfl) (gb + 1) (.slice Ai j ci) j xs (by rfl) HO7.out w5.heap.size x (by rfl) HLIT.out HNB.out (by have := SIT7.out.size; omega) ?_
        intro v8 w8 hown8 hg8
        obtain ⟨A8, c8, rfl, hr8⟩ := RowW.own hown8
        have SIT8 := Lib.hid (SIT7.out.grown hg8 (fun k hk => (HO7.out.lt k hk).1))
        have d8 : w8.cell? ⟨gb, 2, none⟩ = some (.slice Ai j ci) := SIT8.out.bat.cell 2
        have f8 := SIT8.out.bat.froz 2
        clear hr8 hg8
        refine hK.out _ _ trivial (fun hHeld => ?_)
        clear hK K
        try simp only [List.getElem_toArray, List.getElem_cons_succ, List.getElem_cons_zero, Act.put, List.setIfInBounds_toArray, List.set_cons_zero, List.set_cons_succ]
        refine wpAnyH_take (i := 5) (v := ?vq2) rfl (by kernel_rfl) (by kernel_rfl) (by kernel_rfl) (fun _ _ _ h => h) (Or.inl ⟨by rfl, ?yq2⟩) (by assumption) ?rq2
        case yq2 => (intro u hSu; (try dsimp only at hSu); go_simp; try with_reducible rfl)
        try simp only [List.getElem_toArray, List.getElem_cons_succ, List.getElem_cons_zero, Act.put, List.setIfInBounds_toArray, List.set_cons_zero, List.set_cons_succ]
        refine wpAnyH_ready (rs := [6]) (by kernel_rfl) (by simp) ?_
        refine AllReadyH.cons rfl (fun K hK => ?_) AllReadyH.nil
        go_simp
        refine hK.out _ _ trivial (fun hHeld => ?_)
        clear hK K
        try simp only [List.getElem_toArray, List.getElem_cons_succ, List.getElem_cons_zero, Act.put, List.setIfInBounds_toArray, List.set_cons_zero, List.set_cons_succ]
        refine wpAnyH_done (by kernel_rfl) ?_ _
        have SIT9 := Lib.hid (show Sitp w (w8.setCell ⟨gb, 2, none⟩ (.slice A8 (j + 1) c8)) gb b t1 (bcells r ch A8 (j + 1) c8 none 0 0) from SIT8.out.set 2 _)
        have HO9 := own_save hown8 (Only.setCell w8 gb 2 (.slice A8 (j + 1) c8)).saved (by omega)
        clear hown8 d5 d7 d8 f8 HO7 HLIT SIT5 SIT7 SIT8
        have hN20 := HBD.out.1
        go_wp2_with fail
        go_roundw
        case rel => exact ⟨j + 1, t1, xs ++ [x], A8, c8, by omega, by go_num, HO9, SIT9, Lib.hid (by rw [HP.out, HST.out]; simp), Lib.hid ⟨by simp [HL.out.1], HX.out.2⟩, Lib.hid HX.out.1⟩
        case measure => simp [intOf]; omega
      · go_simp
        go_at_call 52
        refine (KE.out).mono ?_
        rintro e w5 ⟨rfl, H5, S5⟩
        have SIT5 := Lib.hid (SITD.out.call H5 S5)
        have HO7 := Lib.hid ((own_save HOD.out S5 (by have := SITD.out.gb; omega)).alloc (.cells #[.int .u64 (x : Int)] 37))
        have HLIT := Lib.hid (litN w5 x)
        have SIT7 := Lib.hid (SIT5.out.alloc (.cells #[.int .u64 (x : Int)] 37))
        have d5 : w5.cell? ⟨gb, 2, none⟩ = some (.slice Ai j ci) := SIT5.out.bat.cell 2
        have d7 : (w5.alloc (.cells #[.int .u64 (x : Int)] 37)).cell? ⟨gb, 2, none⟩ = some (.slice Ai j ci) := SIT7.out.bat.cell 2
        clear H5 S5
        go_simp
        refine hK.out _ _ trivial (fun hHeld => ?_)
        clear hK K
        try simp only [List.getElem_toArray, List.getElem_cons_succ, List.getElem_cons_zero, Act.put, List.setIfInBounds_toArray, List.set_cons_zero, List.set_cons_succ]
        refine wpAnyH_ready (rs := [1, 3]) (by kernel_rfl) (by simp) ?_
        refine AllReadyH.cons rfl (fun K hK => ?_) (AllReadyH.cons rfl (fun K hK => ?_) AllReadyH.nil)
        · go_simp
          refine hK.out _ _ trivial (fun hHeld => ?_)
          clear hK K
          try simp only [List.getElem_toArray, List.getElem_cons_succ, List.getElem_cons_zero, Act.put, List.setIfInBounds_toArray, List.set_cons_zero, List.set_cons_succ]
          refine wpAnyH_ready (rs := [3]) (by kernel_rfl) (by simp) ?_
          refine AllReadyH.cons rfl (fun K hK => ?_) AllReadyH.nil
          go_simp
          refine hK.out _ _ trivial (fun hHeld => ?_)
          clear hK K
          try simp only [List.getElem_toArray, List.getElem_cons_succ, List.getElem_cons_zero, Act.put, List.setIfInBounds_toArray, List.set_cons_zero, List.set_cons_succ]
          refine wpAnyH_ready (rs := [4]) (by kernel_rfl) (by simp) ?_
          refine AllReadyH.cons rfl (fun K hK => ?_) AllReadyH.nil
          refine step_num (by rfl) (.tmp 18) (.tmp 20) (by rfl) (gb + 1) (.slice Ai j ci) j xs (by rfl) HO7.out w5.heap.size x (by rfl) HLIT.out HNB.out (by have := SIT7.out.size; omega) ?_
          intro v8 w8 hown8 hg8
          obtain ⟨A8, c8, rfl, hr8⟩ := RowW.own hown8
          have SIT8 := Lib.hid (SIT7.out.grown hg8 (fun k hk => (HO7.out.lt k hk).1))
          have d8 : w8.cell? ⟨gb, 2, none⟩ = some (.slice Ai j ci) := SIT8.out.bat.cell 2
          have f8 := SIT8.out.bat.froz 2
          clear hr8 hg8
          refine hK.out _ _ trivial (fun hHeld => ?_)
          clear hK K
          try simp only [List.getElem_toArray, List.getElem_cons_succ, List.getElem_cons_zero, Act.put, List.setIfInBounds_toArray, List.set_cons_zero, List.set_cons_succ]
          refine wpAnyH_take (i := 5) (v := ?vq3) rfl (by kernel_rfl) (by kernel_rfl) (by kernel_rfl) (fun _ _ _ h => h) (Or.inl ⟨by rfl, ?yq3⟩) (by assumption) ?rq3
          case yq3 => (intro u hSu; (try dsimp only at hSu); go_simp; try with_reducible rfl)
          try simp only [List.getElem_toArray, List.getElem_cons_succ, List.getElem_cons_zero, Act.put, List.setIfInBounds_toArray, List.set_cons_zero, List.set_cons_succ]
          refine wpAnyH_ready (rs := [6]) (by kernel_rfl) (by simp) ?_
          refine AllReadyH.cons rfl (fun K hK => ?_) AllReadyH.nil
          go_simp
          refine hK.out _ _ trivial (fun hHeld => ?_)
          clear hK K
          try simp only [List.getElem_toArray, List.getElem_cons_succ, List.getElem_cons_zero, Act.put, List.setIfInBounds_toArray, List.set_cons_zero, List.set_cons_succ]
          refine wpAnyH_done (by kernel_rfl) ?_ _
          have SIT9 := Lib.hid (show Sitp w (w8.setCell ⟨gb, 2, none⟩ (.slice A8 (j + 1) c8)) gb b t1 (bcells r ch A8 (j + 1) c8 none 0 0) from SIT8.out.set 2 _)
          have HO9 := own_save hown8 (Only.setCell w8 gb 2 (.slice A8 (j + 1) c8)).saved (by omega)
          clear hown8 d5 d7 d8 f8 HO7 HLIT SIT5 SIT7 SIT8
          have hN20 := HBD.out.1
          go_wp2_with fail
          go_roundw
          case rel => exact ⟨j + 1, t1, xs ++ [x], A8, c8, by omega, by go_num, HO9, SIT9, Lib.hid (by rw [HP.out, HST.out]; simp), Lib.hid ⟨by simp [HL.out.1], HX.out.2⟩, Lib.hid HX.out.1⟩
          case measure => simp [intOf]; omega
        · go_simp
          refine hK.out _ _ trivial (fun hHeld => ?_)
          clear hK K
          try simp only [List.getElem_toArray, List.getElem_cons_succ, List.getElem_cons_zero, Act.put, List.setIfInBounds_toArray, List.set_cons_zero, List.set_cons_succ]
          refine wpAnyH_ready (rs := [1]) (by kernel_rfl) (by simp) ?_
          refine AllReadyH.cons rfl (fun K hK => ?_) AllReadyH.nil
          go_simp
          refine hK.out _ _ trivial (fun hHeld => ?_)
          clear hK K
          try simp only [List.getElem_toArray, List.getElem_cons_succ, List.getElem_cons_zero, Act.put, List.setIfInBounds_toArray, List.set_cons_zero, List.set_cons_succ]
          refine wpAnyH_ready (rs := [4]) (by kernel_rfl) (by simp) ?_
          refine AllReadyH.cons rfl (fun K hK => ?_) AllReadyH.nil
          refine step_num (by rfl) (.tmp 18) (.tmp 20) (by rfl) (gb + 1) (.slice Ai j ci) j xs (by rfl) HO7.out w5.heap.size x (by rfl) HLIT.out HNB.out (by have := SIT7.out.size; omega) ?_
          intro v8 w8 hown8 hg8
          obtain ⟨A8, c8, rfl, hr8⟩ := RowW.own hown8
          have SIT8 := Lib.hid (SIT7.out.grown hg8 (fun k hk => (HO7.out.lt k hk).1))
          have d8 : w8.cell? ⟨gb, 2, none⟩ = some (.slice Ai j ci) := SIT8.out.bat.cell 2
          have f8 := SIT8.out.bat.froz 2
          clear hr8 hg8
          refine hK.out _ _ trivial (fun hHeld => ?_)
          clear hK K
          try simp only [List.getElem_toArray, List.getElem_cons_succ, List.getElem_cons_zero, Act.put, List.setIfInBounds_toArray, List.set_cons_zero, List.set_cons_succ]
          refine wpAnyH_take (i := 5) (v := ?vq4) rfl (by kernel_rfl) (by kernel_rfl) (by kernel_rfl) (fun _ _ _ h => h) (Or.inl ⟨by rfl, ?yq4⟩) (by assumption) ?rq4
          case yq4 => (intro u hSu; (try dsimp only at hSu); go_simp; try with_reducible rfl)
          try simp only [List.getElem_toArray, List.getElem_cons_succ, List.getElem_cons_zero, Act.put, List.setIfInBounds_toArray, List.set_cons_zero, List.set_cons_succ]
          refine wpAnyH_ready (rs := [6]) (by kernel_rfl) (by simp) ?_
          refine AllReadyH.cons rfl (fun K hK => ?_) AllReadyH.nil
          go_simp
          refine hK.out _ _ trivial (fun hHeld => ?_)
          clear hK K
          try simp only [List.getElem_toArray, List.getElem_cons_succ, List.getElem_cons_zero, Act.put, List.setIfInBounds_toArray, List.set_cons_zero, List.set_cons_succ]
          refine wpAnyH_done (by kernel_rfl) ?_ _
          have SIT9 := Lib.hid (show Sitp w (w8.setCell ⟨gb, 2, none⟩ (.slice A8 (j + 1) c8)) gb b t1 (bcells r ch A8 (j + 1) c8 none 0 0) from SIT8.out.set 2 _)
          have HO9 := own_save hown8 (Only.setCell w8 gb 2 (.slice A8 (j + 1) c8)).saved (by omega)
          clear hown8 d5 d7 d8 f8 HO7 HLIT SIT5 SIT7 SIT8
          have hN20 := HBD.out.1
          go_wp2_with fail
          go_roundw
          case rel => exact ⟨j + 1, t1, xs ++ [x], A8, c8, by omega, by go_num, HO9, SIT9, Lib.hid (by rw [HP.out, HST.out]; simp), Lib.hid ⟨by simp [HL.out.1], HX.out.2⟩, Lib.hid HX.out.1⟩
          case measure => simp [intOf]; omega
    · obtain rfl : j = N := by omega
      obtain ⟨e4, e5⟩ : (numsA b j s3).1 = xs ∧ s4 = s := by
        have h := HP.out
        rw [Nat.sub_self] at h
        have h2 : (numsA b j s3).2 = s4 := H4.out
        rw [h] at h2 ⊢
        exact ⟨by simp [numsA], h2.symm⟩
      subst e5
      have HIA := Lib.hid e4
      have HTR := Lib.hid (RowT.own hown)
      have HIN := Lib.hid HL.out.2
      obtain ⟨ni, hni⟩ : ∃ x, x = j := ⟨_, rfl⟩
      obtain ⟨inner, hinner⟩ : ∃ x, x = xs := ⟨_, rfl⟩
      rw [← hinner] at HIA HTR HIN
      have hjn : ¬ (j : Int) < (j : Int) := by omega
      clear hlt hown HP HL HOK hj e4 hinner
      go_wp2_with fail
      clear hjn
      rw [← hni] at SITR HTR
      refine (K56.out wr _ SITR.out).mono ?_
      rintro e wa ⟨y, rfl, hy, hy20, Ha, Sa⟩
      have SITa := Lib.hid (SITR.out.call Ha Sa)
      have HTa := Lib.hid (HTR.out.saveR SITR.out.rd Sa)
      have HY := Lib.hid (show (letsA b y m s6).2 = s7 ∧ y ≤ 1048576 from ⟨HLA.out y hy, hy20⟩)
      have HFIN := Lib.hid (HFINA.out y hy)
      clear SITR HTR Ha Sa K56 hy hy20 HFINA HLA
      go_wp2_with fail
      go_loopw [29] (fun i wr => ∃ (j : Nat) (s : St) (es : List Let) (Al : Option Addr) (cl : Nat), j ≤ m ∧ i = .int .i64 j ∧ wr.ownsRow (gb + 1) 96 33 (.slice Al j cl) j (es.flatMap Let.cells) ∧ Hid (Sitp w wr gb b s (bcells r ch Ai ni ci Al j cl)) ∧ Hid (RowT 37 wr Ai ni ci (inner.map nv)) ∧ Hid (letsA b y m s6 = (es.map Let.data ++ (letsA b y (m - j) s).1, (letsA b y (m - j) s).2)) ∧ Hid (∀ e ∈ es, e.to.length = 32 ∧ PBy wr e.A e.n e.c e.l) ∧ Hid (es.length = j) ∧ Hid (s.ok b)) (fun i _ => m - (intOf i).toNat)
      case atStart => exact ⟨0, s6, [], none, 0, Nat.zero_le _, rfl, World.ownsRow_nil _ _ _ _, SITa, HTa, Lib.hid (by simp), Lib.hid (fun e he => by cases he), Lib.hid rfl, Lib.hid O6.out⟩
      case round =>
        clear SITa HTa
        obtain ⟨j, s, es, Al, cl, hj, rfl, hown, SITR, HTR, HP, HB, HL, HOK⟩ := hrel
        by_cases hlt : j < m
        · have hjn : (j : Int) < (m : Int) := by omega
          obtain ⟨u, t1, g1⟩ := two_of (keyS b s)
          obtain ⟨l, t2, g2⟩ := two_of (takeS b y t1)
          have ot1 : t1.ok b := by have := keyS_ok HOK.out; rw [g1] at this; exact this
          have ot2 : t2.ok b := by have := takeS_ok y ot1; rw [g2] at this; exact this
          have hu32 : u.length = 32 := by have := keyS_len b s; rw [g1] at this; exact this
          have HU := Lib.hid hu32
          have SITD := Lib.hid (SITR.out.drew)
          have KK := Lib.hid (rpKey' w.heap.size (w.heap.size + 1) b s t1 u g1 HOK.out wr.drew SITD.out.rd)
          have KT0 := Lib.hid (fun (w' : World) (H : Sitp w w' gb b t1 (bcells r ch Ai ni ci Al j cl)) => rpTake' w.heap.size (w.heap.size + 1) b t1 t2 y l g2 ot1 (by have := HY.out.2; omega) w' H.rd)
          have HST := Lib.hid (show letsA b y (m - j) s = ((u, l) :: (letsA b y (m - (j + 1)) t2).1, (letsA b y (m - (j + 1)) t2).2) by
            rw [show m - j = (m - (j + 1)) + 1 by omega]
            exact letsA_step g1 g2)
          have HX := Lib.hid ot2
          have HNB := Lib.hid (show j ≤ 1048576 by have := HBD.out; omega)
          have HTD := Lib.hid (show RowT 37 wr.drew Ai ni ci (inner.map nv) from HTR.out)
          have HOD := Lib.hid (show wr.drew.ownsRow (gb + 1) 96 33 (.slice Al j cl) j (es.flatMap Let.cells) from hown)
          have HBD2 := Lib.hid (fun e he => show e.to.length = 32 ∧ PBy wr.drew e.A e.n e.c e.l from HB.out e he)
          have d3 : wr.drew.cell? ⟨gb, 3, none⟩ = some (.slice Al j cl) := SITD.out.bat.cell 3
          clear g1 g2 ot1 ot2 hu32 hown HB HTR SITR
          go_wp2_with fail
          refine wp_region_held_drew (S := fun _ => True) (by kernel_rfl) trivial (fun hHeld => ?_)
          refine wpAnyH_take (i := 0) (v := ?vq13) rfl (by kernel_rfl) (by kernel_rfl) (by kernel_rfl) (fun _ _ _ h => h) (Or.inl ⟨by rfl, ?yq13⟩) (by assumption) ?rq13
          case yq13 => (intro u hSu; (try dsimp only at hSu); go_simp; try with_reducible rfl)
          try simp only [List.getElem_toArray, List.getElem_cons_succ, List.getElem_cons_zero, Act.put, List.setIfInBounds_toArray, List.set_cons_zero, List.set_cons_succ]
          refine wpAnyH_take (i := 3) (v := ?vq14) rfl (by kernel_rfl) (by kernel_rfl) (by kernel_rfl) (fun _ _ _ h => h) (Or.inl ⟨by rfl, ?yq14⟩) (by assumption) ?rq14
          case yq14 => (intro u hSu; (try dsimp only at hSu); go_simp; try with_reducible rfl)
          try simp only [List.getElem_toArray, List.getElem_cons_succ, List.getElem_cons_zero, Act.put, List.setIfInBounds_toArray, List.set_cons_zero, List.set_cons_succ]
          refine wpAnyH_ready (rs := [1, 2]) (by kernel_rfl) (by simp) ?_
          refine AllReadyH.cons rfl (fun K hK => ?_) (AllReadyH.cons rfl (fun K hK => ?_) AllReadyH.nil)
          · go_simp
            refine hK.out _ _ trivial (fun hHeld => ?_)
            clear hK K
            try simp only [List.getElem_toArray, List.getElem_cons_succ, List.getElem_cons_zero, Act.put, List.setIfInBounds_toArray, List.set_cons_zero, List.set_cons_succ]
            refine wpAnyH_ready (rs := [2]) (by kernel_rfl) (by simp) ?_
            refine AllReadyH.cons rfl (fun K hK => ?_) AllReadyH.nil
            go_simp
            go_at_call 47
            refine (KK.out).mono ?_
            rintro e w6 ⟨rfl, H6, S6⟩
            have SIT6 := Lib.hid (SITD.out.call H6 S6)
            have HT6 := Lib.hid (HTD.out.saveR SITD.out.rd S6)
            have HO6 := Lib.hid (own_save HOD.out S6 (by have := SITD.out.gb; omega))
            have HB6 := Lib.hid (fun e he => show e.to.length = 32 ∧ PBy w6 e.A e.n e.c e.l from ⟨(HBD2.out e he).1, (HBD2.out e he).2.saveR SITD.out.rd S6⟩)
            have d6 : w6.cell? ⟨gb, 3, none⟩ = some (.slice Al j cl) := SIT6.out.bat.cell 3
            have KT := Lib.hid (KT0.out w6 SIT6.out)
            clear H6 S6
            go_simp
            refine hK.out _ _ trivial (fun hHeld => ?_)
            clear hK K
            try simp only [List.getElem_toArray, List.getElem_cons_succ, List.getElem_cons_zero, Act.put, List.setIfInBounds_toArray, List.set_cons_zero, List.set_cons_succ]
            refine wpAnyH_ready (rs := [4]) (by kernel_rfl) (by simp) ?_
            refine AllReadyH.cons rfl (fun K hK => ?_) AllReadyH.nil
            go_simp
            go_at_call 42
            refine (KT.out).mono ?_
            rintro e w7 ⟨v7, rfl, hown7, H7, S7⟩
            obtain ⟨A7, c7, rfl, hp7⟩ := PBy.own hown7
            have SIT7 := Lib.hid (SIT6.out.call H7 S7)
            have HT7 := Lib.hid (HT6.out.saveR SIT6.out.rd S7)
            have HO7 := Lib.hid (own_save HO6.out S7 (by have := SIT6.out.gb; omega))
            have HB7 := Lib.hid (fun e he => show e.to.length = 32 ∧ PBy w7 e.A e.n e.c e.l from ⟨(HB6.out e he).1, (HB6.out e he).2.saveR SIT6.out.rd S7⟩)
            have hk8 := (Below.refl w7.heap.size w7).alloc (Nat.le_refl _) (.cells (lcells u A7 l.length c7).toArray 96)
            have SIT8 := Lib.hid (SIT7.out.alloc (.cells (lcells u A7 l.length c7).toArray 96))
            have HT8 := Lib.hid (HT7.out.keep hk8)
            have HO8 := Lib.hid (HO7.out.alloc (.cells (lcells u A7 l.length c7).toArray 96))
            have HLIT := Lib.hid (litW w7 96 33 (lcells u A7 l.length c7) (by rw [lcells, List.length_append, List.length_map, HU.out]; rfl))
            have HB8 := Lib.hid (show ∀ e ∈ es ++ [⟨u, A7, l.length, c7, l⟩], e.to.length = 32 ∧ PBy (w7.alloc (.cells (lcells u A7 l.length c7).toArray 96)) e.A e.n e.c e.l from fun e he => by
              rcases List.mem_append.1 he with h | h
              · exact ⟨(HB7.out e h).1, (HB7.out e h).2.keep hk8⟩
              · obtain rfl := List.mem_singleton.1 h
                exact ⟨HU.out, hp7.keep hk8⟩)
            have d7 : w7.cell? ⟨gb, 3, none⟩ = some (.slice Al j cl) := SIT7.out.bat.cell 3
            have d8 : (w7.alloc (.cells (lcells u A7 l.length c7).toArray 96)).cell? ⟨gb, 3, none⟩ = some (.slice Al j cl) := SIT8.out.bat.cell 3
            clear H7 S7 hown7 hp7 hk8
            go_simp
            refine hK.out _ _ trivial (fun hHeld => ?_)
            clear hK K
            try simp only [List.getElem_toArray, List.getElem_cons_succ, List.getElem_cons_zero, Act.put, List.setIfInBounds_toArray, List.set_cons_zero, List.set_cons_succ]
            refine' wpAnyH_take (i := 5) (v := _) rfl (by kernel_rfl) (by kernel_rfl) (by kernel_rfl) (fun _ _ _ h => h) (yields_let (by rfl) (.tmp 33) (.tmp 35) (by rfl) u A7 l.length c7 HU.out (by rfl) (by rfl)) (by assumption) ?rq6
            try simp only [List.getElem_toArray, List.getElem_cons_succ, List.getElem_cons_zero, Act.put, List.setIfInBounds_toArray, List.set_cons_zero, List.set_cons_succ]
            refine wpAnyH_ready (rs := [6]) (by kernel_rfl) (by simp) ?_
            refine AllReadyH.cons rfl (fun K hK => ?_) AllReadyH.nil
            refine step_lit (by rfl) (.tmp 36) (by rfl) u A7 l.length c7 HU.out (by rfl) ?_
            refine hK.out _ _ trivial (fun hHeld => ?_)
            clear hK K
            try simp only [List.getElem_toArray, List.getElem_cons_succ, List.getElem_cons_zero, Act.put, List.setIfInBounds_toArray, List.set_cons_zero, List.set_cons_succ]
            refine wpAnyH_ready (rs := [7]) (by kernel_rfl) (by simp) ?_
            refine AllReadyH.cons rfl (fun K hK => ?_) AllReadyH.nil
            refine step_let (by rfl) (.tmp 32) (.tmp 37) (by rfl) (gb + 1) (.slice Al j cl) j es (by rfl) HO8.out w7.heap.size ⟨u, A7, l.length, c7, l⟩ (by rfl) HLIT.out HNB.out (by have := SIT8.out.size; omega) ?_
            intro v9 w9 hown9 hg9
            obtain ⟨A9, c9, rfl, hr9⟩ := RowW.own hown9
            have SIT9 := Lib.hid (SIT8.out.grown hg9 (fun k hk => (HO8.out.lt k hk).1))
            have HT9 := Lib.hid (HT8.out.grown HO8.out (by decide) hg9)
            have HB9 := Lib.hid (fun e he => show e.to.length = 32 ∧ PBy w9 e.A e.n e.c e.l from ⟨(HB8.out e he).1, (HB8.out e he).2.grown HO8.out (by decide) hg9⟩)
            have d9 : w9.cell? ⟨gb, 3, none⟩ = some (.slice Al j cl) := SIT9.out.bat.cell 3
            have f9 := SIT9.out.bat.froz 3
            clear hr9 hg9
            refine hK.out _ _ trivial (fun hHeld => ?_)
            clear hK K
            try simp only [List.getElem_toArray, List.getElem_cons_succ, List.getElem_cons_zero, Act.put, List.setIfInBounds_toArray, List.set_cons_zero, List.set_cons_succ]
            refine wpAnyH_take (i := 8) (v := ?vq7) rfl (by kernel_rfl) (by kernel_rfl) (by kernel_rfl) (fun _ _ _ h => h) (Or.inl ⟨by rfl, ?yq7⟩) (by assumption) ?rq7
            case yq7 => (intro u hSu; (try dsimp only at hSu); go_simp; try with_reducible rfl)
            try simp only [List.getElem_toArray, List.getElem_cons_succ, List.getElem_cons_zero, Act.put, List.setIfInBounds_toArray, List.set_cons_zero, List.set_cons_succ]
            refine wpAnyH_ready (rs := [9]) (by kernel_rfl) (by simp) ?_
            refine AllReadyH.cons rfl (fun K hK => ?_) AllReadyH.nil
            go_simp
            refine hK.out _ _ trivial (fun hHeld => ?_)
            clear hK K
            try simp only [List.getElem_toArray, List.getElem_cons_succ, List.getElem_cons_zero, Act.put, List.setIfInBounds_toArray, List.set_cons_zero, List.set_cons_succ]
            refine wpAnyH_done (by kernel_rfl) ?_ _
            have SIT10 := Lib.hid (show Sitp w (w9.setCell ⟨gb, 3, none⟩ (.slice A9 (j + 1) c9)) gb b t2 (bcells r ch Ai ni ci A9 (j + 1) c9) from SIT9.out.set 3 _)
            have SS := Lib.hid (Only.setCell w9 gb 3 (.slice A9 (j + 1) c9)).saved
            have HO10 := own_save hown9 SS.out (by omega)
            have HT10 := Lib.hid (HT9.out.save SIT9.out.bat (by decide) SS.out)
            have HB10 := Lib.hid (fun e he => show e.to.length = 32 ∧ PBy (w9.setCell ⟨gb, 3, none⟩ (.slice A9 (j + 1) c9)) e.A e.n e.c e.l from ⟨(HB9.out e he).1, (HB9.out e he).2.save SIT9.out.bat (by decide) SS.out⟩)
            clear hown9 d6 d7 d8 d9 f9 HO6 HO7 HO8 HLIT SIT6 SIT7 SIT8 SIT9 HT6 HT7 HT8 HT9 HB6 HB7 HB8 HB9 SS
            have hm1000 := HBD.out.2
            go_wp2_with fail
            go_roundw
            case rel => exact ⟨j + 1, t2, es ++ [⟨u, A7, l.length, c7, l⟩], A9, c9, by omega, by go_num, HO10, SIT10, HT10, Lib.hid (by rw [HP.out, HST.out]; simp [Let.data]), HB10, Lib.hid (by simp [HL.out]), Lib.hid HX.out⟩
            case measure => simp [intOf]; omega
          · go_simp
            go_at_call 47
            refine (KK.out).mono ?_
            rintro e w6 ⟨rfl, H6, S6⟩
            have SIT6 := Lib.hid (SITD.out.call H6 S6)
            have HT6 := Lib.hid (HTD.out.saveR SITD.out.rd S6)
            have HO6 := Lib.hid (own_save HOD.out S6 (by have := SITD.out.gb; omega))
            have HB6 := Lib.hid (fun e he => show e.to.length = 32 ∧ PBy w6 e.A e.n e.c e.l from ⟨(HBD2.out e he).1, (HBD2.out e he).2.saveR SITD.out.rd S6⟩)
            have d6 : w6.cell? ⟨gb, 3, none⟩ = some (.slice Al j cl) := SIT6.out.bat.cell 3
            have KT := Lib.hid (KT0.out w6 SIT6.out)
            clear H6 S6
            go_simp
            refine hK.out _ _ trivial (fun hHeld => ?_)
            clear hK K
            try simp only [List.getElem_toArray, List.getElem_cons_succ, List.getElem_cons_zero, Act.put, List.setIfInBounds_toArray, List.set_cons_zero, List.set_cons_succ]
            refine wpAnyH_ready (rs := [1, 4]) (by kernel_rfl) (by simp) ?_
            refine AllReadyH.cons rfl (fun K hK => ?_) (AllReadyH.cons rfl (fun K hK => ?_) AllReadyH.nil)
            · go_simp
              refine hK.out _ _ trivial (fun hHeld => ?_)
              clear hK K
              try simp only [List.getElem_toArray, List.getElem_cons_succ, List.getElem_cons_zero, Act.put, List.setIfInBounds_toArray, List.set_cons_zero, List.set_cons_succ]
              refine wpAnyH_ready (rs := [4]) (by kernel_rfl) (by simp) ?_
              refine AllReadyH.cons rfl (fun K hK => ?_) AllReadyH.nil
              go_simp
              go_at_call 42
              refine (KT.out).mono ?_
              rintro e w7 ⟨v7, rfl, hown7, H7, S7⟩
              obtain ⟨A7, c7, rfl, hp7⟩ := PBy.own hown7
              have SIT7 := Lib.hid (SIT6.out.call H7 S7)
              have HT7 := Lib.hid (HT6.out.saveR SIT6.out.rd S7)
              have HO7 := Lib.hid (own_save HO6.out S7 (by have := SIT6.out.gb; omega))
              have HB7 := Lib.hid (fun e he => show e.to.length = 32 ∧ PBy w7 e.A e.n e.c e.l from ⟨(HB6.out e he).1, (HB6.out e he).2.saveR SIT6.out.rd S7⟩)
              have hk8 := (Below.refl w7.heap.size w7).alloc (Nat.le_refl _) (.cells (lcells u A7 l.length c7).toArray 96)
              have SIT8 := Lib.hid (SIT7.out.alloc (.cells (lcells u A7 l.length c7).toArray 96))
              have HT8 := Lib.hid (HT7.out.keep hk8)
              have HO8 := Lib.hid (HO7.out.alloc (.cells (lcells u A7 l.length c7).toArray 96))
              have HLIT := Lib.hid (litW w7 96 33 (lcells u A7 l.length c7) (by rw [lcells, List.length_append, List.length_map, HU.out]; rfl))
              have HB8 := Lib.hid (show ∀ e ∈ es ++ [⟨u, A7, l.length, c7, l⟩], e.to.length = 32 ∧ PBy (w7.alloc (.cells (lcells u A7 l.length c7).toArray 96)) e.A e.n e.c e.l from fun e he => by
                rcases List.mem_append.1 he with h | h
                · exact ⟨(HB7.out e h).1, (HB7.out e h).2.keep hk8⟩
                · obtain rfl := List.mem_singleton.1 h
                  exact ⟨HU.out, hp7.keep hk8⟩)
              have d7 : w7.cell? ⟨gb, 3, none⟩ = some (.slice Al j cl) := SIT7.out.bat.cell 3
              have d8 : (w7.alloc (.cells (lcells u A7 l.length c7).toArray 96)).cell? ⟨gb, 3, none⟩ = some (.slice Al j cl) := SIT8.out.bat.cell 3
              clear H7 S7 hown7 hp7 hk8
              go_simp
              refine hK.out _ _ trivial (fun hHeld => ?_)
              clear hK K
              try simp only [List.getElem_toArray, List.getElem_cons_succ, List.getElem_cons_zero, Act.put, List.setIfInBounds_toArray, List.set_cons_zero, List.set_cons_succ]
              refine' wpAnyH_take (i := 5) (v := _) rfl (by kernel_rfl) (by kernel_rfl) (by kernel_rfl) (fun _ _ _ h => h) (yields_let (by rfl) (.tmp 33) (.tmp 35) (by rfl) u A7 l.length c7 HU.out (by rfl) (by rfl)) (by assumption) ?rq8
              try simp only [List.getElem_toArray, List.getElem_cons_succ, List.getElem_cons_zero, Act.put, List.setIfInBounds_toArray, List.set_cons_zero, List.set_cons_succ]
              refine wpAnyH_ready (rs := [6]) (by kernel_rfl) (by simp) ?_
              refine AllReadyH.cons rfl (fun K hK => ?_) AllReadyH.nil
              refine step_lit (by rfl) (.tmp 36) (by rfl) u A7 l.length c7 HU.out (by rfl) ?_
              refine hK.out _ _ trivial (fun hHeld => ?_)
              clear hK K
              try simp only [List.getElem_toArray, List.getElem_cons_succ, List.getElem_cons_zero, Act.put, List.setIfInBounds_toArray, List.set_cons_zero, List.set_cons_succ]
              refine wpAnyH_ready (rs := [7]) (by kernel_rfl) (by simp) ?_
              refine AllReadyH.cons rfl (fun K hK => ?_) AllReadyH.nil
              refine step_let (by rfl) (.tmp 32) (.tmp 37) (by rfl) (gb + 1) (.slice Al j cl) j es (by rfl) HO8.out w7.heap.size ⟨u, A7, l.length, c7, l⟩ (by rfl) HLIT.out HNB.out (by have := SIT8.out.size; omega) ?_
              intro v9 w9 hown9 hg9
              obtain ⟨A9, c9, rfl, hr9⟩ := RowW.own hown9
              have SIT9 := Lib.hid (SIT8.out.grown hg9 (fun k hk => (HO8.out.lt k hk).1))
              have HT9 := Lib.hid (HT8.out.grown HO8.out (by decide) hg9)
              have HB9 := Lib.hid (fun e he => show e.to.length = 32 ∧ PBy w9 e.A e.n e.c e.l from ⟨(HB8.out e he).1, (HB8.out e he).2.grown HO8.out (by decide) hg9⟩)
              have d9 : w9.cell? ⟨gb, 3, none⟩ = some (.slice Al j cl) := SIT9.out.bat.cell 3
              have f9 := SIT9.out.bat.froz 3
              clear hr9 hg9
              refine hK.out _ _ trivial (fun hHeld => ?_)
              clear hK K
              try simp only [List.getElem_toArray, List.getElem_cons_succ, List.getElem_cons_zero, Act.put, List.setIfInBounds_toArray, List.set_cons_zero, List.set_cons_succ]
              refine wpAnyH_take (i := 8) (v := ?vq9) rfl (by kernel_rfl) (by kernel_rfl) (by kernel_rfl) (fun _ _ _ h => h) (Or.inl ⟨by rfl, ?yq9⟩) (by assumption) ?rq9
              case yq9 => (intro u hSu; (try dsimp only at hSu); go_simp; try with_reducible rfl)
              try simp only [List.getElem_toArray, List.getElem_cons_succ, List.getElem_cons_zero, Act.put, List.setIfInBounds_toArray, List.set_cons_zero, List.set_cons_succ]
              refine wpAnyH_ready (rs := [9]) (by kernel_rfl) (by simp) ?_
              refine AllReadyH.cons rfl (fun K hK => ?_) AllReadyH.nil
              go_simp
              refine hK.out _ _ trivial (fun hHeld => ?_)
              clear hK K
              try simp only [List.getElem_toArray, List.getElem_cons_succ, List.getElem_cons_zero, Act.put, List.setIfInBounds_toArray, List.set_cons_zero, List.set_cons_succ]
              refine wpAnyH_done (by kernel_rfl) ?_ _
              have SIT10 := Lib.hid (show Sitp w (w9.setCell ⟨gb, 3, none⟩ (.slice A9 (j + 1) c9)) gb b t2 (bcells r ch Ai ni ci A9 (j + 1) c9) from SIT9.out.set 3 _)
              have SS := Lib.hid (Only.setCell w9 gb 3 (.slice A9 (j + 1) c9)).saved
              have HO10 := own_save hown9 SS.out (by omega)
              have HT10 := Lib.hid (HT9.out.save SIT9.out.bat (by decide) SS.out)
              have HB10 := Lib.hid (fun e he => show e.to.length = 32 ∧ PBy (w9.setCell ⟨gb, 3, none⟩ (.slice A9 (j + 1) c9)) e.A e.n e.c e.l from ⟨(HB9.out e he).1, (HB9.out e he).2.save SIT9.out.bat (by decide) SS.out⟩)
              clear hown9 d6 d7 d8 d9 f9 HO6 HO7 HO8 HLIT SIT6 SIT7 SIT8 SIT9 HT6 HT7 HT8 HT9 HB6 HB7 HB8 HB9 SS
              have hm1000 := HBD.out.2
              go_wp2_with fail
              go_roundw
              case rel => exact ⟨j + 1, t2, es ++ [⟨u, A7, l.length, c7, l⟩], A9, c9, by omega, by go_num, HO10, SIT10, HT10, Lib.hid (by rw [HP.out, HST.out]; simp [Let.data]), HB10, Lib.hid (by simp [HL.out]), Lib.hid HX.out⟩
              case measure => simp [intOf]; omega
            · go_simp
              go_at_call 42
              refine (KT.out).mono ?_
              rintro e w7 ⟨v7, rfl, hown7, H7, S7⟩
              obtain ⟨A7, c7, rfl, hp7⟩ := PBy.own hown7
              have SIT7 := Lib.hid (SIT6.out.call H7 S7)
              have HT7 := Lib.hid (HT6.out.saveR SIT6.out.rd S7)
              have HO7 := Lib.hid (own_save HO6.out S7 (by have := SIT6.out.gb; omega))
              have HB7 := Lib.hid (fun e he => show e.to.length = 32 ∧ PBy w7 e.A e.n e.c e.l from ⟨(HB6.out e he).1, (HB6.out e he).2.saveR SIT6.out.rd S7⟩)
              have hk8 := (Below.refl w7.heap.size w7).alloc (Nat.le_refl _) (.cells (lcells u A7 l.length c7).toArray 96)
              have SIT8 := Lib.hid (SIT7.out.alloc (.cells (lcells u A7 l.length c7).toArray 96))
              have HT8 := Lib.hid (HT7.out.keep hk8)
              have HO8 := Lib.hid (HO7.out.alloc (.cells (lcells u A7 l.length c7).toArray 96))
              have HLIT := Lib.hid (litW w7 96 33 (lcells u A7 l.length c7) (by rw [lcells, List.length_append, List.length_map, HU.out]; rfl))
              have HB8 := Lib.hid (show ∀ e ∈ es ++ [⟨u, A7, l.length, c7, l⟩], e.to.length = 32 ∧ PBy (w7.alloc (.cells (lcells u A7 l.length c7).toArray 96)) e.A e.n e.c e.l from fun e he => by
                rcases List.mem_append.1 he with h | h
                · exact ⟨(HB7.out e h).1, (HB7.out e h).2.keep hk8⟩
                · obtain rfl := List.mem_singleton.1 h
                  exact ⟨HU.out, hp7.keep hk8⟩)
              have d7 : w7.cell? ⟨gb, 3, none⟩ = some (.slice Al j cl) := SIT7.out.bat.cell 3
              have d8 : (w7.alloc (.cells (lcells u A7 l.length c7).toArray 96)).cell? ⟨gb, 3, none⟩ = some (.slice Al j cl) := SIT8.out.bat.cell 3
              clear H7 S7 hown7 hp7 hk8
              go_simp
              refine hK.out _ _ trivial (fun hHeld => ?_)
              clear hK K
              try simp only [List.getElem_toArray, List.getElem_cons_succ, List.getElem_cons_zero, Act.put, List.setIfInBounds_toArray, List.set_cons_zero, List.set_cons_succ]
              refine' wpAnyH_take (i := 5) (v := _) rfl (by kernel_rfl) (by kernel_rfl) (by kernel_rfl) (fun _ _ _ h => h) (yields_let (by rfl) (.tmp 33) (.tmp 35) (by rfl) u A7 l.length c7 HU.out (by rfl) (by rfl)) (by assumption) ?rq10
              try simp only [List.getElem_toArray, List.getElem_cons_succ, List.getElem_cons_zero, Act.put, List.setIfInBounds_toArray, List.set_cons_zero, List.set_cons_succ]
              refine wpAnyH_ready (rs := [1, 6]) (by kernel_rfl) (by simp) ?_
              refine AllReadyH.cons rfl (fun K hK => ?_) (AllReadyH.cons rfl (fun K hK => ?_) AllReadyH.nil)
              · go_simp
                refine hK.out _ _ trivial (fun hHeld => ?_)
                clear hK K
                try simp only [List.getElem_toArray, List.getElem_cons_succ, List.getElem_cons_zero, Act.put, List.setIfInBounds_toArray, List.set_cons_zero, List.set_cons_succ]
                refine wpAnyH_ready (rs := [6]) (by kernel_rfl) (by simp) ?_
                refine AllReadyH.cons rfl (fun K hK => ?_) AllReadyH.nil
                refine step_lit (by rfl) (.tmp 36) (by rfl) u A7 l.length c7 HU.out (by rfl) ?_
                refine hK.out _ _ trivial (fun hHeld => ?_)
                clear hK K
                try simp only [List.getElem_toArray, List.getElem_cons_succ, List.getElem_cons_zero, Act.put, List.setIfInBounds_toArray, List.set_cons_zero, List.set_cons_succ]
                refine wpAnyH_ready (rs := [7]) (by kernel_rfl) (by simp) ?_
                refine AllReadyH.cons rfl (fun K hK => ?_) AllReadyH.nil
                refine step_let (by rfl) (.tmp 32) (.tmp 37) (by rfl) (gb + 1) (.slice Al j cl) j es (by rfl) HO8.out w7.heap.size ⟨u, A7, l.length, c7, l⟩ (by rfl) HLIT.out HNB.out (by have := SIT8.out.size; omega) ?_
                intro v9 w9 hown9 hg9
                obtain ⟨A9, c9, rfl, hr9⟩ := RowW.own hown9
                have SIT9 := Lib.hid (SIT8.out.grown hg9 (fun k hk => (HO8.out.lt k hk).1))
                have HT9 := Lib.hid (HT8.out.grown HO8.out (by decide) hg9)
                have HB9 := Lib.hid (fun e he => show e.to.length = 32 ∧ PBy w9 e.A e.n e.c e.l from ⟨(HB8.out e he).1, (HB8.out e he).2.grown HO8.out (by decide) hg9⟩)
                have d9 : w9.cell? ⟨gb, 3, none⟩ = some (.slice Al j cl) := SIT9.out.bat.cell 3
                have f9 := SIT9.out.bat.froz 3
                clear hr9 hg9
                refine hK.out _ _ trivial (fun hHeld => ?_)
                clear hK K
                try simp only [List.getElem_toArray, List.getElem_cons_succ, List.getElem_cons_zero, Act.put, List.setIfInBounds_toArray, List.set_cons_zero, List.set_cons_succ]
                refine wpAnyH_take (i := 8) (v := ?vq11) rfl (by kernel_rfl) (by kernel_rfl) (by kernel_rfl) (fun _ _ _ h => h) (Or.inl ⟨by rfl, ?yq11⟩) (by assumption) ?rq11
                case yq11 => (intro u hSu; (try dsimp only at hSu); go_simp; try with_reducible rfl)
                try simp only [List.getElem_toArray, List.getElem_cons_succ, List.getElem_cons_zero, Act.put, List.setIfInBounds_toArray, List.set_cons_zero, List.set_cons_succ]
                refine wpAnyH_ready (rs := [9]) (by kernel_rfl) (by simp) ?_
                refine AllReadyH.cons rfl (fun K hK => ?_) AllReadyH.nil
                go_simp
                refine hK.out _ _ trivial (fun hHeld => ?_)
                clear hK K
                try simp only [List.getElem_toArray, List.getElem_cons_succ, List.getElem_cons_zero, Act.put, List.setIfInBounds_toArray, List.set_cons_zero, List.set_cons_succ]
                refine wpAnyH_done (by kernel_rfl) ?_ _
                have SIT10 := Lib.hid (show Sitp w (w9.setCell ⟨gb, 3, none⟩ (.slice A9 (j + 1) c9)) gb b t2 (bcells r ch Ai ni ci A9 (j + 1) c9) from SIT9.out.set 3 _)
                have SS := Lib.hid (Only.setCell w9 gb 3 (.slice A9 (j + 1) c9)).saved
                have HO10 := own_save hown9 SS.out (by omega)
                have HT10 := Lib.hid (HT9.out.save SIT9.out.bat (by decide) SS.out)
                have HB10 := Lib.hid (fun e he => show e.to.length = 32 ∧ PBy (w9.setCell ⟨gb, 3, none⟩ (.slice A9 (j + 1) c9)) e.A e.n e.c e.l from ⟨(HB9.out e he).1, (HB9.out e he).2.save SIT9.out.bat (by decide) SS.out⟩)
                clear hown9 d6 d7 d8 d9 f9 HO6 HO7 HO8 HLIT SIT6 SIT7 SIT8 SIT9 HT6 HT7 HT8 HT9 HB6 HB7 HB8 HB9 SS
                have hm1000 := HBD.out.2
                go_wp2_with fail
                go_roundw
                case rel => exact ⟨j + 1, t2, es ++ [⟨u, A7, l.length, c7, l⟩], A9, c9, by omega, by go_num, HO10, SIT10, HT10, Lib.hid (by rw [HP.out, HST.out]; simp [Let.data]), HB10, Lib.hid (by simp [HL.out]), Lib.hid HX.out⟩
                case measure => simp [intOf]; omega
              · refine step_lit (by rfl) (.tmp 36) (by rfl) u A7 l.length c7 HU.out (by rfl) ?_
                refine hK.out _ _ trivial (fun hHeld => ?_)
                clear hK K
                try simp only [List.getElem_toArray, List.getElem_cons_succ, List.getElem_cons_zero, Act.put, List.setIfInBounds_toArray, List.set_cons_zero, List.set_cons_succ]
                refine wpAnyH_ready (rs := [1]) (by kernel_rfl) (by simp) ?_
                refine AllReadyH.cons rfl (fun K hK => ?_) AllReadyH.nil
                go_simp
                refine hK.out _ _ trivial (fun hHeld => ?_)
                clear hK K
                try simp only [List.getElem_toArray, List.getElem_cons_succ, List.getElem_cons_zero, Act.put, List.setIfInBounds_toArray, List.set_cons_zero, List.set_cons_succ]
                refine wpAnyH_ready (rs := [7]) (by kernel_rfl) (by simp) ?_
                refine AllReadyH.cons rfl (fun K hK => ?_) AllReadyH.nil
                refine step_let (by rfl) (.tmp 32) (.tmp 37) (by rfl) (gb + 1) (.slice Al j cl) j es (by rfl) HO8.out w7.heap.size ⟨u, A7, l.length, c7, l⟩ (by rfl) HLIT.out HNB.out (by have := SIT8.out.size; omega) ?_
                intro v9 w9 hown9 hg9
                obtain ⟨A9, c9, rfl, hr9⟩ := RowW.own hown9
                have SIT9 := Lib.hid (SIT8.out.grown hg9 (fun k hk => (HO8.out.lt k hk).1))
                have HT9 := Lib.hid (HT8.out.grown HO8.out (by decide) hg9)
                have HB9 := Lib.hid (fun e he => show e.to.length = 32 ∧ PBy w9 e.A e.n e.c e.l from ⟨(HB8.out e he).1, (HB8.out e he).2.grown HO8.out (by decide) hg9⟩)
                have d9 : w9.cell? ⟨gb, 3, none⟩ = some (.slice Al j cl) := SIT9.out.bat.cell 3
                have f9 := SIT9.out.bat.froz 3
                clear hr9 hg9
                refine hK.out _ _ trivial (fun hHeld => ?_)
                clear hK K
                try simp only [List.getElem_toArray, List.getElem_cons_succ, List.getElem_cons_zero, Act.put, List.setIfInBounds_toArray, List.set_cons_zero, List.set_cons_succ]
                refine wpAnyH_take (i := 8) (v := ?vq12) rfl (by kernel_rfl) (by kernel_rfl) (by kernel_rfl) (fun _ _ _ h => h) (Or.inl ⟨by rfl, ?yq12⟩) (by assumption) ?rq12
                case yq12 => (intro u hSu; (try dsimp only at hSu); go_simp; try with_reducible rfl)
                try simp only [List.getElem_toArray, List.getElem_cons_succ, List.getElem_cons_zero, Act.put, List.setIfInBounds_toArray, List.set_cons_zero, List.set_cons_succ]
                refine wpAnyH_ready (rs := [9]) (by kernel_rfl) (by simp) ?_
                refine AllReadyH.cons rfl (fun K hK => ?_) AllReadyH.nil
                go_simp
                refine hK.out _ _ trivial (fun hHeld => ?_)
                clear hK K
                try simp only [List.getElem_toArray, List.getElem_cons_succ, List.getElem_cons_zero, Act.put, List.setIfInBounds_toArray, List.set_cons_zero, List.set_cons_succ]
                refine wpAnyH_done (by kernel_rfl) ?_ _
                have SIT10 := Lib.hid (show Sitp w (w9.setCell ⟨gb, 3, none⟩ (.slice A9 (j + 1) c9)) gb b t2 (bcells r ch Ai ni ci A9 (j + 1) c9) from SIT9.out.set 3 _)
                have SS := Lib.hid (Only.setCell w9 gb 3 (.slice A9 (j + 1) c9)).saved
                have HO10 := own_save hown9 SS.out (by omega)
                have HT10 := Lib.hid (HT9.out.save SIT9.out.bat (by decide) SS.out)
                have HB10 := Lib.hid (fun e he => show e.to.length = 32 ∧ PBy (w9.setCell ⟨gb, 3, none⟩ (.slice A9 (j + 1) c9)) e.A e.n e.c e.l from ⟨(HB9.out e he).1, (HB9.out e he).2.save SIT9.out.bat (by decide) SS.out⟩)
                clear hown9 d6 d7 d8 d9 f9 HO6 HO7 HO8 HLIT SIT6 SIT7 SIT8 SIT9 HT6 HT7 HT8 HT9 HB6 HB7 HB8 HB9 SS
                have hm1000 := HBD.out.2
                go_wp2_with fail
                go_roundw
                case rel => exact ⟨j + 1, t2, es ++ [⟨u, A7, l.length, c7, l⟩], A9, c9, by omega, by go_num, HO10, SIT10, HT10, Lib.hid (by rw [HP.out, HST.out]; simp [Let.data]), HB10, Lib.hid (by simp [HL.out]), Lib.hid HX.out⟩
                case measure => simp [intOf]; omega
        · obtain rfl : j = m := by omega
          have HS7 := Lib.hid (show (letsA b y j s6).1 = es.map Let.data ∧ s7 = s by
            have h := HP.out
            rw [Nat.sub_self] at h
            have h2 : (letsA b y j s6).2 = s7 := HY.out.1
            rw [h] at h2 ⊢
            exact ⟨by simp [letsA], h2.symm⟩)
          have HES := Lib.hid HS7.out.1
          have KE := Lib.hid (KEND.out wr (by rw [HS7.out.2]; exact SITR.out.rd))
          have hjn : ¬ (j : Int) < (j : Int) := by omega
          clear HP HOK hlt KEND
          go_wp2_with fail
          refine (KE.out).mono ?_
          rintro e w8 ⟨rfl, S8⟩
          obtain ⟨HR8, HN8, b8⟩ := SITR.out.done S8
          have HT8 := Lib.hid (HTR.out.saveR SITR.out.rd S8)
          have HB8 := Lib.hid (fun e he => show e.to.length = 32 ∧ PBy w8 e.A e.n e.c e.l from ⟨(HB.out e he).1, (HB.out e he).2.saveR SITR.out.rd S8⟩)
          have hgb2 := SITR.out.gb
          have hown8 := own_save hown S8 (by omega)
          obtain ⟨A9, c9, e9, hr9⟩ := RowW.own hown8
          cases e9
          have HRO := Lib.hid hown8
          have hlr := HR8.lt
          have hln := HN8.lt
          clear hown hown8 hr9 S8 KE HB HTR SITR
          by_cases hq : q = 0
          · subst hq
            have HS' := Lib.hid (show RR = (⟨(r : Int), (ch : Int), inner, es.map Let.data⟩, 0) from HFIN.out rfl _ _ HIA.out HES.out)
            clear HFIN
            go_wp2_with (first
              | ((with_reducible refine wpList_load_bat rfl (.tmp 5) rfl gb rfl r ch Ai ni ci Al j cl HN8 ?_))
              | ((with_reducible refine wpList_store_bat rfl (.tmp 2) (.tmp 46) rfl w.heap.size rfl r ch Ai ni ci Al j cl rfl (bcells 0 0 none 0 0 none 0 0) HR8 rfl ?_); intro wz oz Hz))
            exact ret_has_tmp Try.results24 _ rfl w.heap.size rfl 53 (bcells r ch Ai ni ci Al j cl) Hz _ Try.underlying53 rfl size_batch rfl ⟨⟨(r : Int), (ch : Int), inner, es.map Let.data⟩, Ai, ni, ci, Al, j, cl, es, 0, rfl, HS'.out, ⟨(HT8.out.save HR8 (by decide) oz.saved).1, HIN.out⟩, ⟨own_rowW HRO.out oz (by omega), HL.out, fun e he => ⟨(HB8.out e he).1, ((HB8.out e he).2.save HR8 (by decide) oz.saved).1⟩⟩, rfl, HD.out inner (es.map Let.data), oz.below b8 (Nat.le_refl _)⟩
          · have h1 : ((q : Int) == 0) = false := by simp; exact hq
            have HS' := Lib.hid (show RR = (batZero, q) from HBAD.out hq)
            have hbld : ∀ u, (Instr.build 53 #[]).run Try.prog u = .ok (.agg (bcells 0 0 none 0 0 none 0 0).toArray) u := fun u => run_build u _ #[] _ (by kernel_rfl)
            clear HFIN HBAD hq
            go_wp2_with (first
              | ((with_reducible refine wpList_store_bat rfl (.tmp 2) (.tmp 44) rfl w.heap.size rfl 0 0 none 0 0 none 0 0 rfl (bcells 0 0 none 0 0 none 0 0) HR8 rfl ?_); intro wz oz Hz))
            exact ret_has_tmp Try.results24 _ rfl w.heap.size rfl 53 (bcells 0 0 none 0 0 none 0 0) Hz _ Try.underlying53 rfl size_batch rfl ⟨batZero, none, 0, 0, none, 0, 0, [], q, rfl, HS'.out, ⟨Row.nil _, fun x hx => by cases hx⟩, ⟨RowW.nil _ _, rfl, fun e he => by cases he⟩, rfl, batZero_ok, oz.below b8 (Nat.le_refl _)⟩
end Go.Proofs.Ytiilgkajijnbcaa
