/-
  Contract of the package's ReadNote.
-/
import Derived.Test.YtiilgkajijnbcaaRpKey
import Derived.Test.YtiilgkajijnbcaaRdNote
import Derived.Deep.RegionHeldLaw
namespace Go.Proofs.Ytiilgkajijnbcaa
open Go.ChangeShapes Go.WideShapes Go.ChangeAt Go.RowKit
set_option linter.unusedVariables false
set_option linter.unusedSimpArgs false

set_option maxHeartbeats 2000000 in
theorem progReadNote' (A : Option Addr) (n c : Nat) (b : List UInt8) (x y : Nat) (l : List UInt8) (k : Nat) (h : noteS b = ((x, y, l), k)) (w : World) (hb : Bytes w A n c b) :
    Calls Try.prog 29 #[.slice A n c] w fun e w' => e = .returned (.tuple #[.agg (ncells x y l).toArray, .int .i64 (k : Int)]) ∧ Below w.heap.size w w' := by
  obtain ⟨x1, s1, h1⟩ : ∃ x s, numS b ⟨0, 0⟩ = (x, s) := ⟨_, _, rfl⟩
  obtain ⟨x2, s2, h2⟩ : ∃ x s, numS b s1 = (x, s) := ⟨_, _, rfl⟩
  obtain ⟨t, s3, h3⟩ : ∃ x s, takeS b 32 s2 = (x, s) := ⟨_, _, rfl⟩
  obtain ⟨q, h4⟩ : ∃ q, endS b s3 = q := ⟨_, rfl⟩
  have o0 := St.start b
  have o1 : s1.ok b := by have := numS_ok o0; rw [h1] at this; exact this
  have o2 : s2.ok b := by have := numS_ok o1; rw [h2] at this; exact this
  have o3 : s3.ok b := by have := takeS_ok 32 o2; rw [h3] at this; exact this
  have htl : t.length ≤ 32 := by
    have := takeS_len (b := b) (s := s2) 32
    rw [h3] at this
    rcases this with h | h
    · exact Nat.le_of_eq h
    · rw [show t = [] from h]; simp
  rw [noteS, h1] at h
  simp only [] at h
  rw [h2] at h
  simp only [] at h
  rw [h3] at h
  simp only [] at h
  rw [h4] at h
  have hb1 := (Below.refl w.heap.size w).alloc (Nat.le_refl _) (.cells #[.int .u64 0, .int .u64 0, .int .u8 0, .int .u8 0, .int .u8 0, .int .u8 0, .int .u8 0, .int .u8 0, .int .u8 0, .int .u8 0, .int .u8 0, .int .u8 0, .int .u8 0, .int .u8 0, .int .u8 0, .int .u8 0, .int .u8 0, .int .u8 0, .int .u8 0, .int .u8 0, .int .u8 0, .int .u8 0, .int .u8 0, .int .u8 0, .int .u8 0, .int .u8 0, .int .u8 0, .int .u8 0, .int .u8 0, .int .u8 0, .int .u8 0, .int .u8 0, .int .u8 0, .int .u8 0] 67)
  have HR1 := (newNote w).alloc (.cells #[.slice A n c, .int .i64 0] 85)
  have hz1 : (w.alloc (.cells #[.int .u64 0, .int .u64 0, .int .u8 0, .int .u8 0, .int .u8 0, .int .u8 0, .int .u8 0, .int .u8 0, .int .u8 0, .int .u8 0, .int .u8 0, .int .u8 0, .int .u8 0, .int .u8 0, .int .u8 0, .int .u8 0, .int .u8 0, .int .u8 0, .int .u8 0, .int .u8 0, .int .u8 0, .int .u8 0, .int .u8 0, .int .u8 0, .int .u8 0, .int .u8 0, .int .u8 0, .int .u8 0, .int .u8 0, .int .u8 0, .int .u8 0, .int .u8 0, .int .u8 0, .int .u8 0] 67)).heap.size = w.heap.size + 1 := by simp
  have H1 := (newRdp (B := w.heap.size) (w.alloc (.cells #[.int .u64 0, .int .u64 0, .int .u8 0, .int .u8 0, .int .u8 0, .int .u8 0, .int .u8 0, .int .u8 0, .int .u8 0, .int .u8 0, .int .u8 0, .int .u8 0, .int .u8 0, .int .u8 0, .int .u8 0, .int .u8 0, .int .u8 0, .int .u8 0, .int .u8 0, .int .u8 0, .int .u8 0, .int .u8 0, .int .u8 0, .int .u8 0, .int .u8 0, .int .u8 0, .int .u8 0, .int .u8 0, .int .u8 0, .int .u8 0, .int .u8 0, .int .u8 0, .int .u8 0, .int .u8 0] 67)) A n c b (hb.keep hb1) hb.oldA (by omega)).cast hz1
  have hb2 := hb1.alloc hb1.size (.cells #[.slice A n c, .int .i64 0] 85)
  have hz2 : ((w.alloc (.cells #[.int .u64 0, .int .u64 0, .int .u8 0, .int .u8 0, .int .u8 0, .int .u8 0, .int .u8 0, .int .u8 0, .int .u8 0, .int .u8 0, .int .u8 0, .int .u8 0, .int .u8 0, .int .u8 0, .int .u8 0, .int .u8 0, .int .u8 0, .int .u8 0, .int .u8 0, .int .u8 0, .int .u8 0, .int .u8 0, .int .u8 0, .int .u8 0, .int .u8 0, .int .u8 0, .int .u8 0, .int .u8 0, .int .u8 0, .int .u8 0, .int .u8 0, .int .u8 0, .int .u8 0, .int .u8 0] 67)).alloc (.cells #[.slice A n c, .int .i64 0] 85)).heap.size = w.heap.size + 2 := by simp
  have K1 := Lib.hid (fun (u : World) (H : Rdp w.heap.size u (w.heap.size + 1) b ⟨0, 0⟩) => rpAny' w.heap.size (w.heap.size + 1) b ⟨0, 0⟩ s1 x1 h1 o0 u H)
  have K2 := Lib.hid (fun (u : World) (H : Rdp w.heap.size u (w.heap.size + 1) b s1) => rpAny' w.heap.size (w.heap.size + 1) b s1 s2 x2 h2 o1 u H)
  obtain ⟨m, hm⟩ : ∃ m, t.length = m := ⟨_, rfl⟩
  have K3 := Lib.hid (fun (u : World) (H : Rdp w.heap.size u (w.heap.size + 1) b s2) => show Calls Try.prog 42 #[.pointer (some ⟨w.heap.size + 1, 0, none⟩), .int .i64 32] u (fun e w' => ∃ v, e = .returned v ∧ w'.ownsRow u.heap.size 5 1 v m (t.map bv) ∧ Rdp w.heap.size w' (w.heap.size + 1) b s3 ∧ Save (w.heap.size + 1) u w') from by
    have := rpTake' w.heap.size (w.heap.size + 1) b s2 s3 32 t h3 o2 (by omega) u H
    rw [hm] at this
    exact this)
  have K4 := Lib.hid (fun (u : World) (H : Rdp w.heap.size u (w.heap.size + 1) b s3) => rpEnd' w.heap.size (w.heap.size + 1) b s3 q h4 o3 u H)
  have hm32 : m ≤ 32 := by omega
  have HPS := Lib.hid (show splice (ncells x1 x2 (List.replicate 32 0)) 2 ((t.map bv).take m) = ncells x1 x2 (padL 32 t) from pad_splice 32 m t [nv x1, nv x2] hm hm32 2 rfl)
  have HKK := Lib.hid (show m = Nat.min m 32 from (Nat.min_eq_left hm32).symm)
  have HFF := Lib.hid (show 2 + m ≤ (ncells x1 x2 (List.replicate 32 0)).length by rw [ncells_len _ _ _ (by simp)]; omega)
  have HPL := Lib.hid (show (padL 32 t).length = 32 from padL_len 32 t htl)
  have HE := Lib.hid h
  clear h h1 h2 h3 h4 o0 o1 o2 o3 htl hm hb1 hz1 hb
  go_enter Try.func29, Try.ntmps29
  go_wp2_with fail
  change Calls _ _ _ ((w.alloc (.cells #[.int .u64 0, .int .u64 0, .int .u8 0, .int .u8 0, .int .u8 0, .int .u8 0, .int .u8 0, .int .u8 0, .int .u8 0, .int .u8 0, .int .u8 0, .int .u8 0, .int .u8 0, .int .u8 0, .int .u8 0, .int .u8 0, .int .u8 0, .int .u8 0, .int .u8 0, .int .u8 0, .int .u8 0, .int .u8 0, .int .u8 0, .int .u8 0, .int .u8 0, .int .u8 0, .int .u8 0, .int .u8 0, .int .u8 0, .int .u8 0, .int .u8 0, .int .u8 0, .int .u8 0, .int .u8 0] 67)).alloc (.cells #[.slice A n c, .int .i64 0] 85)) _
  generalize ((w.alloc (.cells #[.int .u64 0, .int .u64 0, .int .u8 0, .int .u8 0, .int .u8 0, .int .u8 0, .int .u8 0, .int .u8 0, .int .u8 0, .int .u8 0, .int .u8 0, .int .u8 0, .int .u8 0, .int .u8 0, .int .u8 0, .int .u8 0, .int .u8 0, .int .u8 0, .int .u8 0, .int .u8 0, .int .u8 0, .int .u8 0, .int .u8 0, .int .u8 0, .int .u8 0, .int .u8 0, .int .u8 0, .int .u8 0, .int .u8 0, .int .u8 0, .int .u8 0, .int .u8 0, .int .u8 0, .int .u8 0] 67)).alloc (.cells #[.slice A n c, .int .i64 0] 85)) = w3 at *
  refine (K1.out _ H1).mono ?_
  rintro e w4 ⟨rfl, H4, S4⟩
  have HR4 := HR1.save S4 (by omega)
  have b4 := S4.below hb2 (by omega) (by omega)
  have z4 := S4.size
  have HX4 := Lib.hid H4
  clear K1 H1 HR1 hb2 S4 H4
  go_wp2_with fail
  refine (K2.out _ HX4.out).mono ?_
  rintro e w5 ⟨rfl, H5, S5⟩
  have HR5 := HR4.save S5 (by omega)
  have b5 := S5.below b4 (by omega) (by omega)
  have z5 := S5.size
  have hg5 : w.heap.size + 2 ≤ w5.heap.size := by omega
  have HN6 := newNote w5
  have HR6 := HR5.alloc (.cells #[.int .u64 0, .int .u64 0, .int .u8 0, .int .u8 0, .int .u8 0, .int .u8 0, .int .u8 0, .int .u8 0, .int .u8 0, .int .u8 0, .int .u8 0, .int .u8 0, .int .u8 0, .int .u8 0, .int .u8 0, .int .u8 0, .int .u8 0, .int .u8 0, .int .u8 0, .int .u8 0, .int .u8 0, .int .u8 0, .int .u8 0, .int .u8 0, .int .u8 0, .int .u8 0, .int .u8 0, .int .u8 0, .int .u8 0, .int .u8 0, .int .u8 0, .int .u8 0, .int .u8 0, .int .u8 0] 67)
  have H6 := Lib.hid (H5.alloc (.cells #[.int .u64 0, .int .u64 0, .int .u8 0, .int .u8 0, .int .u8 0, .int .u8 0, .int .u8 0, .int .u8 0, .int .u8 0, .int .u8 0, .int .u8 0, .int .u8 0, .int .u8 0, .int .u8 0, .int .u8 0, .int .u8 0, .int .u8 0, .int .u8 0, .int .u8 0, .int .u8 0, .int .u8 0, .int .u8 0, .int .u8 0, .int .u8 0, .int .u8 0, .int .u8 0, .int .u8 0, .int .u8 0, .int .u8 0, .int .u8 0, .int .u8 0, .int .u8 0, .int .u8 0, .int .u8 0] 67))
  have b6 := b5.alloc b5.size (.cells #[.int .u64 0, .int .u64 0, .int .u8 0, .int .u8 0, .int .u8 0, .int .u8 0, .int .u8 0, .int .u8 0, .int .u8 0, .int .u8 0, .int .u8 0, .int .u8 0, .int .u8 0, .int .u8 0, .int .u8 0, .int .u8 0, .int .u8 0, .int .u8 0, .int .u8 0, .int .u8 0, .int .u8 0, .int .u8 0, .int .u8 0, .int .u8 0, .int .u8 0, .int .u8 0, .int .u8 0, .int .u8 0, .int .u8 0, .int .u8 0, .int .u8 0, .int .u8 0, .int .u8 0, .int .u8 0] 67)
  have hz6 : (w5.alloc (.cells #[.int .u64 0, .int .u64 0, .int .u8 0, .int .u8 0, .int .u8 0, .int .u8 0, .int .u8 0, .int .u8 0, .int .u8 0, .int .u8 0, .int .u8 0, .int .u8 0, .int .u8 0, .int .u8 0, .int .u8 0, .int .u8 0, .int .u8 0, .int .u8 0, .int .u8 0, .int .u8 0, .int .u8 0, .int .u8 0, .int .u8 0, .int .u8 0, .int .u8 0, .int .u8 0, .int .u8 0, .int .u8 0, .int .u8 0, .int .u8 0, .int .u8 0, .int .u8 0, .int .u8 0, .int .u8 0] 67)).heap.size = w5.heap.size + 1 := by simp
  clear K2 HX4 HR4 b4 S5 H5
  go_wp2_with ((with_reducible refine wpList_store_note rfl (.tmp 5) (.tmp 11) rfl w5.heap.size rfl x1 x2 (List.replicate 32 0) rfl rfl (ncells 0 0 (List.replicate 32 0)) HN6 rfl ?_); intro w7 o7 H7)
  have hz7 := o7.size
  have b7 := o7.below b6 (by omega)
  have HR7 := HR6.only o7 (by omega)
  have HX7 := Lib.hid (H6.out.only o7 (by omega) (by omega))
  have hgn : ∃ gn, w5.heap.size = gn := ⟨_, rfl⟩
  obtain ⟨gn, hgn⟩ := hgn
  rw [hgn] at H7 hz6 hg5
  have HGN := Lib.hid hgn
  clear H6 HR6 HR5 HN6 b6 b5 o7
  have KT := Lib.hid (K3.out w7.drew HX7.out)
  have HND := Lib.hid (show Has w7.drew gn 67 (ncells x1 x2 (List.replicate 32 0)) from H7)
  have HRD := Lib.hid (show Has w7.drew w.heap.size 67 (ncells 0 0 (List.replicate 32 0)) from HR7)
  have HNG := Lib.hid (show gn ≠ w.heap.size + 1 ∧ w.heap.size ≠ w.heap.size + 1 from ⟨by omega, by omega⟩)
  have HB7 := Lib.hid (show Below w.heap.size w w7.drew from b7.drew)
  rw [hgn]
  clear K3 HR7 H7 b7 hgn
  go_region_held_law (fun _ => True) (exact trivial)
    (first
    | ((refine step_copy_has (by rfl) (.tmp 13) (.tmp 14) 25 25 (by rfl) 5 Try.underlying25 (by kernel_rfl) gn 2 32 32 (by rfl) A8 m c8 (by rfl) (t.map bv) hr8 67 (ncells x1 x2 (List.replicate 32 0)) HN8 m HKK.out HFF.out (one_bv t) ?_); intro w9 o9 H9)
    | (go_at_call 42; with_reducible refine (KT.out).mono ?_; rintro e w8 ⟨v8, rfl, hown8, H8, S8⟩; obtain ⟨A8, c8, rfl, hr8⟩ := Row.own hown8; have HN8 := HND.out.save S8 HNG.out.1; have HR8 := HRD.out.save S8 HNG.out.2))
  rw [HPS.out] at H9
  have hgd : w7.drew.heap.size = w7.heap.size := rfl
  have hz8 := S8.size
  have HR9 := HR8.only o9 (by omega)
  have HX9 := Lib.hid (H8.only o9 (by omega) (by omega))
  have b9 := o9.below (S8.below HB7.out (by omega) (by omega)) (by omega)
  have hz9 := o9.size
  clear H8 HN8 HR8 hr8 hown8 S8
  go_wp2_with fail
  refine (K4.out _ HX9.out).mono ?_
  rintro e w10 ⟨rfl, S10⟩
  have HR10 := HR9.save S10 (by omega)
  have HN10 := H9.save S10 (by omega)
  have b10 := S10.below b9 (by omega) (by omega)
  clear HR9 H9 b9 S10 HX9
  have HE' := HE.out
  by_cases hq : q = 0
  · subst hq
    rw [if_pos rfl] at HE'
    obtain ⟨e1, rfl⟩ := Prod.mk.inj HE'
    obtain ⟨rfl, e2⟩ := Prod.mk.inj e1
    obtain ⟨rfl, rfl⟩ := Prod.mk.inj e2
    clear HE' e1 e2
    go_wp2_with (first
      | ((with_reducible refine wpList_load_note rfl (.tmp 5) rfl gn rfl x1 x2 (padL 32 t) HPL.out HN10 ?_))
      | ((with_reducible refine wpList_store_note rfl (.tmp 2) (.tmp 21) rfl w.heap.size rfl x1 x2 (padL 32 t) HPL.out rfl (ncells 0 0 (List.replicate 32 0)) HR10 rfl ?_); intro w11 o11 H11))
    exact ret_has_tmp Try.results29 _ rfl w.heap.size rfl 67 (ncells x1 x2 (padL 32 t)) H11 _ Try.underlying67 rfl (by rw [ncells_len _ _ _ HPL.out]; exact size_note) rfl ⟨rfl, o11.below b10 (Nat.le_refl _)⟩
  · rw [if_neg hq] at HE'
    obtain ⟨e1, rfl⟩ := Prod.mk.inj HE'
    obtain ⟨rfl, e2⟩ := Prod.mk.inj e1
    obtain ⟨rfl, rfl⟩ := Prod.mk.inj e2
    have h1 : ((q : Int) == 0) = false := by simp; exact hq
    clear HE' e1 e2 hq
    go_wp2_with (first
      | ((with_reducible refine wpList_store_note rfl (.tmp 2) (.tmp 19) rfl w.heap.size rfl 0 0 (List.replicate 32 0) rfl rfl (ncells 0 0 (List.replicate 32 0)) HR10 rfl ?_); intro w11 o11 H11))
    exact ret_has_tmp Try.results29 _ rfl w.heap.size rfl 67 (ncells 0 0 (List.replicate 32 0)) H11 _ Try.underlying67 rfl (by kernel_rfl) rfl ⟨rfl, o11.below b10 (Nat.le_refl _)⟩
end Go.Proofs.Ytiilgkajijnbcaa
