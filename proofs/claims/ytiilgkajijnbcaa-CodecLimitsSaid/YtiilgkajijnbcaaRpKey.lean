/-
  Contract of the method key of the package's reader.
-/
import Derived.Test.YtiilgkajijnbcaaRpB
import Derived.Test.YtiilgkajijnbcaaRdKey
import Derived.Deep.RegionHeldLaw
namespace Go.Proofs.Ytiilgkajijnbcaa
open Go.ChangeShapes Go.WideShapes Go.ChangeAt Go.RowKit
set_option linter.unusedVariables false
set_option linter.unusedSimpArgs false

theorem pad_splice (n m : Nat) (t : List UInt8) (pre : List Value) (h : t.length = m) (hm : m ≤ n) (p : Nat) (hp : pre.length = p) :
    splice (pre ++ (List.replicate n (0 : UInt8)).map bv) p ((t.map bv).take m) = pre ++ (padL n t).map bv := by
  subst h hp
  rw [List.take_of_length_le (by simp)]
  unfold splice
  rw [List.take_left' rfl, padL, List.map_append]
  simp
set_option maxHeartbeats 1000000 in
theorem rpKey' (B g : Nat) (b : List UInt8) (s s' : St) (l : List UInt8) (h : keyS b s = (l, s')) (hs : s.ok b) (w : World) (H : Rdp B w g b s) :
    Calls Try.prog 47 #[.pointer (some ⟨g, 0, none⟩)] w fun e w' => e = .returned (.agg (l.map bv).toArray) ∧ Rdp B w' g b s' ∧ Save g w w' := by
  obtain ⟨t, s1, ht⟩ : ∃ l s1, takeS b 32 s = (l, s1) := ⟨_, _, rfl⟩
  have htl : t.length ≤ 32 := by
    have := takeS_len (b := b) (s := s) 32
    rw [ht] at this
    rcases this with h | h
    · exact Nat.le_of_eq h
    · rw [show t = [] from h]; simp
  unfold keyS at h
  rw [ht] at h
  obtain ⟨h1, rfl⟩ := Prod.mk.inj h
  have hll : l.length = 32 := by rw [← h1]; exact padL_len 32 t htl
  have HG := H.lt
  have HGE := H.ge
  have HR1 := newKey w
  have HR2 := HR1.alloc (.cells #[.int .u8 0, .int .u8 0, .int .u8 0, .int .u8 0, .int .u8 0, .int .u8 0, .int .u8 0, .int .u8 0, .int .u8 0, .int .u8 0, .int .u8 0, .int .u8 0, .int .u8 0, .int .u8 0, .int .u8 0, .int .u8 0, .int .u8 0, .int .u8 0, .int .u8 0, .int .u8 0, .int .u8 0, .int .u8 0, .int .u8 0, .int .u8 0, .int .u8 0, .int .u8 0, .int .u8 0, .int .u8 0, .int .u8 0, .int .u8 0, .int .u8 0, .int .u8 0] 36)
  have HK2 := (newKey (w.alloc (.cells #[.int .u8 0, .int .u8 0, .int .u8 0, .int .u8 0, .int .u8 0, .int .u8 0, .int .u8 0, .int .u8 0, .int .u8 0, .int .u8 0, .int .u8 0, .int .u8 0, .int .u8 0, .int .u8 0, .int .u8 0, .int .u8 0, .int .u8 0, .int .u8 0, .int .u8 0, .int .u8 0, .int .u8 0, .int .u8 0, .int .u8 0, .int .u8 0, .int .u8 0, .int .u8 0, .int .u8 0, .int .u8 0, .int .u8 0, .int .u8 0, .int .u8 0, .int .u8 0] 36))).at_ (show _ = w.heap.size + 1 by simp)
  have hb1 := newKey_below (Below.refl w.heap.size w) (Nat.le_refl _)
  have hb2 := newKey_below hb1 hb1.size
  have H2 := H.keep hb2
  have hsz2 : ((w.alloc (.cells #[.int .u8 0, .int .u8 0, .int .u8 0, .int .u8 0, .int .u8 0, .int .u8 0, .int .u8 0, .int .u8 0, .int .u8 0, .int .u8 0, .int .u8 0, .int .u8 0, .int .u8 0, .int .u8 0, .int .u8 0, .int .u8 0, .int .u8 0, .int .u8 0, .int .u8 0, .int .u8 0, .int .u8 0, .int .u8 0, .int .u8 0, .int .u8 0, .int .u8 0, .int .u8 0, .int .u8 0, .int .u8 0, .int .u8 0, .int .u8 0, .int .u8 0, .int .u8 0] 36)).alloc (.cells #[.int .u8 0, .int .u8 0, .int .u8 0, .int .u8 0, .int .u8 0, .int .u8 0, .int .u8 0, .int .u8 0, .int .u8 0, .int .u8 0, .int .u8 0, .int .u8 0, .int .u8 0, .int .u8 0, .int .u8 0, .int .u8 0, .int .u8 0, .int .u8 0, .int .u8 0, .int .u8 0, .int .u8 0, .int .u8 0, .int .u8 0, .int .u8 0, .int .u8 0, .int .u8 0, .int .u8 0, .int .u8 0, .int .u8 0, .int .u8 0, .int .u8 0, .int .u8 0] 36)).heap.size = w.heap.size + 2 := by simp
  obtain ⟨m, hm⟩ : ∃ m, t.length = m := ⟨_, rfl⟩
  have hm32 : m ≤ 32 := by omega
  have HPS := Lib.hid (show splice zkey 0 ((t.map bv).take m) = l.map bv by
    rw [← h1]
    exact pad_splice 32 m t [] hm hm32 0 rfl)
  have HKK := Lib.hid (show m = Nat.min m 32 from (Nat.min_eq_left hm32).symm)
  have HFF := Lib.hid (show 0 + m ≤ zkey.length by rw [zkey_len]; omega)
  have HLL := Lib.hid hll
  have HT := Lib.hid (fun (u : World) (H : Rdp B u g b s) => show Calls Try.prog 42 #[.pointer (some ⟨g, 0, none⟩), .int .i64 32] u (fun e w' => ∃ v, e = .returned v ∧ w'.ownsRow u.heap.size 5 1 v m (t.map bv) ∧ Rdp B w' g b s1 ∧ Save g u w') from by
    have := rpTake' B g b s s1 32 t ht hs (by omega) u H
    rw [hm] at this
    exact this)
  have SB := Lib.hid (Save.of_below (g := g) hb2)
  clear h ht hs H hb1 HR1 h1 hll htl hm hb2
  go_enter Try.func47, Try.ntmps47
  go_wp2_with fail
  change Code.wp _ _ _ _ ((w.alloc (.cells #[.int .u8 0, .int .u8 0, .int .u8 0, .int .u8 0, .int .u8 0, .int .u8 0, .int .u8 0, .int .u8 0, .int .u8 0, .int .u8 0, .int .u8 0, .int .u8 0, .int .u8 0, .int .u8 0, .int .u8 0, .int .u8 0, .int .u8 0, .int .u8 0, .int .u8 0, .int .u8 0, .int .u8 0, .int .u8 0, .int .u8 0, .int .u8 0, .int .u8 0, .int .u8 0, .int .u8 0, .int .u8 0, .int .u8 0, .int .u8 0, .int .u8 0, .int .u8 0] 36)).alloc (.cells #[.int .u8 0, .int .u8 0, .int .u8 0, .int .u8 0, .int .u8 0, .int .u8 0, .int .u8 0, .int .u8 0, .int .u8 0, .int .u8 0, .int .u8 0, .int .u8 0, .int .u8 0, .int .u8 0, .int .u8 0, .int .u8 0, .int .u8 0, .int .u8 0, .int .u8 0, .int .u8 0, .int .u8 0, .int .u8 0, .int .u8 0, .int .u8 0, .int .u8 0, .int .u8 0, .int .u8 0, .int .u8 0, .int .u8 0, .int .u8 0, .int .u8 0, .int .u8 0] 36))
  generalize ((w.alloc (.cells #[.int .u8 0, .int .u8 0, .int .u8 0, .int .u8 0, .int .u8 0, .int .u8 0, .int .u8 0, .int .u8 0, .int .u8 0, .int .u8 0, .int .u8 0, .int .u8 0, .int .u8 0, .int .u8 0, .int .u8 0, .int .u8 0, .int .u8 0, .int .u8 0, .int .u8 0, .int .u8 0, .int .u8 0, .int .u8 0, .int .u8 0, .int .u8 0, .int .u8 0, .int .u8 0, .int .u8 0, .int .u8 0, .int .u8 0, .int .u8 0, .int .u8 0, .int .u8 0] 36)).alloc (.cells #[.int .u8 0, .int .u8 0, .int .u8 0, .int .u8 0, .int .u8 0, .int .u8 0, .int .u8 0, .int .u8 0, .int .u8 0, .int .u8 0, .int .u8 0, .int .u8 0, .int .u8 0, .int .u8 0, .int .u8 0, .int .u8 0, .int .u8 0, .int .u8 0, .int .u8 0, .int .u8 0, .int .u8 0, .int .u8 0, .int .u8 0, .int .u8 0, .int .u8 0, .int .u8 0, .int .u8 0, .int .u8 0, .int .u8 0, .int .u8 0, .int .u8 0, .int .u8 0] 36)) = w2 at *
  have KT := Lib.hid (HT.out w2.drew H2)
  have HKD := Lib.hid (show Has w2.drew (w.heap.size + 1) 36 zkey from HK2)
  have HRD := Lib.hid (show Has w2.drew w.heap.size 36 zkey from HR2)
  have HNG := Lib.hid (show w.heap.size + 1 ≠ g ∧ w.heap.size ≠ g ∧ w.heap.size + 1 < w2.drew.heap.size from ⟨by omega, by omega, by show _ < w2.heap.size; omega⟩)
  clear HT H2 HK2 HR2
  go_region_held_law (fun _ => True) (exact trivial)
    (first
    | ((refine step_copy_has (by rfl) (.tmp 4) (.tmp 6) 25 25 (by rfl) 5 Try.underlying25 (by kernel_rfl) (w.heap.size + 1) 0 32 32 (by rfl) A3 m c3 (by rfl) (t.map bv) hr3 36 zkey HK3 m HKK.out HFF.out (one_bv t) ?_); intro w4 o4 H4)
    | (go_at_call 42; with_reducible refine (KT.out).mono ?_; rintro e w3 ⟨v3, rfl, hown3, H3, S3⟩; obtain ⟨A3, c3, rfl, hr3⟩ := Row.own hown3; have HK3 := HKD.out.save S3 HNG.out.1; have HR3 := HRD.out.save S3 HNG.out.2.1))
  rw [HPS.out] at H4
  have HR4 := HR3.only o4 (by omega)
  have HX3 := Lib.hid H3
  have SS := Lib.hid (show Save g w w4 from ((show Save g w w2.drew from SB.out.drew).trans S3).new o4 (by omega))
  have HX4 := Lib.hid (HX3.out.only o4 (by omega) (by omega))
  clear H3 HK3 HR3 hr3 hown3
  go_wp2_with (first
    | ((with_reducible refine wpList_load_key rfl (.tmp 3) rfl (w.heap.size + 1) rfl l HLL.out H4 ?_))
    | ((with_reducible refine wpList_store_key rfl (.tmp 2) (.tmp 8) rfl w.heap.size rfl l HLL.out rfl zkey HR4 zkey_len ?_); intro w5 o5 H5))
  refine ret_key Try.results47 w.heap.size ?_ l HLL.out H5 ?_ ⟨rfl, HX4.out.only o5 (by omega) (by omega), SS.out.new o5 (by omega)⟩
  · rfl
  · rfl
end Go.Proofs.Ytiilgkajijnbcaa
