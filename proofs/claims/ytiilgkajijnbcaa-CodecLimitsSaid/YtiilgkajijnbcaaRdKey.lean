/-
  Contract of the method key of the reference's reader.
-/
import Derived.Test.YtiilgkajijnbcaaRdC
import Derived.Test.YtiilgkajijnbcaaLow
namespace Go.Proofs.Ytiilgkajijnbcaa
open Go.ChangeShapes Go.WideShapes Go.ChangeAt Go.RowKit
set_option linter.unusedVariables false
set_option linter.unusedSimpArgs false

/-- One byte more of those that are copied to the head of 32. -/
theorem pad_set (l : List UInt8) (j : Nat) (h : j < l.length) (hl : l.length ≤ 32) (Z : List Value) (v : Value) (hv : v = bv (l.getD j 0)) :
    (((padL 32 (l.take j)).map bv) ++ Z).set j v = ((padL 32 (l.take (j + 1))).map bv) ++ Z := by
  subst hv
  have e1 : (l.take j).length = j := by simp; omega
  rw [List.set_append_left _ _ (by rw [List.length_map, padL_len 32 _ (by omega)]; omega)]
  congr 1
  rw [padL, padL, e1, List.take_succ_eq_append_getElem h, List.map_append, List.set_append_right _ _ (by rw [List.length_map, e1]; omega), List.length_map, e1, Nat.sub_self, List.append_assoc, List.map_append]
  congr 1
  have e2 : (l.take j ++ [l[j]]).length = j + 1 := by simp; omega
  rw [e2, show 32 - j = (32 - (j + 1)) + 1 by omega, List.replicate_succ]
  simp [h]
set_option maxHeartbeats 1000000 in
theorem rdKey' (g : Nat) (A : Option Addr) (n c : Nat) (b : List UInt8) (s s' : St) (l : List UInt8) (h : keyS b s = (l, s')) (hs : s.ok b) (w : World) (H : Rdr w g A n c s) (hb : Bytes w A n c b) (hA : Off g A n) :
    Calls Try.prog 60 #[.pointer (some ⟨g, 0, none⟩)] w fun e w' => e = .returned (.agg (l.map bv).toArray) ∧ Rdr w' g A n c s' ∧ Save g w w' := by
  obtain ⟨t, s1, ht⟩ : ∃ l s1, takeS b 32 s = (l, s1) := ⟨_, _, rfl⟩
  have htl : t.length ≤ 32 := by
    have := takeS_len (b := b) (s := s) 32
    rw [ht] at this
    rcases this with h | h
    · exact Nat.le_of_eq h
    · rw [show t = [] from h]; simp
  unfold keyS at h
  rw [ht] at h
  obtain ⟨h1, rfl⟩ := Prod.mk.inj h
  have hll : l.length = 32 := by rw [← h1]; exact padL_len 32 t htl
  have HG := H.lt
  have HR1 := newKey w
  have HR2 := HR1.alloc (.cells #[.int .u8 0, .int .u8 0, .int .u8 0, .int .u8 0, .int .u8 0, .int .u8 0, .int .u8 0, .int .u8 0, .int .u8 0, .int .u8 0, .int .u8 0, .int .u8 0, .int .u8 0, .int .u8 0, .int .u8 0, .int .u8 0, .int .u8 0, .int .u8 0, .int .u8 0, .int .u8 0, .int .u8 0, .int .u8 0, .int .u8 0, .int .u8 0, .int .u8 0, .int .u8 0, .int .u8 0, .int .u8 0, .int .u8 0, .int .u8 0, .int .u8 0, .int .u8 0] 36)
  have HK2 := (newKey (w.alloc (.cells #[.int .u8 0, .int .u8 0, .int .u8 0, .int .u8 0, .int .u8 0, .int .u8 0, .int .u8 0, .int .u8 0, .int .u8 0, .int .u8 0, .int .u8 0, .int .u8 0, .int .u8 0, .int .u8 0, .int .u8 0, .int .u8 0, .int .u8 0, .int .u8 0, .int .u8 0, .int .u8 0, .int .u8 0, .int .u8 0, .int .u8 0, .int .u8 0, .int .u8 0, .int .u8 0, .int .u8 0, .int .u8 0, .int .u8 0, .int .u8 0, .int .u8 0, .int .u8 0] 36))).at_ (show _ = w.heap.size + 1 by simp)
  have hb1 := newKey_below (Below.refl w.heap.size w) (Nat.le_refl _)
  have hb2 := newKey_below hb1 hb1.size
  have H2 := H.keep hb2 H.lt
  have hb' := hb.keep hb2
  have KT := Lib.hid (show Calls Try.prog 58 #[.pointer (some ⟨g, 0, none⟩), .int .i64 32] ((w.alloc (.cells #[.int .u8 0, .int .u8 0, .int .u8 0, .int .u8 0, .int .u8 0, .int .u8 0, .int .u8 0, .int .u8 0, .int .u8 0, .int .u8 0, .int .u8 0, .int .u8 0, .int .u8 0, .int .u8 0, .int .u8 0, .int .u8 0, .int .u8 0, .int .u8 0, .int .u8 0, .int .u8 0, .int .u8 0, .int .u8 0, .int .u8 0, .int .u8 0, .int .u8 0, .int .u8 0, .int .u8 0, .int .u8 0, .int .u8 0, .int .u8 0, .int .u8 0, .int .u8 0] 36)).alloc (.cells #[.int .u8 0, .int .u8 0, .int .u8 0, .int .u8 0, .int .u8 0, .int .u8 0, .int .u8 0, .int .u8 0, .int .u8 0, .int .u8 0, .int .u8 0, .int .u8 0, .int .u8 0, .int .u8 0, .int .u8 0, .int .u8 0, .int .u8 0, .int .u8 0, .int .u8 0, .int .u8 0, .int .u8 0, .int .u8 0, .int .u8 0, .int .u8 0, .int .u8 0, .int .u8 0, .int .u8 0, .int .u8 0, .int .u8 0, .int .u8 0, .int .u8 0, .int .u8 0] 36)) _ from rdTake' g A n c b s s1 32 t ht hs (by omega) _ H2 hb' hA)
  have hsz2 : ((w.alloc (.cells #[.int .u8 0, .int .u8 0, .int .u8 0, .int .u8 0, .int .u8 0, .int .u8 0, .int .u8 0, .int .u8 0, .int .u8 0, .int .u8 0, .int .u8 0, .int .u8 0, .int .u8 0, .int .u8 0, .int .u8 0, .int .u8 0, .int .u8 0, .int .u8 0, .int .u8 0, .int .u8 0, .int .u8 0, .int .u8 0, .int .u8 0, .int .u8 0, .int .u8 0, .int .u8 0, .int .u8 0, .int .u8 0, .int .u8 0, .int .u8 0, .int .u8 0, .int .u8 0] 36)).alloc (.cells #[.int .u8 0, .int .u8 0, .int .u8 0, .int .u8 0, .int .u8 0, .int .u8 0, .int .u8 0, .int .u8 0, .int .u8 0, .int .u8 0, .int .u8 0, .int .u8 0, .int .u8 0, .int .u8 0, .int .u8 0, .int .u8 0, .int .u8 0, .int .u8 0, .int .u8 0, .int .u8 0, .int .u8 0, .int .u8 0, .int .u8 0, .int .u8 0, .int .u8 0, .int .u8 0, .int .u8 0, .int .u8 0, .int .u8 0, .int .u8 0, .int .u8 0, .int .u8 0] 36)).heap.size = w.heap.size + 2 := by simp
  have HL := Lib.hid (And.intro h1 hll)
  have HTL := Lib.hid htl
  clear h ht hs hb hA H hb1 HR1 h1 hll htl H2 hb'
  go_enter Try.func60, Try.ntmps60
  go_wp2_with fail
  change Calls _ _ _ ((w.alloc (.cells #[.int .u8 0, .int .u8 0, .int .u8 0, .int .u8 0, .int .u8 0, .int .u8 0, .int .u8 0, .int .u8 0, .int .u8 0, .int .u8 0, .int .u8 0, .int .u8 0, .int .u8 0, .int .u8 0, .int .u8 0, .int .u8 0, .int .u8 0, .int .u8 0, .int .u8 0, .int .u8 0, .int .u8 0, .int .u8 0, .int .u8 0, .int .u8 0, .int .u8 0, .int .u8 0, .int .u8 0, .int .u8 0, .int .u8 0, .int .u8 0, .int .u8 0, .int .u8 0] 36)).alloc (.cells #[.int .u8 0, .int .u8 0, .int .u8 0, .int .u8 0, .int .u8 0, .int .u8 0, .int .u8 0, .int .u8 0, .int .u8 0, .int .u8 0, .int .u8 0, .int .u8 0, .int .u8 0, .int .u8 0, .int .u8 0, .int .u8 0, .int .u8 0, .int .u8 0, .int .u8 0, .int .u8 0, .int .u8 0, .int .u8 0, .int .u8 0, .int .u8 0, .int .u8 0, .int .u8 0, .int .u8 0, .int .u8 0, .int .u8 0, .int .u8 0, .int .u8 0, .int .u8 0] 36)) _
  generalize ((w.alloc (.cells #[.int .u8 0, .int .u8 0, .int .u8 0, .int .u8 0, .int .u8 0, .int .u8 0, .int .u8 0, .int .u8 0, .int .u8 0, .int .u8 0, .int .u8 0, .int .u8 0, .int .u8 0, .int .u8 0, .int .u8 0, .int .u8 0, .int .u8 0, .int .u8 0, .int .u8 0, .int .u8 0, .int .u8 0, .int .u8 0, .int .u8 0, .int .u8 0, .int .u8 0, .int .u8 0, .int .u8 0, .int .u8 0, .int .u8 0, .int .u8 0, .int .u8 0, .int .u8 0] 36)).alloc (.cells #[.int .u8 0, .int .u8 0, .int .u8 0, .int .u8 0, .int .u8 0, .int .u8 0, .int .u8 0, .int .u8 0, .int .u8 0, .int .u8 0, .int .u8 0, .int .u8 0, .int .u8 0, .int .u8 0, .int .u8 0, .int .u8 0, .int .u8 0, .int .u8 0, .int .u8 0, .int .u8 0, .int .u8 0, .int .u8 0, .int .u8 0, .int .u8 0, .int .u8 0, .int .u8 0, .int .u8 0, .int .u8 0, .int .u8 0, .int .u8 0, .int .u8 0, .int .u8 0] 36)) = w2 at *
  refine (KT.out).mono ?_
  rintro e w3 ⟨v, rfl, hown, H3, S3⟩
  obtain ⟨A3, c3, rfl, hr3⟩ := Row.own hown
  have HOFF := Lib.hid (own_off hown (show w.heap.size + 1 < w2.heap.size by omega) t.length)
  have HR3 := HR2.save S3 (by omega)
  have HK3 := HK2.save S3 (by omega)
  have SS := Lib.hid (show Save g w w3 from (Save.of_below hb2).trans S3)
  obtain ⟨m, hm⟩ : ∃ m, t.length = m := ⟨_, rfl⟩
  rw [hm] at hr3 HOFF
  have hsz := H3.lt
  have hm32 : m ≤ 32 := by rw [← hm]; exact HTL.out
  have hr3' : Bytes w3 A3 m c3 t := hr3
  have HM := Lib.hid hm
  have HZ : Has w3 (w.heap.size + 1) 36 (((padL 32 (t.take 0)).map bv) ++ []) := by rw [List.take_zero, List.append_nil]; exact HK3
  clear KT hown hm HK2 HK3 hb2 S3 HR2 hr3 hsz2
  go_wp2_with fail
  rw [HM.out]
  go_loopw [5] (fun i wr => ∃ j : Nat, j ≤ m ∧ i = .int .i64 j ∧ Has wr (w.heap.size + 1) 36 (((padL 32 (t.take j)).map bv) ++ []) ∧ Only (w.heap.size + 1) w3 wr) (fun i _ => m - (intOf i).toNat)
  case atStart => exact ⟨0, Nat.zero_le _, rfl, HZ, Only.refl _ _⟩
  case round =>
    clear HZ
    obtain ⟨j, hj, rfl, HK, ho⟩ := hrel
    by_cases hlt : j < m
    · have hrr : Bytes wr A3 m c3 t := Row.only hr3' ho HOFF.out
      obtain ⟨b0, off, rfl, hb0, hc0⟩ := hrr.at_ (by omega)
      have cx := hc0 j hlt
      obtain ⟨x, hx⟩ : ∃ x, x = t.getD j 0 := ⟨_, rfl⟩
      rw [← hx] at cx
      have HXX := Lib.hid hx
      have f1 := HK.froz j
      obtain ⟨vk, ck⟩ : ∃ v, wr.cell? ⟨w.heap.size + 1, j, none⟩ = some v := ⟨_, (HK.cell j).trans (List.getElem?_eq_getElem (by
        rw [List.append_nil, List.length_map, padL_len 32 _ (by simp; omega)]
        omega))⟩
      have hj32 : (j : Int) < 32 := by omega
      have hjm : (j : Int) < (m : Int) := by omega
      have HST := Lib.hid (show Has (wr.setCell ⟨w.heap.size + 1, j, none⟩ (.int .u8 (x.toNat : Int))) (w.heap.size + 1) 36 (((padL 32 (t.take (j + 1))).map bv) ++ []) by
        rw [← pad_set t j (by rw [HM.out]; exact hlt) HTL.out [] (.int .u8 (x.toNat : Int)) (by rw [← HXX.out]; rfl)]
        exact HK.set j _)
      clear hx hc0 hrr HK
      go_wp2_with fail
      go_roundw
      case rel => exact ⟨j + 1, by omega, by go_num, HST.out, ho.trans (Only.setCell _ _ _ _)⟩
      case measure => simp [intOf]; omega
    · obtain rfl : j = m := by omega
      rw [List.append_nil, List.take_of_length_le (Nat.le_of_eq HM.out), HL.out.1] at HK
      have HR4 := HR3.only ho (by omega)
      have hlk := HK.lt
      have hlr := HR4.lt
      have H4 := Lib.hid (H3.only ho (by omega))
      clear hr3'
      go_wp2_with (first
        | ((with_reducible refine wpList_load_key rfl (.tmp 3) rfl (w.heap.size + 1) rfl l HL.out.2 HK ?_))
        | ((with_reducible refine wpList_store_key rfl (.tmp 2) (.tmp 20) rfl w.heap.size rfl l HL.out.2 rfl zkey HR4 zkey_len ?_); intro w5 o5 H5))
      refine ret_key Try.results60 w.heap.size ?_ l HL.out.2 H5 ?_ ⟨rfl, H4.out.only o5 (by omega), (SS.out.new ho (by omega)).new o5 (by omega)⟩
      · rfl
      · rfl
end Go.Proofs.Ytiilgkajijnbcaa
