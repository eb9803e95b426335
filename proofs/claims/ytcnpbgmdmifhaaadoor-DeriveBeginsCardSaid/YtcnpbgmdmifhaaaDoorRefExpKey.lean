/-
  Contract of the reference's Key.
-/
import Derived.Test.YtcnpbgmdmifhaaaDoorRefExp
namespace Go.Proofs.YtcnpbgmdmifhaaaDoor
open Go.ChangeShapes Go.WideShapes Go.ChangeAt Go.RowKit
set_option linter.unusedVariables false
set_option linter.unusedSimpArgs false

theorem own_addr {w : World} {base n : Nat} {e : TypeId} {v : Value} {xs : List Value} (h : w.ownsRow base e 1 v n xs) (hn : 0 < n) :
    ∃ g c, v = .slice (some ⟨g, 0, none⟩) n c ∧ base ≤ g ∧ g < w.heap.size ∧ Row w (some ⟨g, 0, none⟩) n c xs := by
  obtain ⟨A, c, hv, hr⟩ := Row.own h
  have hlt := h.lt
  rcases h.2 with ⟨h1, h2⟩ | ⟨g, cap, cur, h1, h2, h3, h4⟩
  · omega
  · rw [hv] at h1
    obtain ⟨rfl, _, rfl⟩ : A = some ⟨g, 0, none⟩ ∧ n = n ∧ c = cap := by cases h1; exact ⟨rfl, rfl, rfl⟩
    exact ⟨g, c, hv, h2, (Array.getElem?_eq_some_iff.1 h3).1, hr⟩
/-- The first j bytes have been written into a new key. -/
def putN (E : List UInt8) (j : Nat) : List UInt8 := E.take j ++ List.replicate (32 - j) 0
theorem putN_set (E : List UInt8) (hE : E.length = 32) (j : Nat) (h : j < 32) : ((putN E j).map bv).set j (.int .u8 ((E.getD j 0).toNat : Int)) = (putN E (j + 1)).map bv := by
  have h1 : (E.take j).length = j := by rw [List.length_take]; omega
  have h2 : j < E.length := by omega
  have e : E.getD j 0 = E[j] := by simp [h2]
  rw [putN, putN, show 32 - j = (32 - (j + 1)) + 1 by omega, List.replicate_succ, List.map_append, List.map_cons, List.set_append_right _ _ (by simp; omega), List.length_map, h1, Nat.sub_self, List.set_cons_zero, List.take_succ_eq_append_getElem h2, e, List.map_append, List.map_append, List.map_cons, List.map_nil, List.append_assoc]
  rfl
theorem putN_len (E : List UInt8) (hE : E.length = 32) (j : Nat) (h : j ≤ 32) : (putN E j).length = 32 := by
  rw [putN, List.length_append, List.length_take, List.length_replicate]; omega

namespace refExp
set_option maxRecDepth 10000 in
set_option maxHeartbeats 800000 in
theorem Key (A : Option Addr) (n c : Nat) (b : List UInt8) (hb : n ≤ 70368744177600) (l : List UInt8) (m : Nat) (hl : l.length = m) (hm : m ≤ 70368744177000) (w : World) (hA : Bytes w A n c b) :
    Calls Tryd.prog 10 #[.slice A n c, .string (str l)] w fun e w' => e = .returned (.agg ((dkN b l).map bv).toArray) ∧ Below w.heap.size w w' := by
  have HR1 := newKey w
  have hb1 := newKey_below (Below.refl w.heap.size w) (Nat.le_refl _)
  have HR3 := (HR1.alloc (.cells #[.int .u8 0, .int .u8 0, .int .u8 0, .int .u8 0, .int .u8 0, .int .u8 0, .int .u8 0, .int .u8 0, .int .u8 0, .int .u8 0, .int .u8 0, .int .u8 0, .int .u8 0, .int .u8 0, .int .u8 0, .int .u8 0, .int .u8 0, .int .u8 0, .int .u8 0, .int .u8 0, .int .u8 0, .int .u8 0, .int .u8 0, .int .u8 0, .int .u8 0, .int .u8 0, .int .u8 0, .int .u8 0, .int .u8 0, .int .u8 0, .int .u8 0, .int .u8 0] 23)).alloc (.cells #[.int .u8 0, .int .u8 0, .int .u8 0, .int .u8 0, .int .u8 0, .int .u8 0, .int .u8 0, .int .u8 0, .int .u8 0, .int .u8 0, .int .u8 0, .int .u8 0, .int .u8 0, .int .u8 0, .int .u8 0, .int .u8 0, .int .u8 0, .int .u8 0, .int .u8 0, .int .u8 0, .int .u8 0, .int .u8 0, .int .u8 0, .int .u8 0, .int .u8 0, .int .u8 0, .int .u8 0, .int .u8 0, .int .u8 0, .int .u8 0, .int .u8 0, .int .u8 0] 23)
  have HS2 := (newKey (w.alloc (.cells #[.int .u8 0, .int .u8 0, .int .u8 0, .int .u8 0, .int .u8 0, .int .u8 0, .int .u8 0, .int .u8 0, .int .u8 0, .int .u8 0, .int .u8 0, .int .u8 0, .int .u8 0, .int .u8 0, .int .u8 0, .int .u8 0, .int .u8 0, .int .u8 0, .int .u8 0, .int .u8 0, .int .u8 0, .int .u8 0, .int .u8 0, .int .u8 0, .int .u8 0, .int .u8 0, .int .u8 0, .int .u8 0, .int .u8 0, .int .u8 0, .int .u8 0, .int .u8 0] 23))).at_ (show _ = w.heap.size + 1 by simp)
  have HS3 := HS2.alloc (.cells #[.int .u8 0, .int .u8 0, .int .u8 0, .int .u8 0, .int .u8 0, .int .u8 0, .int .u8 0, .int .u8 0, .int .u8 0, .int .u8 0, .int .u8 0, .int .u8 0, .int .u8 0, .int .u8 0, .int .u8 0, .int .u8 0, .int .u8 0, .int .u8 0, .int .u8 0, .int .u8 0, .int .u8 0, .int .u8 0, .int .u8 0, .int .u8 0, .int .u8 0, .int .u8 0, .int .u8 0, .int .u8 0, .int .u8 0, .int .u8 0, .int .u8 0, .int .u8 0] 23)
  have hb2 := newKey_below hb1 hb1.size
  have HK3 := (newKey ((w.alloc (.cells #[.int .u8 0, .int .u8 0, .int .u8 0, .int .u8 0, .int .u8 0, .int .u8 0, .int .u8 0, .int .u8 0, .int .u8 0, .int .u8 0, .int .u8 0, .int .u8 0, .int .u8 0, .int .u8 0, .int .u8 0, .int .u8 0, .int .u8 0, .int .u8 0, .int .u8 0, .int .u8 0, .int .u8 0, .int .u8 0, .int .u8 0, .int .u8 0, .int .u8 0, .int .u8 0, .int .u8 0, .int .u8 0, .int .u8 0, .int .u8 0, .int .u8 0, .int .u8 0] 23)).alloc (.cells #[.int .u8 0, .int .u8 0, .int .u8 0, .int .u8 0, .int .u8 0, .int .u8 0, .int .u8 0, .int .u8 0, .int .u8 0, .int .u8 0, .int .u8 0, .int .u8 0, .int .u8 0, .int .u8 0, .int .u8 0, .int .u8 0, .int .u8 0, .int .u8 0, .int .u8 0, .int .u8 0, .int .u8 0, .int .u8 0, .int .u8 0, .int .u8 0, .int .u8 0, .int .u8 0, .int .u8 0, .int .u8 0, .int .u8 0, .int .u8 0, .int .u8 0, .int .u8 0] 23))).at_ (show _ = w.heap.size + 2 by simp)
  have hb3 := newKey_below hb2 hb2.size
  have HLM := Lib.hid hl
  go_enter Tryd.func10, Tryd.ntmps10
  go_wp2_with fail
  change Calls _ _ _ (((w.alloc (.cells #[.int .u8 0, .int .u8 0, .int .u8 0, .int .u8 0, .int .u8 0, .int .u8 0, .int .u8 0, .int .u8 0, .int .u8 0, .int .u8 0, .int .u8 0, .int .u8 0, .int .u8 0, .int .u8 0, .int .u8 0, .int .u8 0, .int .u8 0, .int .u8 0, .int .u8 0, .int .u8 0, .int .u8 0, .int .u8 0, .int .u8 0, .int .u8 0, .int .u8 0, .int .u8 0, .int .u8 0, .int .u8 0, .int .u8 0, .int .u8 0, .int .u8 0, .int .u8 0] 23)).alloc (.cells #[.int .u8 0, .int .u8 0, .int .u8 0, .int .u8 0, .int .u8 0, .int .u8 0, .int .u8 0, .int .u8 0, .int .u8 0, .int .u8 0, .int .u8 0, .int .u8 0, .int .u8 0, .int .u8 0, .int .u8 0, .int .u8 0, .int .u8 0, .int .u8 0, .int .u8 0, .int .u8 0, .int .u8 0, .int .u8 0, .int .u8 0, .int .u8 0, .int .u8 0, .int .u8 0, .int .u8 0, .int .u8 0, .int .u8 0, .int .u8 0, .int .u8 0, .int .u8 0] 23)).alloc (.cells #[.int .u8 0, .int .u8 0, .int .u8 0, .int .u8 0, .int .u8 0, .int .u8 0, .int .u8 0, .int .u8 0, .int .u8 0, .int .u8 0, .int .u8 0, .int .u8 0, .int .u8 0, .int .u8 0, .int .u8 0, .int .u8 0, .int .u8 0, .int .u8 0, .int .u8 0, .int .u8 0, .int .u8 0, .int .u8 0, .int .u8 0, .int .u8 0, .int .u8 0, .int .u8 0, .int .u8 0, .int .u8 0, .int .u8 0, .int .u8 0, .int .u8 0, .int .u8 0] 23)) _
  generalize (((w.alloc (.cells #[.int .u8 0, .int .u8 0, .int .u8 0, .int .u8 0, .int .u8 0, .int .u8 0, .int .u8 0, .int .u8 0, .int .u8 0, .int .u8 0, .int .u8 0, .int .u8 0, .int .u8 0, .int .u8 0, .int .u8 0, .int .u8 0, .int .u8 0, .int .u8 0, .int .u8 0, .int .u8 0, .int .u8 0, .int .u8 0, .int .u8 0, .int .u8 0, .int .u8 0, .int .u8 0, .int .u8 0, .int .u8 0, .int .u8 0, .int .u8 0, .int .u8 0, .int .u8 0] 23)).alloc (.cells #[.int .u8 0, .int .u8 0, .int .u8 0, .int .u8 0, .int .u8 0, .int .u8 0, .int .u8 0, .int .u8 0, .int .u8 0, .int .u8 0, .int .u8 0, .int .u8 0, .int .u8 0, .int .u8 0, .int .u8 0, .int .u8 0, .int .u8 0, .int .u8 0, .int .u8 0, .int .u8 0, .int .u8 0, .int .u8 0, .int .u8 0, .int .u8 0, .int .u8 0, .int .u8 0, .int .u8 0, .int .u8 0, .int .u8 0, .int .u8 0, .int .u8 0, .int .u8 0] 23)).alloc (.cells #[.int .u8 0, .int .u8 0, .int .u8 0, .int .u8 0, .int .u8 0, .int .u8 0, .int .u8 0, .int .u8 0, .int .u8 0, .int .u8 0, .int .u8 0, .int .u8 0, .int .u8 0, .int .u8 0, .int .u8 0, .int .u8 0, .int .u8 0, .int .u8 0, .int .u8 0, .int .u8 0, .int .u8 0, .int .u8 0, .int .u8 0, .int .u8 0, .int .u8 0, .int .u8 0, .int .u8 0, .int .u8 0, .int .u8 0, .int .u8 0, .int .u8 0, .int .u8 0] 23)) = w2 at *
  have hz : Bytes w2 (some ⟨w.heap.size + 1, 0, none⟩) 32 32 (List.replicate 32 0) := Has.bytes (l := List.replicate 32 0) HS3 32 (by simp) (by simp [maxLen])
  obtain ⟨K, hK⟩ : ∃ K, K = macN (List.replicate 32 0) b := ⟨_, rfl⟩
  have hKl : K.length = 32 := by rw [hK, macN_len]
  have C0 := refMac.Mac _ 32 32 _ A n c b w2 hz (hA.keep hb3) (by omega) hb
  rw [← hK] at C0
  have C := Lib.hid C0
  have HK0 := Lib.hid (And.intro hK hKl)
  clear C0 hK hKl hz hb1 HR1 hb2 HS2 HS3
  refine (C.out).mono ?_
  rintro e w3 ⟨rfl, hb4⟩
  have hbw3 := hb3.trans (hb4.mono hb3.size)
  have HRA := HR3.keep hb4 HR3.lt
  have HKA := HK3.keep hb4 HK3.lt
  obtain ⟨E, hE⟩ : ∃ E, E = expN K l 32 := ⟨_, rfl⟩
  have hEl : E.length = 32 := by rw [hE, expN_len]
  have C1 := ExpandIn K HK0.out.2 l m HLM.out hm 32 (by omega) (by omega) w3
  rw [← hE] at C1
  have C2 := Lib.hid C1
  have HE := Lib.hid (And.intro hE hEl)
  clear C C1 hE hEl HR3 HK3 hb3 hb4
  go_wp2_with fail
  refine (C2.out).mono ?_
  rintro e w4 ⟨v4, rfl, hown4, hb4⟩
  have hbw4 := hbw3.trans (hb4.mono hbw3.size)
  have HR4 := HRA.keep hb4 HRA.lt
  have HK4 := HKA.keep hb4 HKA.lt
  have hk3 := HKA.lt
  obtain ⟨g4, c4, rfl, hg4, hg4lt, hr4⟩ := own_addr hown4 (by omega)
  have hP : putN E 0 = List.replicate 32 0 := by rw [putN, List.take_zero, List.nil_append]
  have HP0 : Has w4 (w.heap.size + 2) 23 ((putN E 0).map bv) := by rw [hP]; exact HK4
  clear C2 HRA HKA hbw3 hown4 hb4 HK4 hP
  go_wp2_with fail
  go_loopw [8] (fun i wr => ∃ j : Nat, j ≤ 32 ∧ i = .int .i64 j ∧ Has wr (w.heap.size + 2) 23 ((putN E j).map bv) ∧ Has wr w.heap.size 23 zkey ∧ Bytes wr (some ⟨g4, 0, none⟩) 32 c4 E ∧ Below w.heap.size w wr) (fun i _ => 32 - (intOf i).toNat)
  case atStart => exact ⟨0, by omega, rfl, HP0, HR4, hr4, hbw4⟩
  case round =>
    clear HP0 HR4 hr4 hbw4
    obtain ⟨j, hj, rfl, HK, HR, hr, hb⟩ := hrel
    by_cases hlt : j < 32
    · obtain ⟨b4, o4, e4, hb4lt, hc4⟩ := hr.at_ (by omega)
      obtain ⟨rfl, rfl⟩ : g4 = b4 ∧ 0 = o4 := by cases e4; exact ⟨rfl, rfl⟩
      have cx := hc4 j hlt
      rw [Nat.zero_add] at cx
      obtain ⟨x, hx⟩ : ∃ x, x = (E.getD j 0).toNat := ⟨_, rfl⟩
      rw [← hx] at cx
      obtain ⟨vk, ck⟩ : ∃ v, wr.cell? ⟨w.heap.size + 2, j, none⟩ = some v := ⟨_, (HK.cell j).trans (List.getElem?_eq_getElem (by rw [List.length_map, putN_len E HE.out.2 j hj]; exact hlt))⟩
      have fk := HK.froz j
      have HXX := Lib.hid hx
      clear hx hc4 e4
      go_wp2
      go_roundw
      case rel =>
        have e1 := putN_set E HE.out.2 j hlt
        rw [← HXX.out] at e1
        have H1 := HK.set j (.int .u8 (x : Int))
        rw [e1] at H1
        have hoff : Off (w.heap.size + 2) (some ⟨g4, 0, none⟩) 32 := fun _ p hp => by cases hp; show g4 ≠ w.heap.size + 2; omega
        exact ⟨j + 1, by omega, by go_num, H1, HR.far ⟨w.heap.size + 2, j, none⟩ (by show w.heap.size ≠ w.heap.size + 2; omega) _, Row.only hr (Only.setCell wr (w.heap.size + 2) j _) hoff, hb.setCell (by show w.heap.size ≤ w.heap.size + 2; omega) _⟩
      case measure => simp [intOf]; omega
    · obtain rfl : j = 32 := by omega
      have hE : putN E 32 = E := by rw [putN, List.take_of_length_le (Nat.le_of_eq HE.out.2), Nat.sub_self, List.replicate_zero, List.append_nil]
      rw [hE] at HK
      have SZ := Lib.hid (show (Tryd.prog.info? 23).map (·.size) = some (E.map bv).length by rw [List.length_map, HE.out.2]; exact size_key)
      clear hE hlt hr
      go_wp2_with (first
        | ((with_reducible refine wpList_load_has rfl 23 (.tmp 6) rfl (w.heap.size + 2) rfl 23 (E.map bv) HK _ Tryd.underlying23 rfl SZ.out ?_))
        | ((with_reducible refine wpList_store_key rfl (.tmp 4) (.tmp 24) rfl w.heap.size rfl E HE.out.2 rfl zkey HR rfl ?_); intro w5 o5 H5))
      refine ret_key Tryd.results10 w.heap.size ?_ E HE.out.2 H5 ?_ ⟨by rw [HE.out.1, HK0.out.1]; rfl, o5.below hb (Nat.le_refl _)⟩
      · rfl
      · rfl
end refExp
end Go.Proofs.YtcnpbgmdmifhaaaDoor
