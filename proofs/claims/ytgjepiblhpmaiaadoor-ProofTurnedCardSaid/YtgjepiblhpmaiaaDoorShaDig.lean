/-
  A digest that has taken in the bytes m; the contract of write in these words; newDigest.
-/
import Derived.Test.YtgjepiblhpmaiaaDoorShaWrite
import Derived.Great.BuildSlice
import Derived.Deep.WholeRow
namespace Go.Proofs.YtgjepiblhpmaiaaDoor
open Go.ChangeShapes Go.WideShapes Go.ChangeAt Go.RowKit
set_option linter.unusedVariables false
set_option linter.unusedSimpArgs false

theorem h0N_ok : h0N.ok := ⟨by decide, by decide, by decide, by decide, by decide, by decide, by decide, by decide⟩
theorem hashN_ok (l : List UInt8) (n : Nat) : (hashN l n).ok := by
  cases n with
  | zero => exact h0N_ok
  | succ n => exact addN_ok _ _
theorem hashN_append (m l : List UInt8) (q : Nat) (h : 64 * q ≤ m.length) : hashN (m ++ l) q = hashN m q := by
  induction q with
  | zero => rfl
  | succ q ih =>
    rw [hashN, hashN, ih (by omega), List.drop_append_of_le_length (by omega), List.take_append_of_le_length (by simp; omega)]
theorem hashN_blocks (l : List UInt8) (q j : Nat) : hashN l (q + j) = blocksN (hashN l q) (l.drop (64 * q)) j := by
  induction j with
  | zero => rfl
  | succ j ih => rw [← Nat.add_assoc, hashN, blocksN, ih, List.drop_drop, Nat.mul_add]

/-- Block g holds a digest that has taken in the bytes m. -/
def Dig (w : World) (g : Nat) (m : List UInt8) : Prop :=
  ∃ rest : List UInt8, rest.length = 64 ∧ rest.take (m.length % 64) = m.drop (64 * (m.length / 64)) ∧
    Has w g 58 (dcells (hashN m (m.length / 64)) rest (m.length % 64) (m.length % 18446744073709551616))
theorem Dig.lt {w : World} {g : Nat} {m : List UInt8} (h : Dig w g m) : g < w.heap.size := by
  obtain ⟨_, _, _, H⟩ := h
  exact H.lt
theorem Dig.keep {w w' : World} {g : Nat} {m : List UInt8} (h : Dig w g m) (hb : Below w.heap.size w w') : Dig w' g m := by
  obtain ⟨rest, h1, h2, H⟩ := h
  exact ⟨rest, h1, h2, H.keep hb H.lt⟩

theorem splice_take (rest xs : List UInt8) (r : Nat) (h : r + xs.length ≤ rest.length) : (splice rest r xs).take (r + xs.length) = rest.take r ++ xs := by
  have h1 : (rest.take r).length = r := by rw [List.length_take]; omega
  have h2 : r + xs.length = (rest.take r ++ xs).length := by rw [List.length_append, h1]
  rw [splice, ← List.append_assoc, h2, List.take_left']
  rfl
theorem drop_cat (m l : List UInt8) (a : Nat) (h : m.length ≤ a) : (m ++ l).drop a = l.drop (a - m.length) := by
  rw [List.drop_append, List.drop_eq_nil_of_le h, List.nil_append]

namespace sha
theorem write (g : Nat) (m : List UInt8) (A : Option Addr) (n c : Nat) (l : List UInt8) (w : World) (hd : Dig w g m) (hl : Bytes w A n c l) (hA : Off g A n) (hT : Tab w) (hG : 0 ≠ g) :
    Calls Tryd.prog 43 #[.pointer (some ⟨g, 0, none⟩), .slice A n c] w fun e w' => e = .returned (.tuple #[]) ∧ Dig w' g (m ++ l) ∧ Save g w w' := by
  obtain ⟨rest, hrest, hm, H⟩ := hd
  have hn := hl.len
  have hlen : (m ++ l).length = m.length + n := by rw [List.length_append, hn]
  have hmod : m.length % 18446744073709551616 < 18446744073709551616 := Nat.mod_lt _ (by decide)
  have e64 : (m.length % 18446744073709551616 + n) % 18446744073709551616 = (m ++ l).length % 18446744073709551616 := by rw [hlen]; omega
  obtain ⟨q, hq⟩ : ∃ q, q = m.length / 64 := ⟨_, rfl⟩
  obtain ⟨r, hr⟩ : ∃ r, r = m.length % 64 := ⟨_, rfl⟩
  rw [← hq, ← hr] at H hm
  have hqr : m.length = 64 * q + r := by omega
  rcases Nat.eq_zero_or_pos r with h0 | h0
  · rw [h0] at H
    refine (write_zero g _ rest _ A n c l w (hashN_ok m q) hrest hmod H hl hA hT hG).mono ?_
    rintro e w' ⟨he, H', hs⟩
    refine ⟨he, ⟨splice rest 0 (l.drop (64 * (n / 64))), ?_, ?_, ?_⟩, hs⟩
    · rw [length_splice _ _ _ (by rw [List.length_drop]; omega), hrest]
    · have e1 : (m ++ l).length % 64 = 0 + (l.drop (64 * (n / 64))).length := by rw [hlen, List.length_drop]; omega
      rw [e1, splice_take _ _ _ (by rw [List.length_drop]; omega), drop_cat _ _ _ (by rw [hlen]; omega)]
      have e2 : 64 * ((m ++ l).length / 64) - m.length = 64 * (n / 64) := by rw [hlen]; omega
      rw [e2]
      simp
    · have e1 : (m ++ l).length / 64 = q + n / 64 := by rw [hlen]; omega
      have e2 : (m ++ l).length % 64 = n % 64 := by rw [hlen]; omega
      have e3 : (m ++ l).drop (64 * q) = l := by rw [drop_cat _ _ _ (by omega), show 64 * q - m.length = 0 by omega, List.drop_zero]
      rw [e1, e2, ← e64, hashN_blocks, hashN_append _ _ _ (by omega), e3]
      exact H'
  · by_cases h1 : r + n < 64
    · refine (write_short g _ rest r _ A n c l w hrest h0 h1 hmod H hl hA).mono ?_
      rintro e w' ⟨he, H', hs⟩
      refine ⟨he, ⟨splice rest r l, ?_, ?_, ?_⟩, hs⟩
      · rw [length_splice _ _ _ (by omega), hrest]
      · have e1 : (m ++ l).length % 64 = r + l.length := by rw [hlen]; omega
        have e2 : (m ++ l).length / 64 = q := by rw [hlen]; omega
        rw [e1, e2, splice_take _ _ _ (by omega), hm, List.drop_append_of_le_length (by omega)]
      · have e1 : (m ++ l).length / 64 = q := by rw [hlen]; omega
        have e2 : (m ++ l).length % 64 = r + n := by rw [hlen]; omega
        rw [e1, e2, ← e64, hashN_append _ _ _ (by omega)]
        exact H'
    · have hk : (l.take (64 - r)).length = 64 - r := by rw [List.length_take]; omega
      have hjoin : splice rest r (l.take (64 - r)) = ((m ++ l).drop (64 * q)).take 64 := by
        have e0 := splice_take rest (l.take (64 - r)) r (by omega)
        have e1 : (splice rest r (l.take (64 - r))).length = 64 := by rw [length_splice _ _ _ (by omega), hrest]
        rw [hk, show r + (64 - r) = 64 by omega, List.take_of_length_le (by omega)] at e0
        have e2 : (m.drop (64 * q)).length = r := by rw [List.length_drop]; omega
        rw [e0, hm, List.drop_append_of_le_length (by omega), List.take_append, e2, List.take_of_length_le (l := m.drop (64 * q)) (i := 64) (by omega)]
      refine (write_join g _ _ rest _ r (64 - r) _ A n _ c l _ w (hashN_ok m q) hrest h0 (by omega) rfl (by omega) hmod rfl rfl rfl rfl H hl hA hT hG).mono ?_
      rintro e w' ⟨he, H', hs⟩
      rw [hjoin] at H'
      have e3 : compN (hashN m q) (((m ++ l).drop (64 * q)).take 64) = hashN (m ++ l) (q + 1) := by rw [hashN, hashN_append _ _ _ (by omega)]
      have e4 : l.drop (64 - r) = (m ++ l).drop (64 * (q + 1)) := by rw [drop_cat _ _ _ (by omega), show 64 * (q + 1) - m.length = 64 - r by omega]
      have e5 : (m ++ l).length / 64 = (q + 1) + (n - (64 - r)) / 64 := by rw [hlen]; omega
      have e6 : (m ++ l).length % 64 = (n - (64 - r)) % 64 := by rw [hlen]; omega
      have e7 : (((m ++ l).drop (64 * (q + 1))).drop (64 * ((n - (64 - r)) / 64))) = (m ++ l).drop (64 * ((m ++ l).length / 64)) := by rw [List.drop_drop, e5]; congr 1; omega
      have e8 : ((m ++ l).drop (64 * ((m ++ l).length / 64))).length = (m ++ l).length % 64 := by rw [List.length_drop]; omega
      have e9 : (((m ++ l).drop (64 * q)).take 64).length = 64 := by rw [List.length_take, List.length_drop, hlen]; omega
      rw [e3, e4, e7, ← hashN_blocks, ← e5, ← e6, e64] at H'
      refine ⟨he, ⟨_, ?_, ?_, H'⟩, hs⟩
      · rw [length_splice _ _ _ (by rw [e8, e9]; omega), e9]
      · have := splice_take (((m ++ l).drop (64 * q)).take 64) ((m ++ l).drop (64 * ((m ++ l).length / 64))) 0 (by rw [e8, e9]; omega)
        rw [e8, Nat.zero_add, List.take_zero, List.nil_append] at this
        exact this

set_option maxRecDepth 100000 in
theorem zero_digest : (Tryd.prog.info? 58).map (fun i => (i.zero, i.size)) = some (some (.agg (dcells ⟨0, 0, 0, 0, 0, 0, 0, 0⟩ (List.replicate 64 0) 0 0).toArray), 74) := by kernel_rfl
set_option maxRecDepth 100000 in
theorem one_dcells0 (s : S8) : ∀ u ∈ dcells s (List.replicate 64 0) 0 0, u.oneCell' = true := by
  intro u hu
  rcases List.mem_append.1 hu with h | h
  · exact one_uv _ u h
  · rcases List.mem_append.1 h with h | h
    · exact one_bv _ u h
    · simp at h
      rcases h with rfl | rfl <;> rfl
set_option maxHeartbeats 400000 in
set_option maxRecDepth 100000 in
theorem newDigest (w : World) : Calls Tryd.prog 42 #[] w fun e w' => e = .returned (.agg (dcells h0N (List.replicate 64 0) 0 0).toArray) ∧ Below w.heap.size w w' := by
  obtain ⟨hz, hsz⟩ := zero_of_info zero_digest
  have H0 := Has.new w 58 (dcells ⟨0, 0, 0, 0, 0, 0, 0, 0⟩ (List.replicate 64 0) 0 0)
  have hb := (Below.refl w.heap.size w).alloc (Nat.le_refl _) (.cells (dcells ⟨0, 0, 0, 0, 0, 0, 0, 0⟩ (List.replicate 64 0) 0 0).toArray 58)
  have L1 := dcells_len (s := ⟨0, 0, 0, 0, 0, 0, 0, 0⟩) (held := 0) (len := 0) (rest := List.replicate 64 0) (by simp)
  have L2 := dcells_len (s := h0N) (held := 0) (len := 0) (rest := List.replicate 64 0) (by simp)
  have SZ := Lib.hid (show (Tryd.prog.info? 58).map (·.size) = some (dcells h0N (List.replicate 64 0) 0 0).length by rw [L2]; exact hsz)
  have LL := Lib.hid (L1.trans L2.symm)
  obtain ⟨z, hzz⟩ : ∃ z, z = dcells ⟨0, 0, 0, 0, 0, 0, 0, 0⟩ (List.replicate 64 0) 0 0 := ⟨_, rfl⟩
  obtain ⟨d, hd⟩ : ∃ d, d = dcells h0N (List.replicate 64 0) 0 0 := ⟨_, rfl⟩
  have hset : (((((((z.set 0 (.int .u32 1779033703)).set 1 (.int .u32 3144134277)).set 2 (.int .u32 1013904242)).set 3 (.int .u32 2773480762)).set 4 (.int .u32 1359893119)).set 5 (.int .u32 2600822924)).set 6 (.int .u32 528734635)).set 7 (.int .u32 1541459225) = d := by
    rw [hzz, hd]; rfl
  have hz8 : ¬ z.length < 8 := by rw [hzz, L1]; omega
  have OC := Lib.hid (one_dcells0 h0N)
  rw [← hzz] at hz H0 hb LL
  rw [← hd] at SZ OC LL
  have Hd := Lib.hid hd
  clear L1 L2 hsz hzz hd
  go_enter Tryd.func42, Tryd.ntmps42
  go_wp2_with ((with_reducible refine wpList_store_has rfl 58 (.tmp 0) (.tmp 2) rfl w.heap.size rfl d rfl 58 z H0 SZ.out LL.out OC.out ?_); intro w2 o2 H2)
  refine ret_has Tryd.results42 w.heap.size ?_ 58 d H2 _ Tryd.underlying58 rfl SZ.out ?_ ⟨by rw [Hd.out], o2.below hb (Nat.le_refl _)⟩
  · rfl
  · rfl
/-- A new digest has taken in nothing. -/
theorem dig_new {w : World} {g : Nat} (h : Has w g 58 (dcells h0N (List.replicate 64 0) 0 0)) : Dig w g [] := ⟨List.replicate 64 0, rfl, rfl, h⟩
end sha
end Go.Proofs.YtgjepiblhpmaiaaDoor
