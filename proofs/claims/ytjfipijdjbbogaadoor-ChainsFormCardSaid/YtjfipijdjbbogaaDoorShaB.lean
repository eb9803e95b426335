/-
  Several texts in one.
-/
import Derived.Test.YtjfipijdjbbogaaDoorShaWrite
import Derived.Great.BuildSlice
import Derived.Deep.WholeRow
import Derived.Test.YtjfipijdjbbogaaDoorLow
import Derived.Lib.LaidTab
import Derived.LaidMore
/-
  A digest that has taken in the bytes m; the contract of write in these words; newDigest.
-/
namespace Go.Proofs.YtjfipijdjbbogaaDoor
open Go.ChangeShapes Go.WideShapes Go.ChangeAt Go.RowKit
set_option linter.unusedVariables false
set_option linter.unusedSimpArgs false

theorem h0N_ok : h0N.ok := ⟨by decide, by decide, by decide, by decide, by decide, by decide, by decide, by decide⟩
theorem hashN_ok (l : List UInt8) (n : Nat) : (hashN l n).ok := by
  cases n with
  | zero => exact h0N_ok
  | succ n => exact addN_ok _ _
theorem hashN_append (m l : List UInt8) (q : Nat) (h : 64 * q ≤ m.length) : hashN (m ++ l) q = hashN m q := by
  induction q with
  | zero => rfl
  | succ q ih =>
    rw [hashN, hashN, ih (by omega), List.drop_append_of_le_length (by omega), List.take_append_of_le_length (by simp; omega)]
theorem hashN_blocks (l : List UInt8) (q j : Nat) : hashN l (q + j) = blocksN (hashN l q) (l.drop (64 * q)) j := by
  induction j with
  | zero => rfl
  | succ j ih => rw [← Nat.add_assoc, hashN, blocksN, ih, List.drop_drop, Nat.mul_add]

/-- Block g holds a digest that has taken in the bytes m. -/
def Dig (w : World) (g : Nat) (m : List UInt8) : Prop :=
  ∃ rest : List UInt8, rest.length = 64 ∧ rest.take (m.length % 64) = m.drop (64 * (m.length / 64)) ∧
    Has w g 93 (dcells (hashN m (m.length / 64)) rest (m.length % 64) (m.length % 18446744073709551616))
theorem Dig.lt {w : World} {g : Nat} {m : List UInt8} (h : Dig w g m) : g < w.heap.size := by
  obtain ⟨_, _, _, H⟩ := h
  exact H.lt
theorem Dig.keep {w w' : World} {g : Nat} {m : List UInt8} (h : Dig w g m) (hb : Below w.heap.size w w') : Dig w' g m := by
  obtain ⟨rest, h1, h2, H⟩ := h
  exact ⟨rest, h1, h2, H.keep hb H.lt⟩

theorem splice_take (rest xs : List UInt8) (r : Nat) (h : r + xs.length ≤ rest.length) : (splice rest r xs).take (r + xs.length) = rest.take r ++ xs := by
  have h1 : (rest.take r).length = r := by rw [List.length_take]; omega
  have h2 : r + xs.length = (rest.take r ++ xs).length := by rw [List.length_append, h1]
  rw [splice, ← List.append_assoc, h2, List.take_left']
  rfl
theorem drop_cat (m l : List UInt8) (a : Nat) (h : m.length ≤ a) : (m ++ l).drop a = l.drop (a - m.length) := by
  rw [List.drop_append, List.drop_eq_nil_of_le h, List.nil_append]

namespace sha
theorem write (g : Nat) (m : List UInt8) (A : Option Addr) (n c : Nat) (l : List UInt8) (w : World) (hd : Dig w g m) (hl : Bytes w A n c l) (hA : Off g A n) (hT : Tab w) (hG : 3 ≠ g) :
    Calls Tryd.prog 55 #[.pointer (some ⟨g, 0, none⟩), .slice A n c] w fun e w' => e = .returned (.tuple #[]) ∧ Dig w' g (m ++ l) ∧ Save g w w' := by
  obtain ⟨rest, hrest, hm, H⟩ := hd
  have hn := hl.len
  have hlen : (m ++ l).length = m.length + n := by rw [List.length_append, hn]
  have hmod : m.length % 18446744073709551616 < 18446744073709551616 := Nat.mod_lt _ (by decide)
  have e64 : (m.length % 18446744073709551616 + n) % 18446744073709551616 = (m ++ l).length % 18446744073709551616 := by rw [hlen]; omega
  obtain ⟨q, hq⟩ : ∃ q, q = m.length / 64 := ⟨_, rfl⟩
  obtain ⟨r, hr⟩ : ∃ r, r = m.length % 64 := ⟨_, rfl⟩
  rw [← hq, ← hr] at H hm
  have hqr : m.length = 64 * q + r := by omega
  rcases Nat.eq_zero_or_pos r with h0 | h0
  · rw [h0] at H
    refine (write_zero g _ rest _ A n c l w (hashN_ok m q) hrest hmod H hl hA hT hG).mono ?_
    rintro e w' ⟨he, H', hs⟩
    refine ⟨he, ⟨splice rest 0 (l.drop (64 * (n / 64))), ?_, ?_, ?_⟩, hs⟩
    · rw [length_splice _ _ _ (by rw [List.length_drop]; omega), hrest]
    · have e1 : (m ++ l).length % 64 = 0 + (l.drop (64 * (n / 64))).length := by rw [hlen, List.length_drop]; omega
      rw [e1, splice_take _ _ _ (by rw [List.length_drop]; omega), drop_cat _ _ _ (by rw [hlen]; omega)]
      have e2 : 64 * ((m ++ l).length / 64) - m.length = 64 * (n / 64) := by rw [hlen]; omega
      rw [e2]
      simp
    · have e1 : (m ++ l).length / 64 = q + n / 64 := by rw [hlen]; omega
      have e2 : (m ++ l).length % 64 = n % 64 := by rw [hlen]; omega
      have e3 : (m ++ l).drop (64 * q) = l := by rw [drop_cat _ _ _ (by omega), show 64 * q - m.length = 0 by omega, List.drop_zero]
      rw [e1, e2, ← e64, hashN_blocks, hashN_append _ _ _ (by omega), e3]
      exact H'
  · by_cases h1 : r + n < 64
    · refine (write_short g _ rest r _ A n c l w hrest h0 h1 hmod H hl hA).mono ?_
      rintro e w' ⟨he, H', hs⟩
      refine ⟨he, ⟨splice rest r l, ?_, ?_, ?_⟩, hs⟩
      · rw [length_splice _ _ _ (by omega), hrest]
      · have e1 : (m ++ l).length % 64 = r + l.length := by rw [hlen]; omega
        have e2 : (m ++ l).length / 64 = q := by rw [hlen]; omega
        rw [e1, e2, splice_take _ _ _ (by omega), hm, List.drop_append_of_le_length (by omega)]
      · have e1 : (m ++ l).length / 64 = q := by rw [hlen]; omega
        have e2 : (m ++ l).length % 64 = r + n := by rw [hlen]; omega
        rw [e1, e2, ← e64, hashN_append _ _ _ (by omega)]
        exact H'
    · have hk : (l.take (64 - r)).length = 64 - r := by rw [List.length_take]; omega
      have hjoin : splice rest r (l.take (64 - r)) = ((m ++ l).drop (64 * q)).take 64 := by
        have e0 := splice_take rest (l.take (64 - r)) r (by omega)
        have e1 : (splice rest r (l.take (64 - r))).length = 64 := by rw [length_splice _ _ _ (by omega), hrest]
        rw [hk, show r + (64 - r) = 64 by omega, List.take_of_length_le (by omega)] at e0
        have e2 : (m.drop (64 * q)).length = r := by rw [List.length_drop]; omega
        rw [e0, hm, List.drop_append_of_le_length (by omega), List.take_append, e2, List.take_of_length_le (l := m.drop (64 * q)) (i := 64) (by omega)]
      refine (write_join g _ _ rest _ r (64 - r) _ A n _ c l _ w (hashN_ok m q) hrest h0 (by omega) rfl (by omega) hmod rfl rfl rfl rfl H hl hA hT hG).mono ?_
      rintro e w' ⟨he, H', hs⟩
      rw [hjoin] at H'
      have e3 : compN (hashN m q) (((m ++ l).drop (64 * q)).take 64) = hashN (m ++ l) (q + 1) := by rw [hashN, hashN_append _ _ _ (by omega)]
      have e4 : l.drop (64 - r) = (m ++ l).drop (64 * (q + 1)) := by rw [drop_cat _ _ _ (by omega), show 64 * (q + 1) - m.length = 64 - r by omega]
      have e5 : (m ++ l).length / 64 = (q + 1) + (n - (64 - r)) / 64 := by rw [hlen]; omega
      have e6 : (m ++ l).length % 64 = (n - (64 - r)) % 64 := by rw [hlen]; omega
      have e7 : (((m ++ l).drop (64 * (q + 1))).drop (64 * ((n - (64 - r)) / 64))) = (m ++ l).drop (64 * ((m ++ l).length / 64)) := by rw [List.drop_drop, e5]; congr 1; omega
      have e8 : ((m ++ l).drop (64 * ((m ++ l).length / 64))).length = (m ++ l).length % 64 := by rw [List.length_drop]; omega
      have e9 : (((m ++ l).drop (64 * q)).take 64).length = 64 := by rw [List.length_take, List.length_drop, hlen]; omega
      rw [e3, e4, e7, ← hashN_blocks, ← e5, ← e6, e64] at H'
      refine ⟨he, ⟨_, ?_, ?_, H'⟩, hs⟩
      · rw [length_splice _ _ _ (by rw [e8, e9]; omega), e9]
      · have := splice_take (((m ++ l).drop (64 * q)).take 64) ((m ++ l).drop (64 * ((m ++ l).length / 64))) 0 (by rw [e8, e9]; omega)
        rw [e8, Nat.zero_add, List.take_zero, List.nil_append] at this
        exact this

set_option maxRecDepth 100000 in
theorem zero_digest : (Tryd.prog.info? 93).map (fun i => (i.zero, i.size)) = some (some (.agg (dcells ⟨0, 0, 0, 0, 0, 0, 0, 0⟩ (List.replicate 64 0) 0 0).toArray), 74) := by kernel_rfl
set_option maxRecDepth 100000 in
theorem one_dcells0 (s : S8) : ∀ u ∈ dcells s (List.replicate 64 0) 0 0, u.oneCell' = true := by
  intro u hu
  rcases List.mem_append.1 hu with h | h
  · exact one_uv _ u h
  · rcases List.mem_append.1 h with h | h
    · exact one_bv _ u h
    · simp at h
      rcases h with rfl | rfl <;> rfl
set_option maxHeartbeats 400000 in
set_option maxRecDepth 100000 in
theorem newDigest (w : World) : Calls Tryd.prog 54 #[] w fun e w' => e = .returned (.agg (dcells h0N (List.replicate 64 0) 0 0).toArray) ∧ Below w.heap.size w w' := by
  obtain ⟨hz, hsz⟩ := zero_of_info zero_digest
  have H0 := Has.new w 93 (dcells ⟨0, 0, 0, 0, 0, 0, 0, 0⟩ (List.replicate 64 0) 0 0)
  have hb := (Below.refl w.heap.size w).alloc (Nat.le_refl _) (.cells (dcells ⟨0, 0, 0, 0, 0, 0, 0, 0⟩ (List.replicate 64 0) 0 0).toArray 93)
  have L1 := dcells_len (s := ⟨0, 0, 0, 0, 0, 0, 0, 0⟩) (held := 0) (len := 0) (rest := List.replicate 64 0) (by simp)
  have L2 := dcells_len (s := h0N) (held := 0) (len := 0) (rest := List.replicate 64 0) (by simp)
  have SZ := Lib.hid (show (Tryd.prog.info? 93).map (·.size) = some (dcells h0N (List.replicate 64 0) 0 0).length by rw [L2]; exact hsz)
  have LL := Lib.hid (L1.trans L2.symm)
  obtain ⟨z, hzz⟩ : ∃ z, z = dcells ⟨0, 0, 0, 0, 0, 0, 0, 0⟩ (List.replicate 64 0) 0 0 := ⟨_, rfl⟩
  obtain ⟨d, hd⟩ : ∃ d, d = dcells h0N (List.replicate 64 0) 0 0 := ⟨_, rfl⟩
  have hset : (((((((z.set 0 (.int .u32 1779033703)).set 1 (.int .u32 3144134277)).set 2 (.int .u32 1013904242)).set 3 (.int .u32 2773480762)).set 4 (.int .u32 1359893119)).set 5 (.int .u32 2600822924)).set 6 (.int .u32 528734635)).set 7 (.int .u32 1541459225) = d := by
    rw [hzz, hd]; rfl
  have hz8 : ¬ z.length < 8 := by rw [hzz, L1]; omega
  have OC := Lib.hid (one_dcells0 h0N)
  rw [← hzz] at hz H0 hb LL
  rw [← hd] at SZ OC LL
  have Hd := Lib.hid hd
  clear L1 L2 hsz hzz hd
  go_enter Tryd.func54, Tryd.ntmps54
  go_wp2_with ((with_reducible refine wpList_store_has rfl 93 (.tmp 0) (.tmp 2) rfl w.heap.size rfl d rfl 93 z H0 SZ.out LL.out OC.out ?_); intro w2 o2 H2)
  refine ret_has Tryd.results54 w.heap.size ?_ 93 d H2 _ Tryd.underlying93 rfl SZ.out ?_ ⟨by rw [Hd.out], o2.below hb (Nat.le_refl _)⟩
  · rfl
  · rfl
/-- A new digest has taken in nothing. -/
theorem dig_new {w : World} {g : Nat} (h : Has w g 93 (dcells h0N (List.replicate 64 0) 0 0)) : Dig w g [] := ⟨List.replicate 64 0, rfl, rfl, h⟩
end sha
end Go.Proofs.YtjfipijdjbbogaaDoor
/-
  Contracts of sha's pad, sum, Sum and Parts.
-/
namespace Go.Proofs.YtjfipijdjbbogaaDoor
open Go.ChangeShapes Go.WideShapes Go.ChangeAt Go.RowKit
set_option linter.unusedVariables false
set_option linter.unusedSimpArgs false

theorem padN_len (n : Nat) : (n + (padN n).length) % 64 = 0 := by
  simp [padN, be64_len]
  omega

namespace sha
set_option maxHeartbeats 400000 in
theorem pad (g : Nat) (m : List UInt8) (w : World) (hd : Dig w g m) (hT : Tab w) (hG : 3 ≠ g) :
    Calls Tryd.prog 62 #[.pointer (some ⟨g, 0, none⟩)] w fun e w' => e = .returned (.tuple #[]) ∧ Dig w' g (m ++ padN m.length) ∧ Save g w w' := by
  have hd0 := hd
  obtain ⟨rest, hrest, _, H⟩ := hd
  have c73 := (H.cell 73).trans (dcells_73 hrest)
  have c72 := (H.cell 72).trans (dcells_72 hrest)
  obtain ⟨r, hr⟩ : ∃ r, r = m.length % 64 := ⟨_, rfl⟩
  obtain ⟨ln, hln⟩ : ∃ x, x = m.length % 18446744073709551616 := ⟨_, rfl⟩
  rw [← hr] at c72
  rw [← hln] at c73
  obtain ⟨bits, hbits⟩ : ∃ x, x = 8 * m.length % 18446744073709551616 := ⟨_, rfl⟩
  have e1 : IntKind.u64.wrap (8 * (ln : Int)) = (bits : Int) := by simp only [IntKind.wrap_u64]; omega
  have hr64 : r < 64 := by omega
  obtain ⟨z, hz⟩ : ∃ z, z = (119 - r) % 64 := ⟨_, rfl⟩
  have e2 : (55 - (r : Int) + 64).tmod 64 = (z : Int) := by
    rw [Int.tmod_eq_emod_of_nonneg (by omega)]
    omega
  have hz64 : z < 64 := by omega
  have hmk := fun u => run_make8 (1 + z) (1 + z) (Nat.le_refl _) (by omega) u
  rw [show ((1 + z : Nat) : Int) = 1 + (z : Int) by omega] at hmk
  have HN := Has.new w 5 (noughts (1 + z))
  have n0 : (w.alloc (.cells (noughts (1 + z)).toArray 5)).cell? ⟨w.heap.size, 0, none⟩ = some (.int .u8 0) := by
    rw [HN.cell 0, noughts, List.getElem?_replicate, if_pos (by omega)]
  have f0 := HN.froz 0
  have hz1 : (0 : Int) < 1 + (z : Int) := by omega
  have Hp := Lib.hid (show padN m.length = (128 :: List.replicate z 0) ++ be64 bits by rw [padN, ← hr, ← hz, ← hbits])
  clear hr hln hbits hz
  go_enter Tryd.func62, Tryd.ntmps62
  have eT : (noughts (1 + z)).set 0 (.int .u8 128) = (128 :: List.replicate z 0 : List UInt8).map bv := by
    rw [noughts, Nat.add_comm 1 z, List.replicate_succ, List.set_cons_zero, List.map_cons, List.map_replicate]
    rfl
  have HB := Bytes.lit w (128 :: List.replicate z 0 : List UInt8) (by simp [maxLen]; omega)
  rw [show (128 :: List.replicate z 0 : List UInt8).length = 1 + z by simp; omega, ← eT] at HB
  have hb1 := (Below.refl w.heap.size w).alloc (Nat.le_refl _) (.cells ((noughts (1 + z)).set 0 (.int .u8 128)).toArray 5)
  have HP := Lib.hid (fun (u : World) (h : Bytes u (some ⟨w.heap.size, 0, none⟩) (1 + z) (1 + z) (128 :: List.replicate z 0 : List UInt8)) => wordsPut.put64 (some ⟨w.heap.size, 0, none⟩) (1 + z) (1 + z) _ bits u h (by omega))
  have HX := Lib.hid HB
  have Hb := Lib.hid hb1
  clear eT HB hb1
  go_wp2_with fail
  clear HN c72 c73 H
  refine (HP.out _ HX.out).mono ?_
  rintro e w2 ⟨v, rfl, hown, hb2⟩
  have hb := Hb.out.trans (hb2.mono Hb.out.size)
  obtain ⟨A, c, rfl, hr⟩ := Row.own hown
  have hA : Off g A (1 + z + 8) := own_off hown (Nat.lt_of_lt_of_le hd0.lt Hb.out.size) _
  clear hown n0 f0 hmk e1 e2
  go_wp2_with fail
  refine (write g m A (1 + z + 8) c _ w2 (hd0.keep hb) hr hA (hT.keep hb) hG).mono ?_
  rintro e w3 ⟨rfl, hd3, hS⟩
  go_wp2_with fail
  exact bodyPost_end (v := .tuple #[]) (by simp [results, Tryd.results62, go_sem]) rfl ⟨rfl, by rw [Hp.out]; exact hd3, (Save.of_below hb).trans hS⟩

theorem dcells_word {s : S8} {rest : List UInt8} {held len : Nat} (i : Nat) (h : i < 8) : (dcells s rest held len)[i]? = some (.int .u32 ((s.list.getD i 0 : Nat) : Int)) := by
  rw [dcells, List.getElem?_append_left (by show i < 8; exact h), List.getElem?_map]
  have h' : i < s.list.length := h
  simp [uv, h']
/-- The byte number i of a key. -/
theorem keyN_at (s : S8) (i : Nat) (h : i < 32) : (keyN s)[i]? = some (UInt8.ofNat (s.list.getD (i / 4) 0 / 2 ^ (24 - 8 * (i % 4)))) := by
  obtain ⟨a, b, c, d, e, f, g, k⟩ := s
  have hi : i = 0 ∨ i = 1 ∨ i = 2 ∨ i = 3 ∨ i = 4 ∨ i = 5 ∨ i = 6 ∨ i = 7 ∨ i = 8 ∨ i = 9 ∨ i = 10 ∨ i = 11 ∨ i = 12 ∨ i = 13 ∨ i = 14 ∨ i = 15 ∨ i = 16 ∨ i = 17 ∨ i = 18 ∨ i = 19 ∨ i = 20 ∨ i = 21 ∨ i = 22 ∨ i = 23 ∨ i = 24 ∨ i = 25 ∨ i = 26 ∨ i = 27 ∨ i = 28 ∨ i = 29 ∨ i = 30 ∨ i = 31 := by omega
  rcases hi with rfl | rfl | rfl | rfl | rfl | rfl | rfl | rfl | rfl | rfl | rfl | rfl | rfl | rfl | rfl | rfl | rfl | rfl | rfl | rfl | rfl | rfl | rfl | rfl | rfl | rfl | rfl | rfl | rfl | rfl | rfl | rfl <;> simp [keyN, S8.list, be32]
theorem keyN_len (s : S8) : (keyN s).length = 32 := by simp [keyN, S8.list, be32]
theorem key_set (K : List UInt8) (hK : K.length = 32) (i : Nat) (h : i < 32) (v : Value) (hv : v = bv (K.getD i 0)) : ((K.take i ++ List.replicate (32 - i) 0).map bv).set i v = (K.take (i + 1) ++ List.replicate (32 - (i + 1)) 0).map bv := by
  have h1 : (K.take i).length = i := by rw [List.length_take]; omega
  have h2 : i < K.length := by omega
  subst hv
  rw [show 32 - i = (32 - (i + 1)) + 1 by omega, List.replicate_succ, List.map_append, List.map_cons, List.set_append_right _ _ (by simp; omega), List.length_map, h1, Nat.sub_self, List.set_cons_zero, List.take_succ_eq_append_getElem h2]
  have e : K.getD i 0 = K[i] := by simp [h2]
  simp only [List.map_append, List.map_cons, List.map_nil, List.append_assoc, List.cons_append, List.nil_append, e]
set_option maxHeartbeats 800000 in
theorem sum (g : Nat) (m : List UInt8) (w : World) (hd : Dig w g m) (hT : Tab w) (hG : 3 ≠ g) :
    Calls Tryd.prog 56 #[.pointer (some ⟨g, 0, none⟩)] w fun e w' => e = .returned (.agg ((shaN m).map bv).toArray) ∧ Save g w w' := by
  have hb1 := (Below.refl w.heap.size w).alloc (Nat.le_refl _) (.cells ((List.replicate 32 0 : List UInt8).map bv).toArray 23)
  have HR1 := Has.new w 23 ((List.replicate 32 0 : List UInt8).map bv)
  have hgl := hd.lt
  have K := Lib.hid (pad g m (w.alloc (.cells ((List.replicate 32 0 : List UInt8).map bv).toArray 23)) (hd.keep hb1) (hT.keep hb1) hG)
  go_enter Tryd.func56, Tryd.ntmps56
  go_wp2_with fail
  refine (K.out).mono ?_
  rintro e w2 ⟨rfl, hd2, hS2⟩
  have HR2 := HR1.save hS2 (by omega)
  have hS := (Save.of_below (g := g) hb1).trans hS2
  have hszz : w.heap.size < w2.heap.size := HR2.lt
  obtain ⟨full, hfull⟩ : ∃ x, x = m ++ padN m.length := ⟨_, rfl⟩
  rw [← hfull] at hd2
  obtain ⟨rest, hrest, _, HD⟩ := hd2
  obtain ⟨s, hs⟩ : ∃ s, s = hashN full (full.length / 64) := ⟨_, rfl⟩
  obtain ⟨D, hD⟩ : ∃ D, D = dcells s rest (full.length % 64) (full.length % 18446744073709551616) := ⟨_, rfl⟩
  have hDw : ∀ i, i < 8 → D[i]? = some (.int .u32 ((s.list.getD i 0 : Nat) : Int)) := fun i h => by rw [hD]; exact dcells_word i h
  obtain ⟨Ks, hKs⟩ : ∃ K, K = keyN s := ⟨_, rfl⟩
  have hKl : Ks.length = 32 := by rw [hKs, keyN_len]
  have hKat : ∀ i, i < 32 → Ks[i]? = some (UInt8.ofNat (s.list.getD (i / 4) 0 / 2 ^ (24 - 8 * (i % 4)))) := fun i h => by rw [hKs]; exact keyN_at s i h
  rw [← hs, ← hD] at HD
  have hres : Ks = shaN m := by rw [hKs, hs, shaN, endN, ← hfull]
  have Hres := Lib.hid hres
  have HDW := Lib.hid hDw
  have HKL := Lib.hid hKl
  have HKat := Lib.hid hKat
  have hb3 := (Below.refl w2.heap.size w2).alloc (Nat.le_refl _) (.cells ((List.replicate 32 0 : List UInt8).map bv).toArray 23)
  have HK3 := Has.new w2 23 ((List.replicate 32 0 : List UInt8).map bv)
  have HD3 := HD.alloc (.cells ((List.replicate 32 0 : List UInt8).map bv).toArray 23)
  have HR3 := HR2.alloc (.cells ((List.replicate 32 0 : List UInt8).map bv).toArray 23)
  have hS3 := hS.trans (Save.of_below hb3)
  have hgl2 := HD.lt
  clear hfull hs hD hDw hKs hKl hKat hres HD HR2 HR1 hS hS2 hb1 hb3 hd hT K hrest
  go_wp2
  go_loopw [7] (fun i wr => ∃ j : Nat, j ≤ 32 ∧ i = .int .i64 j ∧ Has wr w2.heap.size 23 ((Ks.take j ++ List.replicate (32 - j) 0).map bv) ∧ Has wr g 93 D ∧ Has wr w.heap.size 23 ((List.replicate 32 0 : List UInt8).map bv) ∧ Save g w wr) (fun i _ => 32 - (intOf i).toNat)
  case atStart => exact ⟨0, by omega, rfl, HK3, HD3, HR3, hS3⟩
  case round =>
    clear HK3 HD3 HR3 hS3
    obtain ⟨j, hj, rfl, HK, HD, HR, hS⟩ := hrel
    by_cases hlt : j < 32
    · have cw := (HD.cell (j / 4)).trans (HDW.out (j / 4) (by omega))
      have ck := (HK.cell j).trans (List.getElem?_eq_getElem (by simp [HKL.out]; omega))
      have fk := HK.froz j
      obtain ⟨x, hx⟩ : ∃ x, x = s.list.getD (j / 4) 0 := ⟨_, rfl⟩
      rw [← hx] at cw
      obtain ⟨t, ht⟩ : ∃ t : Nat, t = 24 - 8 * (j % 4) := ⟨_, rfl⟩
      have e1 : 24 - 8 * ((j : Int) % 4) = (t : Int) := by omega
      have Hx := Lib.hid (And.intro hx ht)
      clear hx ht
      go_wp2
      go_roundw
      case rel =>
        obtain ⟨hx, ht⟩ := Hx.out
        refine ⟨j + 1, by omega, by go_num, ?_, HD.far _ (by show g ≠ w2.heap.size; omega) _, HR.far _ (by show w.heap.size ≠ w2.heap.size; omega) _, hS.new (Only.setCell wr w2.heap.size j _) (by omega)⟩
        have h := HK.set j (.int .u8 ((x : Int) / 2 ^ t % 256))
        rw [key_set Ks HKL.out j hlt _ (by
          rw [List.getD_eq_getElem?_getD, HKat.out j hlt, Option.getD_some, ← hx, ← ht]
          simp [bv])] at h
        exact h
      case measure => simp [intOf]; omega
    · obtain rfl : j = 32 := by omega
      have HK2 : Has wr w2.heap.size 23 (Ks.map bv) := by
        rw [List.take_of_length_le (Nat.le_of_eq HKL.out), List.replicate_zero, List.append_nil] at HK
        exact HK
      have SZ := Lib.hid (show (Tryd.prog.info? 23).map (·.size) = some (Ks.map bv).length by rw [List.length_map, HKL.out]; kernel_rfl)
      have LL := Lib.hid (show ((List.replicate 32 0 : List UInt8).map bv).length = (Ks.map bv).length by rw [List.length_map, List.length_map, HKL.out, List.length_replicate])
      have OC := Lib.hid (one_bv Ks)
      clear HK hlt
      go_wp2_with (first
        | ((with_reducible refine wpList_load_has rfl 23 (.tmp 3) rfl w2.heap.size rfl 23 (Ks.map bv) HK2 _ Tryd.underlying23 rfl SZ.out ?_))
        | ((with_reducible refine wpList_store_has rfl 23 (.tmp 2) (.tmp 26) rfl w.heap.size rfl (Ks.map bv) rfl 23 _ HR SZ.out LL.out OC.out ?_); intro w5 o5 H5))
      refine ret_has Tryd.results56 w.heap.size ?_ 23 (Ks.map bv) H5 _ Tryd.underlying23 rfl SZ.out ?_ ⟨by rw [Hres.out], hS.new o5 (Nat.le_refl _)⟩
      · rfl
      · rfl

end sha
end Go.Proofs.YtjfipijdjbbogaaDoor
/-
  Keys (32 bytes): equal ones are equal; one stored into a new block; what the row's condition on the table gives.
-/
namespace Go.Proofs.YtjfipijdjbbogaaDoor
open Go.ChangeShapes Go.WideShapes Go.ChangeAt Go.RowKit
set_option linter.unusedVariables false
set_option linter.unusedSimpArgs false

theorem shaN_len (l : List UInt8) : (shaN l).length = 32 := sha.keyN_len _

/-- The row's condition on the table gives the walks' fact. -/
theorem Tab.of_laid {w : World} (h : laidMetH Tryd.prog [("courierbag/sha.roundWords", Rows.laid_courierbag_sha_roundWords)] w) : Tab w := by
  rw [MakeChecks.laidMetH_plain _ _ _ (by kernel_rfl)] at h
  have h' : laidMet Tryd.prog [("courierbag/sha.roundWords", Lib.tabData .u32 (kN.map Int.ofNat))] w := h
  have hT := Lib.tabIs_of_head (show Tryd.prog.globalNamed "courierbag/sha.roundWords" = some 3 by kernel_rfl) (show (Tryd.prog.globals[3]?).map (·.type) = some 101 by kernel_rfl) Tryd.underlying101 Tryd.underlying80 (by kernel_rfl) (by kernel_rfl) h'
  intro i hi
  have hc := hT.cell (show Tryd.prog.globalNamed "courierbag/sha.roundWords" = some 3 by kernel_rfl) i (by rw [List.length_map]; exact hi)
  rw [hc]
  have hi' : i < kN.length := hi
  simp [hi']

end Go.Proofs.YtjfipijdjbbogaaDoor
/-
  Contract of sha.Parts.
-/
namespace Go.Proofs.YtjfipijdjbbogaaDoor
open Go.ChangeShapes Go.WideShapes Go.ChangeAt Go.RowKit
set_option linter.unusedVariables false
set_option linter.unusedSimpArgs false

/-- A slice of bytes among others. -/
structure Part where
  A : Option Addr
  n : Nat
  c : Nat
  l : List UInt8
def Part.val (p : Part) : Value := .slice p.A p.n p.c
/-- The slice '.slice A n c' leads to the parts ps. -/
def PartsAt (w : World) (A : Option Addr) (n c : Nat) (ps : List Part) : Prop := Row w A n c (ps.map Part.val) ∧ ∀ p ∈ ps, Bytes w p.A p.n p.c p.l
theorem PartsAt.keep {w w' : World} {A : Option Addr} {n c : Nat} {ps : List Part} (h : PartsAt w A n c ps) (hb : Below w.heap.size w w') : PartsAt w' A n c ps := ⟨h.1.keep hb, fun p hp => (h.2 p hp).keep hb⟩
/-- The parts, each behind its length. -/
def partsN (ps : List Part) : List UInt8 := ps.flatMap fun p => be64 p.n ++ p.l
theorem partsN_snoc (ps : List Part) (j : Nat) (h : j < ps.length) : partsN (ps.take (j + 1)) = (partsN (ps.take j) ++ be64 ps[j].n) ++ ps[j].l := by
  rw [List.take_succ_eq_append_getElem h, partsN, partsN, List.flatMap_append, List.flatMap_cons, List.flatMap_nil, List.append_nil, List.append_assoc]

namespace sha
set_option maxHeartbeats 1000000 in
theorem Parts (A : Option Addr) (n c : Nat) (ps : List Part) (w : World) (hps : PartsAt w A n c ps) (hT : Tab w) :
    Calls Tryd.prog 46 #[.slice A n c] w fun e w' => e = .returned (.agg ((shaN (partsN ps)).map bv).toArray) ∧ Below w.heap.size w w' := by
  have hpl : ps.length = n := by simpa using hps.1.1
  have hcm := hps.1.2.2.1
  have hnc := hps.1.2.1
  obtain ⟨hz, hsz⟩ := zero_of_info zero_digest
  obtain ⟨z, hzz⟩ : ∃ z, z = dcells ⟨0, 0, 0, 0, 0, 0, 0, 0⟩ (List.replicate 64 0) 0 0 := ⟨_, rfl⟩
  obtain ⟨d, hd⟩ : ∃ d, d = dcells h0N (List.replicate 64 0) 0 0 := ⟨_, rfl⟩
  have hzl : z.length = 74 := by rw [hzz]; exact dcells_len (by simp)
  have hdl : d.length = 74 := by rw [hd]; exact dcells_len (by simp)
  have SZ := Lib.hid (show (Tryd.prog.info? 93).map (·.size) = some d.length by rw [hdl]; exact hsz)
  have LL := Lib.hid (hzl.trans hdl.symm)
  have OC := Lib.hid (hd ▸ one_dcells0 h0N)
  have hb1 := (Below.refl w.heap.size w).alloc (Nat.le_refl _) (.cells ((List.replicate 32 0 : List UInt8).map bv).toArray 23)
  have HR1 := Has.new w 23 ((List.replicate 32 0 : List UInt8).map bv)
  have K0 := newDigest (w.alloc (.cells ((List.replicate 32 0 : List UInt8).map bv).toArray 23))
  rw [← hd] at K0
  have K := Lib.hid K0
  have Hd := Lib.hid hd
  have hTl := World.block_lt_of_cell? w _ (hT 0 (by omega))
  rw [← hzz] at hz
  have HP := Lib.hid hps
  have HPL := Lib.hid hpl
  have hn63 : n ≤ 9223372036854775807 := by unfold maxLen at hcm; omega
  clear hzz hd hzl hdl hsz K0 hps hpl hcm hnc
  go_enter Tryd.func46, Tryd.ntmps46
  go_wp2_with fail
  refine (K.out).mono ?_
  rintro e w2 ⟨rfl, hb2⟩
  have hb := hb1.trans (hb2.mono hb1.size)
  have HR := HR1.keep hb2 HR1.lt
  have H0 := Has.new w2 93 z
  have hb3 := hb.alloc hb.size (.cells z.toArray 93)
  have HR3 := HR.alloc (.cells z.toArray 93)
  have hszl := HR.lt
  have hB2 := hb.size
  clear HR HR1 hb1 hb2 K hb
  go_wp2_with ((with_reducible refine wpList_store_has rfl 93 (.tmp 3) (.tmp 6) rfl w2.heap.size rfl d rfl 93 z H0 SZ.out LL.out OC.out ?_); intro w4 o4 H4; have hb4 := o4.below hb3 hB2; have HR4 := HR3.only o4 (by omega))
  have hd4 := dig_new (Hd.out ▸ H4)
  have hG : 3 ≠ w2.heap.size := by have : 3 < w.heap.size := hTl; omega
  clear HR3 H0 H4 o4 hb3 hz
  go_loopw [9] (fun i wr => ∃ j : Nat, j ≤ n ∧ i = .int .i64 j ∧ Dig wr w2.heap.size (partsN (ps.take j)) ∧ Has wr w.heap.size 23 ((List.replicate 32 0 : List UInt8).map bv) ∧ Below w.heap.size w wr) (fun i _ => n - (intOf i).toNat)
  case atStart => exact ⟨0, by omega, rfl, hd4, HR4, hb4⟩
  case round =>
    clear hd4 HR4 hb4
    obtain ⟨j, hj, rfl, hdj, HR, hb⟩ := hrel
    by_cases hlt : j < n
    · have hjl : j < ps.length := by rw [HPL.out]; exact hlt
      obtain ⟨b, off, rfl, hbl, hc⟩ := (HP.out.1).2.2.2.2 (by omega)
      obtain ⟨p, hp⟩ : ∃ p, p = ps[j] := ⟨_, rfl⟩
      have cj : wr.cell? ⟨b, off + j, none⟩ = some (.slice p.A p.n p.c) := by
        rw [hb.cell (p := ⟨b, off + j, none⟩) hbl, hc j hlt, List.getElem?_map, List.getElem?_eq_getElem hjl, hp]
        rfl
      have hpB := HP.out.2 p (hp ▸ List.getElem_mem hjl)
      have hple := hpB.le
      have hjn : (j : Int) < (n : Int) := by omega
      have KP := Lib.hid (wordsPut.put64 none 0 0 [] p.n wr (Row.nil wr) (by omega))
      have Hp := Lib.hid hp
      clear hp hc
      go_wp2_with fail
      refine (KP.out).mono ?_
      rintro e w5 ⟨v5, rfl, hown5, hb5⟩
      have hoff5 := hdj.lt
      have hd5 := hdj.keep hb5
      have HR5 := HR.keep hb5 HR.lt
      have hbw5 := hb.trans (hb5.mono hb.size)
      obtain ⟨A5, c5, rfl, hr5⟩ := Row.own hown5
      have KW := Lib.hid (write w2.heap.size _ A5 (0 + 8) c5 _ w5 hd5 hr5 (own_off hown5 (by omega) _) (hT.keep hbw5) hG)
      clear hown5 hr5 KP hb5 hd5 hdj HR
      go_wp2_with fail
      refine (KW.out).mono ?_
      rintro e w6 ⟨rfl, hd6, hS6⟩
      have hbw6 := hS6.below hbw5 hB2 hbw5.size
      have HR6 := HR5.save hS6 (by omega)
      have KX := Lib.hid (write w2.heap.size _ p.A p.n p.c p.l w6 hd6 (hpB.keep hbw6) (Off.of_row hpB hB2) (hT.keep hbw6) hG)
      clear KW hd6 hS6 HR5 hbw5
      go_wp2_with fail
      refine (KX.out).mono ?_
      rintro e w7 ⟨rfl, hd7, hS7⟩
      have hbw7 := hS7.below hbw6 hB2 hbw6.size
      have HR7 := HR6.save hS7 (by omega)
      clear KX hS7 HR6 hbw6
      go_wp2_with fail
      go_roundw
      case rel => exact ⟨j + 1, by omega, by go_num, by rw [partsN_snoc ps j hjl, ← Hp.out]; simpa using hd7, HR7, hbw7⟩
      case measure => simp [intOf]; omega
    · obtain rfl : j = n := by omega
      rw [List.take_of_length_le (Nat.le_of_eq HPL.out)] at hdj
      have KS0 := sum w2.heap.size _ wr hdj (hT.keep hb) hG
      obtain ⟨Ks, hKs⟩ : ∃ K, K = (shaN (partsN ps)).map bv := ⟨_, rfl⟩
      have hKl : Ks.length = 32 := by rw [hKs, List.length_map, shaN, keyN_len]
      have SK := Lib.hid (show (Tryd.prog.info? 23).map (·.size) = some Ks.length by rw [hKl]; kernel_rfl)
      have LK := Lib.hid (show ((List.replicate 32 0 : List UInt8).map bv).length = Ks.length by rw [List.length_map, hKl, List.length_replicate])
      have OK := Lib.hid (show ∀ u ∈ Ks, u.oneCell' = true from hKs ▸ one_bv _)
      rw [← hKs] at KS0
      have KS := Lib.hid KS0
      have HKs := Lib.hid hKs
      clear hKs hKl KS0 hdj hlt
      go_wp2_with fail
      refine (KS.out).mono ?_
      rintro e w6 ⟨rfl, hS6⟩
      have hb6 := hS6.below hb hB2 hb.size
      have HR6 := HR.save hS6 (by omega)
      clear KS hS6 hb HR
      go_wp2_with ((with_reducible refine wpList_store_has rfl 23 (.tmp 2) (.tmp 21) rfl w.heap.size rfl Ks rfl 23 _ HR6 SK.out LK.out OK.out ?_); intro w7 o7 H7)
      refine ret_has Tryd.results46 w.heap.size ?_ 23 Ks H7 _ Tryd.underlying23 rfl SK.out ?_ ⟨by rw [HKs.out], o7.below hb6 (Nat.le_refl _)⟩
      · rfl
      · rfl
end sha
end Go.Proofs.YtjfipijdjbbogaaDoor
