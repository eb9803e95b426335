/-
  Contracts of the package's bodies, checkBatch.
-/
import Derived.Test.YtiilgkajijnbcaaPutEntAll
import Derived.Test.YtiilgkajijnbcaaWrBat
import Derived.Test.YtiilgkajijnbcaaBatRt
import Derived.Deep.MidRow
namespace Go.Proofs.Ytiilgkajijnbcaa
open Go.ChangeShapes Go.WideShapes Go.ChangeAt Go.RowKit
set_option linter.unusedVariables false
set_option linter.unusedSimpArgs false

def Let.pc (e : Let) : Pc := ⟨e.A, e.n, e.c, e.l⟩
theorem size_let : (Try.prog.info? 96).map (·.size) = some 33 := by kernel_rfl
theorem newLet (w : World) : Has (w.alloc (.cells #[.int .u8 0, .int .u8 0, .int .u8 0, .int .u8 0, .int .u8 0, .int .u8 0, .int .u8 0, .int .u8 0, .int .u8 0, .int .u8 0, .int .u8 0, .int .u8 0, .int .u8 0, .int .u8 0, .int .u8 0, .int .u8 0, .int .u8 0, .int .u8 0, .int .u8 0, .int .u8 0, .int .u8 0, .int .u8 0, .int .u8 0, .int .u8 0, .int .u8 0, .int .u8 0, .int .u8 0, .int .u8 0, .int .u8 0, .int .u8 0, .int .u8 0, .int .u8 0, .slice none 0 0] 96)) w.heap.size 96 (lcells (List.replicate 32 0) none 0 0) := Has.new w 96 (lcells (List.replicate 32 0) none 0 0)
theorem lcells_len {u : List UInt8} (A : Option Addr) (n c : Nat) (h : u.length = 32) : (lcells u A n c).length = 33 := by simp [lcells, h]
theorem one_lcells (u : List UInt8) (A : Option Addr) (n c : Nat) : ∀ v ∈ lcells u A n c, v.oneCell' = true := by
  intro v hv
  rcases List.mem_append.1 hv with h | h
  · exact one_bv _ v h
  · obtain rfl := List.mem_singleton.1 h
    rfl
theorem lcells_32 {u : List UInt8} (A : Option Addr) (n c : Nat) (h : u.length = 32) : (lcells u A n c)[32]? = some (.slice A n c) := by
  rw [lcells, List.getElem?_append_right (by rw [List.length_map]; omega), List.length_map, h]
  rfl
section
variable {w : World} {ops : Array Oper} {rest : List Oper} {o : Oper} {a : Act} {Q : Exit → Act → World → Prop}
theorem wpList_store_let (hgd : o.guard = none) (p q : Operand) (ho : o.op = .store 96 p q) (g : Nat) (hx : a.eval p = .pointer (some ⟨g, 0, none⟩)) (u : List UInt8) (A : Option Addr) (n c : Nat) (hu : u.length = 32) (hy : a.eval q = .agg (lcells u A n c).toArray)
    (old : List Value) (H : Has w g 96 old) (hold : old.length = 33)
    (h : ∀ w', Only g w w' → Has w' g 96 (lcells u A n c) → wpList Try.prog ops Q rest (a.put o.dst undef) w') : wpList Try.prog ops Q (o :: rest) a w :=
  wpList_store_has hgd 96 p q ho g hx _ hy 96 old H (by rw [lcells_len _ _ _ hu]; exact size_let) (by rw [lcells_len _ _ _ hu, hold]) (one_lcells _ _ _ _) h
theorem wpList_load_let (hgd : o.guard = none) (p : Operand) (ho : o.op = .load 96 p) (b off : Nat) (hx : a.eval p = .pointer (some ⟨b, off, none⟩)) (u : List UInt8) (A : Option Addr) (n c : Nat) (hu : u.length = 32) (H : w.rangeAt b off (lcells u A n c))
    (h : wpList Try.prog ops Q rest (a.put o.dst (.agg (lcells u A n c).toArray)) w) : wpList Try.prog ops Q (o :: rest) a w :=
  wpList_load_mid hgd 96 p ho b off hx (lcells u A n c) _ H Try.underlying96 rfl (by rw [lcells_len _ _ _ hu]; exact size_let) h
end
/-- Letter j as its 33 cells. -/
theorem Letters.all {w : World} {A : Option Addr} {n c : Nat} {ls : List Let} (h : Letters w A n c ls) (hn : 0 < n) :
    ∃ b off, A = some ⟨b, off, none⟩ ∧ b < w.heap.size ∧ ∀ j, j < n → w.rangeAt b (off + j * 33) (lcells (ls.getD j default).to (ls.getD j default).A (ls.getD j default).n (ls.getD j default).c) := by
  obtain ⟨b, off, e, hb, hc⟩ := h.at_ hn
  refine ⟨b, off, e, hb, fun j hj i v hv => ?_⟩
  have ht := (h.get j hj).1
  by_cases hi : i < 32
  · rw [lcells, List.getElem?_append_left (by rw [List.length_map, ht]; exact hi)] at hv
    exact (hc j hj).1 i v hv
  · have h33 : i < 33 := by
      have := (List.getElem?_eq_some_iff.1 hv).1
      rw [lcells_len _ _ _ ht] at this
      exact this
    obtain rfl : i = 32 := by omega
    rw [lcells_32 _ _ _ ht] at hv
    rw [← hv]
    exact (hc j hj).2
theorem range_keep {B : Nat} {w w' : World} {b off : Nat} {vs : List Value} (h : w.rangeAt b off vs) (hb : Below B w w') (hlt : b < B) : w'.rangeAt b off vs := fun i v hv => (hb.cell (p := ⟨b, off + i, none⟩) hlt).trans (h i v hv)
theorem getD_lpc (es : List Let) (j : Nat) (h : j < es.length) : (es.map Let.pc).getD j default = (es.getD j default).pc := by
  rw [List.getD_eq_getElem?_getD, List.getElem?_map, List.getD_eq_getElem?_getD, List.getElem?_eq_getElem h]
  rfl
set_option maxHeartbeats 1000000 in
theorem cBodies' (A : Option Addr) (n c : Nat) (es : List Let) (hn : n ≤ 1048576) (w : World) (h : Letters w A n c es) :
    Calls Try.prog 51 #[.slice A n c] w fun e w' => ∃ A' c', e = .returned (.slice A' n c') ∧ PcsAt w' A' n c' (es.map Let.pc) ∧ Below w.heap.size w w' := by
  have hle := h.le
  have hpl : (es.map Let.pc).length = n := by rw [List.length_map]; exact h.2.1
  obtain ⟨ps, hps⟩ : ∃ ps, es.map Let.pc = ps := ⟨_, rfl⟩
  have hG := fun j (hj : j < n) => show ps.getD j default = (es.getD j default).pc by rw [← hps]; exact getD_lpc es j (by rw [h.2.1]; exact hj)
  rw [hps] at hpl ⊢
  have hB : ∀ p ∈ ps, Bytes w p.A p.n p.c p.l := fun p hp => by
    rw [← hps] at hp
    obtain ⟨e, he, rfl⟩ := List.mem_map.1 hp
    exact (h.2.2 e he).2
  have hmk := run_makeBS n hn w
  have hb1 := (Below.refl w.heap.size w).alloc (Nat.le_refl _) (.cells (List.replicate n (Value.slice none 0 0)).toArray 25)
  have H1 := Has.new w 25 (List.replicate n (Value.slice none 0 0))
  rw [← halfP_zero ps n] at H1 hb1 hmk
  have HH := Lib.hid h
  have HPL := Lib.hid hpl
  have HG := Lib.hid hG
  have HPB := Lib.hid hB
  clear h hpl hG hB hps
  go_enter Try.func51, Try.ntmps51
  go_wp2_with fail
  change Code.wp _ _ _ _ (w.alloc (.cells (halfP ps n 0).toArray 25))
  generalize (w.alloc (.cells (halfP ps n 0).toArray 25)) = w1 at *
  clear hmk
  go_loopw [11] (fun i wr => ∃ j : Nat, j ≤ n ∧ i = .int .i64 j ∧ Has wr w.heap.size 25 (halfP ps n j) ∧ Below w.heap.size w wr) (fun i _ => n - (intOf i).toNat)
  case atStart => exact ⟨0, Nat.zero_le _, rfl, H1, hb1⟩
  case round =>
    clear H1 hb1
    obtain ⟨j, hj, rfl, HK, hb⟩ := hrel
    by_cases hlt : j < n
    · obtain ⟨b, off, rfl, hbl, hc⟩ := HH.out.all (by omega)
      have hto := (HH.out.get j hlt).1
      have c0 := range_keep (hc j hlt) hb hbl
      have hge := HG.out j hlt
      obtain ⟨e, he⟩ : ∃ e, es.getD j default = e := ⟨_, rfl⟩
      rw [he] at c0 hge hto
      have HC0 := Lib.hid c0
      have HTO := Lib.hid hto
      have hjn : (j : Int) < (n : Int) := by omega
      have HN := newLet wr
      have hlw := HK.lt
      have HK2 := HK.alloc (.cells #[.int .u8 0, .int .u8 0, .int .u8 0, .int .u8 0, .int .u8 0, .int .u8 0, .int .u8 0, .int .u8 0, .int .u8 0, .int .u8 0, .int .u8 0, .int .u8 0, .int .u8 0, .int .u8 0, .int .u8 0, .int .u8 0, .int .u8 0, .int .u8 0, .int .u8 0, .int .u8 0, .int .u8 0, .int .u8 0, .int .u8 0, .int .u8 0, .int .u8 0, .int .u8 0, .int .u8 0, .int .u8 0, .int .u8 0, .int .u8 0, .int .u8 0, .int .u8 0, .slice none 0 0] 96)
      have hb2 := hb.alloc hb.size (.cells #[.int .u8 0, .int .u8 0, .int .u8 0, .int .u8 0, .int .u8 0, .int .u8 0, .int .u8 0, .int .u8 0, .int .u8 0, .int .u8 0, .int .u8 0, .int .u8 0, .int .u8 0, .int .u8 0, .int .u8 0, .int .u8 0, .int .u8 0, .int .u8 0, .int .u8 0, .int .u8 0, .int .u8 0, .int .u8 0, .int .u8 0, .int .u8 0, .int .u8 0, .int .u8 0, .int .u8 0, .int .u8 0, .int .u8 0, .int .u8 0, .int .u8 0, .int .u8 0, .slice none 0 0] 96)
      have HSET := Lib.hid (show (halfP ps n j).set j (.slice e.A e.n e.c) = halfP ps n (j + 1) from halfP_set HPL.out hlt _ (by rw [hge]; rfl))
      have HJL := Lib.hid (show j < (halfP ps n j).length by rw [halfP_len HPL.out hj]; exact hlt)
      clear hc c0 HK he hge hto
      go_wp2_with (first
        | ((with_reducible refine wpList_load_let rfl (.tmp 14) rfl b (off + j * 33) rfl e.to e.A e.n e.c HTO.out HC0.out ?_))
        | ((with_reducible refine wpList_store_let rfl (.tmp 5) (.tmp 15) rfl wr.heap.size rfl e.to e.A e.n e.c HTO.out rfl (lcells (List.replicate 32 0) none 0 0) HN rfl ?_); intro w3 o3 H3; have f1 : w3.cell? ⟨wr.heap.size, 32, none⟩ = some (.slice e.A e.n e.c) := (H3.cell 32).trans (lcells_32 _ _ _ HTO.out); have HK3 := HK2.only o3 (Nat.ne_of_lt hlw); have fz := HK3.froz j; obtain ⟨vk, ck⟩ : ∃ v, w3.cell? ⟨w.heap.size, j, none⟩ = some v := ⟨_, (HK3.cell j).trans (List.getElem?_eq_getElem HJL.out)⟩))
      go_roundw
      case rel =>
        refine ⟨j + 1, by omega, by go_num, ?_, (Only.setCell _ _ _ _).below (o3.below hb2 hb.size) (Nat.le_refl _)⟩
        rw [← HSET.out]
        exact HK3.set j _
      case measure => simp [intOf]; omega
    · obtain rfl : j = n := by omega
      rw [halfP_end HPL.out] at HK
      have HR := Lib.hid (show PcsAt wr (some ⟨w.heap.size, 0, none⟩) j j ps from ⟨by
        have := HK.row 0 j j (by rw [List.length_map, HPL.out]; omega) (Nat.le_refl _) (by unfold maxLen; omega)
        rw [List.drop_zero, List.take_of_length_le (by rw [List.length_map, HPL.out]; omega)] at this
        exact this, fun p hp => (HPB.out p hp).keep hb⟩)
      clear HK
      go_wp2_with fail
      go_ret
      exact ⟨_, _, rfl, HR.out, hb⟩

/-! ### checkBatch -/
section
variable {w : World} {A : Option Addr} {n c : Nat} {es : List Let}
theorem Letters.long (h : Letters w A n c es) : ((es.map Let.pc).any fun p => decide (1048576 < p.n)) = longL (es.map Let.data) := by
  rw [any_map', longL, any_map']
  refine any_same _ _ _ fun e he => ?_
  have := (h.2.2 e he).2.len
  show decide (1048576 < e.n) = decide (1048576 < e.l.length)
  rw [this]
theorem Letters.each (h : Letters w A n c es) : eachP (es.map Let.pc) = sizeL (es.map Let.data) := by
  cases es with
  | nil => rfl
  | cons e r =>
    have := (h.2.2 e (by simp)).2.len
    show e.n = e.l.length
    omega
theorem Letters.odd (h : Letters w A n c es) : ((es.map Let.pc).any fun p => decide (p.n ≠ eachP (es.map Let.pc))) = oddL (es.map Let.data) := by
  rw [h.each]
  obtain ⟨z, hz⟩ : ∃ z, sizeL (es.map Let.data) = z := ⟨_, rfl⟩
  rw [oddL, hz, any_map', any_map']
  refine any_same _ _ _ fun e he => ?_
  have := (h.2.2 e he).2.len
  show decide (e.n ≠ z) = decide (e.l.length ≠ z)
  rw [this]
end
theorem errB_of {d : BatD} {k : Nat} (h : (wBatch d).2 = k) : (20 < d.inner.length ∨ 1000 < d.ls.length → k = 3) ∧ (¬ (20 < d.inner.length ∨ 1000 < d.ls.length) → longL d.ls = true → k = 3) ∧ (¬ (20 < d.inner.length ∨ 1000 < d.ls.length) → longL d.ls = false → d.r < 0 ∨ d.ch < 0 → k = 1) ∧ (¬ (20 < d.inner.length ∨ 1000 < d.ls.length) → longL d.ls = false → ¬ (d.r < 0 ∨ d.ch < 0) → oddL d.ls = true → k = 1) ∧ (¬ (20 < d.inner.length ∨ 1000 < d.ls.length) → longL d.ls = false → ¬ (d.r < 0 ∨ d.ch < 0) → oddL d.ls = false → k = 0) := by
  subst h
  unfold wBatch
  refine ⟨fun h => by rw [if_pos h], fun h h2 => by rw [if_neg h, if_pos h2], fun h h2 h3 => by rw [if_neg h, if_neg (by simp [h2]), if_pos h3], fun h h2 h3 h4 => by rw [if_neg h, if_neg (by simp [h2]), if_neg h3, if_pos h4], fun h h2 h3 h4 => by rw [if_neg h, if_neg (by simp [h2]), if_neg h3, if_neg (by simp [h4])]⟩
end Go.Proofs.Ytiilgkajijnbcaa
