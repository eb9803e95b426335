/-
  What is known of data with depth that came in: slices of structs, structs of arrays and slices (of no program).
-/
import Derived.Test.YtiilgkajijnbcaaWide
import Derived.Test.YtiilgkajijnbcaaLow
namespace Go.Proofs.Ytiilgkajijnbcaa
open Go.ChangeShapes Go.WideShapes Go.ChangeAt Go.RowKit
set_option linter.unusedVariables false
set_option linter.unusedSimpArgs false

section
variable {H : Type} {enc : TypeId × Value → H} {P : Program} {w : World} {base : Nat} {spare : Nat → Bool} {held : Bool} {fuel : Nat} {cs : List Value} {x : DataW H × List MemPlace}
/-- A slice of bytes among cells. -/
theorem cells_bytes {t e : TypeId} (ht : P.underlying t = some (.slice e)) (he : P.underlying e = some (.int .u8)) (hc : P.cellsOf e = 1) (h : DataW.trod enc P w base (fun _ => true) held fuel t cs = some x) :
    ∃ A n c l, cs = [.slice A n c] ∧ Bytes w A n c l := by
  rcases open_ints ht he hc h with ⟨rfl, _⟩ | ⟨a, n, c, zs, rfl, _, h1, h2, h3, _, h4, h5⟩
  · exact ⟨none, 0, 0, [], rfl, Row.nil w⟩
  · obtain ⟨l, hl⟩ := Bytes.of_row (w := w) (A := some a) (n := n) (c := c) (zs := zs) (.inr ⟨a, rfl, h1, h2, by simpa using h3, h4, h5⟩)
    exact ⟨_, _, _, l, rfl, hl⟩
/-- A slice of numbers of 64 bits among cells. -/
theorem cells_nums {t e : TypeId} (ht : P.underlying t = some (.slice e)) (he : P.underlying e = some (.int .u64)) (hc : P.cellsOf e = 1) (h : DataW.trod enc P w base (fun _ => true) held fuel t cs = some x) :
    ∃ A n c l, cs = [.slice A n c] ∧ Nums w A n c l := by
  rcases open_ints ht he hc h with ⟨rfl, _⟩ | ⟨a, n, c, zs, rfl, _, h1, h2, h3, _, h4, h5⟩
  · exact ⟨none, 0, 0, [], rfl, Row.nil w, fun x hx => by cases hx⟩
  · obtain ⟨l, hl⟩ := Nums.of_row (w := w) (A := some a) (n := n) (c := c) (zs := zs) (.inr ⟨a, rfl, h1, h2, by simpa using h3, h4, h5⟩)
    exact ⟨_, _, _, l, rfl, hl⟩
theorem cells_u64 {t : TypeId} (ht : P.underlying t = some (.int .u64)) (h : DataW.trod enc P w base spare held fuel t cs = some x) : ∃ a, cs = [nv a] ∧ a < 18446744073709551616 := by
  obtain ⟨a, rfl, _, wa⟩ := DataW.trod_int ht h
  obtain ⟨n, rfl, hn⟩ := u64_wf wa
  exact ⟨n, rfl, hn⟩
theorem cells_i64 {t : TypeId} (ht : P.underlying t = some (.int .i64)) (h : DataW.trod enc P w base spare held fuel t cs = some x) : ∃ a, cs = [.int .i64 a] ∧ -9223372036854775808 ≤ a ∧ a ≤ 9223372036854775807 := by
  obtain ⟨a, rfl, _, wa⟩ := DataW.trod_int ht h
  exact ⟨a, rfl, i64_wf wa⟩
/-- An array of bytes among cells. -/
theorem cells_arr {t e : TypeId} {n : Nat} (ht : P.underlying t = some (.array n e)) (he : P.underlying e = some (.int .u8)) (one : P.cellsOf e = 1) (size : P.cellsOf t = n) (h : DataW.trod enc P w base spare held fuel t cs = some x) :
    ∃ l : List UInt8, l.length = n ∧ cs = l.map bv := by
  obtain ⟨xs, m, _, _, hlen, hxl, hx⟩ := DataW.trod_array ht h
  rw [size] at hlen
  refine ⟨cs.map byteOf, by simp [hlen], ?_⟩
  rw [List.map_map]
  apply List.ext_getElem
  · simp
  · intro i h1 h2
    have hi : i < n := by omega
    have h3 := hx i hi
    rw [List.getElem?_eq_getElem (by omega)] at h3
    obtain ⟨a, ha, _, wa⟩ := DataW.trod_int he h3
    rw [one, Nat.mul_one, List.drop_eq_getElem_cons h1, List.take_succ_cons, List.take_zero] at ha
    have hx' : cs[i] = .int .u8 a := by injection ha
    obtain ⟨z, rfl, hz⟩ := u8_wf wa
    rw [List.getElem_map, hx']
    simp [byteOf, bv]
    omega
/-- The cells of a struct, field by field. -/
theorem cells_cut (cs : List Value) (o k : Nat) : cs.drop o = (cs.drop o).take k ++ cs.drop (o + k) := by
  rw [← List.drop_drop, List.take_append_drop]
theorem cells_struct {t : TypeId} {fs : Array Field} (ht : P.underlying t = some (.struct fs)) (h : DataW.trod enc P w base spare held fuel t cs = some x) :
    cs.length = P.cellsOf t ∧ ∀ (i : Nat) (f : Field), fs[i]? = some f → ∃ m y, DataW.trod enc P w base spare held m f.type ((cs.drop f.offset).take (P.cellsOf f.type)) = some y := by
  obtain ⟨xs, n, _, rfl, hl, hlen, hf⟩ := DataW.trod_struct ht h
  refine ⟨hl, fun i f hi => ?_⟩
  have h1 := hf i f hi
  have h2 : i < fs.size := (Array.getElem?_eq_some_iff.1 hi).1
  have h3 : i < xs.length := by rw [hlen]; simpa using h2
  rw [List.getElem?_eq_getElem h3] at h1
  exact ⟨n, _, h1⟩
/-- A slice whose elements are of a form: the form of each element's cells. -/
theorem cells_rows {α : Type} [Inhabited α] {t e : TypeId} {k : Nat} (f : α → List Value) (R : α → Prop) (ht : P.underlying t = some (.slice e)) (hk : P.cellsOf e = k) (hk0 : 0 < k)
    (hel : ∀ m cs' x', DataW.trod enc P w base (fun _ => true) held m e cs' = some x' → ∃ a, cs' = f a ∧ R a) (hfk : ∀ a, R a → (f a).length = k) (h : DataW.trod enc P w base (fun _ => true) held fuel t cs = some x) :
    ∃ A n c, ∃ es : List α, cs = [.slice A n c] ∧ RowW w A n c k (es.flatMap f) ∧ es.length = n ∧ ∀ a ∈ es, R a := by
  rcases Deep.open_slice ht h with ⟨rfl, _⟩ | ⟨a, n, c, m, q, D, Pl, rfl, hb, hl, hm, hmm, _, hx⟩
  · exact ⟨none, 0, 0, [], rfl, RowW.nil w k, rfl, fun a ha => by cases ha⟩
  · have hmc : m = c := by simpa using hmm
    rw [hk] at hx
    obtain ⟨g, hg⟩ := Deep.choose_lt (n := n) (p := fun i a' => (∀ j, j < k → w.cell? (a.add (i * k + j)) = (f a')[j]?) ∧ R a') (fun i hi => by
      obtain ⟨cs', h1, h2⟩ := hx i (by omega)
      obtain ⟨a', rfl, hR⟩ := hel _ _ _ h2
      obtain ⟨_, _, hc⟩ := World.cells?_some h1
      refine ⟨a', fun j hj => ?_, hR⟩
      rw [← Deep.add_add]
      exact hc j hj)
    have hR : ∀ a' ∈ (List.range n).map g, R a' := fun a' ha => by
      obtain ⟨i, hi, rfl⟩ := List.mem_map.1 ha
      exact (hg i (List.mem_range.1 hi)).2
    refine ⟨some a, n, c, (List.range n).map g, rfl, ⟨?_, hl, hm, fun h => (by cases h), fun hn => ?_⟩, by simp, hR⟩
    · rw [flatMap_len f k _ (fun e he => hfk e (hR e he))]
      simp
    · have hc0 := (hg 0 hn).1 0 hk0
      have h0 : 0 < ((List.range n).map g).length := by simpa using hn
      obtain ⟨b, off, spot⟩ := a
      rw [List.getElem?_eq_getElem (by rw [hfk _ (hg 0 hn).2]; exact hk0)] at hc0
      have hspot : spot = none := by simpa [Addr.add] using World.cell?_spot hc0
      subst hspot
      rw [add_plain] at hc0
      refine ⟨b, off, rfl, by simpa using World.block_lt_of_cell? w _ hc0, fun q hq => ?_⟩
      have hqi : q / k < n := Nat.div_lt_of_lt_mul (by rw [Nat.mul_comm]; exact hq)
      have hqe : q / k * k + q % k = q := by rw [Nat.mul_comm]; exact Nat.div_add_mod q k
      have hqr : q % k < k := Nat.mod_lt _ hk0
      have h1 := (hg (q / k) hqi).1 (q % k) hqr
      rw [hqe, add_plain] at h1
      rw [h1]
      have h2 := flatMap_at f k ((List.range n).map g) (fun e he => hfk e (hR e he)) (q / k) (by simpa using hqi) (q % k) hqr
      rw [hqe] at h2
      rw [h2]
      simp
end
end Go.Proofs.Ytiilgkajijnbcaa
