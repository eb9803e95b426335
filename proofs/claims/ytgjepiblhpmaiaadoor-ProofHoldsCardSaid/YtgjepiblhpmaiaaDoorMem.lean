/-
  A block of memory that is known whole; arrays of integers as lists of their cells.
-/
import Derived.Test.YtgjepiblhpmaiaaDoorWordsPut
import Derived.Laws.Rows
import Derived.Deep.MidRow
import Derived.Laws.CopyOwn
import Derived.BigQuiet
import Derived.Deep.QuietTactic
namespace Go.Proofs.YtgjepiblhpmaiaaDoor
open Go.ChangeShapes Go.WideShapes Go.ChangeAt Go.RowKit
set_option linter.unusedVariables false
set_option linter.unusedSimpArgs false

/-- Block g holds just the cells cs, of type t, none frozen. -/
def Has (w : World) (g : Nat) (t : TypeId) (cs : List Value) : Prop := w.heap[g]? = some (.cells cs.toArray t (0, 0))

section
variable {w w' : World} {g : Nat} {t : TypeId} {cs : List Value}
theorem Has.lt (h : Has w g t cs) : g < w.heap.size := (Array.getElem?_eq_some_iff.1 h).1
theorem Has.cell (h : Has w g t cs) (i : Nat) : w.cell? ⟨g, i, none⟩ = cs[i]? := by
  rw [cell_of_row w g i cs.toArray t (0, 0) h]
  simp
theorem Has.froz (h : Has w g t cs) (i : Nat) : w.frozen? ⟨g, i, none⟩ = false := frozen_of_row w g i cs.toArray t h
theorem Has.new (w : World) (t : TypeId) (cs : List Value) : Has (w.alloc (.cells cs.toArray t)) w.heap.size t cs := heap_alloc_new w _
theorem Has.at_ {g' : Nat} (h : Has w g t cs) (e : g = g') : Has w g' t cs := e ▸ h
theorem Has.alloc (h : Has w g t cs) (o : Obj) : Has (w.alloc o) g t cs := (heap_alloc_old w o h.lt).trans h
theorem Has.set (h : Has w g t cs) (i : Nat) (v : Value) : Has (w.setCell ⟨g, i, none⟩ v) g t (cs.set i v) := by
  have := heap_setCell_same w g i cs.toArray t v h
  simpa [Has] using this
theorem Has.far (h : Has w g t cs) (p : Addr) (hp : g ≠ p.block) (v : Value) : Has (w.setCell p v) g t cs := (heap_setCell_other w p g v hp).trans h
theorem Has.keep {B : Nat} (h : Has w g t cs) (hb : Below B w w') (hg : g < B) : Has w' g t cs := (hb.block g hg).trans h
theorem Has.grown {row : Option Nat} (h : Has w g t cs) (hb : w.grownBy w' row) (hg : some g ≠ row) : Has w' g t cs := (hb.block g h.lt hg).trans h
end

/-- u32 as a cell -/
def uv (x : Nat) : Value := .int .u32 (x : Int)
theorem one_uv (l : List Nat) : ∀ u ∈ l.map uv, u.oneCell' = true := by
  intro u hu
  obtain ⟨c, _, rfl⟩ := List.mem_map.1 hu
  rfl
theorem below_drewN {B : Nat} {w w' : World} (h : Below B w w') (k : Nat) : Below B w (w'.drewN k) := ⟨h.os, h.tape, h.output, h.size, h.block⟩

/-- n words. -/
def wN (n : Nat) (f : Nat → Nat) : List Value := (List.range n).map fun j => uv (f j)
theorem wN_len {n : Nat} (f : Nat → Nat) : (wN n f).length = n := by simp [wN]
theorem wN_at {n : Nat} (f : Nat → Nat) (j : Nat) (h : j < n) : (wN n f)[j]? = some (.int .u32 (f j : Int)) := by simp [wN, h, uv]
theorem wN_set {n : Nat} (f g : Nat → Nat) (j : Nat) (h : ∀ i, i < n → i ≠ j → f i = g i) (v : Value) (hv : v = uv (g j)) : (wN n f).set j v = wN n g := by
  apply List.ext_getElem?
  intro i
  rw [List.getElem?_set]
  by_cases hi : i < n
  · by_cases hj : j = i
    · subst hj
      rw [if_pos rfl, if_pos (by simp [wN, hi]), wN_at g j hi, hv]
      rfl
    · rw [if_neg hj, wN_at f i hi, wN_at g i hi, h i hi (fun e => hj e.symm)]
  · have h1 : ∀ f : Nat → Nat, (wN n f)[i]? = none := fun f => by simp [wN]; omega
    by_cases hj : j = i
    · subst hj
      rw [if_pos rfl, if_neg (by simp [wN]; omega), h1]
    · rw [if_neg hj, h1, h1]
theorem wN_one {n : Nat} (f : Nat → Nat) : ∀ u ∈ wN n f, u.oneCell' = true := by
  intro u hu
  obtain ⟨c, _, rfl⟩ := List.mem_map.1 hu
  rfl
/-- A word out of an array that is no variable. -/
theorem run_index_word {P : Program} {T e : TypeId} {n : Nat} (hT : P.underlying T = some (.array n e)) (he : P.underlying e = some (.int .u32)) (hs : (P.info? e).map (·.size) = some 1)
    (l : List Nat) (hl : l.length = n) (j : Nat) (hj : j < n) (w : World) : (Instr.index T (.agg (l.map uv).toArray) (.int .i64 (j : Int))).run P w = .ok (.int .u32 ((l.getD j 0 : Nat) : Int)) w := by
  cases hq : P.info? e with
  | none => simp [hq] at hs
  | some i =>
    have h1 : i.size = 1 := by simpa [hq] using hs
    have h2 : (0 : Int) ≤ (j : Int) ∧ (j : Int) < (n : Int) := by omega
    have h3 : j < l.length := by omega
    simp [Instr.index, asIntOf, Sem.run_bind, Sem.run_pure, run_underlying hT, h2, sizeOf, typeInfo, hq, h1, part, isAgg, run_underlying he, h3, uv, hj]
/-- w' is w but for what block g holds. -/
structure Only (g : Nat) (w w' : World) : Prop where
  os : w'.os = w.os
  tape : w'.tape = w.tape
  output : w'.output = w.output
  size : w'.heap.size = w.heap.size
  block : ∀ k, k ≠ g → w'.heap[k]? = w.heap[k]?
theorem Only.below {B g : Nat} {a w w' : World} (h : Below B a w) (ho : Only g w w') (hg : B ≤ g) : Below B a w' :=
  ⟨ho.os.trans h.os, ho.tape.trans h.tape, ho.output.trans h.output, by rw [ho.size]; exact h.size, fun k hk => (ho.block k (by omega)).trans (h.block k hk)⟩
theorem Has.only {g k : Nat} {t : TypeId} {cs : List Value} {w w' : World} (h : Has w k t cs) (ho : Only g w w') (hk : k ≠ g) : Has w' k t cs := (ho.block k hk).trans h
theorem Only.cell {g : Nat} {w w' : World} (ho : Only g w w') (p : Addr) (hp : p.block ≠ g) : w'.cell? p = w.cell? p := by
  simp only [World.cell?, ho.block p.block hp]
theorem Only.setRow (w : World) (g : Nat) (cs : Array Value) : Only g w (w.setRow g cs) := ⟨rfl, rfl, rfl, by simp, fun k hk => setRow_other w g k cs hk⟩
theorem Only.setCell (w : World) (g i : Nat) (v : Value) : Only g w (w.setCell ⟨g, i, none⟩ v) := ⟨rfl, rfl, rfl, by simp, fun k hk => heap_setCell_other w ⟨g, i, none⟩ k v hk⟩
theorem Only.trans {g : Nat} {a b c : World} (h : Only g a b) (h' : Only g b c) : Only g a c :=
  ⟨h'.os.trans h.os, h'.tape.trans h.tape, h'.output.trans h.output, h'.size.trans h.size, fun k hk => (h'.block k hk).trans (h.block k hk)⟩
theorem Only.refl (g : Nat) (w : World) : Only g w w := ⟨rfl, rfl, rfl, rfl, fun _ _ => rfl⟩
theorem Only.drew {g : Nat} {a b : World} (h : Only g a b) : Only g a b.drew := ⟨h.os, h.tape, h.output, h.size, h.block⟩
theorem Only.drewN {g : Nat} {a b : World} (h : Only g a b) (k : Nat) : Only g a (b.drewN k) := ⟨h.os, h.tape, h.output, h.size, h.block⟩

section
variable {P : Program} {w : World} {ops : Array Oper} {rest : List Oper} {o : Oper} {a : Act} {Q : Exit → Act → World → Prop}
/-- A whole array is read out of its own block. -/
theorem wpList_load_has (hgd : o.guard = none) (ty : TypeId) (x : Operand) (ho : o.op = .load ty x) (g : Nat) (hx : a.eval x = .pointer (some ⟨g, 0, none⟩)) (t : TypeId) (cs : List Value) (H : Has w g t cs)
    (d : TypeDesc) (hu : P.underlying ty = some d) (hd : (match d with | .struct _ | .array _ _ => true | _ => false) = true) (hi : (P.info? ty).map (·.size) = some cs.length)
    (h : wpList P ops Q rest (a.put o.dst (.agg cs.toArray)) w) : wpList P ops Q (o :: rest) a w :=
  wpList_load_row hgd ty x ho g hx t cs.toArray (0, 0) d H hu hd (by simpa using hi) h
/-- A whole array is written into its own block. -/
theorem wpList_store_has (hgd : o.guard = none) (ty : TypeId) (x y : Operand) (ho : o.op = .store ty x y) (g : Nat) (hx : a.eval x = .pointer (some ⟨g, 0, none⟩)) (cs : List Value) (hy : a.eval y = .agg cs.toArray)
    (t : TypeId) (old : List Value) (H : Has w g t old) (hi : (P.info? ty).map (·.size) = some cs.length) (hold : old.length = cs.length) (h1 : ∀ u ∈ cs, u.oneCell' = true)
    (h : ∀ w', Only g w w' → Has w' g t cs → wpList P ops Q rest (a.put o.dst undef) w') : wpList P ops Q (o :: rest) a w :=
  wpList_store_row hgd ty x y ho g cs.toArray hx hy t old.toArray H (by simpa using hi) (by simpa using hold) (Array.all_eq_true_iff_forall_mem.2 fun v hv => h1 v (by simpa using hv))
    (h _ (Only.setRow w g _) (setRow_heap w g old.toArray _ t _ H))
/-- Two results: a value, and a whole array in its own block. -/
theorem ret_tmp_has {fn : Func} {R : Ending → World → Prop} {u p : Tmp} {ty : TypeId} (h : fn.results = #[.tmp u, .cell p ty]) (v : Value) (hv : a.tmps.getD u undef = v) (g : Nat) (hp : a.tmps.getD p undef = .pointer (some ⟨g, 0, none⟩)) (t : TypeId) (cs : List Value) (H : Has w g t cs)
    (d : TypeDesc) (hu : P.underlying ty = some d) (hd : (match d with | .struct _ | .array _ _ => true | _ => false) = true) (hi : (P.info? ty).map (·.size) = some cs.length)
    (hf : a.defers = []) (hR : R (.returned (.tuple #[v, .agg cs.toArray])) w) : bodyPost P fn R .ret a w := by
  refine bodyPost_ret ?_ hf hR
  have hl := run_loadVar_row (P := P) w g t ty cs.toArray (0, 0) d H hu hd (by simpa using hi)
  have hp' : a.tmps[p]?.getD undef = .pointer (some ⟨g, 0, none⟩) := by simpa using hp
  have hv' : a.tmps[u]?.getD undef = v := by simpa using hv
  simp [results, h, hp', hv', asAddr, hl]
/-- A result that is a whole array lies in its own block. -/
theorem ret_has {fn : Func} {R : Ending → World → Prop} {p : Tmp} {ty : TypeId} (h : fn.results = #[.cell p ty]) (g : Nat) (hp : a.tmps.getD p undef = .pointer (some ⟨g, 0, none⟩)) (t : TypeId) (cs : List Value) (H : Has w g t cs)
    (d : TypeDesc) (hu : P.underlying ty = some d) (hd : (match d with | .struct _ | .array _ _ => true | _ => false) = true) (hi : (P.info? ty).map (·.size) = some cs.length)
    (hf : a.defers = []) (hR : R (.returned (.agg cs.toArray)) w) : bodyPost P fn R .ret a w :=
  bodyPost_ret (results_cell_row h a.tmps w g t cs.toArray (0, 0) d hp H hu hd (by simpa using hi)) hf hR
end

/-! ### A row of which a part is taken -/
theorem Row.tail {w : World} {b off n c : Nat} {xs : List Value} (h : Row w (some ⟨b, off, none⟩) n c xs) (k : Nat) (hk : k ≤ n) : Row w (some ⟨b, off + k, none⟩) (n - k) (c - k) (xs.drop k) := by
  obtain ⟨h1, h2, h3, h0, h4⟩ := h
  refine ⟨by simp [h1], by omega, by omega, fun h => (by cases h), fun hn => ?_⟩
  obtain ⟨b', off', e, hb, hc⟩ := h4 (by omega)
  obtain ⟨rfl, rfl⟩ : b = b' ∧ off = off' := by cases e; exact ⟨rfl, rfl⟩
  refine ⟨_, _, rfl, hb, fun j hj => ?_⟩
  rw [Nat.add_assoc, hc (k + j) (by omega), List.getElem?_drop]
theorem Row.head {w : World} {b off n c : Nat} {xs : List Value} (h : Row w (some ⟨b, off, none⟩) n c xs) (k : Nat) (hk : k ≤ n) : Row w (some ⟨b, off, none⟩) k c (xs.take k) := by
  obtain ⟨h1, h2, h3, h0, h4⟩ := h
  refine ⟨by simp [h1]; omega, by omega, by omega, fun h => (by cases h), fun hn => ?_⟩
  obtain ⟨b', off', e, hb, hc⟩ := h4 (by omega)
  obtain ⟨rfl, rfl⟩ : b = b' ∧ off = off' := by cases e; exact ⟨rfl, rfl⟩
  refine ⟨_, _, rfl, hb, fun j hj => ?_⟩
  rw [hc j (by omega), List.getElem?_take, if_pos hj]
theorem Bytes.tail {w : World} {b off n c : Nat} {l : List UInt8} (h : Bytes w (some ⟨b, off, none⟩) n c l) (k : Nat) (hk : k ≤ n) : Bytes w (some ⟨b, off + k, none⟩) (n - k) (c - k) (l.drop k) := by
  rw [Bytes, List.map_drop]; exact Row.tail h k hk
theorem Bytes.head {w : World} {b off n c : Nat} {l : List UInt8} (h : Bytes w (some ⟨b, off, none⟩) n c l) (k : Nat) (hk : k ≤ n) : Bytes w (some ⟨b, off, none⟩) k c (l.take k) := by
  rw [Bytes, List.map_take]; exact Row.head h k hk
/-- A row out of a block that is known whole. -/
theorem Has.row {w : World} {g : Nat} {t : TypeId} {cs : List Value} (h : Has w g t cs) (o n c : Nat) (ho : o + n ≤ cs.length) (hn : n ≤ c) (hc : c ≤ maxLen) : Row w (some ⟨g, o, none⟩) n c ((cs.drop o).take n) := by
  refine ⟨by simp; omega, hn, hc, fun h => (by cases h), fun _ => ⟨_, _, rfl, h.lt, fun j hj => ?_⟩⟩
  rw [h.cell, List.getElem?_take, if_pos hj, List.getElem?_drop]
/-- The row A, of n elements, lies in no place of block g. -/
def Off (g : Nat) (A : Option Addr) (n : Nat) : Prop := 0 < n → ∀ p, A = some p → p.block ≠ g
theorem Off.of_row {w : World} {g : Nat} {A : Option Addr} {n c : Nat} {xs : List Value} (h : Row w A n c xs) (hg : w.heap.size ≤ g) : Off g A n := fun hn p hp => by
  obtain ⟨b, off, e, hb, _⟩ := h.2.2.2.2 hn
  subst hp
  cases e
  show b ≠ g
  omega
theorem Row.only {g : Nat} {w w' : World} {A : Option Addr} {n c : Nat} {xs : List Value} (h : Row w A n c xs) (ho : Only g w w') (hA : Off g A n) : Row w' A n c xs := by
  obtain ⟨h1, h2, h3, h0, h4⟩ := h
  refine ⟨h1, h2, h3, h0, fun hn => ?_⟩
  obtain ⟨b, off, rfl, hb, hc⟩ := h4 hn
  exact ⟨b, off, rfl, by rw [ho.size]; exact hb, fun j hj => (ho.cell ⟨b, off + j, none⟩ (hA hn ⟨b, off, none⟩ rfl)).trans (hc j hj)⟩
/-- w' is w but for what block g holds and for new blocks. -/
structure Save (g : Nat) (w w' : World) : Prop where
  os : w'.os = w.os
  tape : w'.tape = w.tape
  output : w'.output = w.output
  size : w.heap.size ≤ w'.heap.size
  block : ∀ k, k < w.heap.size → k ≠ g → w'.heap[k]? = w.heap[k]?
theorem Save.refl (g : Nat) (w : World) : Save g w w := ⟨rfl, rfl, rfl, Nat.le_refl _, fun _ _ _ => rfl⟩
theorem Save.trans {g : Nat} {a b c : World} (h : Save g a b) (h' : Save g b c) : Save g a c :=
  ⟨h'.os.trans h.os, h'.tape.trans h.tape, h'.output.trans h.output, Nat.le_trans h.size h'.size, fun k hk hg => (h'.block k (Nat.lt_of_lt_of_le hk h.size) hg).trans (h.block k hk hg)⟩
theorem Only.save {g : Nat} {w w' : World} (h : Only g w w') : Save g w w' := ⟨h.os, h.tape, h.output, Nat.le_of_eq h.size.symm, fun k _ hg => h.block k hg⟩
theorem Save.new {g b : Nat} {a w w' : World} (h : Save g a w) (ho : Only b w w') (hb : a.heap.size ≤ b) : Save g a w' :=
  ⟨ho.os.trans h.os, ho.tape.trans h.tape, ho.output.trans h.output, by rw [ho.size]; exact h.size, fun k hk hg => (ho.block k (by omega)).trans (h.block k hk hg)⟩
theorem Save.of_below {g : Nat} {w w' : World} (h : Below w.heap.size w w') : Save g w w' := ⟨h.os, h.tape, h.output, h.size, fun k hk _ => h.block k hk⟩
theorem Save.drew {g : Nat} {a b : World} (h : Save g a b) : Save g a b.drew := ⟨h.os, h.tape, h.output, h.size, h.block⟩
theorem Save.drewN {g : Nat} {a b : World} (h : Save g a b) (k : Nat) : Save g a (b.drewN k) := ⟨h.os, h.tape, h.output, h.size, h.block⟩
theorem Save.below {B g : Nat} {a w w' : World} (h : Below B a w) (ho : Save g w w') (hg : B ≤ g) (hB : B ≤ w.heap.size) : Below B a w' :=
  ⟨ho.os.trans h.os, ho.tape.trans h.tape, ho.output.trans h.output, Nat.le_trans h.size ho.size, fun k hk => (ho.block k (by omega) (by omega)).trans (h.block k hk)⟩
theorem Row.save {g : Nat} {w w' : World} {A : Option Addr} {n c : Nat} {xs : List Value} (h : Row w A n c xs) (ho : Save g w w') (hA : Off g A n) : Row w' A n c xs := by
  obtain ⟨h1, h2, h3, h0, h4⟩ := h
  refine ⟨h1, h2, h3, h0, fun hn => ?_⟩
  obtain ⟨b, off, rfl, hb, hc⟩ := h4 hn
  refine ⟨b, off, rfl, Nat.lt_of_lt_of_le hb ho.size, fun j hj => ?_⟩
  rw [← hc j hj]
  simp only [World.cell?, ho.block b hb (hA hn _ rfl)]
theorem Has.save {g k : Nat} {t : TypeId} {cs : List Value} {w w' : World} (h : Has w k t cs) (ho : Save g w w') (hk : k ≠ g) : Has w' k t cs := (ho.block k h.lt hk).trans h

/-! ### Many cells written -/
theorem Only.setCells (g : Nat) : ∀ (vs : List Value) (o : Nat) (w : World), Only g w (w.setCells g o vs)
  | [], _, w => Only.refl g w
  | v :: r, o, w => (Only.setCell w g o v).trans (Only.setCells g r (o + 1) _)
theorem splice_nil {α : Type} (L : List α) (o : Nat) : splice L o [] = L := by simp [splice]
theorem splice_cons {α : Type} (L : List α) (o : Nat) (v : α) (r : List α) (h : o < L.length) : splice (L.set o v) (o + 1) r = splice L o (v :: r) := by
  simp only [splice, List.length_cons, List.cons_append]
  rw [List.drop_set_of_lt (by omega), List.take_add_one, List.getElem?_set_self h, List.take_set_of_le (Nat.le_refl _)]
  simp
  congr 1
  omega
theorem Has.setCells {g : Nat} {t : TypeId} : ∀ (vs : List Value) (o : Nat) (w : World) (cs : List Value), Has w g t cs → o + vs.length ≤ cs.length → Has (w.setCells g o vs) g t (splice cs o vs)
  | [], o, w, cs, h, _ => by rw [splice_nil]; exact h
  | v :: r, o, w, cs, h, hl => by
    have hl' : o < cs.length := by simp at hl; omega
    have := Has.setCells r (o + 1) (w.setCell ⟨g, o, none⟩ v) (cs.set o v) (h.set o v) (by simp at hl ⊢; omega)
    rw [splice_cons cs o v r hl'] at this
    exact this
theorem Has.there {w : World} {g : Nat} {t : TypeId} {cs : List Value} (h : Has w g t cs) (o n : Nat) (hn : o + n ≤ cs.length) : w.there g o n := fun j hj => by
  rw [h.cell, h.froz]
  simp
  omega
theorem Has.range {w : World} {g : Nat} {t : TypeId} {cs : List Value} (h : Has w g t cs) (o : Nat) (xs : List Value) (hx : (cs.drop o).take xs.length = xs) : w.rangeAt g o xs := fun j v hv => by
  have hj : j < xs.length := (List.getElem?_eq_some_iff.1 hv).1
  rw [h.cell, ← hv, ← List.getElem?_drop]
  conv => rhs; rw [← hx]
  rw [List.getElem?_take, if_pos hj]

/-- Many cells are written into a part of a block that is known whole. -/
theorem run_cells_has {P : Program} {w : World} {g : Nat} {t : TypeId} {cs : List Value} (H : Has w g t cs) (o : Nat) (vs : List Value) (h : o + vs.length ≤ cs.length) (h1 : ∀ u ∈ vs, u.oneCell' = true) :
    ∃ w', Only g w w' ∧ Has w' g t (splice cs o vs) ∧ Sem.run P (storeCells ⟨g, o, none⟩ vs) w = .ok () w' := by
  refine ⟨w.setCells g o vs, Only.setCells g vs o w, Has.setCells vs o w cs H h, ?_⟩
  have ht := H.there o vs.length h
  have := run_storeCells_cells (P := P) g o vs 0 w (fun j hj => by simpa using (ht j hj).1) (fun j hj => by simpa using (ht j hj).2) h1
  simpa using this
/-! ### copy into a part of a block that is known whole -/
section
variable {P : Program} {w : World} {o : Oper} {a : Act} {Q : Exit → Act → World → Prop}
theorem wp_copy_has {K : Act → World → Prop} (d s : Operand) (dT sT : TypeId) (ho : o.op = .call { callee := .builtin .copy, args := #[d, s], argTypes := #[dT, sT] }) (e : TypeId) (hu : P.underlying dT = some (.slice e)) (hsz : (P.info? e).map (·.size) = some 1)
    (g off dn dc : Nat) (hd : a.eval d = .slice (some ⟨g, off, none⟩) dn dc) (A : Option Addr) (n c : Nat) (hs : a.eval s = .slice A n c) (xs : List Value) (hr : Row w A n c xs) (t : TypeId) (cur : List Value) (H : Has w g t cur)
    (k : Nat) (hk : k = Nat.min n dn) (hfit : off + k ≤ cur.length) (h1 : ∀ v ∈ xs, v.oneCell' = true)
    (h : ∀ w', Only g w w' → Has w' g t (splice cur off (xs.take k)) → K (a.put o.dst (.int .i64 (k : Int))) w') : o.wp P a w K Q := by
  have hkl : k ≤ n := by subst hk; exact Nat.min_le_left _ _
  have hlen : (xs.take k).length = k := by rw [List.length_take, hr.1]; omega
  rcases Nat.eq_zero_or_pos k with h0 | h0
  · subst h0
    have hrun := run_copy_none (P := P) w dT sT o.type e (some ⟨g, off, none⟩) A dn dc n c hu hsz hk.symm
    unfold Oper.wp
    simp [execOp, ho, resolve, invoke, builtin, hd, hs, hrun, Result.andThen, goInt]
    exact h w (Only.refl g w) (by rw [List.take_zero, splice_nil]; exact H)
  · obtain ⟨ad, rfl, hsrc⟩ := Row.src hr (w2 := w) (fun _ _ => rfl) (by rw [hr.1]; omega)
    have hrun := run_copy_row (P := P) w dT sT o.type e g off dn dc ad n c cur.toArray t (xs.take k) hu hsz H (by rw [hlen]; exact hk)
      (fun j v hj => hsrc j v (by rw [List.getElem?_take] at hj; split at hj; exact hj; cases hj)) (by rw [hlen]; simpa using hfit) (fun v hv => h1 v (List.mem_of_mem_take hv))
    have e1 : min k xs.length = k := by rw [hr.1]; omega
    unfold Oper.wp
    simp [execOp, ho, resolve, invoke, builtin, hd, hs, hrun, Result.andThen, goInt, e1]
    have h2 := h _ (Only.setRow w g (splice cur off (xs.take k)).toArray) (setRow_heap w g cur.toArray _ t _ H)
    simp [splice, e1] at h2
    exact h2
theorem wpList_copy_has {ops : Array Oper} {rest : List Oper} (hgd : o.guard = none) (d s : Operand) (dT sT : TypeId) (ho : o.op = .call { callee := .builtin .copy, args := #[d, s], argTypes := #[dT, sT] }) (e : TypeId) (hu : P.underlying dT = some (.slice e)) (hsz : (P.info? e).map (·.size) = some 1)
    (g off dn dc : Nat) (hd : a.eval d = .slice (some ⟨g, off, none⟩) dn dc) (A : Option Addr) (n c : Nat) (hs : a.eval s = .slice A n c) (xs : List Value) (hr : Row w A n c xs) (t : TypeId) (cur : List Value) (H : Has w g t cur)
    (k : Nat) (hk : k = Nat.min n dn) (hfit : off + k ≤ cur.length) (h1 : ∀ v ∈ xs, v.oneCell' = true)
    (h : ∀ w', Only g w w' → Has w' g t (splice cur off (xs.take k)) → wpList P ops Q rest (a.put o.dst (.int .i64 (k : Int))) w') : wpList P ops Q (o :: rest) a w :=
  wpList_plain hgd fun _ hK => wp_copy_has d s dT sT ho e hu hsz g off dn dc hd A n c hs xs hr t cur H k hk hfit h1 fun w' h2 h3 => hK _ _ (h w' h2 h3)
theorem step_copy_has {ops : Array Oper} {K : Act → World → Prop} {E : Prop} (hgd : o.guard = none) (d s : Operand) (dT sT : TypeId) (ho : o.op = .call { callee := .builtin .copy, args := #[d, s], argTypes := #[dT, sT] }) (e : TypeId) (hu : P.underlying dT = some (.slice e)) (hsz : (P.info? e).map (·.size) = some 1)
    (g off dn dc : Nat) (hd : a.eval d = .slice (some ⟨g, off, none⟩) dn dc) (A : Option Addr) (n c : Nat) (hs : a.eval s = .slice A n c) (xs : List Value) (hr : Row w A n c xs) (t : TypeId) (cur : List Value) (H : Has w g t cur)
    (k : Nat) (hk : k = Nat.min n dn) (hfit : off + k ≤ cur.length) (h1 : ∀ v ∈ xs, v.oneCell' = true)
    (h : ∀ w', Only g w w' → Has w' g t (splice cur off (xs.take k)) → K (a.put o.dst (.int .i64 (k : Int))) w') : if Region.wanted o (yielded ops a.tmps) = true then Oper.wp P o a w K Q else E := by
  have hw : Region.wanted o (yielded ops a.tmps) = true := by simp [Region.wanted, hgd]
  rw [if_pos hw]
  exact wp_copy_has d s dT sT ho e hu hsz g off dn dc hd A n c hs xs hr t cur H k hk hfit h1 h
end
end Go.Proofs.YtgjepiblhpmaiaaDoor
