/-
  Rows of ints and of bools: read, made, appended to; a row of the call's own as a block known whole.
-/
import Derived.Test.YtjfipijdjbbogaaDoorLow
namespace Go.Proofs.YtjfipijdjbbogaaDoor
open Go.ChangeShapes Go.WideShapes Go.ChangeAt Go.RowKit
set_option linter.unusedVariables false
set_option linter.unusedSimpArgs false

/-- An int as a cell. -/
def iv (x : Int) : Value := .int .i64 x
theorem one_iv (l : List Int) : ∀ u ∈ l.map iv, u.oneCell' = true := by
  intro u hu
  obtain ⟨c, _, rfl⟩ := List.mem_map.1 hu
  rfl
/-- A row of ints. -/
def Ints (w : World) (A : Option Addr) (n c : Nat) (l : List Int) : Prop := Row w A n c (l.map iv)
section
variable {w w' : World} {A : Option Addr} {n c : Nat} {l : List Int}
theorem Ints.len (h : Ints w A n c l) : l.length = n := by simpa using h.1
theorem Ints.le (h : Ints w A n c l) : n ≤ 9223372036854775807 := by
  have h1 := h.2.1
  have h2 := h.2.2.1
  unfold maxLen at h2
  omega
theorem Ints.at_ (h : Ints w A n c l) (hn : 0 < n) :
    ∃ b off, A = some ⟨b, off, none⟩ ∧ b < w.heap.size ∧ ∀ j, j < n → w.cell? ⟨b, off + j, none⟩ = some (.int .i64 (l.getD j 0)) := by
  have hl := h.len
  obtain ⟨b, off, e, hb, hc⟩ := h.2.2.2.2 hn
  refine ⟨b, off, e, hb, fun j hj => (hc j hj).trans ?_⟩
  have hj' : j < l.length := by omega
  simp [iv, hj']
theorem Ints.keep (h : Ints w A n c l) (hb : Below w.heap.size w w') : Ints w' A n c l := Row.keep h hb
theorem Ints.nil (w : World) : Ints w none 0 0 [] := Row.nil w
/-- What the given shell tells of a slice of ints that came in. -/
theorem Ints.of_row {zs : List Int}
    (h : (A = none ∧ n = 0 ∧ c = 0 ∧ zs = []) ∨
      ∃ x, A = some x ∧ n ≤ c ∧ c ≤ maxLen ∧ zs.length = c ∧ (∀ i, i < zs.length → w.cell? (x.add i) = some (.int .i64 (zs.getD i 0))) ∧ ∀ k ∈ zs, (Lit.int .i64 k).wf = true) : ∃ l, Ints w A n c l := by
  rcases h with ⟨rfl, rfl, rfl, rfl⟩ | ⟨x, rfl, h1, h2, h3, h4, h5⟩
  · exact ⟨[], Row.nil w⟩
  · refine ⟨zs.take n, by simp; omega, h1, h2, fun h => (by cases h), fun hn => ?_⟩
    have hc0 := h4 0 (by omega)
    obtain ⟨b, off, spot⟩ := x
    have hspot : spot = none := by simpa [Addr.add] using World.cell?_spot hc0
    subst hspot
    refine ⟨b, off, rfl, ?_, fun j hj => ?_⟩
    · have := World.block_lt_of_cell? w _ hc0
      simpa [Addr.add] using this
    · have hj' : j < zs.length := by omega
      have hc := h4 j hj'
      rw [add_plain] at hc
      rw [hc]
      simp [iv, hj, hj']
end
/-- n bools. -/
def bN (n : Nat) (f : Nat → Bool) : List Value := (List.range n).map fun j => .bool (f j)
theorem bN_len {n : Nat} (f : Nat → Bool) : (bN n f).length = n := by simp [bN]
theorem bN_at {n : Nat} (f : Nat → Bool) (j : Nat) (h : j < n) : (bN n f)[j]? = some (.bool (f j)) := by simp [bN, h]
theorem bN_set {n : Nat} (f g : Nat → Bool) (j : Nat) (h : ∀ i, i < n → i ≠ j → f i = g i) (v : Value) (hv : v = .bool (g j)) : (bN n f).set j v = bN n g := by
  apply List.ext_getElem?
  intro i
  rw [List.getElem?_set]
  by_cases hi : i < n
  · by_cases hj : j = i
    · subst hj
      rw [if_pos rfl, if_pos (by simp [bN, hi]), bN_at g j hi, hv]
    · rw [if_neg hj, bN_at f i hi, bN_at g i hi, h i hi (fun e => hj e.symm)]
  · have h1 : ∀ f : Nat → Bool, (bN n f)[i]? = none := fun f => by simp [bN]; omega
    by_cases hj : j = i
    · subst hj
      rw [if_pos rfl, if_neg (by simp [bN]; omega), h1]
    · rw [if_neg hj, h1, h1]
theorem Tryd.infoInt : (Tryd.prog.info? 3).map (fun i => (i.zero, i.size, i.bytes)) = some (some (.int .i64 0), 1, 8) := by kernel_rfl
theorem run_makeI (n : Nat) (hn : n ≤ 1048576) (u : World) : (Instr.makeSlice 34 (.int .i64 (n : Int)) (.int .i64 (n : Int))).run Tryd.prog u =
    .ok (.slice (some ⟨u.heap.size, 0, none⟩) n n) (u.alloc (.cells ((List.replicate n (0 : Int)).map iv).toArray 3)) := by
  obtain ⟨i0, hi, hz0, hz1, hz2⟩ := info_parts Tryd.infoInt
  have h := run_make (P := Tryd.prog) u 34 3 i0 _ Tryd.underlying34 hi hz0 .i64 .i64 (n : Int) (n : Int) (by omega) (by omega) (by rw [hz2]; omega) (by omega)
  have e : madeCells (Value.int .i64 0).cells n = ((List.replicate n (0 : Int)).map iv).toArray := by
    rw [List.map_replicate, show iv 0 = Value.int .i64 0 from rfl, ← toList_madeCells_one]
    simp [Value.cells]
  rw [Int.toNat_natCast, hz1, Nat.mul_one, e] at h
  exact h
/-- A block of ints that is known whole is a row. -/
theorem Has.ints {w : World} {g : Nat} {t : TypeId} {l : List Int} {n : Nat} (h : Has w g t (l.map iv)) (hl : l.length = n) (hn : n ≤ 1048576) : Ints w (some ⟨g, 0, none⟩) n n l := by
  have := h.row 0 n n (by simp; omega) (Nat.le_refl _) (by unfold maxLen; omega)
  rw [List.drop_zero, List.take_of_length_le (by simp; omega)] at this
  exact this
/-- 'append(s, x...)' of ints. -/
theorem appI {w : World} {ops : Array Oper} {rest : List Oper} {o : Oper} {a : Act} {Q : Exit → Act → World → Prop} (hgd : o.guard = none) (s x : Operand)
    (ho : o.op = .call { callee := .builtin .append, args := #[s, x], argTypes := #[34, 34] })
    (base : Nat) (v : Value) (n : Nat) (l : List Int) (hs : a.eval s = v) (hown : w.ownsRow base 3 1 v n (l.map iv))
    (A : Option Addr) (m c : Nat) (l' : List Int) (hx : a.eval x = .slice A m c) (hr : Row w A m c (l'.map iv)) (hbytes : (n + m) * 8 ≤ 140737488355328) (hbase : base ≤ w.heap.size)
    (h : ∀ v' w', w'.ownsRow base 3 1 v' (n + m) ((l ++ l').map iv) → w.grownBy w' v.ownBlock → wpList Tryd.prog ops Q rest (a.put o.dst v') w') : wpList Tryd.prog ops Q (o :: rest) a w := by
  obtain ⟨i0, hi, hz0, hz1, hz2⟩ := info_parts Tryd.infoInt
  exact wpList_appendRow hgd s x 34 ho base 3 i0 (.int .i64 0) 8 Tryd.underlying34 hi hz0 hz1 hz2 rfl v n (l.map iv) hs hown A m c (l'.map iv) hx hr (one_iv l') (by decide) hbytes hbase fun v' w' h2 h3 => h v' w' (by rw [List.map_append]; exact h2) h3
/-- A literal of one int. -/
theorem lit1I (w : World) (x : Int) : Row (w.alloc (.cells #[.int .i64 x] 3)) (some ⟨w.heap.size, 0, none⟩) 1 1 ([x].map iv) :=
  (Has.new w 3 [.int .i64 x]).row 0 1 1 (by simp) (Nat.le_refl _) (by unfold maxLen; omega)
/-- A row of the call's own, of one element at least, is a block known whole, with room behind it. -/
theorem own_hasI {w : World} {base n : Nat} {v : Value} {l : List Int} (h : w.ownsRow base 3 1 v n (l.map iv)) (hn : 0 < n) :
    ∃ g c Z, v = .slice (some ⟨g, 0, none⟩) n c ∧ base ≤ g ∧ Has w g 3 (l.map iv ++ Z) ∧ n ≤ c ∧ c ≤ maxLen ∧ l.length = n := by
  have hl : l.length = n := by have := h.1; simp at this; omega
  rcases h.2 with ⟨rfl, rfl⟩ | ⟨g, cap, cur, rfl, hb, hg, hnc, hcm, hsz, htk⟩
  · omega
  · refine ⟨g, cap, cur.toList.drop n, rfl, hb, ?_, hnc, hcm, hl⟩
    unfold Has
    rw [Nat.mul_one] at htk
    rw [← htk, List.take_append_drop]
    exact hg
end Go.Proofs.YtjfipijdjbbogaaDoor
