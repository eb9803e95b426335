/-
  Rows of numbers of 64 bits (of no program): as Bytes for bytes.
-/
import Derived.Test.YtgjepiblhpmaiaaDoorBase
namespace Go.Proofs.YtgjepiblhpmaiaaDoor
open Go.ChangeShapes Go.WideShapes Go.ChangeAt Go.RowKit
set_option linter.unusedVariables false
set_option linter.unusedSimpArgs false

/-- A number of 64 bits as a cell. -/
def nv (x : Nat) : Value := .int .u64 (x : Int)
theorem one_nv (l : List Nat) : ∀ u ∈ l.map nv, u.oneCell' = true := by
  intro u hu
  obtain ⟨c, _, rfl⟩ := List.mem_map.1 hu
  rfl
/-- A row of numbers of 64 bits. -/
def Nums (w : World) (A : Option Addr) (n c : Nat) (l : List Nat) : Prop := Row w A n c (l.map nv) ∧ ∀ x ∈ l, x < 18446744073709551616
theorem Nums.len {w : World} {A : Option Addr} {n c : Nat} {l : List Nat} (h : Nums w A n c l) : l.length = n := by simpa using h.1.1
theorem Nums.le {w : World} {A : Option Addr} {n c : Nat} {l : List Nat} (h : Nums w A n c l) : n ≤ 9223372036854775807 := by
  have h1 := h.1.2.1
  have h2 := h.1.2.2.1
  unfold maxLen at h2
  omega
theorem Nums.lt {w : World} {A : Option Addr} {n c : Nat} {l : List Nat} (h : Nums w A n c l) (j : Nat) : l.getD j 0 < 18446744073709551616 := by
  rw [List.getD_eq_getElem?_getD]
  by_cases hj : j < l.length
  · rw [List.getElem?_eq_getElem hj, Option.getD_some]
    exact h.2 _ (List.getElem_mem hj)
  · rw [List.getElem?_eq_none (by omega), Option.getD_none]
    omega
theorem Nums.at_ {w : World} {A : Option Addr} {n c : Nat} {l : List Nat} (h : Nums w A n c l) (hn : 0 < n) :
    ∃ b off, A = some ⟨b, off, none⟩ ∧ b < w.heap.size ∧ ∀ j, j < n → w.cell? ⟨b, off + j, none⟩ = some (.int .u64 ((l.getD j 0 : Nat) : Int)) := by
  have hl := h.len
  obtain ⟨b, off, e, hb, hc⟩ := h.1.2.2.2.2 hn
  refine ⟨b, off, e, hb, fun j hj => (hc j hj).trans ?_⟩
  have hj' : j < l.length := by omega
  simp [nv, hj']
theorem Nums.keep {w w' : World} {A : Option Addr} {n c : Nat} {l : List Nat} (h : Nums w A n c l) (hb : Below w.heap.size w w') : Nums w' A n c l := ⟨Row.keep h.1 hb, h.2⟩
/-- What the given shell tells of a slice of numbers that came in. -/
theorem Nums.of_row {w : World} {A : Option Addr} {n c : Nat} {zs : List Int}
    (h : (A = none ∧ n = 0 ∧ c = 0 ∧ zs = []) ∨
      ∃ x, A = some x ∧ n ≤ c ∧ c ≤ maxLen ∧ zs.length = c ∧ (∀ i, i < zs.length → w.cell? (x.add i) = some (.int .u64 (zs.getD i 0))) ∧ ∀ k ∈ zs, (Lit.int .u64 k).wf = true) : ∃ l, Nums w A n c l := by
  rcases h with ⟨rfl, rfl, rfl, rfl⟩ | ⟨x, rfl, h1, h2, h3, h4, h5⟩
  · exact ⟨[], Row.nil w, fun x hx => by cases hx⟩
  · have hwf : ∀ k ∈ zs, 0 ≤ k ∧ k ≤ 18446744073709551615 := fun k hk => by
      simpa [Lit.wf, IntKind.min, IntKind.max, IntKind.signed, IntKind.bits] using h5 k hk
    refine ⟨(zs.take n).map Int.toNat, ⟨by simp; omega, h1, h2, fun h => (by cases h), fun hn => ?_⟩, fun k hk => ?_⟩
    · have hc0 := h4 0 (by omega)
      obtain ⟨b, off, spot⟩ := x
      have hspot : spot = none := by simpa [Addr.add] using World.cell?_spot hc0
      subst hspot
      refine ⟨b, off, rfl, ?_, fun j hj => ?_⟩
      · have := World.block_lt_of_cell? w _ hc0
        simpa [Addr.add] using this
      · have hj' : j < zs.length := by omega
        have hc := h4 j hj'
        have hz := hwf _ (List.getElem_mem hj')
        rw [add_plain] at hc
        rw [hc]
        simp [nv, hj, hj']
        omega
    · obtain ⟨z, hz, rfl⟩ := List.mem_map.1 hk
      have := hwf z (List.mem_of_mem_take hz)
      omega

/-- What a literal of numbers has just laid. -/
theorem Nums.lit (w : World) (l : List Nat) (h63 : l.length ≤ maxLen) (h64 : ∀ x ∈ l, x < 18446744073709551616) : Nums (w.alloc (.cells (l.map nv).toArray 23)) (some ⟨w.heap.size, 0, none⟩) l.length l.length l := by
  refine ⟨⟨by simp, Nat.le_refl _, h63, fun h => (by cases h), fun _ => ⟨_, _, rfl, by simp, fun j hj => ?_⟩⟩, h64⟩
  rw [Nat.zero_add, cell_of_row _ w.heap.size j (l.map nv).toArray 23 (0, 0) (heap_alloc_new w _)]
  simp
theorem Tryd.info64 : (Tryd.prog.info? 23).map (fun i => (i.zero, i.size, i.bytes)) = some (some (.int .u64 0), 1, 8) := by kernel_rfl
/-- 'append(s, x...)' of numbers of 64 bits. -/
theorem app64 {w : World} {ops : Array Oper} {rest : List Oper} {o : Oper} {a : Act} {Q : Exit → Act → World → Prop} (hgd : o.guard = none) (s x : Operand)
    (ho : o.op = .call { callee := .builtin .append, args := #[s, x], argTypes := #[22, 22] })
    (base : Nat) (v : Value) (n : Nat) (l : List Nat) (hs : a.eval s = v) (hown : w.ownsRow base 23 1 v n (l.map nv))
    (A : Option Addr) (m c : Nat) (l' : List Nat) (hx : a.eval x = .slice A m c) (hr : Row w A m c (l'.map nv)) (hbytes : (n + m) * 8 ≤ 140737488355328) (hbase : base ≤ w.heap.size)
    (h : ∀ v' w', w'.ownsRow base 23 1 v' (n + m) ((l ++ l').map nv) → w.grownBy w' v.ownBlock → wpList Tryd.prog ops Q rest (a.put o.dst v') w') : wpList Tryd.prog ops Q (o :: rest) a w := by
  obtain ⟨i0, hi, hz0, hz1, hz2⟩ := info_parts Tryd.info64
  exact wpList_appendRow hgd s x 22 ho base 23 i0 (.int .u64 0) 8 Tryd.underlying22 hi hz0 hz1 hz2 rfl v n (l.map nv) hs hown A m c (l'.map nv) hx hr (one_nv l') (by decide) hbytes hbase fun v' w' h2 h3 => h v' w' (by rw [List.map_append]; exact h2) h3
end Go.Proofs.YtgjepiblhpmaiaaDoor
