/-
  Notes that are equal.
-/
import Derived.Test.YtiilgkajijnbcaaRdNote
import Derived.Test.YtiilgkajijnbcaaLow
import Derived.Laws.StructEq
namespace Go.Proofs.Ytiilgkajijnbcaa
open Go.ChangeShapes Go.WideShapes Go.ChangeAt Go.RowKit
set_option linter.unusedVariables false
set_option linter.unusedSimpArgs false
set_option maxRecDepth 100000

theorem part_cell {P : Program} {t : TypeId} {cs : Array Value} {off : Nat} {k : IntKind} {a : Int} (ht : P.underlying t = some (.int k)) (h : cs[off]? = some (.int k a)) (w : World) : (part t cs off).run P w = .ok (.int k a) w := by
  simp [part, isAgg, Sem.run_bind, run_underlying ht, h]
theorem part_arr {P : Program} {t e : TypeId} {cs : Array Value} {off n : Nat} {l : List Value} (ht : P.underlying t = some (.array n e)) (hs : (P.info? t).map (·.size) = some n) (h : (cs.toList.drop off).take n = l) (w : World) : (part t cs off).run P w = .ok (.agg l.toArray) w := by
  cases hq : P.info? t with
  | none => simp [hq] at hs
  | some i =>
    have h1 : i.size = n := by simpa [hq] using hs
    have h2 : cs.extract off (off + n) = l.toArray := by
      rw [← h]
      apply Array.ext'
      simp [Array.toList_extract, List.take_drop]
    simp [part, isAgg, Sem.run_bind, Sem.run_pure, run_underlying ht, sizeOf, typeInfo, hq, h1, h2]
/-- A whole struct read under a guard that holds. -/
theorem wpList_load_hasG {P : Program} {w : World} {ops : Array Oper} {rest : List Oper} {o : Oper} {a : Act} {Q : Exit → Act → World → Prop} (hw : Region.wanted o (yielded ops a.tmps) = true) (ty : TypeId) (x : Operand) (ho : o.op = .load ty x) (g : Nat) (hx : a.eval x = .pointer (some ⟨g, 0, none⟩)) (t : TypeId) (cs : List Value) (H : Has w g t cs)
    (d : TypeDesc) (hu : P.underlying ty = some d) (hd : (match d with | .struct _ | .array _ _ => true | _ => false) = true) (hi : (P.info? ty).map (·.size) = some cs.length)
    (h : wpList P ops Q rest (a.put o.dst (.agg cs.toArray)) w) : wpList P ops Q (o :: rest) a w :=
  wpList_step fun K hK => by
    rw [if_pos hw]
    exact wp_load_row ty x ho g hx t cs.toArray (0, 0) d H hu hd (by simpa using hi) (hK _ _ h)
theorem eq_note (x y : Nat) (l : List UInt8) (hl : l.length = 32) (w : World) : (Op.equalIn 10000 67 (.agg (ncells x y l).toArray) (.agg (ncells x y l).toArray)).run Try.prog w = .ok true w := by
  rw [run_equalIn_struct (P := Try.prog) w 9999 67 _ _ Try.underlying67 (by kernel_rfl)]
  have p0 := part_cell (P := Try.prog) (cs := (ncells x y l).toArray) (off := 0) (a := (x : Int)) Try.underlying37 rfl
  have p1 := part_cell (P := Try.prog) (cs := (ncells x y l).toArray) (off := 1) (a := (y : Int)) Try.underlying37 rfl
  have p2 := part_arr (P := Try.prog) (cs := (ncells x y l).toArray) (off := 2) (l := l.map bv) Try.underlying35 (by kernel_rfl) (by
    show ((ncells x y l).drop 2).take 32 = _
    rw [show (ncells x y l).drop 2 = l.map bv from rfl, List.take_of_length_le (by rw [List.length_map]; omega)])
  have e0 := fun w => run_equalIn_int (P := Try.prog) w 9998 37 .u64 .u64 (x : Int) (x : Int) Try.underlying37
  have e1 := fun w => run_equalIn_int (P := Try.prog) w 9998 37 .u64 .u64 (y : Int) (y : Int) Try.underlying37
  have e2 := fun w => run_equalIn_bytes (P := Try.prog) w 9997 35 5 32 Try.underlying35 Try.underlying5 (fun u => by kernel_rfl) l l hl hl
  have e2' : ∀ u, (Op.equalIn 9999 35 (.agg (l.map bv).toArray) (.agg (l.map bv).toArray)).run Try.prog u = .ok true u := fun u => by
    have h := e2 u
    rw [show (l == l) = true by simp] at h
    exact h
  simp [Program.fieldsOf, Try.underlying67, Op.eqFields, Sem.run_bind, p0, p1, p2, e0, e1, e2', Result.andThen]
end Go.Proofs.Ytiilgkajijnbcaa
