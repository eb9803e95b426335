/-
  A string as the source of a copy or of an append.
-/
import Derived.Test.YtcnpbgmdmifhaaaDoorMem
import Derived.Lib.AppendStr
import Derived.Deep.RegionHeldLaw
namespace Go.Proofs.YtcnpbgmdmifhaaaDoor
open Go.ChangeShapes Go.WideShapes Go.ChangeAt Go.RowKit
set_option linter.unusedVariables false
set_option linter.unusedSimpArgs false

theorem str_size (l : List UInt8) : (str l).size = l.length := by simp [str, ByteArray.size]
theorem str_cells (l : List UInt8) : Lib.strCells (str l) = l.map bv := rfl
theorem run_copy_str {w : World} {g off dn dc : Nat} {t : TypeId} {cur : List Value} (H : Has w g t cur) (l : List UInt8) (hk : l.length ≤ dn) (hfit : off + l.length ≤ cur.length) (ty : TypeId) :
    ∃ w', Only g w w' ∧ Has w' g t (splice cur off (l.map bv)) ∧ (Builtin.copy_ #[25, 9] ty #[.slice (some ⟨g, off, none⟩) dn dc, .string (str l)]).run Tryd.prog w = .ok (.int .i64 (l.length : Int)) w' := by
  obtain ⟨w', h1, h2, h3⟩ := run_cells_has (P := Tryd.prog) H off (l.map bv) (by rw [List.length_map]; exact hfit) (one_bv l)
  refine ⟨w', h1, h2, ?_⟩
  obtain ⟨i, hi, hz, hsize, hby⟩ := info_parts Tryd.info8
  have ht := Tryd.underlying25
  have hmin : Nat.min (str l).size dn = (str l).size := Nat.min_eq_left (by rw [str_size]; exact hk)
  have hf := Lib.run_firstCells_string (P := Tryd.prog) w 1 (str l)
  rw [str_cells] at hf
  simp [Builtin.copy_, run_underlying ht, Builtin.lenOf, sizeOf, typeInfo, hi, hsize, hmin, hf, h3, goInt]
  rw [str_size]
section
variable {w : World} {ops : Array Oper} {rest : List Oper} {o : Oper} {a : Act} {Q : Exit → Act → World → Prop}
theorem wpList_copy_str (hgd : o.guard = none) (d s : Operand) (ho : o.op = .call { callee := .builtin .copy, args := #[d, s], argTypes := #[25, 9] })
    (g off dn dc : Nat) (hd : a.eval d = .slice (some ⟨g, off, none⟩) dn dc) (l : List UInt8) (hs : a.eval s = .string (str l)) (t : TypeId) (cur : List Value) (H : Has w g t cur)
    (hk : l.length ≤ dn) (hfit : off + l.length ≤ cur.length)
    (h : ∀ w', Only g w w' → Has w' g t (splice cur off (l.map bv)) → wpList Tryd.prog ops Q rest (a.put o.dst (.int .i64 (l.length : Int))) w') : wpList Tryd.prog ops Q (o :: rest) a w := by
  refine wpList_plain hgd fun _ hK => ?_
  obtain ⟨w', h1, h2, hr⟩ := run_copy_str (dc := dc) H l hk hfit o.type
  unfold Oper.wp execOp
  simp only [ho, resolve, invoke, builtin, Sem.run_bind, Sem.run_pure, Result.andThen_ok, List.map_toArray, List.map_cons, List.map_nil, hd, hs, hr]
  exact hK _ _ (h w' h1 h2)
theorem app_str (hgd : o.guard = none) (s x : Operand)
    (ho : o.op = .call { callee := .builtin .append, args := #[s, x], argTypes := #[25, 9] })
    (base : Nat) (v : Value) (n : Nat) (l : List UInt8) (hs : a.eval s = v) (hown : w.ownsRow base 5 1 v n (l.map bv))
    (m : Nat) (l' : List UInt8) (hx : a.eval x = .string (str l')) (hm : l'.length = m) (hbytes : n + m ≤ 140737488355328) (hbase : base ≤ w.heap.size)
    (h : ∀ v' w', w'.ownsRow base 5 1 v' (n + m) ((l ++ l').map bv) → w.grownBy w' v.ownBlock → wpList Tryd.prog ops Q rest (a.put o.dst v') w') : wpList Tryd.prog ops Q (o :: rest) a w := by
  obtain ⟨i0, hi, hz0, hz1, hz2⟩ := info_parts Tryd.info8
  have e := str_size l'
  exact Lib.wpList_append_own_string (w := w) hgd s x 25 9 ho base 5 i0 Tryd.underlying25 Tryd.underlying9 hi hz0 hz1 hz2 v n (l.map bv) hs hown (str l') hx (by unfold maxLen; omega) (by omega) hbase
    fun v' w' h2 h3 _ => h v' w' (by rw [List.map_append, ← str_cells l', ← hm, ← e]; exact h2) h3
/-- The same, as one step of a region that draws its order. -/
theorem step_app_str {K : Act → World → Prop} {E : Prop} (hgd : o.guard = none) (s x : Operand)
    (ho : o.op = .call { callee := .builtin .append, args := #[s, x], argTypes := #[25, 9] })
    (base : Nat) (v : Value) (n : Nat) (l : List UInt8) (hs : a.eval s = v) (hown : w.ownsRow base 5 1 v n (l.map bv))
    (m : Nat) (l' : List UInt8) (hx : a.eval x = .string (str l')) (hm : l'.length = m) (hbytes : n + m ≤ 140737488355328) (hbase : base ≤ w.heap.size)
    (h : ∀ v' w', w'.ownsRow base 5 1 v' (n + m) ((l ++ l').map bv) → w.grownBy w' v.ownBlock → K (a.put o.dst v') w') :
    if Region.wanted o (yielded ops a.tmps) = true then Oper.wp Tryd.prog o a w K Q else E := by
  have hw : Region.wanted o (yielded ops a.tmps) = true := by simp [Region.wanted, hgd]
  rw [if_pos hw]
  obtain ⟨i0, hi, hz0, hz1, hz2⟩ := info_parts Tryd.info8
  have e := str_size l'
  obtain ⟨v', w', hr, h2, h3, _⟩ := Lib.run_append_own_string (P := Tryd.prog) w base 25 9 o.type 5 i0 Tryd.underlying25 Tryd.underlying9 hi hz0 hz1 hz2 v n (l.map bv) hown (str l') (by unfold maxLen; omega) (by omega) hbase
  unfold Oper.wp execOp
  simp only [ho, resolve, invoke, builtin, Sem.run_bind, Sem.run_pure, Result.andThen_ok, List.map_toArray, List.map_cons, List.map_nil, hs, hx, hr]
  exact h v' w' (by rw [List.map_append, ← str_cells l', ← hm, ← e]; exact h2) h3
end
end Go.Proofs.YtcnpbgmdmifhaaaDoor
