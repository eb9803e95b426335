/-
  Contract of the reference's NewStream.
-/
import Derived.Test.YtjfipijdjbbogaaDoorRefWord
namespace Go.Proofs.YtjfipijdjbbogaaDoor
open Go.ChangeShapes Go.WideShapes Go.ChangeAt Go.RowKit
set_option linter.unusedVariables false
set_option linter.unusedSimpArgs false
set_option maxRecDepth 10000

theorem built_strm : ∀ (seed name : List UInt8), seed.length = 32 → Tryd.prog.built 61 [(0, .agg (seed.map bv).toArray), (1, .string (str name))] = some (strmCells seed name 0).toArray
  | [_, _, _, _, _, _, _, _, _, _, _, _, _, _, _, _, _, _, _, _, _, _, _, _, _, _, _, _, _, _, _, _], name, _ => by kernel_rfl
theorem wpList_build_strm {w : World} {ops : Array Oper} {rest : List Oper} {o : Oper} {a : Act} {Q : Exit → Act → World → Prop} (hgd : o.guard = none) (p1 p2 : Operand) (ho : o.op = .build 61 #[(0, p1), (1, p2)])
    (seed name : List UInt8) (hs : seed.length = 32) (h1 : a.eval p1 = .agg (seed.map bv).toArray) (h2 : a.eval p2 = .string (str name))
    (h : wpList Tryd.prog ops Q rest (a.put o.dst (.agg (strmCells seed name 0).toArray)) w) : wpList Tryd.prog ops Q (o :: rest) a w :=
  wpList_plain hgd fun K hK => by
    have e : (#[(0, p1), (1, p2)].map fun (i, x) => (i, a.eval x)) = #[(0, .agg (seed.map bv).toArray), (1, .string (str name))] := by simp [h1, h2]
    have hr := run_build w 61 #[(0, .agg (seed.map bv).toArray), (1, .string (str name))] _ (built_strm seed name hs)
    unfold Oper.wp execOp
    simp only [ho, e, Sem.run_bind, hr, Result.andThen_ok, Sem.run_pure]
    exact hK _ _ h
theorem refNew' (seed name : List UInt8) (hs : seed.length = 32) (w : World) :
    Calls Tryd.prog 22 #[.agg (seed.map bv).toArray, .string (str name)] w fun e w' => ∃ g, e = .returned (.pointer (some ⟨g, 0, none⟩)) ∧ StrmR w' g seed name 0 ∧ w.heap.size ≤ g ∧ Below w.heap.size w w' := by
  have H1 := Has.new w 23 (seed.map bv)
  have hb1 := (Below.refl w.heap.size w).alloc (Nat.le_refl _) (.cells (seed.map bv).toArray 23)
  have HSL := Lib.hid hs
  clear hs
  go_enter Tryd.func22, Tryd.ntmps22
  go_wp2_with (first
    | ((with_reducible refine wpList_load_key rfl (.tmp 2) rfl w.heap.size rfl seed HSL.out H1 ?_))
    | ((with_reducible refine wpList_build_strm rfl (.tmp 5) (.tmp 6) rfl seed name HSL.out rfl rfl ?_)))
  go_ret
  have H2 := Has.new (w.alloc (.cells (seed.map bv).toArray 23)) 61 (strmCells seed name 0)
  exact ⟨_, rfl, H2.at_ (by simp), by omega, hb1.alloc hb1.size _⟩
end Go.Proofs.YtjfipijdjbbogaaDoor
