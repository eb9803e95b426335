/-
  Contract of the package's New.
-/
import Derived.Test.YtjfipijdjbbogaaDoorProgStrm
namespace Go.Proofs.YtjfipijdjbbogaaDoor
open Go.ChangeShapes Go.WideShapes Go.ChangeAt Go.RowKit
set_option linter.unusedVariables false
set_option linter.unusedSimpArgs false
set_option maxRecDepth 10000

theorem built_strmP : ∀ (seed : List UInt8) (gn n c : Nat), seed.length = 32 → Tryd.prog.built 55 [(0, .agg (seed.map bv).toArray), (1, .slice (some ⟨gn, 0, none⟩) n c)] = some (pCells seed gn n c 0 (List.replicate 32 0)).toArray
  | [_, _, _, _, _, _, _, _, _, _, _, _, _, _, _, _, _, _, _, _, _, _, _, _, _, _, _, _, _, _, _, _], gn, n, c, _ => by kernel_rfl
theorem wpList_build_strmP {w : World} {ops : Array Oper} {rest : List Oper} {o : Oper} {a : Act} {Q : Exit → Act → World → Prop} (hgd : o.guard = none) (p1 p2 : Operand) (ho : o.op = .build 55 #[(0, p1), (1, p2)])
    (seed z : List UInt8) (gn n c : Nat) (hs : seed.length = 32) (hz : List.replicate 32 0 = z) (h1 : a.eval p1 = .agg (seed.map bv).toArray) (h2 : a.eval p2 = .slice (some ⟨gn, 0, none⟩) n c)
    (h : wpList Tryd.prog ops Q rest (a.put o.dst (.agg (pCells seed gn n c 0 z).toArray)) w) : wpList Tryd.prog ops Q (o :: rest) a w :=
  wpList_plain hgd fun K hK => by
    subst hz
    have e : (#[(0, p1), (1, p2)].map fun (i, x) => (i, a.eval x)) = #[(0, .agg (seed.map bv).toArray), (1, .slice (some ⟨gn, 0, none⟩) n c)] := by simp [h1, h2]
    have hr := run_build w 55 #[(0, .agg (seed.map bv).toArray), (1, .slice (some ⟨gn, 0, none⟩) n c)] _ (built_strmP seed gn n c hs)
    unfold Oper.wp execOp
    simp only [ho, e, Sem.run_bind, hr, Result.andThen_ok, Sem.run_pure]
    exact hK _ _ h
theorem progNew' (seed name : List UInt8) (hs : seed.length = 32) (hn : name.length ≤ 1099511627776) (w : World) :
    Calls Tryd.prog 16 #[.agg (seed.map bv).toArray, .string (str name)] w fun e w' => ∃ g, e = .returned (.pointer (some ⟨g, 0, none⟩)) ∧ StrmP w' g seed name 0 ∧ w.heap.size ≤ g ∧ Below w.heap.size w w' := by
  have H1 := Has.new w 23 (seed.map bv)
  have hb1 := (Below.refl w.heap.size w).alloc (Nat.le_refl _) (.cells (seed.map bv).toArray 23)
  have HSL := Lib.hid hs
  obtain ⟨c, w2, hconv, hrow, hin, hb2⟩ := run_nameI name (by unfold maxLen; omega) (w.alloc (.cells (seed.map bv).toArray 23))
  obtain ⟨gn, hgn⟩ : ∃ x, (w.alloc (.cells (seed.map bv).toArray 23)).heap.size = x := ⟨_, rfl⟩
  rw [hgn] at hconv hrow hin
  have HR := Lib.hid (And.intro hrow (And.intro hin (hb1.trans (hb2.mono hb1.size))))
  obtain ⟨z, hz⟩ : ∃ z : List UInt8, List.replicate 32 0 = z := ⟨_, rfl⟩
  have HZ := Lib.hid (And.intro hz (show z.length = 32 by rw [← hz, List.length_replicate]))
  clear hs hn hrow hin hb1 hb2 hz hgn
  go_enter Tryd.func16, Tryd.ntmps16
  go_wp2_with (first
    | ((with_reducible refine wpList_load_key rfl (.tmp 2) rfl w.heap.size rfl seed HSL.out H1 ?_))
    | ((with_reducible refine wpList_build_strmP rfl (.tmp 5) (.tmp 7) rfl seed z _ _ _ HSL.out HZ.out.1 rfl rfl ?_)))
  go_ret
  have hb3 := (Below.refl w2.heap.size w2).alloc (Nat.le_refl _) (.cells (pCells seed gn name.length c 0 z).toArray 55)
  exact ⟨w2.heap.size, rfl, ⟨gn, c, z, Has.new w2 55 _, HR.out.1.keep hb3, HR.out.2.1.keep hb3, HZ.out.2, fun h => absurd rfl h⟩, HR.out.2.2.size, HR.out.2.2.trans (hb3.mono HR.out.2.2.size)⟩
end Go.Proofs.YtjfipijdjbbogaaDoor
