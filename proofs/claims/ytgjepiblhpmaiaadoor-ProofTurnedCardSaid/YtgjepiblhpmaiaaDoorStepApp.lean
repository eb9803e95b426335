/-
  'append(s, x...)' of bytes, as one step of a region that draws its order.
-/
import Derived.Test.YtgjepiblhpmaiaaDoorMem
import Derived.Deep.RegionHeldLaw
namespace Go.Proofs.YtgjepiblhpmaiaaDoor
open Go.ChangeShapes Go.WideShapes Go.ChangeAt Go.RowKit
set_option linter.unusedVariables false
set_option linter.unusedSimpArgs false

/-- 'append(s, x...)' of bytes, as one step of a region that draws its order. -/
theorem step_app8 {ops : Array Oper} {o : Oper} {a : Act} {w : World} {K : Act → World → Prop} {Q : Exit → Act → World → Prop} {E : Prop} (hgd : o.guard = none) (s x : Operand)
    (ho : o.op = .call { callee := .builtin .append, args := #[s, x], argTypes := #[39, 39] })
    (base : Nat) (v : Value) (n : Nat) (l : List UInt8) (hs : a.eval s = v) (hown : w.ownsRow base 5 1 v n (l.map bv))
    (A : Option Addr) (m c : Nat) (l' : List UInt8) (hx : a.eval x = .slice A m c) (hr : Bytes w A m c l') (hbytes : n + m ≤ 140737488355328) (hbase : base ≤ w.heap.size)
    (h : ∀ v' w', w'.ownsRow base 5 1 v' (n + m) ((l ++ l').map bv) → w.grownBy w' v.ownBlock → K (a.put o.dst v') w') :
    if Region.wanted o (yielded ops a.tmps) = true then Oper.wp Tryd.prog o a w K Q else E := by
  have hw : Region.wanted o (yielded ops a.tmps) = true := by simp [Region.wanted, hgd]
  rw [if_pos hw]
  obtain ⟨i0, hi, hz0, hz1, hz2⟩ := info_parts Tryd.info8
  obtain ⟨r1, r2, r5, r3, r4⟩ := hr
  rcases A with _ | ad
  · obtain rfl := r3 rfl
    have hm0 : m = 0 := by omega
    subst hm0
    obtain rfl : l' = [] := by simpa using r1
    have hrun := run_append_owned_none (P := Tryd.prog) (w := w) base 39 o.type 5 i0 1 Tryd.underlying39 hi v n (l.map bv) hown
    unfold Oper.wp
    simp [execOp, ho, resolve, invoke, builtin, hs, hx, hrun, Result.andThen]
    exact h v w (by simpa using hown) ⟨rfl, rfl, rfl, Nat.le_refl _, fun _ _ _ => rfl⟩
  · have hnews : ∀ j u, (l'.map bv)[j]? = some u → w.cell? (ad.add j) = some u := by
      intro j u hu
      have hj : j < (l'.map bv).length := (List.getElem?_eq_some_iff.1 hu).1
      obtain ⟨b, off, e0, _, hc⟩ := r4 (by omega)
      injection e0 with e0
      subst e0
      rw [add_plain, hc j (by omega), hu]
    exact wp_append_own w s x 39 ho base 5 i0 (.int .u8 0) 1 1 Tryd.underlying39 hi hz0 hz1 hz2 rfl (by decide) v n (l.map bv) hs hown ad m c (l'.map bv) hx (by omega) hnews (one_bv l') (by unfold maxLen; omega) (by omega) hbase fun v' w' h2 h3 _ => h v' w' (by rw [List.map_append]; exact h2) h3

end Go.Proofs.YtgjepiblhpmaiaaDoor
