/-
  'append(s, make([]byte, m)...)' onto a row of bytes of the call's own.
-/
import Derived.Test.YtekpekmfddbiaaaDoorMem
namespace Go.Proofs.YtekpekmfddbiaaaDoor
open Go.ChangeShapes Go.WideShapes Go.ChangeAt Go.RowKit
set_option linter.unusedVariables false
set_option linter.unusedSimpArgs false

theorem zeroCells8 (m : Nat) : Builtin.zeroCells #[Value.int .u8 0] m = (noughts m).toArray := by
  apply Array.ext'
  rw [Builtin.zeroCells, noughts]
  apply List.ext_getElem?
  intro j
  simp
  by_cases h : j < m <;> simp [h, Nat.mod_one]
theorem noughts_bv (m : Nat) : noughts m = (List.replicate m 0 : List UInt8).map bv := by simp [noughts, bv]
set_option maxHeartbeats 400000 in
theorem run_append0 {w : World} (base : Nat) (v : Value) (n : Nat) (l : List UInt8) (hown : w.ownsRow base 5 1 v n (l.map bv)) (ty : TypeId) (m : Nat) (hbytes : n + m ≤ 140737488355328) (hbase : base ≤ w.heap.size) :
    ∃ v' w', (Builtin.append_ #[24, 3] ty #[v, .int .i64 (m : Int)]).run Tryd.prog w = .ok v' w' ∧ w'.ownsRow base 5 1 v' (n + m) ((l ++ List.replicate m 0).map bv) ∧ w.grownBy w' v.ownBlock := by
  obtain ⟨i, hi, hz, hsize, hby⟩ := info_parts Tryd.info8
  have ht := Tryd.underlying24
  have htI := Tryd.underlying3
  have hll : l.length = n := by simpa using hown.1
  have wm : IntKind.i64.wrap (m : Int) = (m : Int) := by rw [IntKind.wrap_i64]; omega
  have m1 : ¬ (m : Int) < 0 := by omega
  have m2 : ¬ (281474976710656 < (m : Int) * ((1 : Nat) : Int)) := by omega
  have m2' : ¬ (281474976710656 < (m : Int)) := by omega
  have hxs : (l ++ List.replicate m 0).map bv = l.map bv ++ noughts m := by rw [List.map_append, noughts_bv]
  rw [hxs]
  have hlen : (l.map bv ++ noughts m).length = n + m := by rw [List.length_append, List.length_map, noughts_len, hll]
  have hcells : (Value.int .u8 0).cells = #[Value.int .u8 0] := rfl
  have grown : ∀ (old : Nat), ∀ (row : Option Nat),
      (w.drew.alloc (.cells ((l.map bv).toArray ++ (noughts m).toArray ++ Builtin.zeroCells #[Value.int .u8 0] (grownCap w (n + m) old 5 - (n + m))) 5)).ownsRow base 5 1
        (.slice (some ⟨w.heap.size, 0, none⟩) (n + m) (grownCap w (n + m) old 5)) (n + m) (l.map bv ++ noughts m) ∧
      w.grownBy (w.drew.alloc (.cells ((l.map bv).toArray ++ (noughts m).toArray ++ Builtin.zeroCells #[Value.int .u8 0] (grownCap w (n + m) old 5 - (n + m))) 5)) row := by
    intro old row
    have hge := grownCap_ge w (n + m) old 5
    have hcm : grownCap w (n + m) old 5 ≤ maxLen := grownCap_le_maxLen w (n + m) old 5 (by unfold maxLen; omega)
    refine ⟨⟨by rw [hlen, Nat.mul_one], .inr ⟨w.heap.size, _, _, rfl, hbase, heap_alloc_new w.drew _, hge, hcm, ?_, ?_⟩⟩, ⟨rfl, rfl, rfl, by simp, fun k hk _ => heap_alloc_old w.drew _ hk⟩⟩
    · simp only [Array.size_append, List.size_toArray, size_zeroCells, List.length_map, noughts_len, hll]
      simp
      omega
    · simp only [Array.toList_append, Nat.mul_one]
      rw [← hlen]
      exact List.take_left
  rcases hown.2 with ⟨rfl, rfl⟩ | ⟨g, cap, cur, rfl, hbg, hg, hnc, hcm, hcs, htake⟩
  · obtain rfl : l = [] := List.eq_nil_of_length_eq_zero hll
    by_cases hm : m = 0
    · subst hm
      refine ⟨.slice none 0 0, w, ?_, by simpa [noughts] using World.ownsRow_nil w base 5 1, ⟨rfl, rfl, rfl, Nat.le_refl _, fun _ _ _ => rfl⟩⟩
      have w0 : IntKind.i64.wrap 0 = 0 := rfl
      simp [Builtin.append_, run_underlying ht, run_underlying htI, sizeOf, typeInfo, hi, hsize, hby, asInt, asIntOf, w0]
    · have h63' : ¬ (9223372036854775807 < (m : Int)) := by omega
      have h48' : ¬ (281474976710656 < Builtin.nextslicecap m 0) := by rw [nextslicecap_zero (by omega)]; omega
      have hgr := grown 0 (Value.ownBlock (.slice none 0 0))
      simp only [Nat.zero_add] at hgr
      refine ⟨_, _, ?_, by rw [Nat.zero_add]; exact hgr.1, hgr.2⟩
      simp [Builtin.append_, run_underlying ht, run_underlying htI, sizeOf, typeInfo, zeroValue, hi, hz, hsize, hby, asInt, asIntOf, wm, m1, m2, m2', hm, h63', h48', Question.forced, run_firstCells_none, newRow, grownCap, hcells, zeroCells8]
  · rw [Nat.mul_one] at hcs htake
    by_cases hroom : n + m ≤ cap
    · have hst := run_storeCells_at Tryd.prog g n 5 (noughts m) 0 cur w hg (by rw [noughts_len, hcs]; omega) (by rw [noughts_bv]; exact one_bv _)
      simp only [Nat.add_zero] at hst
      by_cases hm : m = 0
      · subst hm
        have w0 : IntKind.i64.wrap 0 = 0 := rfl
        refine ⟨.slice (some ⟨g, 0, none⟩) n cap, w, ?_, by simpa [noughts] using hown, ⟨rfl, rfl, rfl, Nat.le_refl _, fun _ _ _ => rfl⟩⟩
        simp [Builtin.append_, run_underlying ht, run_underlying htI, sizeOf, typeInfo, hi, hsize, hby, asInt, asIntOf, w0, hnc, storeCells]
      refine ⟨.slice (some ⟨g, 0, none⟩) (n + m) cap, w.setRow g (cur.toList.take n ++ noughts m ++ cur.toList.drop (n + (noughts m).length)).toArray, ?_, ⟨by rw [hlen, Nat.mul_one], .inr ⟨g, cap, _, rfl, hbg, setRow_heap w g cur _ _ _ hg, hroom, hcm, ?_, ?_⟩⟩, ⟨rfl, rfl, rfl, by simp, fun k _ hk => setRow_other w g k _ (fun e => hk (by simp [Value.ownBlock, e]))⟩⟩
      · simp [Builtin.append_, run_underlying ht, run_underlying htI, sizeOf, typeInfo, hi, hsize, hby, asInt, asIntOf, wm, m1, m2, m2', hm, hroom, zeroValue, hz, hcells, zeroCells8, Addr.add_lit, hst]
      · simp only [List.size_toArray, List.length_append, List.length_take, List.length_drop, Array.length_toList, noughts_len]
        omega
      · rw [htake, Nat.mul_one, ← hlen]
        exact List.take_left
    · have holds : ∀ j u, (l.map bv)[j]? = some u → w.cell? ((⟨g, 0, none⟩ : Addr).add j) = some u := hown.cells (g := g) rfl
      have hfo := run_firstCells_some (P := Tryd.prog) w.drew 1 n ⟨g, 0, none⟩ n cap (l.map bv) (by rw [List.length_map, hll, Nat.mul_one]) (by simpa using holds)
      have hm : m ≠ 0 := by omega
      have h63' : ¬ (9223372036854775807 < ((n : Int) + (m : Int))) := by omega
      have hfit := growslice_fits (bytes := 1) (show cap < n + m by omega) (by omega)
      have h48' : ¬ (281474976710656 < Builtin.nextslicecap (n + m) cap) := by omega
      have hgr := grown cap (Value.ownBlock (.slice (some ⟨g, 0, none⟩) n cap))
      refine ⟨_, _, ?_, hgr.1, hgr.2⟩
      simp [Builtin.append_, run_underlying ht, run_underlying htI, sizeOf, typeInfo, zeroValue, hi, hz, hsize, hby, asInt, asIntOf, wm, m1, m2, m2', hm, hroom, h63', h48', Question.forced, hfo, newRow, grownCap, hcells, zeroCells8]
theorem app0 {w : World} {ops : Array Oper} {rest : List Oper} {o : Oper} {a : Act} {Q : Exit → Act → World → Prop} (hgd : o.guard = none) (s x : Operand)
    (ho : o.op = .call { callee := .builtin .append, args := #[s, x], argTypes := #[24, 3] })
    (base : Nat) (v : Value) (n : Nat) (l : List UInt8) (hs : a.eval s = v) (hown : w.ownsRow base 5 1 v n (l.map bv))
    (m : Nat) (hx : a.eval x = .int .i64 (m : Int)) (hbytes : n + m ≤ 140737488355328) (hbase : base ≤ w.heap.size)
    (h : ∀ v' w', w'.ownsRow base 5 1 v' (n + m) ((l ++ List.replicate m 0).map bv) → w.grownBy w' v.ownBlock → wpList Tryd.prog ops Q rest (a.put o.dst v') w') : wpList Tryd.prog ops Q (o :: rest) a w := by
  refine wpList_plain hgd fun _ hK => ?_
  obtain ⟨v', w', hr, h2, h3⟩ := run_append0 base v n l hown o.type m hbytes hbase
  unfold Oper.wp execOp
  simp only [ho, resolve, invoke, builtin, Sem.run_bind, Sem.run_pure, Result.andThen_ok, List.map_toArray, List.map_cons, List.map_nil, hs, hx, hr]
  exact hK _ _ (h v' w' h2 h3)
end Go.Proofs.YtekpekmfddbiaaaDoor
