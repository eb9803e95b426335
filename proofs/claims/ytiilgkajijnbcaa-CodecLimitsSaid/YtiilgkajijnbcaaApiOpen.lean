/-
  What is known of the structs of package api that came in: entries, letters, submissions, batches, notes.
-/
import Derived.Test.YtiilgkajijnbcaaApi
import Derived.Test.YtiilgkajijnbcaaRdNote
namespace Go.Proofs.Ytiilgkajijnbcaa
open Go.ChangeShapes Go.WideShapes Go.ChangeAt Go.RowKit
set_option linter.unusedVariables false
set_option linter.unusedSimpArgs false
set_option maxRecDepth 100000

theorem cut2 {cs p0 p1 : List Value} (k0 k1 : Nat) (h : cs.length = k0 + k1) (h0 : (cs.drop 0).take k0 = p0) (h1 : (cs.drop k0).take k1 = p1) : cs = p0 ++ p1 := by
  rw [← h0, ← h1, List.drop_zero, List.take_of_length_le (l := cs.drop k0) (by simp; omega), List.take_append_drop]
theorem cut3 {cs p0 p1 p2 : List Value} (k0 k1 k2 : Nat) (h : cs.length = k0 + k1 + k2) (h0 : (cs.drop 0).take k0 = p0) (h1 : (cs.drop k0).take k1 = p1) (h2 : (cs.drop (k0 + k1)).take k2 = p2) : cs = p0 ++ (p1 ++ p2) := by
  refine cut2 k0 (k1 + k2) (by omega) h0 ?_
  rw [List.take_of_length_le (by simp; omega), cells_cut cs k0 k1, h1, ← h2, List.take_of_length_le (l := cs.drop (k0 + k1)) (by simp; omega)]
theorem cut4 {cs p0 p1 p2 p3 : List Value} (k0 k1 k2 k3 : Nat) (h : cs.length = k0 + k1 + k2 + k3) (h0 : (cs.drop 0).take k0 = p0) (h1 : (cs.drop k0).take k1 = p1) (h2 : (cs.drop (k0 + k1)).take k2 = p2) (h3 : (cs.drop (k0 + k1 + k2)).take k3 = p3) : cs = p0 ++ (p1 ++ (p2 ++ p3)) := by
  refine cut3 k0 k1 (k2 + k3) (by omega) h0 h1 ?_
  rw [List.take_of_length_le (by simp; omega), cells_cut cs (k0 + k1) k2, h2, ← h3, List.take_of_length_le (l := cs.drop (k0 + k1 + k2)) (by simp; omega)]

section
variable {H : Type} {enc : TypeId × Value → H} {w : World} {base : Nat} {held : Bool} {fuel : Nat} {cs : List Value} {x : DataW H × List MemPlace}
theorem k_u64 : Try.prog.cellsOf 37 = 1 := by kernel_rfl
theorem k_u8s : Try.prog.cellsOf 25 = 1 := by kernel_rfl
theorem k_u8 : Try.prog.cellsOf 5 = 1 := by kernel_rfl
theorem cells_entry (h : DataW.trod enc Try.prog w base (fun _ => true) held fuel 39 cs = some x) : ∃ e : Ent, cs = e.cells ∧ e.ok w := by
  obtain ⟨hl, hf⟩ := cells_struct Try.underlying39 h
  obtain ⟨m0, y0, h0⟩ := (show ∃ m y, DataW.trod enc Try.prog w base (fun _ => true) held m 37 ((cs.drop 0).take (Try.prog.cellsOf 37)) = some y from hf 0 _ rfl)
  obtain ⟨m1, y1, h1⟩ := (show ∃ m y, DataW.trod enc Try.prog w base (fun _ => true) held m 25 ((cs.drop 1).take (Try.prog.cellsOf 25)) = some y from hf 1 _ rfl)
  obtain ⟨a, e0, ha⟩ := cells_u64 Try.underlying37 h0
  obtain ⟨A, n, c, l, e1, hb⟩ := cells_bytes Try.underlying25 Try.underlying5 k_u8 h1
  rw [k_u64] at e0
  rw [k_u8s] at e1
  refine ⟨⟨a, A, n, c, l⟩, ?_, hb, ha⟩
  exact cut2 1 1 (by rw [hl]; kernel_rfl) e0 e1
theorem open_entries {A : Option Addr} {n c : Nat} {d : DataW H} {ps : List MemPlace} (h : DataW.Trod enc Try.prog w base (fun _ => true) held 22 (.slice A n c) d ps) : ∃ es, Entries w A n c es := by
  obtain ⟨fuel, hf⟩ := h
  obtain ⟨A', n', c', es, hcs, hr, hl, hok⟩ := cells_rows Ent.cells (Ent.ok w) Try.underlying22 (show Try.prog.cellsOf 39 = 2 by kernel_rfl) (by decide) (fun m cs' x' h => cells_entry h) (fun e _ => e.cells_len) hf
  have e : Value.slice A n c = Value.slice A' n' c' := by simpa [Value.cells] using hcs
  injection e with e1 e2 e3
  subst e1 e2 e3
  exact ⟨es, hr, hl, hok⟩
theorem k_arr32 : Try.prog.cellsOf 35 = 32 := by kernel_rfl
theorem cells_note (h : DataW.trod enc Try.prog w base (fun _ => true) held fuel 67 cs = some x) : ∃ (a b : Nat) (l : List UInt8), cs = ncells a b l ∧ a < 18446744073709551616 ∧ b < 18446744073709551616 ∧ l.length = 32 := by
  obtain ⟨hl, hf⟩ := cells_struct Try.underlying67 h
  obtain ⟨m0, y0, h0⟩ := (show ∃ m y, DataW.trod enc Try.prog w base (fun _ => true) held m 37 ((cs.drop 0).take (Try.prog.cellsOf 37)) = some y from hf 0 _ rfl)
  obtain ⟨m1, y1, h1⟩ := (show ∃ m y, DataW.trod enc Try.prog w base (fun _ => true) held m 37 ((cs.drop 1).take (Try.prog.cellsOf 37)) = some y from hf 1 _ rfl)
  obtain ⟨m2, y2, h2⟩ := (show ∃ m y, DataW.trod enc Try.prog w base (fun _ => true) held m 35 ((cs.drop 2).take (Try.prog.cellsOf 35)) = some y from hf 2 _ rfl)
  obtain ⟨a, e0, ha⟩ := cells_u64 Try.underlying37 h0
  obtain ⟨b, e1, hb⟩ := cells_u64 Try.underlying37 h1
  obtain ⟨l, hll, e2⟩ := cells_arr Try.underlying35 Try.underlying5 k_u8 k_arr32 h2
  rw [k_u64] at e0 e1
  rw [k_arr32] at e2
  exact ⟨a, b, l, cut3 1 1 32 (by rw [hl]; kernel_rfl) e0 e1 e2, ha, hb, hll⟩
theorem open_note {r : Reach} {b0 : Nat} {v : Value} {d : DataW H} {ps : List MemPlace} (hval : Value.okWide Try.prog w r b0 67 v) (h : DataW.Trod enc Try.prog w base (fun _ => true) held 67 v d ps) :
    ∃ (a b : Nat) (l : List UInt8), v = .agg (ncells a b l).toArray ∧ a < 18446744073709551616 ∧ b < 18446744073709551616 ∧ l.length = 32 := by
  obtain ⟨cs, rfl, _⟩ := okWide_struct Try.underlying67 hval
  obtain ⟨fuel, hf⟩ := h
  obtain ⟨a, b, l, e, h1, h2, h3⟩ := cells_note hf
  refine ⟨a, b, l, ?_, h1, h2, h3⟩
  rw [← (show cs.toList = ncells a b l from e)]
end
end Go.Proofs.Ytiilgkajijnbcaa
