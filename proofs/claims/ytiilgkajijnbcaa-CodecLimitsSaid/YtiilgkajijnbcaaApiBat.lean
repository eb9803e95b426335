/-
  Letters and batches as data in memory; a batch that came in.
-/
import Derived.Test.YtiilgkajijnbcaaApiOpen
import Derived.Test.YtiilgkajijnbcaaApiSub
namespace Go.Proofs.Ytiilgkajijnbcaa
open Go.ChangeShapes Go.WideShapes Go.ChangeAt Go.RowKit
set_option linter.unusedVariables false
set_option linter.unusedSimpArgs false
set_option maxRecDepth 100000

structure Let where
  to : List UInt8
  A : Option Addr
  n : Nat
  c : Nat
  l : List UInt8
instance : Inhabited Let := ⟨⟨List.replicate 32 0, none, 0, 0, []⟩⟩
def Let.cells (e : Let) : List Value := e.to.map bv ++ [.slice e.A e.n e.c]
def Let.data (e : Let) : List UInt8 × List UInt8 := (e.to, e.l)
def Let.ok (w : World) (e : Let) : Prop := e.to.length = 32 ∧ Bytes w e.A e.n e.c e.l
theorem Let.cells_len {e : Let} (h : e.to.length = 32) : e.cells.length = 33 := by simp [Let.cells, h]
def Letters (w : World) (A : Option Addr) (n c : Nat) (ls : List Let) : Prop := RowW w A n c 33 (ls.flatMap Let.cells) ∧ ls.length = n ∧ ∀ e ∈ ls, e.ok w
theorem Letters.keep {w w' : World} {A : Option Addr} {n c : Nat} {ls : List Let} (h : Letters w A n c ls) (hb : Below w.heap.size w w') : Letters w' A n c ls :=
  ⟨h.1.keep hb, h.2.1, fun e he => ⟨(h.2.2 e he).1, (h.2.2 e he).2.keep hb⟩⟩
theorem Letters.le {w : World} {A : Option Addr} {n c : Nat} {ls : List Let} (h : Letters w A n c ls) : n ≤ 9223372036854775807 := h.1.le
theorem Letters.get {w : World} {A : Option Addr} {n c : Nat} {ls : List Let} (h : Letters w A n c ls) (j : Nat) (hj : j < n) : (ls.getD j default).ok w := by
  have hj' : j < ls.length := by rw [h.2.1]; exact hj
  refine h.2.2 _ ?_
  rw [List.getD_eq_getElem?_getD, List.getElem?_eq_getElem hj']
  exact List.getElem_mem hj'
/-- Where letter j lies: its name's 32 cells, its body's one. -/
theorem Letters.at_ {w : World} {A : Option Addr} {n c : Nat} {ls : List Let} (h : Letters w A n c ls) (hn : 0 < n) :
    ∃ b off, A = some ⟨b, off, none⟩ ∧ b < w.heap.size ∧ ∀ j, j < n → w.rangeAt b (off + j * 33) ((ls.getD j default).to.map bv) ∧ w.cell? ⟨b, off + j * 33 + 32, none⟩ = some (.slice (ls.getD j default).A (ls.getD j default).n (ls.getD j default).c) := by
  obtain ⟨b, off, e, hb, hc⟩ := h.1.at_ (fun e he => Let.cells_len (h.2.2 e he).1) h.2.1 hn
  refine ⟨b, off, e, hb, fun j hj => ?_⟩
  have hj' : j < ls.length := by rw [h.2.1]; exact hj
  have e1 : ls.getD j default = ls[j] := by simp [hj']
  have hok := h.2.2 ls[j] (List.getElem_mem hj')
  rw [e1]
  refine ⟨fun i v hv => ?_, ?_⟩
  · have hi : i < 32 := by
      have := (List.getElem?_eq_some_iff.1 hv).1
      rw [List.length_map, hok.1] at this
      exact this
    rw [hc j hj' i (by omega), Let.cells, List.getElem?_append_left (by rw [List.length_map, hok.1]; exact hi)]
    exact hv
  · rw [hc j hj' 32 (by omega), Let.cells, List.getElem?_append_right (by rw [List.length_map, hok.1]; omega), List.length_map, hok.1]
    rfl
theorem getD_ldata (ls : List Let) (j : Nat) (hj : j < ls.length) : (ls.map Let.data).getD j ([], []) = (ls.getD j default).data := by
  simp [hj]
/-- A batch's numbers and bytes. -/
structure BatD where
  r : Int
  ch : Int
  inner : List Nat
  ls : List (List UInt8 × List UInt8)
def bcells (r ch : Int) (Ai : Option Addr) (ni ci : Nat) (Al : Option Addr) (nl cl : Nat) : List Value := [.int .i64 r, .int .i64 ch, .slice Ai ni ci, .slice Al nl cl]
section
variable {H : Type} {enc : TypeId × Value → H} {w : World} {base : Nat} {held : Bool} {fuel : Nat} {cs : List Value} {x : DataW H × List MemPlace}
theorem k_key' : Try.prog.cellsOf 36 = 32 := by kernel_rfl
theorem k_int : Try.prog.cellsOf 3 = 1 := by kernel_rfl
theorem k_u64s : Try.prog.cellsOf 50 = 1 := by kernel_rfl
theorem k_lets : Try.prog.cellsOf 51 = 1 := by kernel_rfl
theorem cells_letter (h : DataW.trod enc Try.prog w base (fun _ => true) held fuel 96 cs = some x) : ∃ e : Let, cs = e.cells ∧ e.ok w := by
  obtain ⟨hl, hf⟩ := cells_struct Try.underlying96 h
  obtain ⟨m0, y0, h0⟩ := (show ∃ m y, DataW.trod enc Try.prog w base (fun _ => true) held m 36 ((cs.drop 0).take (Try.prog.cellsOf 36)) = some y from hf 0 _ rfl)
  obtain ⟨m1, y1, h1⟩ := (show ∃ m y, DataW.trod enc Try.prog w base (fun _ => true) held m 25 ((cs.drop 32).take (Try.prog.cellsOf 25)) = some y from hf 1 _ rfl)
  obtain ⟨u, hu, e0⟩ := cells_arr Try.underlying36 Try.underlying5 k_u8 k_key' h0
  obtain ⟨A, n, c, l, e1, hb⟩ := cells_bytes Try.underlying25 Try.underlying5 k_u8 h1
  rw [k_key'] at e0
  rw [k_u8s] at e1
  exact ⟨⟨u, A, n, c, l⟩, cut2 32 1 (by rw [hl]; kernel_rfl) e0 e1, hu, hb⟩
theorem cells_batch (h : DataW.trod enc Try.prog w base (fun _ => true) held fuel 53 cs = some x) :
    ∃ (r ch : Int) (Ai : Option Addr) (ni ci : Nat) (inner : List Nat) (Al : Option Addr) (nl cl : Nat) (ls : List Let), cs = bcells r ch Ai ni ci Al nl cl ∧ (-9223372036854775808 ≤ r ∧ r ≤ 9223372036854775807) ∧ (-9223372036854775808 ≤ ch ∧ ch ≤ 9223372036854775807) ∧ Nums w Ai ni ci inner ∧ Letters w Al nl cl ls := by
  obtain ⟨hl, hf⟩ := cells_struct Try.underlying53 h
  obtain ⟨m0, y0, h0⟩ := (show ∃ m y, DataW.trod enc Try.prog w base (fun _ => true) held m 3 ((cs.drop 0).take (Try.prog.cellsOf 3)) = some y from hf 0 _ rfl)
  obtain ⟨m1, y1, h1⟩ := (show ∃ m y, DataW.trod enc Try.prog w base (fun _ => true) held m 3 ((cs.drop 1).take (Try.prog.cellsOf 3)) = some y from hf 1 _ rfl)
  obtain ⟨m2, y2, h2⟩ := (show ∃ m y, DataW.trod enc Try.prog w base (fun _ => true) held m 50 ((cs.drop 2).take (Try.prog.cellsOf 50)) = some y from hf 2 _ rfl)
  obtain ⟨m3, y3, h3⟩ := (show ∃ m y, DataW.trod enc Try.prog w base (fun _ => true) held m 51 ((cs.drop 3).take (Try.prog.cellsOf 51)) = some y from hf 3 _ rfl)
  obtain ⟨r, e0, hr⟩ := cells_i64 Try.underlying3 h0
  obtain ⟨ch, e1, hch⟩ := cells_i64 Try.underlying3 h1
  obtain ⟨Ai, ni, ci, inner, e2, hi⟩ := cells_nums Try.underlying50 Try.underlying37 k_u64 h2
  obtain ⟨Al, nl, cl, ls, e3, hrw, hll, hok⟩ := cells_rows Let.cells (Let.ok w) Try.underlying51 (show Try.prog.cellsOf 96 = 33 by kernel_rfl) (by decide) (fun m cs' x' h => cells_letter h) (fun e he => Let.cells_len he.1) h3
  rw [k_int] at e0 e1
  rw [k_u64s] at e2
  rw [k_lets] at e3
  exact ⟨r, ch, Ai, ni, ci, inner, Al, nl, cl, ls, cut4 1 1 1 1 (by rw [hl]; kernel_rfl) e0 e1 e2 e3, hr, hch, hi, hrw, hll, hok⟩
theorem open_batch {r : Reach} {b0 : Nat} {v : Value} {dd : DataW H} {ps : List MemPlace} (hval : Value.okWide Try.prog w r b0 53 v) (h : DataW.Trod enc Try.prog w base (fun _ => true) held 53 v dd ps) :
    ∃ (r ch : Int) (Ai : Option Addr) (ni ci : Nat) (inner : List Nat) (Al : Option Addr) (nl cl : Nat) (ls : List Let), v = .agg #[.int .i64 r, .int .i64 ch, .slice Ai ni ci, .slice Al nl cl] ∧ (-9223372036854775808 ≤ r ∧ r ≤ 9223372036854775807) ∧ (-9223372036854775808 ≤ ch ∧ ch ≤ 9223372036854775807) ∧ Nums w Ai ni ci inner ∧ Letters w Al nl cl ls := by
  obtain ⟨cs, rfl, _⟩ := okWide_struct Try.underlying53 hval
  obtain ⟨fuel, hf⟩ := h
  obtain ⟨r, ch, Ai, ni, ci, inner, Al, nl, cl, ls, e, h1⟩ := cells_batch hf
  refine ⟨r, ch, Ai, ni, ci, inner, Al, nl, cl, ls, ?_, h1⟩
  show Value.agg cs = .agg (bcells r ch Ai ni ci Al nl cl).toArray
  rw [← (show cs.toList = bcells r ch Ai ni ci Al nl cl from e)]
end
theorem newBatch (w : World) : Has (w.alloc (.cells #[.int .i64 0, .int .i64 0, .slice none 0 0, .slice none 0 0] 53)) w.heap.size 53 (bcells 0 0 none 0 0 none 0 0) := Has.new w 53 (bcells 0 0 none 0 0 none 0 0)
end Go.Proofs.Ytiilgkajijnbcaa
