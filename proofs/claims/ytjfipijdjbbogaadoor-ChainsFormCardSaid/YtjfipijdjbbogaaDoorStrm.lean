/-
  What both sides' streams share: their cells, a name turned into bytes, a literal of three parts, blocks of bytes.
-/
import Derived.Test.YtjfipijdjbbogaaDoorBeaconSpec
import Derived.Test.YtjfipijdjbbogaaDoorShaB
import Derived.Laws.IdiomStrings
import Derived.Deep.RegionHeldLaw
namespace Go.Proofs.YtjfipijdjbbogaaDoor
open Go.ChangeShapes Go.WideShapes Go.ChangeAt Go.RowKit
set_option linter.unusedVariables false
set_option linter.unusedSimpArgs false

def strmCells (seed name : List UInt8) (i : Nat) : List Value := seed.map bv ++ [.string (str name), nv i]
/-- Block g holds the reference's stream. -/
def StrmR (w : World) (g : Nat) (seed name : List UInt8) (i : Nat) : Prop := Has w g 61 (strmCells seed name i)
theorem strm_len {seed name : List UInt8} {i : Nat} (h : seed.length = 32) : (strmCells seed name i).length = 34 := by simp [strmCells, h]
theorem strm_32 {seed name : List UInt8} {i : Nat} (h : seed.length = 32) : (strmCells seed name i)[32]? = some (.string (str name)) := by
  rw [strmCells, List.getElem?_append_right (by rw [List.length_map]; omega), List.length_map, h]
  rfl
theorem strm_33 {seed name : List UInt8} {i : Nat} (h : seed.length = 32) : (strmCells seed name i)[33]? = some (.int .u64 (i : Int)) := by
  rw [strmCells, List.getElem?_append_right (by rw [List.length_map]; omega), List.length_map, h]
  rfl
theorem strm_seed {w : World} {g i : Nat} {seed name : List UInt8} {t : TypeId} (h : Has w g t (strmCells seed name i)) (hl : seed.length = 32) : Bytes w (some ⟨g, 0, none⟩) 32 32 seed := by
  have := h.row 0 32 32 (by rw [strm_len hl]; omega) (Nat.le_refl _) (by simp [maxLen])
  rw [List.drop_zero, strmCells, List.take_append_of_le_length (by rw [List.length_map]; omega), List.take_of_length_le (by rw [List.length_map]; omega)] at this
  exact this
/-! ### A block of bytes -/
def InB (w : World) (g : Nat) : Prop := ∃ cur fr, w.heap[g]? = some (.cells cur 5 fr)
theorem InB.lt {w : World} {g : Nat} (h : InB w g) : g < w.heap.size := by
  obtain ⟨_, _, h1⟩ := h
  exact (Array.getElem?_eq_some_iff.1 h1).1
theorem InB.keep {w w' : World} {g : Nat} (h : InB w g) (hb : Below w.heap.size w w') : InB w' g := by
  have hl := h.lt
  obtain ⟨cur, fr, h1⟩ := h
  exact ⟨cur, fr, (hb.block g hl).trans h1⟩
theorem InB.save {w w' : World} {g k : Nat} (h : InB w g) (ho : Save k w w') (hk : g ≠ k) : InB w' g := by
  have hl := h.lt
  obtain ⟨cur, fr, h1⟩ := h
  exact ⟨cur, fr, (ho.block g hl hk).trans h1⟩
theorem InB.only {w w' : World} {g k : Nat} (h : InB w g) (ho : Only k w w') (hk : g ≠ k) : InB w' g := by
  obtain ⟨cur, fr, h1⟩ := h
  exact ⟨cur, fr, (ho.block g hk).trans h1⟩
/-- A block of another type is none of bytes. -/
theorem InB.ne {w : World} {g k : Nat} {t : TypeId} {cs : List Value} (h : InB w g) (H : Has w k t cs) (ht : t ≠ 5) : g ≠ k := by
  intro e
  subst e
  obtain ⟨cur, fr, h1⟩ := h
  unfold Has at H
  rw [H] at h1
  cases h1
  exact ht rfl
/-- '[]byte(s)' of a string, as a row in a block of bytes. -/
theorem run_nameI (s : List UInt8) (hs : s.length ≤ maxLen) (w : World) : ∃ c w', (convert 9 52 (.string (str s))).run Tryd.prog w = .ok (.slice (some ⟨w.heap.size, 0, none⟩) s.length c) w' ∧ Row w' (some ⟨w.heap.size, 0, none⟩) s.length c (s.map bv) ∧ InB w' w.heap.size ∧ Below w.heap.size w w' := by
  have hsz : (str s).size = s.length := by simp [str, ByteArray.size]
  have h := run_bytes_of_string (P := Tryd.prog) w 9 52 5 (str s) Tryd.underlying9 Tryd.underlying52 Tryd.underlying5
  rw [hsz] at h
  obtain ⟨c, hc⟩ : ∃ c, grownCap w s.length 0 5 = c := ⟨_, rfl⟩
  have h1 : s.length ≤ c := hc ▸ grownCap_ge w _ _ _
  have h2 : c ≤ maxLen := hc ▸ grownCap_le_maxLen w _ _ _ hs
  rw [hc] at h
  have hh := heap_alloc_new w.drew (.cells (bytesRow (str s) c) 5 ((bytesRow (str s) c).size, (bytesRow (str s) c).size + 1))
  have hh' : (w.drew.alloc (.cells (bytesRow (str s) c) 5 ((bytesRow (str s) c).size, (bytesRow (str s) c).size + 1))).heap[w.heap.size]? = some (.cells (bytesRow (str s) c) 5 ((bytesRow (str s) c).size, (bytesRow (str s) c).size + 1)) := hh
  refine ⟨c, _, h, ⟨by simp, h1, h2, fun h => (by cases h), fun hn => ⟨_, _, rfl, ?_, fun j hj => ?_⟩⟩, ⟨_, _, hh'⟩, ((Below.refl _ _).drew).alloc (Nat.le_refl _) _⟩
  · show w.heap.size < (w.heap.push _).size
    simp
  · rw [Nat.zero_add, cell_of_row _ w.heap.size j _ _ _ hh']
    have hj' : j < s.length := hj
    rw [bytesRow, Array.getElem?_append_left (by simp [str]; exact hj')]
    simp [str, bv, hj']
/-- '[]byte(s)' of a string, as a row. -/
theorem run_nameB (s : List UInt8) (hs : s.length ≤ maxLen) (w : World) : ∃ c w', (convert 9 52 (.string (str s))).run Tryd.prog w = .ok (.slice (some ⟨w.heap.size, 0, none⟩) s.length c) w' ∧ Row w' (some ⟨w.heap.size, 0, none⟩) s.length c (s.map bv) ∧ Below w.heap.size w w' := by
  obtain ⟨c, w', h1, h2, _, h3⟩ := run_nameI s hs w
  exact ⟨c, w', h1, h2, h3⟩
/-- A literal of three parts. -/
theorem lit3 (w : World) (A : Option Addr) (n c : Nat) (l : List UInt8) (B : Option Addr) (m d : Nat) (s : List UInt8) (C : Option Addr) (k f : Nat) (t : List UInt8) (h1 : Row w A n c (l.map bv)) (h2 : Row w B m d (s.map bv)) (h3 : Row w C k f (t.map bv)) :
    PartsAt (w.alloc (.cells #[.slice A n c, .slice B m d, .slice C k f] 52)) (some ⟨w.heap.size, 0, none⟩) 3 3 [⟨A, n, c, l⟩, ⟨B, m, d, s⟩, ⟨C, k, f, t⟩] := by
  have hk := (Below.refl w.heap.size w).alloc (Nat.le_refl _) (.cells #[.slice A n c, .slice B m d, .slice C k f] 52)
  refine ⟨?_, fun p hp => ?_⟩
  · exact (Has.new w 52 [.slice A n c, .slice B m d, .slice C k f]).row 0 3 3 (by simp) (Nat.le_refl _) (by decide)
  · simp only [List.mem_cons, List.not_mem_nil, or_false] at hp
    rcases hp with rfl | rfl | rfl
    · exact h1.keep hk
    · exact h2.keep hk
    · exact h3.keep hk
theorem Only.saved' {g : Nat} {w w' : World} (h : Only g w w') : Save g w w' := ⟨h.os, h.tape, h.output, Nat.le_of_eq h.size.symm, fun k _ hg => h.block k hg⟩
theorem strm_set {seed name : List UInt8} {i : Nat} (h : seed.length = 32) : (strmCells seed name i).set 33 (.int .u64 ((i : Int) + 1)) = strmCells seed name (i + 1) := by
  rw [strmCells, strmCells, List.set_append_right _ _ (by rw [List.length_map]; omega), List.length_map, h]
  congr 1
theorem step_store_has {w : World} {ops : Array Oper} {o : Oper} {a : Act} {K : Act → World → Prop} {Q : Exit → Act → World → Prop} {E : Prop} (hgd : o.guard = none) (ty : TypeId) (x y : Operand) (ho : o.op = .store ty x y) (g : Nat) (hx : a.eval x = .pointer (some ⟨g, 0, none⟩)) (cs : List Value) (hy : a.eval y = .agg cs.toArray)
    (t : TypeId) (old : List Value) (H : Has w g t old) (hi : (Tryd.prog.info? ty).map (·.size) = some cs.length) (hold : old.length = cs.length) (h1 : ∀ u ∈ cs, u.oneCell' = true)
    (h : ∀ w', Only g w w' → Has w' g t cs → K (a.put o.dst undef) w') : if Region.wanted o (yielded ops a.tmps) = true then Oper.wp Tryd.prog o a w K Q else E := by
  have hw : Region.wanted o (yielded ops a.tmps) = true := by simp [Region.wanted, hgd]
  rw [if_pos hw]
  have hs := Has.setCells cs 0 w old H (by omega)
  have e : splice old 0 cs = cs := by rw [splice, List.take_zero, List.nil_append, Nat.zero_add, List.drop_eq_nil_of_le (by omega), List.append_nil]
  rw [e] at hs
  exact wp_store_mid ty x y ho g 0 cs.toArray hx hy (by simpa using H.there 0 cs.length (by omega)) (by simpa using hi) (all_oneCell_toArray h1) (h _ (by simpa using Only.setCells g cs 0 w) (by simpa using hs))
end Go.Proofs.YtjfipijdjbbogaaDoor
