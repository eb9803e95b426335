/-
  Contracts of proof.Challenge and of the reference's: slices of slices of bytes.
-/
import Derived.Test.YtgjepiblhpmaiaaDoorKey
import Derived.Test.YtgjepiblhpmaiaaDoorRefParts
import Derived.Test.YtgjepiblhpmaiaaDoorScalarOf
import Derived.Test.YtgjepiblhpmaiaaDoorGroupBytes
import Derived.Test.YtgjepiblhpmaiaaDoorU64
import Derived.Laws.IdiomStrings
namespace Go.Proofs.YtgjepiblhpmaiaaDoor
open Go.ChangeShapes Go.WideShapes Go.ChangeAt Go.RowKit
set_option linter.unusedVariables false
set_option linter.unusedSimpArgs false

/-! ### The spec -/
/-- Lists of bytes, each behind its length. -/
def partsB (ls : List (List UInt8)) : List UInt8 := ls.flatMap fun l => be64 l.length ++ l
theorem partsN_B (ps : List Part) (h : ∀ p ∈ ps, p.l.length = p.n) : partsN ps = partsB (ps.map Part.l) := by
  rw [partsN, partsB, List.flatMap_map]
  induction ps with
  | nil => rfl
  | cons p r ih => rw [List.flatMap_cons, List.flatMap_cons, ih (fun q hq => h q (by simp [hq])), h p (by simp)]
theorem partsB_nums : ∀ l : List Nat, (partsB (l.map be64)).length = 16 * l.length
  | [] => rfl
  | x :: l => by
    have ih := partsB_nums l
    rw [partsB] at ih ⊢
    rw [List.map_cons, List.flatMap_cons, List.length_append, ih, List.length_append, be64_len, be64_len, List.length_cons]
    omega
/-- The challenge of a name and of numbers. -/
def chalN (s : List UInt8) (l : List Nat) : Nat := ofS (shaN (partsB (s :: l.map be64)))
theorem chalN_lt (s : List UInt8) (l : List Nat) : chalN s l < 2305843009213693950 := ofS_lt _

/-! ### Parts that lie in blocks of bytes -/
def PB (w : World) (p : Part) : Prop := Bytes w p.A p.n p.c p.l ∧ ∀ x, p.A = some x → ∃ cur fr, w.heap[x.block]? = some (.cells cur 5 fr)
theorem PB.lt {w : World} {p : Part} (h : PB w p) {x : Addr} (hx : p.A = some x) : x.block < w.heap.size := by
  obtain ⟨_, _, h1⟩ := h.2 x hx
  exact (Array.getElem?_eq_some_iff.1 h1).1
theorem PB.keep {w w' : World} {p : Part} (h : PB w p) (hb : Below w.heap.size w w') : PB w' p :=
  ⟨h.1.keep hb, fun x hx => by rw [hb.block x.block (h.lt hx)]; exact h.2 x hx⟩
theorem PB.grown {w w' : World} {p : Part} {base n : Nat} {v : Value} {xs : List Value} (h : PB w p) (ho : w.ownsRow base 39 1 v n xs) (hg : w.grownBy w' v.ownBlock) : PB w' p := by
  have hk : ∀ x, p.A = some x → w'.heap[x.block]? = w.heap[x.block]? := fun x hx => by
    refine hg.block _ (h.lt hx) fun e => ?_
    obtain ⟨cur, fr, h1⟩ := h.2 x hx
    rcases ho.2 with ⟨rfl, _⟩ | ⟨g, cap, cur', rfl, _, hgg, _⟩
    · simp [Value.ownBlock] at e
    · simp [Value.ownBlock] at e
      rw [e, hgg] at h1
      cases h1
  refine ⟨?_, fun x hx => by rw [hk x hx]; exact h.2 x hx⟩
  obtain ⟨h1, h2, h3, h0, h4⟩ := h.1
  refine ⟨h1, h2, h3, h0, fun hn => ?_⟩
  obtain ⟨b, off, e, hlt, hc⟩ := h4 hn
  refine ⟨b, off, e, Nat.lt_of_lt_of_le hlt hg.size, fun j hj => ?_⟩
  rw [← hc j hj]
  simp only [World.cell?, hk _ e]
/-- What a call has made for itself is a part. -/
theorem PB.own {w : World} {base n : Nat} {v : Value} {l : List UInt8} (h : w.ownsRow base 5 1 v n (l.map bv)) : ∃ A c, v = .slice A n c ∧ PB w ⟨A, n, c, l⟩ := by
  obtain ⟨A, c, rfl, hr⟩ := Row.own h
  refine ⟨A, c, rfl, hr, fun x hx => ?_⟩
  obtain rfl : A = some x := hx
  rcases h.2 with ⟨h2, _⟩ | ⟨g, cap, cur, h2, _, hg, _⟩
  · cases h2
  · cases h2
    exact ⟨_, _, hg⟩
/-- '[]byte(s)' of a string. -/
theorem run_name (s : List UInt8) (hs : s.length ≤ maxLen) (w : World) : ∃ c w', (convert 9 39 (.string (str s))).run Tryd.prog w = .ok (.slice (some ⟨w.heap.size, 0, none⟩) s.length c) w' ∧ PB w' ⟨some ⟨w.heap.size, 0, none⟩, s.length, c, s⟩ ∧ Below w.heap.size w w' := by
  have hsz : (str s).size = s.length := by simp [str, ByteArray.size]
  have h := run_bytes_of_string (P := Tryd.prog) w 9 39 5 (str s) Tryd.underlying9 Tryd.underlying39 Tryd.underlying5
  rw [hsz] at h
  obtain ⟨c, hc⟩ : ∃ c, grownCap w s.length 0 5 = c := ⟨_, rfl⟩
  have h1 : s.length ≤ c := hc ▸ grownCap_ge w _ _ _
  have h2 : c ≤ maxLen := hc ▸ grownCap_le_maxLen w _ _ _ hs
  rw [hc] at h
  refine ⟨c, _, h, ⟨⟨by simp, h1, h2, fun h => (by cases h), fun hn => ⟨_, _, rfl, ?_, fun j hj => ?_⟩⟩, fun x hx => ?_⟩, ((Below.refl _ _).drew).alloc (Nat.le_refl _) _⟩
  · show w.heap.size < (w.heap.push _).size
    simp
  · have hh := heap_alloc_new w.drew (.cells (bytesRow (str s) c) 5 ((bytesRow (str s) c).size, (bytesRow (str s) c).size + 1))
    have hh' : (w.drew.alloc (.cells (bytesRow (str s) c) 5 ((bytesRow (str s) c).size, (bytesRow (str s) c).size + 1))).heap[w.heap.size]? = some (.cells (bytesRow (str s) c) 5 ((bytesRow (str s) c).size, (bytesRow (str s) c).size + 1)) := hh
    rw [Nat.zero_add, cell_of_row _ w.heap.size j _ _ _ hh']
    have hj' : j < s.length := hj
    rw [bytesRow, Array.getElem?_append_left (by simp [str]; exact hj')]
    simp [str, bv, hj']
  · obtain rfl : (⟨w.heap.size, 0, none⟩ : Addr) = x := by injection hx
    exact ⟨_, _, heap_alloc_new w.drew _⟩
theorem Tryd.infoB : (Tryd.prog.info? 39).map (fun i => (i.zero, i.size, i.bytes)) = some (some (.slice none 0 0), 1, 24) := by kernel_rfl
/-- make([][]byte, 0, cap) -/
theorem run_makeB (cap : Nat) (hc : cap ≤ 1048576) (u : World) : (Instr.makeSlice 38 (.int .i64 0) (.int .i64 (cap : Int))).run Tryd.prog u =
    .ok (.slice (some ⟨u.heap.size, 0, none⟩) 0 cap) (u.alloc (.cells (List.replicate cap (Value.slice none 0 0)).toArray 39)) := by
  obtain ⟨i0, hi, hz0, hz1, hz2⟩ := info_parts Tryd.infoB
  have h := run_make (P := Tryd.prog) u 38 39 i0 (.slice none 0 0) Tryd.underlying38 hi hz0 .i64 .i64 0 (cap : Int) (by omega) (by omega) (by rw [hz2]; omega) (by omega)
  have e : (madeCells #[Value.slice none 0 0] cap) = (List.replicate cap (Value.slice none 0 0)).toArray := by
    rw [← toList_madeCells_one]
  rw [Int.toNat_natCast] at h
  rw [← e]
  simpa [hz1, Value.cells] using h
theorem own_makeB (cap : Nat) (hc : cap ≤ 1048576) (u : World) (base : Nat) (hb : base ≤ u.heap.size) : (u.alloc (.cells (List.replicate cap (Value.slice none 0 0)).toArray 39)).ownsRow base 39 1 (.slice (some ⟨u.heap.size, 0, none⟩) 0 cap) 0 [] :=
  ⟨rfl, .inr ⟨u.heap.size, cap, _, rfl, hb, heap_alloc_new u _, Nat.zero_le _, by unfold maxLen; omega, by simp, by simp⟩⟩
theorem litB (w : World) (v : Value) : Row (w.alloc (.cells #[v] 39)) (some ⟨w.heap.size, 0, none⟩) 1 1 [v] := by
  refine ⟨rfl, Nat.le_refl _, by simp [maxLen], fun h => (by cases h), fun _ => ⟨_, _, rfl, by simp, fun j hj => ?_⟩⟩
  rw [Nat.zero_add, cell_of_row _ w.heap.size j #[v] 39 (0, 0) (heap_alloc_new w _)]
  simp
/-- 'append(s, x)' of slices of bytes. -/
theorem appB {w : World} {ops : Array Oper} {rest : List Oper} {o : Oper} {a : Act} {Q : Exit → Act → World → Prop} (hgd : o.guard = none) (s x : Operand)
    (ho : o.op = .call { callee := .builtin .append, args := #[s, x], argTypes := #[38, 38] })
    (base : Nat) (v : Value) (n : Nat) (ps : List Part) (hs : a.eval s = v) (hown : w.ownsRow base 39 1 v n (ps.map Part.val))
    (A : Option Addr) (p : Part) (hx : a.eval x = .slice A 1 1) (hr : Row w A 1 1 [p.val]) (hbytes : n ≤ 1048576) (hbase : base ≤ w.heap.size)
    (h : ∀ v' w', w'.ownsRow base 39 1 v' (n + 1) ((ps ++ [p]).map Part.val) → w.grownBy w' v.ownBlock → wpList Tryd.prog ops Q rest (a.put o.dst v') w') : wpList Tryd.prog ops Q (o :: rest) a w := by
  obtain ⟨i0, hi, hz0, hz1, hz2⟩ := info_parts Tryd.infoB
  exact wpList_appendRow hgd s x 38 ho base 39 i0 (.slice none 0 0) 24 Tryd.underlying38 hi hz0 hz1 hz2 rfl v n (ps.map Part.val) hs hown A 1 1 [p.val] hx hr (by intro u hu; obtain rfl := List.mem_singleton.1 hu; rfl) (by decide) (by omega) hbase fun v' w' h2 h3 => h v' w' (by rw [List.map_append]; exact h2) h3
/-- A literal of one part is a row of the call's own. -/
theorem own_litB (w : World) (base : Nat) (p : Part) (hb : base ≤ w.heap.size) : (w.alloc (.cells #[p.val] 39)).ownsRow base 39 1 (.slice (some ⟨w.heap.size, 0, none⟩) 1 1) 1 ([p].map Part.val) :=
  ⟨rfl, .inr ⟨w.heap.size, 1, _, rfl, hb, heap_alloc_new w _, Nat.le_refl _, by simp [maxLen], rfl, rfl⟩⟩
/-- The parts as sha.Parts takes them. -/
theorem partsAt_own {w : World} {base n : Nat} {v : Value} {ps : List Part} (h : w.ownsRow base 39 1 v n (ps.map Part.val)) (hp : ∀ p ∈ ps, PB w p) : ∃ A c, v = .slice A n c ∧ PartsAt w A n c ps ∧ ∀ p ∈ ps, p.l.length = p.n := by
  obtain ⟨A, c, rfl, hr⟩ := Row.own h
  exact ⟨A, c, rfl, ⟨hr, fun p hq => (hp p hq).1⟩, fun p hq => (hp p hq).1.len⟩
end Go.Proofs.YtgjepiblhpmaiaaDoor
