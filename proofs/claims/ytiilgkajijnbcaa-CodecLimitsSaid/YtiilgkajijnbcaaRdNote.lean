/-
  Contract of the reference's ReadNote.
-/
import Derived.Test.YtiilgkajijnbcaaRdKey
namespace Go.Proofs.Ytiilgkajijnbcaa
open Go.ChangeShapes Go.WideShapes Go.ChangeAt Go.RowKit
set_option linter.unusedVariables false
set_option linter.unusedSimpArgs false

/-- A note's cells. -/
def ncells (x y : Nat) (l : List UInt8) : List Value := [nv x, nv y] ++ l.map bv
theorem ncells_len (x y : Nat) (l : List UInt8) (h : l.length = 32) : (ncells x y l).length = 34 := by simp [ncells, h]
theorem newNote (w : World) : Has (w.alloc (.cells #[.int .u64 0, .int .u64 0, .int .u8 0, .int .u8 0, .int .u8 0, .int .u8 0, .int .u8 0, .int .u8 0, .int .u8 0, .int .u8 0, .int .u8 0, .int .u8 0, .int .u8 0, .int .u8 0, .int .u8 0, .int .u8 0, .int .u8 0, .int .u8 0, .int .u8 0, .int .u8 0, .int .u8 0, .int .u8 0, .int .u8 0, .int .u8 0, .int .u8 0, .int .u8 0, .int .u8 0, .int .u8 0, .int .u8 0, .int .u8 0, .int .u8 0, .int .u8 0, .int .u8 0, .int .u8 0] 67)) w.heap.size 67 (ncells 0 0 (List.replicate 32 0)) := Has.new w 67 (ncells 0 0 (List.replicate 32 0))
theorem size_note : (Try.prog.info? 67).map (·.size) = some 34 := by kernel_rfl
theorem one_ncells (x y : Nat) (l : List UInt8) : ∀ u ∈ ncells x y l, u.oneCell' = true := by
  intro u hu
  rw [ncells] at hu
  rcases List.mem_append.1 hu with h | h
  · simp only [List.mem_cons, List.not_mem_nil, or_false] at h
    rcases h with rfl | rfl <;> rfl
  · exact one_bv l u h
/-- What a note's bytes are read as, with the error. -/
def noteS (b : List UInt8) : (Nat × Nat × List UInt8) × Nat :=
  if endS b (takeS b 32 (numS b (numS b ⟨0, 0⟩).2).2).2 = 0 then (((numS b ⟨0, 0⟩).1, (numS b (numS b ⟨0, 0⟩).2).1, padL 32 (takeS b 32 (numS b (numS b ⟨0, 0⟩).2).2).1), 0)
  else ((0, 0, List.replicate 32 0), endS b (takeS b 32 (numS b (numS b ⟨0, 0⟩).2).2).2)
theorem pad_set_note (x y : Nat) (l : List UInt8) (j : Nat) (h : j < l.length) (hl : l.length ≤ 32) (v : Value) (hv : v = bv (l.getD j 0)) :
    (ncells x y (padL 32 (l.take j))).set (2 + j) v = ncells x y (padL 32 (l.take (j + 1))) := by
  have := pad_set l j h hl [] v hv
  simp only [List.append_nil] at this
  rw [ncells, List.set_append_right _ _ (by simp), ncells]
  congr 1
  rw [← this]
  congr 1
  simp
section
variable {w : World} {ops : Array Oper} {rest : List Oper} {o : Oper} {a : Act} {Q : Exit → Act → World → Prop}
theorem wpList_store_note (hgd : o.guard = none) (x y : Operand) (ho : o.op = .store 67 x y) (g : Nat) (hx : a.eval x = .pointer (some ⟨g, 0, none⟩)) (p q : Nat) (l : List UInt8) (hl : l.length = 32) (hy : a.eval y = .agg (ncells p q l).toArray)
    (old : List Value) (H : Has w g 67 old) (hold : old.length = 34)
    (h : ∀ w', Only g w w' → Has w' g 67 (ncells p q l) → wpList Try.prog ops Q rest (a.put o.dst undef) w') : wpList Try.prog ops Q (o :: rest) a w :=
  wpList_store_has hgd 67 x y ho g hx (ncells p q l) hy 67 old H (by rw [ncells_len _ _ _ hl]; exact size_note) (by rw [ncells_len _ _ _ hl, hold]) (one_ncells p q l) h
theorem wpList_load_note (hgd : o.guard = none) (x : Operand) (ho : o.op = .load 67 x) (g : Nat) (hx : a.eval x = .pointer (some ⟨g, 0, none⟩)) (p q : Nat) (l : List UInt8) (hl : l.length = 32) (H : Has w g 67 (ncells p q l))
    (h : wpList Try.prog ops Q rest (a.put o.dst (.agg (ncells p q l).toArray)) w) : wpList Try.prog ops Q (o :: rest) a w :=
  wpList_load_has hgd 67 x ho g hx 67 (ncells p q l) H _ Try.underlying67 rfl (by rw [ncells_len _ _ _ hl]; exact size_note) h
end
/-- A result in a cell and one in a slot. -/
theorem ret_has_tmp {P : Program} {w : World} {a : Act} {fn : Func} {R : Ending → World → Prop} {u p : Tmp} {ty : TypeId} (h : fn.results = #[.cell p ty, .tmp u]) (v : Value) (hv : a.tmps.getD u undef = v) (g : Nat) (hp : a.tmps.getD p undef = .pointer (some ⟨g, 0, none⟩)) (t : TypeId) (cs : List Value) (H : Has w g t cs)
    (d : TypeDesc) (hu : P.underlying ty = some d) (hd : (match d with | .struct _ | .array _ _ => true | _ => false) = true) (hi : (P.info? ty).map (·.size) = some cs.length)
    (hf : a.defers = []) (hR : R (.returned (.tuple #[.agg cs.toArray, v])) w) : bodyPost P fn R .ret a w := by
  refine bodyPost_ret ?_ hf hR
  have hl := run_loadVar_row (P := P) w g t ty cs.toArray (0, 0) d H hu hd (by simpa using hi)
  have hp' : a.tmps[p]?.getD undef = .pointer (some ⟨g, 0, none⟩) := by simpa using hp
  have hv' : a.tmps[u]?.getD undef = v := by simpa using hv
  simp [results, h, hp', hv', asAddr, hl]
theorem St.start (b : List UInt8) : St.ok b ⟨0, 0⟩ := ⟨Nat.zero_le _, by show 0 < 5; omega⟩
/-- A new reader. -/
theorem newRdr (w : World) (A : Option Addr) (n c : Nat) : Rdr (w.alloc (.cells #[.slice A n c, .int .i64 0, .int .i64 0] 104)) w.heap.size A n c ⟨0, 0⟩ := Has.new w 104 [.slice A n c, .int .i64 0, .int .i64 0]
set_option maxHeartbeats 2000000 in
theorem refReadNote' (A : Option Addr) (n c : Nat) (b : List UInt8) (x y : Nat) (l : List UInt8) (k : Nat) (h : noteS b = ((x, y, l), k)) (w : World) (hb : Bytes w A n c b) :
    Calls Try.prog 30 #[.slice A n c] w fun e w' => e = .returned (.tuple #[.agg (ncells x y l).toArray, .int .i64 (k : Int)]) ∧ Below w.heap.size w w' := by
  obtain ⟨x1, s1, h1⟩ : ∃ x s, numS b ⟨0, 0⟩ = (x, s) := ⟨_, _, rfl⟩
  obtain ⟨x2, s2, h2⟩ : ∃ x s, numS b s1 = (x, s) := ⟨_, _, rfl⟩
  obtain ⟨t, s3, h3⟩ : ∃ x s, takeS b 32 s2 = (x, s) := ⟨_, _, rfl⟩
  obtain ⟨q, h4⟩ : ∃ q, endS b s3 = q := ⟨_, rfl⟩
  have o0 := St.start b
  have o1 : s1.ok b := by have := numS_ok o0; rw [h1] at this; exact this
  have o2 : s2.ok b := by have := numS_ok o1; rw [h2] at this; exact this
  have htl : t.length ≤ 32 := by
    have := takeS_len (b := b) (s := s2) 32
    rw [h3] at this
    rcases this with h | h
    · exact Nat.le_of_eq h
    · rw [show t = [] from h]; simp
  rw [noteS, h1] at h
  simp only [] at h
  rw [h2] at h
  simp only [] at h
  rw [h3] at h
  simp only [] at h
  rw [h4] at h
  -- the blocks: the result's, the reader's, the note's
  have hb1 := (Below.refl w.heap.size w).alloc (Nat.le_refl _) (.cells #[.int .u64 0, .int .u64 0, .int .u8 0, .int .u8 0, .int .u8 0, .int .u8 0, .int .u8 0, .int .u8 0, .int .u8 0, .int .u8 0, .int .u8 0, .int .u8 0, .int .u8 0, .int .u8 0, .int .u8 0, .int .u8 0, .int .u8 0, .int .u8 0, .int .u8 0, .int .u8 0, .int .u8 0, .int .u8 0, .int .u8 0, .int .u8 0, .int .u8 0, .int .u8 0, .int .u8 0, .int .u8 0, .int .u8 0, .int .u8 0, .int .u8 0, .int .u8 0, .int .u8 0, .int .u8 0] 67)
  have hb2 := hb1.alloc hb1.size (.cells #[.slice A n c, .int .i64 0, .int .i64 0] 104)
  have hb3 := hb2.alloc hb2.size (.cells #[.int .u64 0, .int .u64 0, .int .u8 0, .int .u8 0, .int .u8 0, .int .u8 0, .int .u8 0, .int .u8 0, .int .u8 0, .int .u8 0, .int .u8 0, .int .u8 0, .int .u8 0, .int .u8 0, .int .u8 0, .int .u8 0, .int .u8 0, .int .u8 0, .int .u8 0, .int .u8 0, .int .u8 0, .int .u8 0, .int .u8 0, .int .u8 0, .int .u8 0, .int .u8 0, .int .u8 0, .int .u8 0, .int .u8 0, .int .u8 0, .int .u8 0, .int .u8 0, .int .u8 0, .int .u8 0] 67)
  have HR := ((newNote w).alloc (.cells #[.slice A n c, .int .i64 0, .int .i64 0] 104)).alloc (.cells #[.int .u64 0, .int .u64 0, .int .u8 0, .int .u8 0, .int .u8 0, .int .u8 0, .int .u8 0, .int .u8 0, .int .u8 0, .int .u8 0, .int .u8 0, .int .u8 0, .int .u8 0, .int .u8 0, .int .u8 0, .int .u8 0, .int .u8 0, .int .u8 0, .int .u8 0, .int .u8 0, .int .u8 0, .int .u8 0, .int .u8 0, .int .u8 0, .int .u8 0, .int .u8 0, .int .u8 0, .int .u8 0, .int .u8 0, .int .u8 0, .int .u8 0, .int .u8 0, .int .u8 0, .int .u8 0] 67)
  have H0 := ((newRdr (w.alloc (.cells #[.int .u64 0, .int .u64 0, .int .u8 0, .int .u8 0, .int .u8 0, .int .u8 0, .int .u8 0, .int .u8 0, .int .u8 0, .int .u8 0, .int .u8 0, .int .u8 0, .int .u8 0, .int .u8 0, .int .u8 0, .int .u8 0, .int .u8 0, .int .u8 0, .int .u8 0, .int .u8 0, .int .u8 0, .int .u8 0, .int .u8 0, .int .u8 0, .int .u8 0, .int .u8 0, .int .u8 0, .int .u8 0, .int .u8 0, .int .u8 0, .int .u8 0, .int .u8 0, .int .u8 0, .int .u8 0] 67)) A n c).alloc (.cells #[.int .u64 0, .int .u64 0, .int .u8 0, .int .u8 0, .int .u8 0, .int .u8 0, .int .u8 0, .int .u8 0, .int .u8 0, .int .u8 0, .int .u8 0, .int .u8 0, .int .u8 0, .int .u8 0, .int .u8 0, .int .u8 0, .int .u8 0, .int .u8 0, .int .u8 0, .int .u8 0, .int .u8 0, .int .u8 0, .int .u8 0, .int .u8 0, .int .u8 0, .int .u8 0, .int .u8 0, .int .u8 0, .int .u8 0, .int .u8 0, .int .u8 0, .int .u8 0, .int .u8 0, .int .u8 0] 67))
  have HN := newNote ((w.alloc (.cells #[.int .u64 0, .int .u64 0, .int .u8 0, .int .u8 0, .int .u8 0, .int .u8 0, .int .u8 0, .int .u8 0, .int .u8 0, .int .u8 0, .int .u8 0, .int .u8 0, .int .u8 0, .int .u8 0, .int .u8 0, .int .u8 0, .int .u8 0, .int .u8 0, .int .u8 0, .int .u8 0, .int .u8 0, .int .u8 0, .int .u8 0, .int .u8 0, .int .u8 0, .int .u8 0, .int .u8 0, .int .u8 0, .int .u8 0, .int .u8 0, .int .u8 0, .int .u8 0, .int .u8 0, .int .u8 0] 67)).alloc (.cells #[.slice A n c, .int .i64 0, .int .i64 0] 104))
  rw [show (w.alloc (.cells #[.int .u64 0, .int .u64 0, .int .u8 0, .int .u8 0, .int .u8 0, .int .u8 0, .int .u8 0, .int .u8 0, .int .u8 0, .int .u8 0, .int .u8 0, .int .u8 0, .int .u8 0, .int .u8 0, .int .u8 0, .int .u8 0, .int .u8 0, .int .u8 0, .int .u8 0, .int .u8 0, .int .u8 0, .int .u8 0, .int .u8 0, .int .u8 0, .int .u8 0, .int .u8 0, .int .u8 0, .int .u8 0, .int .u8 0, .int .u8 0, .int .u8 0, .int .u8 0, .int .u8 0, .int .u8 0] 67)).heap.size = w.heap.size + 1 by simp] at H0
  rw [show ((w.alloc (.cells #[.int .u64 0, .int .u64 0, .int .u8 0, .int .u8 0, .int .u8 0, .int .u8 0, .int .u8 0, .int .u8 0, .int .u8 0, .int .u8 0, .int .u8 0, .int .u8 0, .int .u8 0, .int .u8 0, .int .u8 0, .int .u8 0, .int .u8 0, .int .u8 0, .int .u8 0, .int .u8 0, .int .u8 0, .int .u8 0, .int .u8 0, .int .u8 0, .int .u8 0, .int .u8 0, .int .u8 0, .int .u8 0, .int .u8 0, .int .u8 0, .int .u8 0, .int .u8 0, .int .u8 0, .int .u8 0] 67)).alloc (.cells #[.slice A n c, .int .i64 0, .int .i64 0] 104)).heap.size = w.heap.size + 2 by simp] at HN
  have hB := hb.keep hb3
  have hO : Off (w.heap.size + 1) A n := Off.of_row hb (by omega)
  have hsz : (((w.alloc (.cells #[.int .u64 0, .int .u64 0, .int .u8 0, .int .u8 0, .int .u8 0, .int .u8 0, .int .u8 0, .int .u8 0, .int .u8 0, .int .u8 0, .int .u8 0, .int .u8 0, .int .u8 0, .int .u8 0, .int .u8 0, .int .u8 0, .int .u8 0, .int .u8 0, .int .u8 0, .int .u8 0, .int .u8 0, .int .u8 0, .int .u8 0, .int .u8 0, .int .u8 0, .int .u8 0, .int .u8 0, .int .u8 0, .int .u8 0, .int .u8 0, .int .u8 0, .int .u8 0, .int .u8 0, .int .u8 0] 67)).alloc (.cells #[.slice A n c, .int .i64 0, .int .i64 0] 104)).alloc (.cells #[.int .u64 0, .int .u64 0, .int .u8 0, .int .u8 0, .int .u8 0, .int .u8 0, .int .u8 0, .int .u8 0, .int .u8 0, .int .u8 0, .int .u8 0, .int .u8 0, .int .u8 0, .int .u8 0, .int .u8 0, .int .u8 0, .int .u8 0, .int .u8 0, .int .u8 0, .int .u8 0, .int .u8 0, .int .u8 0, .int .u8 0, .int .u8 0, .int .u8 0, .int .u8 0, .int .u8 0, .int .u8 0, .int .u8 0, .int .u8 0, .int .u8 0, .int .u8 0, .int .u8 0, .int .u8 0] 67)).heap.size = w.heap.size + 3 := by simp
  have HS := Lib.hid (And.intro o1 (And.intro o2 (And.intro htl (And.intro h1 (And.intro h2 (And.intro h3 h4))))))
  have HE := Lib.hid h
  have HBL := Lib.hid hb.len
  clear hb1 hb2 o1 o2 htl h1 h2 h3 h4 h
  go_enter Try.func30, Try.ntmps30
  go_wp2_with fail
  change Calls _ _ _ (((w.alloc (.cells #[.int .u64 0, .int .u64 0, .int .u8 0, .int .u8 0, .int .u8 0, .int .u8 0, .int .u8 0, .int .u8 0, .int .u8 0, .int .u8 0, .int .u8 0, .int .u8 0, .int .u8 0, .int .u8 0, .int .u8 0, .int .u8 0, .int .u8 0, .int .u8 0, .int .u8 0, .int .u8 0, .int .u8 0, .int .u8 0, .int .u8 0, .int .u8 0, .int .u8 0, .int .u8 0, .int .u8 0, .int .u8 0, .int .u8 0, .int .u8 0, .int .u8 0, .int .u8 0, .int .u8 0, .int .u8 0] 67)).alloc (.cells #[.slice A n c, .int .i64 0, .int .i64 0] 104)).alloc (.cells #[.int .u64 0, .int .u64 0, .int .u8 0, .int .u8 0, .int .u8 0, .int .u8 0, .int .u8 0, .int .u8 0, .int .u8 0, .int .u8 0, .int .u8 0, .int .u8 0, .int .u8 0, .int .u8 0, .int .u8 0, .int .u8 0, .int .u8 0, .int .u8 0, .int .u8 0, .int .u8 0, .int .u8 0, .int .u8 0, .int .u8 0, .int .u8 0, .int .u8 0, .int .u8 0, .int .u8 0, .int .u8 0, .int .u8 0, .int .u8 0, .int .u8 0, .int .u8 0, .int .u8 0, .int .u8 0] 67)) _
  generalize (((w.alloc (.cells #[.int .u64 0, .int .u64 0, .int .u8 0, .int .u8 0, .int .u8 0, .int .u8 0, .int .u8 0, .int .u8 0, .int .u8 0, .int .u8 0, .int .u8 0, .int .u8 0, .int .u8 0, .int .u8 0, .int .u8 0, .int .u8 0, .int .u8 0, .int .u8 0, .int .u8 0, .int .u8 0, .int .u8 0, .int .u8 0, .int .u8 0, .int .u8 0, .int .u8 0, .int .u8 0, .int .u8 0, .int .u8 0, .int .u8 0, .int .u8 0, .int .u8 0, .int .u8 0, .int .u8 0, .int .u8 0] 67)).alloc (.cells #[.slice A n c, .int .i64 0, .int .i64 0] 104)).alloc (.cells #[.int .u64 0, .int .u64 0, .int .u8 0, .int .u8 0, .int .u8 0, .int .u8 0, .int .u8 0, .int .u8 0, .int .u8 0, .int .u8 0, .int .u8 0, .int .u8 0, .int .u8 0, .int .u8 0, .int .u8 0, .int .u8 0, .int .u8 0, .int .u8 0, .int .u8 0, .int .u8 0, .int .u8 0, .int .u8 0, .int .u8 0, .int .u8 0, .int .u8 0, .int .u8 0, .int .u8 0, .int .u8 0, .int .u8 0, .int .u8 0, .int .u8 0, .int .u8 0, .int .u8 0, .int .u8 0] 67)) = w3 at *
  have hH := H0.lt
  refine (rdNum' (w.heap.size + 1) A n c b ⟨0, 0⟩ s1 x1 HS.out.2.2.2.1 o0 w3 H0 hB hO).mono ?_
  rintro e w4 ⟨rfl, H4, S4⟩
  have HR4 := HR.save S4 (by omega)
  have HN4 := HN.save S4 (by omega)
  have hB4 := hB.save S4 hO
  have b4 := S4.below hb3 (by omega) (by omega)
  have z4 := S4.size
  have c40 : w4.cell? ⟨w.heap.size + 2, 0, none⟩ = some (.int .u64 0) := HN4.cell 0
  have f40 := HN4.froz 0
  clear HR HN hB H0 S4 o0
  go_wp2_with fail
  have H5 := H4.only (Only.setCell w4 (w.heap.size + 2) 0 (.int .u64 (x1 : Int))) (by omega)
  have HR5 := HR4.only (Only.setCell w4 (w.heap.size + 2) 0 (.int .u64 (x1 : Int))) (by omega)
  have HN5 : Has (w4.setCell ⟨w.heap.size + 2, 0, none⟩ (.int .u64 (x1 : Int))) (w.heap.size + 2) 67 (ncells x1 0 (List.replicate 32 0)) := HN4.set 0 (.int .u64 (x1 : Int))
  have hB5 := Row.only hB4 (Only.setCell w4 (w.heap.size + 2) 0 (.int .u64 (x1 : Int))) (Off.of_row hb (by omega))
  have b5 := (Only.setCell w4 (w.heap.size + 2) 0 (.int .u64 (x1 : Int))).below b4 (by omega)
  have z5 := (Only.setCell w4 (w.heap.size + 2) 0 (.int .u64 (x1 : Int))).size
  change Calls _ _ _ (w4.setCell ⟨w.heap.size + 2, 0, none⟩ (.int .u64 (x1 : Int))) _
  generalize (w4.setCell ⟨w.heap.size + 2, 0, none⟩ (.int .u64 (x1 : Int))) = w5 at *
  clear H4 HR4 HN4 hB4 b4 c40 f40
  refine (rdNum' (w.heap.size + 1) A n c b s1 s2 x2 HS.out.2.2.2.2.1 HS.out.1 w5 H5 hB5 hO).mono ?_
  rintro e w6 ⟨rfl, H6, S6⟩
  have HR6 := HR5.save S6 (by omega)
  have HN6 := HN5.save S6 (by omega)
  have hB6 := Row.save hB5 S6 hO
  have b6 := S6.below b5 (by omega) (by omega)
  have z6 := S6.size
  have c60 : w6.cell? ⟨w.heap.size + 2, 1, none⟩ = some (.int .u64 0) := HN6.cell 1
  have f60 := HN6.froz 1
  clear HR5 HN5 hB5 H5 S6
  go_wp2_with fail
  have H7 := H6.only (Only.setCell w6 (w.heap.size + 2) 1 (.int .u64 (x2 : Int))) (by omega)
  have HR7 := HR6.only (Only.setCell w6 (w.heap.size + 2) 1 (.int .u64 (x2 : Int))) (by omega)
  have HN7 : Has (w6.setCell ⟨w.heap.size + 2, 1, none⟩ (.int .u64 (x2 : Int))) (w.heap.size + 2) 67 (ncells x1 x2 (List.replicate 32 0)) := HN6.set 1 (.int .u64 (x2 : Int))
  have hB7 := Row.only hB6 (Only.setCell w6 (w.heap.size + 2) 1 (.int .u64 (x2 : Int))) (Off.of_row hb (by omega))
  have b7 := (Only.setCell w6 (w.heap.size + 2) 1 (.int .u64 (x2 : Int))).below b6 (by omega)
  have z7 := (Only.setCell w6 (w.heap.size + 2) 1 (.int .u64 (x2 : Int))).size
  change Calls _ _ _ (w6.setCell ⟨w.heap.size + 2, 1, none⟩ (.int .u64 (x2 : Int))) _
  generalize (w6.setCell ⟨w.heap.size + 2, 1, none⟩ (.int .u64 (x2 : Int))) = w7 at *
  clear H6 HR6 HN6 hB6 b6 c60 f60
  refine (show Calls Try.prog 58 #[.pointer (some ⟨w.heap.size + 1, 0, none⟩), .int .i64 32] w7 _ from rdTake' (w.heap.size + 1) A n c b s2 s3 32 t HS.out.2.2.2.2.2.1 HS.out.2.1 (by omega) w7 H7 hB7 hO).mono ?_
  rintro e w8 ⟨v, rfl, hown, H8, S8⟩
  obtain ⟨A8, c8, rfl, hr8⟩ := Row.own hown
  have hoff := own_off hown (show w.heap.size + 2 < w7.heap.size by omega) t.length
  have HR8 := HR7.save S8 (by omega)
  have HN8 := HN7.save S8 (by omega)
  have b8 := S8.below b7 (by omega) (by omega)
  have z8 := S8.size
  obtain ⟨m, hm⟩ : ∃ m, t.length = m := ⟨_, rfl⟩
  rw [hm] at hr8 hoff
  have hr8' : Bytes w8 A8 m c8 t := hr8
  have hm32 : m ≤ 32 := by rw [← hm]; exact HS.out.2.2.1
  have HM := Lib.hid hm
  have HOFF := Lib.hid hoff
  have HZ : Has w8 (w.heap.size + 2) 67 (ncells x1 x2 (padL 32 (t.take 0))) := HN8
  clear HR7 HN7 hB7 H7 S8 hown hr8 hm hoff b7 HN8
  go_wp2_with fail
  rw [HM.out]
  go_loopw [7] (fun i wr => ∃ j : Nat, j ≤ m ∧ i = .int .i64 j ∧ Has wr (w.heap.size + 2) 67 (ncells x1 x2 (padL 32 (t.take j))) ∧ Only (w.heap.size + 2) w8 wr) (fun i _ => m - (intOf i).toNat)
  case atStart => exact ⟨0, Nat.zero_le _, rfl, HZ, Only.refl _ _⟩
  case round =>
    clear HZ
    obtain ⟨j, hj, rfl, HK, ho⟩ := hrel
    by_cases hlt : j < m
    · have hrr : Bytes wr A8 m c8 t := Row.only hr8' ho HOFF.out
      obtain ⟨b0, off, rfl, hb0, hc0⟩ := hrr.at_ (by omega)
      have cx := hc0 j hlt
      obtain ⟨z, hz⟩ : ∃ x, x = t.getD j 0 := ⟨_, rfl⟩
      rw [← hz] at cx
      have HZZ := Lib.hid hz
      have f1 := HK.froz (2 + j)
      obtain ⟨vk, ck⟩ : ∃ v, wr.cell? ⟨w.heap.size + 2, 2 + j, none⟩ = some v := ⟨_, (HK.cell (2 + j)).trans (List.getElem?_eq_getElem (by
        rw [ncells_len _ _ _ (padL_len 32 _ (by simp; omega))]
        omega))⟩
      have hj32 : (j : Int) < 32 := by omega
      have hjm : (j : Int) < (m : Int) := by omega
      have HST := Lib.hid (show Has (wr.setCell ⟨w.heap.size + 2, 2 + j, none⟩ (.int .u8 (z.toNat : Int))) (w.heap.size + 2) 67 (ncells x1 x2 (padL 32 (t.take (j + 1)))) by
        rw [← pad_set_note x1 x2 t j (by rw [HM.out]; exact hlt) HS.out.2.2.1 (.int .u8 (z.toNat : Int)) (by rw [← HZZ.out]; rfl)]
        exact HK.set (2 + j) _)
      clear hz hc0 hrr HK
      go_wp2_with fail
      go_roundw
      case rel => exact ⟨j + 1, by omega, by go_num, HST.out, ho.trans (Only.setCell _ _ _ _)⟩
      case measure => simp [intOf]; omega
    · obtain rfl : j = m := by omega
      rw [List.take_of_length_le (Nat.le_of_eq HM.out)] at HK
      have HR9 := HR8.only ho (by omega)
      have H9 := H8.only ho (by omega)
      have b9 := ho.below b8 (by omega)
      have z9 := ho.size
      clear hr8' H8 HR8 b8 ho hlt
      go_wp2_with fail
      refine (rdEnd' (w.heap.size + 1) A n c b s3 q HS.out.2.2.2.2.2.2 HBL.out wr H9).mono ?_
      rintro e w10 ⟨rfl, S10⟩
      have HR10 := HR9.save S10 (by omega)
      have HN10 := HK.save S10 (by omega)
      have b10 := S10.below b9 (by omega) (by omega)
      have z10 := S10.size
      have hlr := HR10.lt
      have hln := HN10.lt
      have hpl : (padL 32 t).length = 32 := padL_len 32 t HS.out.2.2.1
      clear HK HR9 H9 b9 S10
      have HE' := HE.out
      by_cases hq : q = 0
      · subst hq
        rw [if_pos rfl] at HE'
        obtain ⟨e1, rfl⟩ := Prod.mk.inj HE'
        obtain ⟨rfl, e2⟩ := Prod.mk.inj e1
        obtain ⟨rfl, rfl⟩ := Prod.mk.inj e2
        clear HE' e1 e2
        go_wp2_with (first
          | ((with_reducible refine wpList_load_note rfl (.tmp 5) rfl (w.heap.size + 2) rfl x1 x2 (padL 32 t) hpl HN10 ?_))
          | ((with_reducible refine wpList_store_note rfl (.tmp 2) (.tmp 39) rfl w.heap.size rfl x1 x2 (padL 32 t) hpl rfl (ncells 0 0 (List.replicate 32 0)) HR10 rfl ?_); intro w11 o11 H11))
        exact ret_has_tmp Try.results30 _ rfl w.heap.size rfl 67 (ncells x1 x2 (padL 32 t)) H11 _ Try.underlying67 rfl (by rw [ncells_len _ _ _ hpl]; exact size_note) rfl ⟨rfl, o11.below b10 (Nat.le_refl _)⟩
      · rw [if_neg hq] at HE'
        obtain ⟨e1, rfl⟩ := Prod.mk.inj HE'
        obtain ⟨rfl, e2⟩ := Prod.mk.inj e1
        obtain ⟨rfl, rfl⟩ := Prod.mk.inj e2
        have h1 : ((q : Int) == 0) = false := by simp; exact hq
        clear HE' e1 e2 hq
        go_wp2_with (first
          | ((with_reducible refine wpList_store_note rfl (.tmp 2) (.tmp 37) rfl w.heap.size rfl 0 0 (List.replicate 32 0) rfl rfl (ncells 0 0 (List.replicate 32 0)) HR10 rfl ?_); intro w11 o11 H11))
        exact ret_has_tmp Try.results30 _ rfl w.heap.size rfl 67 (ncells 0 0 (List.replicate 32 0)) H11 _ Try.underlying67 rfl (by kernel_rfl) rfl ⟨rfl, o11.below b10 (Nat.le_refl _)⟩
end Go.Proofs.Ytiilgkajijnbcaa
