/-
  Submissions as data in memory; what bytes are read as, as a submission.
-/
import Derived.Test.YtiilgkajijnbcaaApiOpen
import Derived.Test.YtiilgkajijnbcaaNoteEq
import Derived.Test.YtiilgkajijnbcaaRdSpec
import Derived.Deep.MidRow
namespace Go.Proofs.Ytiilgkajijnbcaa
open Go.ChangeShapes Go.WideShapes Go.ChangeAt Go.RowKit
set_option linter.unusedVariables false
set_option linter.unusedSimpArgs false
set_option maxRecDepth 100000

/-- A submission's numbers and bytes. -/
structure SubD where
  u : List UInt8
  x : Nat
  l : List UInt8
  pc : Nat
  ps : Nat
  sc : Nat
  ss : Nat
def scells (u : List UInt8) (x : Nat) (A : Option Addr) (n c : Nat) (pc ps sc ss : Nat) : List Value := u.map bv ++ [nv x, .slice A n c, nv pc, nv ps, nv sc, nv ss]
section
variable {u : List UInt8} {x : Nat} {A : Option Addr} {n c pc ps sc ss : Nat}
theorem scells_len (h : u.length = 32) : (scells u x A n c pc ps sc ss).length = 38 := by simp [scells, h]
theorem scells_at (h : u.length = 32) (j : Nat) (hj : j < 6) : (scells u x A n c pc ps sc ss)[32 + j]? = [nv x, .slice A n c, nv pc, nv ps, nv sc, nv ss][j]? := by
  rw [scells, List.getElem?_append_right (by rw [List.length_map]; omega), List.length_map, h, show 32 + j - 32 = j by omega]
theorem scells_set (h : u.length = 32) (j : Nat) (v : Value) : (scells u x A n c pc ps sc ss).set (32 + j) v = u.map bv ++ ([nv x, .slice A n c, nv pc, nv ps, nv sc, nv ss].set j v) := by
  rw [scells, List.set_append_right _ _ (by rw [List.length_map]; omega), List.length_map, h, show 32 + j - 32 = j by omega]
theorem scells_key (h : u.length = 32) (u' : List UInt8) (h' : u'.length = 32) : splice (scells u x A n c pc ps sc ss) 0 (u'.map bv) = scells u' x A n c pc ps sc ss := by
  rw [splice, List.take_zero, List.nil_append, Nat.zero_add, List.length_map, h', scells, List.drop_append, List.drop_eq_nil_of_le (by rw [List.length_map]; omega), List.length_map, h, Nat.sub_self, List.drop_zero, List.nil_append]
  rfl
theorem one_scells : ∀ v ∈ scells u x A n c pc ps sc ss, v.oneCell' = true := by
  intro v hv
  rcases List.mem_append.1 hv with h | h
  · exact one_bv u v h
  · simp only [List.mem_cons, List.not_mem_nil, or_false] at h
    rcases h with rfl | rfl | rfl | rfl | rfl | rfl <;> rfl
end
theorem size_sub : (Try.prog.info? 43).map (·.size) = some 38 := by kernel_rfl
theorem newSub (w : World) : Has (w.alloc (.cells #[.int .u8 0, .int .u8 0, .int .u8 0, .int .u8 0, .int .u8 0, .int .u8 0, .int .u8 0, .int .u8 0, .int .u8 0, .int .u8 0, .int .u8 0, .int .u8 0, .int .u8 0, .int .u8 0, .int .u8 0, .int .u8 0, .int .u8 0, .int .u8 0, .int .u8 0, .int .u8 0, .int .u8 0, .int .u8 0, .int .u8 0, .int .u8 0, .int .u8 0, .int .u8 0, .int .u8 0, .int .u8 0, .int .u8 0, .int .u8 0, .int .u8 0, .int .u8 0, .int .u64 0, .slice none 0 0, .int .u64 0, .int .u64 0, .int .u64 0, .int .u64 0] 43)) w.heap.size 43 (scells (List.replicate 32 0) 0 none 0 0 0 0 0 0) := Has.new w 43 (scells (List.replicate 32 0) 0 none 0 0 0 0 0 0)
/-- A part of a block is written. -/
theorem wpList_store_part {P : Program} {w : World} {ops : Array Oper} {rest : List Oper} {o : Oper} {a : Act} {Q : Exit → Act → World → Prop} (hgd : o.guard = none) (ty : TypeId) (x y : Operand) (ho : o.op = .store ty x y) (g off : Nat) (hx : a.eval x = .pointer (some ⟨g, off, none⟩)) (vs : List Value) (hy : a.eval y = .agg vs.toArray)
    (t : TypeId) (cur : List Value) (H : Has w g t cur) (hi : (P.info? ty).map (·.size) = some vs.length) (hle : off + vs.length ≤ cur.length) (h1 : ∀ u ∈ vs, u.oneCell' = true)
    (h : ∀ w', Only g w w' → Has w' g t (splice cur off vs) → wpList P ops Q rest (a.put o.dst undef) w') : wpList P ops Q (o :: rest) a w :=
  wpList_store_mid hgd ty x y ho g off vs.toArray hx hy (by simpa using H.there off vs.length hle) (by simpa using hi) (all_oneCell_toArray h1) (h _ (by simpa using Only.setCells g vs off w) (by simpa using Has.setCells vs off w cur H hle))
section
variable {w : World} {ops : Array Oper} {rest : List Oper} {o : Oper} {a : Act} {Q : Exit → Act → World → Prop}
theorem wpList_store_sub (hgd : o.guard = none) (p q : Operand) (ho : o.op = .store 43 p q) (g : Nat) (hx : a.eval p = .pointer (some ⟨g, 0, none⟩)) (u : List UInt8) (x : Nat) (A : Option Addr) (n c pc ps sc ss : Nat) (hu : u.length = 32) (hy : a.eval q = .agg (scells u x A n c pc ps sc ss).toArray)
    (old : List Value) (H : Has w g 43 old) (hold : old.length = 38)
    (h : ∀ w', Only g w w' → Has w' g 43 (scells u x A n c pc ps sc ss) → wpList Try.prog ops Q rest (a.put o.dst undef) w') : wpList Try.prog ops Q (o :: rest) a w :=
  wpList_store_has hgd 43 p q ho g hx _ hy 43 old H (by rw [scells_len hu]; exact size_sub) (by rw [scells_len hu, hold]) one_scells h
theorem wpList_load_sub (hgd : o.guard = none) (p : Operand) (ho : o.op = .load 43 p) (g : Nat) (hx : a.eval p = .pointer (some ⟨g, 0, none⟩)) (u : List UInt8) (x : Nat) (A : Option Addr) (n c pc ps sc ss : Nat) (hu : u.length = 32) (H : Has w g 43 (scells u x A n c pc ps sc ss))
    (h : wpList Try.prog ops Q rest (a.put o.dst (.agg (scells u x A n c pc ps sc ss).toArray)) w) : wpList Try.prog ops Q (o :: rest) a w :=
  wpList_load_has hgd 43 p ho g hx 43 _ H _ Try.underlying43 rfl (by rw [scells_len hu]; exact size_sub) h
end

/-! ### What bytes are read as -/
structure SubR (b : List UInt8) where
  u : List UInt8
  x : Nat
  n : Nat
  l : List UInt8
  pc : Nat
  ps : Nat
  sc : Nat
  ss : Nat
  s1 : St
  s2 : St
  s3 : St
  s4 : St
  s5 : St
  s6 : St
  s7 : St
  s8 : St
  h1 : keyS b ⟨0, 0⟩ = (u, s1)
  h2 : elemS b s1 = (x, s2)
  h3 : mostS b 1048576 s2 = (n, s3)
  h4 : takeS b n s3 = (l, s4)
  h5 : numS b s4 = (pc, s5)
  h6 : numS b s5 = (ps, s6)
  h7 : numS b s6 = (sc, s7)
  h8 : numS b s7 = (ss, s8)
noncomputable def subR (b : List UInt8) : SubR b := ⟨_, _, _, _, _, _, _, _, _, _, _, _, _, _, _, _, rfl, rfl, rfl, rfl, rfl, rfl, rfl, rfl⟩
theorem SubR.same {b : List UInt8} (r q : SubR b) : r.u = q.u ∧ r.x = q.x ∧ r.l = q.l ∧ r.pc = q.pc ∧ r.ps = q.ps ∧ r.sc = q.sc ∧ r.ss = q.ss ∧ r.s8 = q.s8 := by
  obtain ⟨e1, f1⟩ := Prod.mk.inj (r.h1.symm.trans q.h1)
  obtain ⟨e2, f2⟩ := Prod.mk.inj (r.h2.symm.trans (f1 ▸ q.h2))
  obtain ⟨e3, f3⟩ := Prod.mk.inj (r.h3.symm.trans (f2 ▸ q.h3))
  obtain ⟨e4, f4⟩ := Prod.mk.inj (r.h4.symm.trans (f3 ▸ e3 ▸ q.h4))
  obtain ⟨e5, f5⟩ := Prod.mk.inj (r.h5.symm.trans (f4 ▸ q.h5))
  obtain ⟨e6, f6⟩ := Prod.mk.inj (r.h6.symm.trans (f5 ▸ q.h6))
  obtain ⟨e7, f7⟩ := Prod.mk.inj (r.h7.symm.trans (f6 ▸ q.h7))
  obtain ⟨e8, f8⟩ := Prod.mk.inj (r.h8.symm.trans (f7 ▸ q.h8))
  exact ⟨e1, e2, e4, e5, e6, e7, e8, f8⟩
def SubD.ok (d : SubD) : Prop := d.u.length = 32 ∧ d.x < 18446744073709551616 ∧ d.pc < 18446744073709551616 ∧ d.ps < 18446744073709551616 ∧ d.sc < 18446744073709551616 ∧ d.ss < 18446744073709551616
def subZero : SubD := ⟨List.replicate 32 0, 0, [], 0, 0, 0, 0⟩
theorem subZero_ok : subZero.ok := ⟨rfl, by simp [subZero]⟩
/-- What bytes are read as, as a submission, with the error. -/
noncomputable def submissionS (b : List UInt8) : SubD × Nat :=
  if endS b (subR b).s8 = 0 then (⟨(subR b).u, (subR b).x, (subR b).l, (subR b).pc, (subR b).ps, (subR b).sc, (subR b).ss⟩, 0) else (subZero, endS b (subR b).s8)
theorem submissionS_eq {b : List UInt8} (r : SubR b) {k : Nat} (h : endS b r.s8 = k) : submissionS b = if k = 0 then (⟨r.u, r.x, r.l, r.pc, r.ps, r.sc, r.ss⟩, 0) else (subZero, k) := by
  obtain ⟨e1, e2, e3, e4, e5, e6, e7, e8⟩ := SubR.same r (subR b)
  rw [submissionS, ← e1, ← e2, ← e3, ← e4, ← e5, ← e6, ← e7, ← e8, h]
theorem SubR.ok {b : List UInt8} (r : SubR b) : r.s1.ok b ∧ r.s2.ok b ∧ r.s3.ok b ∧ r.s4.ok b ∧ r.s5.ok b ∧ r.s6.ok b ∧ r.s7.ok b ∧ r.s8.ok b ∧ r.u.length = 32 ∧ r.n ≤ 1048576 ∧ r.x < 18446744073709551616 ∧ r.pc < 18446744073709551616 ∧ r.ps < 18446744073709551616 ∧ r.sc < 18446744073709551616 ∧ r.ss < 18446744073709551616 := by
  have o1 : r.s1.ok b := by have := keyS_ok (St.start b); rw [r.h1] at this; exact this
  have o2 : r.s2.ok b := by have := elemS_ok o1; rw [r.h2] at this; exact this
  have o3 : r.s3.ok b := by have := mostS_ok 1048576 o2; rw [r.h3] at this; exact this
  have o4 : r.s4.ok b := by have := takeS_ok r.n o3; rw [r.h4] at this; exact this
  have o5 : r.s5.ok b := by have := numS_ok o4; rw [r.h5] at this; exact this
  have o6 : r.s6.ok b := by have := numS_ok o5; rw [r.h6] at this; exact this
  have o7 : r.s7.ok b := by have := numS_ok o6; rw [r.h7] at this; exact this
  have o8 : r.s8.ok b := by have := numS_ok o7; rw [r.h8] at this; exact this
  refine ⟨o1, o2, o3, o4, o5, o6, o7, o8, ?_, ?_, ?_, ?_, ?_, ?_, ?_⟩
  · have := keyS_len b ⟨0, 0⟩; rw [r.h1] at this; exact this
  · have := mostS_le b 1048576 r.s2; rw [r.h3] at this; exact this
  · have := elemS_lt b r.s1; rw [r.h2] at this; exact this
  · have := numS_lt b r.s4; rw [r.h5] at this; exact this
  · have := numS_lt b r.s5; rw [r.h6] at this; exact this
  · have := numS_lt b r.s6; rw [r.h7] at this; exact this
  · have := numS_lt b r.s7; rw [r.h8] at this; exact this
end Go.Proofs.Ytiilgkajijnbcaa
