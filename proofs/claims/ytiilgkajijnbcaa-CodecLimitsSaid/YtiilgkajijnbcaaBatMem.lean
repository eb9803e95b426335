/-
  What ReadBatch's walk stands on: its blocks, rows by their type, letters built and appended, a batch stored and loaded.
-/
import Derived.Test.YtiilgkajijnbcaaRdBat
import Derived.Great.BuildSlice
namespace Go.Proofs.Ytiilgkajijnbcaa
open Go.ChangeShapes Go.WideShapes Go.ChangeAt Go.RowKit
set_option linter.unusedVariables false
set_option linter.unusedSimpArgs false

theorem BatR.ok {b : List UInt8} (r : BatR b) : r.s1.ok b ∧ r.s2.ok b ∧ r.s3.ok b ∧ r.s4.ok b ∧ r.s5.ok b ∧ r.s6.ok b ∧ r.r ≤ 9223372036854775807 ∧ r.ch ≤ 9223372036854775807 ∧ r.n ≤ 20 ∧ r.m ≤ 1000 ∧ r.z ≤ 1048576 := by
  have o1 : r.s1.ok b := by have := mostS_ok 9223372036854775807 (St.start b); rw [r.h1] at this; exact this
  have o2 : r.s2.ok b := by have := mostS_ok 9223372036854775807 o1; rw [r.h2] at this; exact this
  have o3 : r.s3.ok b := by have := mostS_ok 20 o2; rw [r.h3] at this; exact this
  have o4 : r.s4.ok b := by have := numsS_ok r.n r.s3 o3; rw [r.h4] at this; exact this
  have o5 : r.s5.ok b := by have := mostS_ok 1000 o4; rw [r.h5] at this; exact this
  have o6 : r.s6.ok b := by have := sizeS_ok r.m o5; rw [r.h6] at this; exact this
  refine ⟨o1, o2, o3, o4, o5, o6, ?_, ?_, ?_, ?_, ?_⟩
  · have := mostS_le b 9223372036854775807 ⟨0, 0⟩; rw [r.h1] at this; exact this
  · have := mostS_le b 9223372036854775807 r.s1; rw [r.h2] at this; exact this
  · have := mostS_le b 20 r.s2; rw [r.h3] at this; exact this
  · have := mostS_le b 1000 r.s4; rw [r.h5] at this; exact this
  · have := sizeS_le b r.m r.s5; rw [r.h6] at this; exact this
def BatD.ok (d : BatD) : Prop := (0 ≤ d.r ∧ d.r ≤ 9223372036854775807) ∧ (0 ≤ d.ch ∧ d.ch ≤ 9223372036854775807)
theorem batZero_ok : batZero.ok := ⟨⟨Int.le_refl _, by decide⟩, ⟨Int.le_refl _, by decide⟩⟩

/-! ### Rows by the type of their block -/
def RowT (t : TypeId) (w : World) (A : Option Addr) (n c : Nat) (vs : List Value) : Prop := Row w A n c vs ∧ ∀ x, A = some x → ∃ cur fr, w.heap[x.block]? = some (.cells cur t fr)
section
variable {t : TypeId} {w w' : World} {A : Option Addr} {n c : Nat} {vs : List Value}
theorem RowT.lt (h : RowT t w A n c vs) {x : Addr} (hx : A = some x) : x.block < w.heap.size := by
  obtain ⟨_, _, h1⟩ := h.2 x hx
  exact (Array.getElem?_eq_some_iff.1 h1).1
theorem RowT.of_same (h : RowT t w A n c vs) (hs : w.heap.size ≤ w'.heap.size) (hk : ∀ x, A = some x → w'.heap[x.block]? = w.heap[x.block]?) : RowT t w' A n c vs := by
  refine ⟨?_, fun x hx => by rw [hk x hx]; exact h.2 x hx⟩
  obtain ⟨h1, h2, h3, h0, h4⟩ := h.1
  refine ⟨h1, h2, h3, h0, fun hn => ?_⟩
  obtain ⟨b, off, e, hlt, hc⟩ := h4 hn
  refine ⟨b, off, e, Nat.lt_of_lt_of_le hlt hs, fun j hj => ?_⟩
  rw [← hc j hj]
  simp only [World.cell?, hk _ e]
theorem RowT.keep (h : RowT t w A n c vs) (hb : Below w.heap.size w w') : RowT t w' A n c vs := h.of_same hb.size fun x hx => hb.block x.block (h.lt hx)
theorem RowT.grown {base k m : Nat} {e : TypeId} {v : Value} {xs : List Value} (h : RowT t w A n c vs) (ho : w.ownsRow base e k v m xs) (he : e ≠ t) (hg : w.grownBy w' v.ownBlock) : RowT t w' A n c vs := by
  refine h.of_same hg.size fun x hx => hg.block _ (h.lt hx) fun eq => ?_
  obtain ⟨cur, fr, h1⟩ := h.2 x hx
  rcases ho.2 with ⟨rfl, _⟩ | ⟨g, cap, cur', rfl, _, hgg, _⟩
  · simp [Value.ownBlock] at eq
  · simp [Value.ownBlock] at eq
    rw [eq, hgg] at h1
    cases h1
    exact he rfl
theorem RowT.save {g : Nat} {t' : TypeId} {cs : List Value} (h : RowT t w A n c vs) (H : Has w g t' cs) (ht : t' ≠ t) (ho : Save g w w') : RowT t w' A n c vs := by
  refine h.of_same ho.size fun x hx => ho.block _ (h.lt hx) fun eq => ?_
  obtain ⟨cur, fr, h1⟩ := h.2 x hx
  rw [eq, show w.heap[g]? = _ from H] at h1
  cases h1
  exact ht rfl
theorem RowT.own {base : Nat} (h : w.ownsRow base t 1 (.slice A n c) n vs) : RowT t w A n c vs := by
  obtain ⟨A', c', e, hr⟩ := Row.own h
  cases e
  refine ⟨hr, fun x hx => ?_⟩
  subst hx
  rcases h.2 with ⟨h2, _⟩ | ⟨g, cap, cur, h2, _, hg, _⟩
  · cases h2
  · cases h2
    exact ⟨_, _, hg⟩
end
theorem own_below {w w' : World} {base k n : Nat} {e : TypeId} {v : Value} {xs : List Value} (h : w.ownsRow base e k v n xs) (hb : Below w.heap.size w w') : w'.ownsRow base e k v n xs :=
  h.kept (row := none) ⟨hb.os, hb.tape, hb.output, hb.size, fun k hk _ => hb.block k hk⟩ (by
    cases hv : v.ownBlock with
    | none => exact .inl rfl
    | some g => exact .inr (by simp))

theorem own_rowW {w w' : World} {base k n g c : Nat} {e : TypeId} {A : Option Addr} {xs : List Value} (h : w.ownsRow base e k (.slice A n c) n xs) (ho : Only g w w') (hg : g < base) : RowW w' A n c k xs := by
  obtain ⟨A', c', e', hr⟩ := RowW.own (own_save h ho.saved hg)
  cases e'
  exact hr

/-! ### The blocks of ReadBatch's walk: the result, the reader, the batch -/
structure Sit (w0 w : World) (A : Option Addr) (n c : Nat) (s : St) (cs : List Value) : Prop where
  rd : Rdr w (w0.heap.size + 1) A n c s
  res : Has w w0.heap.size 53 (bcells 0 0 none 0 0 none 0 0)
  bat : Has w (w0.heap.size + 2) 53 cs
  below : Below w0.heap.size w0 w
  size : w0.heap.size + 3 ≤ w.heap.size
section
variable {w0 w w' : World} {A : Option Addr} {n c : Nat} {s s' : St} {cs : List Value}
theorem Sit.start (w0 : World) (A : Option Addr) (n c : Nat) : Sit w0 (((w0.alloc (.cells #[.int .i64 0, .int .i64 0, .slice none 0 0, .slice none 0 0] 53)).alloc (.cells #[.slice A n c, .int .i64 0, .int .i64 0] 104)).alloc (.cells #[.int .i64 0, .int .i64 0, .slice none 0 0, .slice none 0 0] 53)) A n c ⟨0, 0⟩ (bcells 0 0 none 0 0 none 0 0) := by
  have hb1 := (Below.refl w0.heap.size w0).alloc (Nat.le_refl _) (.cells #[.int .i64 0, .int .i64 0, .slice none 0 0, .slice none 0 0] 53)
  have hb2 := hb1.alloc hb1.size (.cells #[.slice A n c, .int .i64 0, .int .i64 0] 104)
  have b3 := hb2.alloc hb2.size (.cells #[.int .i64 0, .int .i64 0, .slice none 0 0, .slice none 0 0] 53)
  have H3 := ((newRdr (w0.alloc (.cells #[.int .i64 0, .int .i64 0, .slice none 0 0, .slice none 0 0] 53)) A n c).alloc (.cells #[.int .i64 0, .int .i64 0, .slice none 0 0, .slice none 0 0] 53))
  have HN3 := newBatch ((w0.alloc (.cells #[.int .i64 0, .int .i64 0, .slice none 0 0, .slice none 0 0] 53)).alloc (.cells #[.slice A n c, .int .i64 0, .int .i64 0] 104))
  rw [show (w0.alloc (.cells #[.int .i64 0, .int .i64 0, .slice none 0 0, .slice none 0 0] 53)).heap.size = w0.heap.size + 1 by simp] at H3
  rw [show ((w0.alloc (.cells #[.int .i64 0, .int .i64 0, .slice none 0 0, .slice none 0 0] 53)).alloc (.cells #[.slice A n c, .int .i64 0, .int .i64 0] 104)).heap.size = w0.heap.size + 2 by simp] at HN3
  exact ⟨H3, ((newBatch w0).alloc _).alloc _, HN3, b3, by simp⟩
theorem Sit.call (h : Sit w0 w A n c s cs) (H : Rdr w' (w0.heap.size + 1) A n c s') (S : Save (w0.heap.size + 1) w w') : Sit w0 w' A n c s' cs :=
  ⟨H, h.res.save S (by omega), h.bat.save S (by omega), S.below h.below (by omega) (by have := h.size; omega), Nat.le_trans h.size S.size⟩
theorem Sit.done (h : Sit w0 w A n c s cs) (S : Save (w0.heap.size + 1) w w') : Has w' w0.heap.size 53 (bcells 0 0 none 0 0 none 0 0) ∧ Has w' (w0.heap.size + 2) 53 cs ∧ Below w0.heap.size w0 w' :=
  ⟨h.res.save S (by omega), h.bat.save S (by omega), S.below h.below (by omega) (by have := h.size; omega)⟩
theorem Sit.set (h : Sit w0 w A n c s cs) (i : Nat) (v : Value) : Sit w0 (w.setCell ⟨w0.heap.size + 2, i, none⟩ v) A n c s (cs.set i v) :=
  ⟨h.rd.only (Only.setCell _ _ _ _) (by omega), h.res.only (Only.setCell _ _ _ _) (by omega), h.bat.set i v, (Only.setCell _ _ _ _).below h.below (by omega), Nat.le_trans h.size (Nat.le_of_eq (Only.setCell _ _ _ _).size.symm)⟩
theorem Sit.drew (h : Sit w0 w A n c s cs) : Sit w0 w.drew A n c s cs := ⟨h.rd, h.res, h.bat, h.below.drew, h.size⟩
theorem Sit.on (h : Sit w0 w A n c s cs) (hb : Below w.heap.size w w') : Sit w0 w' A n c s cs :=
  ⟨h.rd.keep hb h.rd.lt, h.res.keep hb h.res.lt, h.bat.keep hb h.bat.lt, h.below.trans (hb.mono h.below.size), Nat.le_trans h.size hb.size⟩
theorem Sit.alloc (h : Sit w0 w A n c s cs) (o : Obj) : Sit w0 (w.alloc o) A n c s cs := h.on ((Below.refl _ _).alloc (Nat.le_refl _) o)
theorem Sit.grown {row : Option Nat} (h : Sit w0 w A n c s cs) (hg : w.grownBy w' row) (hr : ∀ k, row = some k → w0.heap.size + 3 ≤ k) : Sit w0 w' A n c s cs := by
  have ne : ∀ k, k < w0.heap.size + 3 → some k ≠ row := fun k hk e => by have := hr k e.symm; omega
  exact ⟨Has.grown h.rd hg (ne _ (by omega)), h.res.grown hg (ne _ (by omega)), h.bat.grown hg (ne _ (by omega)), h.below.grown hg (by have := h.size; omega) (fun k hk => by have := hr k hk; omega), Nat.le_trans h.size hg.size⟩
end

/-! ### Steps of the regions that draw -/
theorem bat64 : (Try.prog.info? 37).map (fun i => (i.zero, i.size, i.bytes)) = some (some (.int .u64 0), 1, 8) := by kernel_rfl
theorem map_flat (l : List Nat) : l.flatMap (fun x => [nv x]) = l.map nv := by
  induction l with
  | nil => rfl
  | cons x l ih => rw [List.flatMap_cons, ih]; rfl
theorem step_num {w : World} {ops : Array Oper} {o : Oper} {a : Act} {K : Act → World → Prop} {Q : Exit → Act → World → Prop} {E : Prop} (hgd : o.guard = none) (s x : Operand)
    (ho : o.op = .call { callee := .builtin .append, args := #[s, x], argTypes := #[50, 50] })
    (base : Nat) (v : Value) (n : Nat) (l : List Nat) (hs : a.eval s = v) (hown : w.ownsRow base 37 1 v n (l.map nv)) (g y : Nat) (hx : a.eval x = .slice (some ⟨g, 0, none⟩) 1 1) (hr : RowW w (some ⟨g, 0, none⟩) 1 1 1 [nv y]) (hn : n ≤ 1048576) (hbase : base ≤ w.heap.size)
    (h : ∀ v' w', w'.ownsRow base 37 1 v' (n + 1) ((l ++ [y]).map nv) → w.grownBy w' v.ownBlock → K (a.put o.dst v') w') :
    if Region.wanted o (yielded ops a.tmps) = true then Oper.wp Try.prog o a w K Q else E := by
  obtain ⟨i0, hi, hz0, hz1, hz2⟩ := info_parts bat64
  exact step_appRowW hgd s x 50 ho base 37 i0 (.int .u64 0) 1 8 Try.underlying50 hi hz0 hz1 hz2 rfl (by decide) v n (l.map nv) hs hown ⟨g, 0, none⟩ 1 1 [nv y] hx hr (one_nv [y]) (by decide) (by omega) hbase fun v' w' h2 h3 => h v' w' (by rw [List.map_append]; exact h2) h3
def lcells (u : List UInt8) (A : Option Addr) (n c : Nat) : List Value := u.map bv ++ [.slice A n c]
theorem bat33 : (Try.prog.info? 96).map (fun i => (i.zero, i.size, i.bytes)) = some (some (.agg (lcells (List.replicate 32 0) none 0 0).toArray), 33, 56) := by kernel_rfl
theorem one_let (ls : List Let) : ∀ u ∈ ls.flatMap Let.cells, u.oneCell' = true := by
  intro u hu
  obtain ⟨e, _, he⟩ := List.mem_flatMap.1 hu
  rcases List.mem_append.1 he with h | h
  · exact one_bv _ u h
  · obtain rfl := List.mem_singleton.1 h
    rfl
theorem step_let {w : World} {ops : Array Oper} {o : Oper} {a : Act} {K : Act → World → Prop} {Q : Exit → Act → World → Prop} {E : Prop} (hgd : o.guard = none) (s x : Operand)
    (ho : o.op = .call { callee := .builtin .append, args := #[s, x], argTypes := #[51, 51] })
    (base : Nat) (v : Value) (n : Nat) (l : List Let) (hs : a.eval s = v) (hown : w.ownsRow base 96 33 v n (l.flatMap Let.cells)) (g : Nat) (y : Let) (hx : a.eval x = .slice (some ⟨g, 0, none⟩) 1 1) (hr : RowW w (some ⟨g, 0, none⟩) 1 1 33 y.cells) (hn : n ≤ 1048576) (hbase : base ≤ w.heap.size)
    (h : ∀ v' w', w'.ownsRow base 96 33 v' (n + 1) ((l ++ [y]).flatMap Let.cells) → w.grownBy w' v.ownBlock → K (a.put o.dst v') w') :
    if Region.wanted o (yielded ops a.tmps) = true then Oper.wp Try.prog o a w K Q else E := by
  obtain ⟨i0, hi, hz0, hz1, hz2⟩ := info_parts bat33
  exact step_appRowW hgd s x 51 ho base 96 i0 _ 33 56 Try.underlying51 hi hz0 hz1 hz2 rfl (by decide) v n (l.flatMap Let.cells) hs hown ⟨g, 0, none⟩ 1 1 y.cells hx hr (by
    intro u hu
    exact one_let [y] u (by simpa using hu)) (by decide) (by omega) hbase fun v' w' h2 h3 => h v' w' (by rw [List.flatMap_append]; simpa using h2) h3
theorem built_let : ∀ (u : List UInt8) (A : Option Addr) (n c : Nat), u.length = 32 → Try.prog.built 96 [(0, .agg (u.map bv).toArray), (1, .slice A n c)] = some (lcells u A n c).toArray
  | [_, _, _, _, _, _, _, _, _, _, _, _, _, _, _, _, _, _, _, _, _, _, _, _, _, _, _, _, _, _, _, _], A, n, c, _ => by kernel_rfl
theorem yields_let {ops : Array Oper} {S : World → Prop} {o : Oper} {a : Act} (hgd : o.guard = none) (x y : Operand) (ho : o.op = .build 96 #[(0, x), (1, y)])
    (u : List UInt8) (A : Option Addr) (n c : Nat) (hu : u.length = 32) (hx : a.eval x = .agg (u.map bv).toArray) (hy : a.eval y = .slice A n c) : YieldsIf Try.prog ops S o (.agg (lcells u A n c).toArray) a :=
  .inl ⟨by simp [Region.wanted, hgd], fun w _ => by
    have e : (#[(0, x), (1, y)].map fun (i, x) => (i, a.eval x)) = #[(0, .agg (u.map bv).toArray), (1, .slice A n c)] := by simp [hx, hy]
    have h := run_build w 96 #[(0, .agg (u.map bv).toArray), (1, .slice A n c)] _ (built_let u A n c hu)
    unfold execOp
    simp only [ho, e, Sem.run_bind, h, Result.andThen_ok, Sem.run_pure]⟩
/-- A literal of one letter, as a step. -/
theorem fill_let : ∀ (u : List UInt8) (A : Option Addr) (n c : Nat), u.length = 32 → Instr.fill (fun i => some (i * 33, 33)) ((Array.range (1 * 33)).map ((Value.agg (lcells (List.replicate 32 0) none 0 0).toArray).cells[· % (Value.agg (lcells (List.replicate 32 0) none 0 0).toArray).cells.size]!)) [(0, .agg (lcells u A n c).toArray)] = some (lcells u A n c).toArray
  | [_, _, _, _, _, _, _, _, _, _, _, _, _, _, _, _, _, _, _, _, _, _, _, _, _, _, _, _, _, _, _, _], A, n, c, _ => by kernel_rfl
theorem step_lit {w : World} {ops : Array Oper} {o : Oper} {a : Act} {K : Act → World → Prop} {Q : Exit → Act → World → Prop} {E : Prop} (hgd : o.guard = none) (x : Operand) (ho : o.op = .buildSlice 51 1 #[(0, x)])
    (u : List UInt8) (A : Option Addr) (n c : Nat) (hu : u.length = 32) (hx : a.eval x = .agg (lcells u A n c).toArray)
    (h : K (a.put o.dst (.slice (some ⟨w.heap.size, 0, none⟩) 1 1)) (w.alloc (.cells (lcells u A n c).toArray 96))) :
    if Region.wanted o (yielded ops a.tmps) = true then Oper.wp Try.prog o a w K Q else E := by
  have hw : Region.wanted o (yielded ops a.tmps) = true := by simp [Region.wanted, hgd]
  rw [if_pos hw]
  obtain ⟨i0, hi, hz0, hz1, hz2⟩ := info_parts bat33
  refine wp_buildSlice 51 96 1 _ ho (lcells u A n c).toArray i0 _ Try.underlying51 hi hz0 (by rw [hz1]; decide) (by rw [hz1]; decide) ?_ h
  rw [hz1]
  have e : (#[(0, x)].map fun (i, x) => (i, a.eval x)).toList = [(0, .agg (lcells u A n c).toArray)] := by simp [hx]
  rw [e]
  exact fill_let u A n c hu

/-! ### A batch as a value -/
theorem size_batch : (Try.prog.info? 53).map (·.size) = some 4 := by kernel_rfl
theorem one_bcells (r ch : Int) (Ai : Option Addr) (ni ci : Nat) (Al : Option Addr) (nl cl : Nat) : ∀ v ∈ bcells r ch Ai ni ci Al nl cl, v.oneCell' = true := by
  intro v hv
  simp only [bcells, List.mem_cons, List.not_mem_nil, or_false] at hv
  rcases hv with rfl | rfl | rfl | rfl <;> rfl
section
variable {w : World} {ops : Array Oper} {rest : List Oper} {o : Oper} {a : Act} {Q : Exit → Act → World → Prop}
theorem wpList_store_bat (hgd : o.guard = none) (p q : Operand) (ho : o.op = .store 53 p q) (g : Nat) (hx : a.eval p = .pointer (some ⟨g, 0, none⟩)) (r ch : Int) (Ai : Option Addr) (ni ci : Nat) (Al : Option Addr) (nl cl : Nat) (hy : a.eval q = .agg (bcells r ch Ai ni ci Al nl cl).toArray)
    (old : List Value) (H : Has w g 53 old) (hold : old.length = 4)
    (h : ∀ w', Only g w w' → Has w' g 53 (bcells r ch Ai ni ci Al nl cl) → wpList Try.prog ops Q rest (a.put o.dst undef) w') : wpList Try.prog ops Q (o :: rest) a w :=
  wpList_store_has hgd 53 p q ho g hx _ hy 53 old H size_batch hold (one_bcells _ _ _ _ _ _ _ _) h
theorem wpList_load_bat (hgd : o.guard = none) (p : Operand) (ho : o.op = .load 53 p) (g : Nat) (hx : a.eval p = .pointer (some ⟨g, 0, none⟩)) (r ch : Int) (Ai : Option Addr) (ni ci : Nat) (Al : Option Addr) (nl cl : Nat) (H : Has w g 53 (bcells r ch Ai ni ci Al nl cl))
    (h : wpList Try.prog ops Q rest (a.put o.dst (.agg (bcells r ch Ai ni ci Al nl cl).toArray)) w) : wpList Try.prog ops Q (o :: rest) a w :=
  wpList_load_has hgd 53 p ho g hx 53 _ H _ Try.underlying53 rfl size_batch h
end
end Go.Proofs.Ytiilgkajijnbcaa
