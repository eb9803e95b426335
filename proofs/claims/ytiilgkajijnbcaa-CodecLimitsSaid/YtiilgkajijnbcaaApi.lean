/-
  Entries as data in memory; bytes that lie in blocks of bytes.
-/
import Derived.Test.YtiilgkajijnbcaaOpen
import Derived.Test.YtiilgkajijnbcaaLow
namespace Go.Proofs.Ytiilgkajijnbcaa
open Go.ChangeShapes Go.WideShapes Go.ChangeAt Go.RowKit
set_option linter.unusedVariables false
set_option linter.unusedSimpArgs false

/-! ### Bytes that lie in a block of bytes -/
def PBy (w : World) (A : Option Addr) (n c : Nat) (l : List UInt8) : Prop := Bytes w A n c l ∧ ∀ x, A = some x → ∃ cur fr, w.heap[x.block]? = some (.cells cur 5 fr)
section
variable {w w' : World} {A : Option Addr} {n c : Nat} {l : List UInt8}
theorem PBy.lt (h : PBy w A n c l) {x : Addr} (hx : A = some x) : x.block < w.heap.size := by
  obtain ⟨_, _, h1⟩ := h.2 x hx
  exact (Array.getElem?_eq_some_iff.1 h1).1
theorem PBy.of_same (h : PBy w A n c l) (hs : w.heap.size ≤ w'.heap.size) (hk : ∀ x, A = some x → w'.heap[x.block]? = w.heap[x.block]?) : PBy w' A n c l := by
  refine ⟨?_, fun x hx => by rw [hk x hx]; exact h.2 x hx⟩
  obtain ⟨h1, h2, h3, h0, h4⟩ := h.1
  refine ⟨h1, h2, h3, h0, fun hn => ?_⟩
  obtain ⟨b, off, e, hlt, hc⟩ := h4 hn
  refine ⟨b, off, e, Nat.lt_of_lt_of_le hlt hs, fun j hj => ?_⟩
  rw [← hc j hj]
  simp only [World.cell?, hk _ e]
theorem PBy.keep (h : PBy w A n c l) (hb : Below w.heap.size w w') : PBy w' A n c l := h.of_same hb.size fun x hx => hb.block x.block (h.lt hx)
/-- A row of another type grows. -/
theorem PBy.grown {base k m : Nat} {e : TypeId} {v : Value} {xs : List Value} (h : PBy w A n c l) (ho : w.ownsRow base e k v m xs) (he : e ≠ 5) (hg : w.grownBy w' v.ownBlock) : PBy w' A n c l := by
  refine h.of_same hg.size fun x hx => hg.block _ (h.lt hx) fun eq => ?_
  obtain ⟨cur, fr, h1⟩ := h.2 x hx
  rcases ho.2 with ⟨rfl, _⟩ | ⟨g, cap, cur', rfl, _, hgg, _⟩
  · simp [Value.ownBlock] at eq
  · simp [Value.ownBlock] at eq
    rw [eq, hgg] at h1
    cases h1
    exact he rfl
/-- A block of another type is written. -/
theorem PBy.save {g : Nat} {t : TypeId} {cs : List Value} (h : PBy w A n c l) (H : Has w g t cs) (ht : t ≠ 5) (ho : Save g w w') : PBy w' A n c l := by
  refine h.of_same ho.size fun x hx => ho.block _ (h.lt hx) fun eq => ?_
  obtain ⟨cur, fr, h1⟩ := h.2 x hx
  rw [eq, show w.heap[g]? = _ from H] at h1
  cases h1
  exact ht rfl
theorem PBy.own {base : Nat} {v : Value} (h : w.ownsRow base 5 1 v n (l.map bv)) : ∃ A c, v = .slice A n c ∧ PBy w A n c l := by
  obtain ⟨A, c, rfl, hr⟩ := Row.own h
  refine ⟨A, c, rfl, hr, fun x hx => ?_⟩
  obtain rfl : A = some x := hx
  rcases h.2 with ⟨h2, _⟩ | ⟨g, cap, cur, h2, _, hg, _⟩
  · cases h2
  · cases h2
    exact ⟨_, _, hg⟩
end
theorem own_save {w w' : World} {base k g n : Nat} {e : TypeId} {v : Value} {xs : List Value} (h : w.ownsRow base e k v n xs) (ho : Save g w w') (hg : g < base) : w'.ownsRow base e k v n xs := by
  refine h.kept (row := some g) ⟨ho.os, ho.tape, ho.output, ho.size, fun k hk hne => ho.block k hk (fun e => hne (by rw [e]))⟩ (.inr fun e => ?_)
  have := (h.lt g e).1
  omega

/-! ### Entries -/
structure Ent where
  x : Nat
  A : Option Addr
  n : Nat
  c : Nat
  l : List UInt8
instance : Inhabited Ent := ⟨⟨0, none, 0, 0, []⟩⟩
def Ent.cells (e : Ent) : List Value := [nv e.x, .slice e.A e.n e.c]
theorem Ent.cells_len (e : Ent) : e.cells.length = 2 := rfl
def Ent.data (e : Ent) : Nat × List UInt8 := (e.x, e.l)
def Ent.ok (w : World) (e : Ent) : Prop := Bytes w e.A e.n e.c e.l ∧ e.x < 18446744073709551616
def Entries (w : World) (A : Option Addr) (n c : Nat) (es : List Ent) : Prop := RowW w A n c 2 (es.flatMap Ent.cells) ∧ es.length = n ∧ ∀ e ∈ es, e.ok w
theorem Entries.keep {w w' : World} {A : Option Addr} {n c : Nat} {es : List Ent} (h : Entries w A n c es) (hb : Below w.heap.size w w') : Entries w' A n c es :=
  ⟨h.1.keep hb, h.2.1, fun e he => ⟨(h.2.2 e he).1.keep hb, (h.2.2 e he).2⟩⟩
/-- The two cells of entry j. -/
theorem Entries.at_ {w : World} {A : Option Addr} {n c : Nat} {es : List Ent} (h : Entries w A n c es) (hn : 0 < n) :
    ∃ b off, A = some ⟨b, off, none⟩ ∧ b < w.heap.size ∧ ∀ j, j < n → w.cell? ⟨b, off + j * 2, none⟩ = some (.int .u64 ((es.getD j default).x : Int)) ∧ w.cell? ⟨b, off + j * 2 + 1, none⟩ = some (.slice (es.getD j default).A (es.getD j default).n (es.getD j default).c) := by
  obtain ⟨b, off, e, hb, hc⟩ := h.1.at_ (fun e _ => e.cells_len) h.2.1 hn
  refine ⟨b, off, e, hb, fun j hj => ?_⟩
  have hj' : j < es.length := by rw [h.2.1]; exact hj
  have e1 : es.getD j default = es[j] := by simp [hj']
  rw [e1]
  exact ⟨hc j hj' 0 (by omega), hc j hj' 1 (by omega)⟩
theorem Entries.le {w : World} {A : Option Addr} {n c : Nat} {es : List Ent} (h : Entries w A n c es) : n ≤ 9223372036854775807 := h.1.le
theorem one_ent (es : List Ent) : ∀ u ∈ es.flatMap Ent.cells, u.oneCell' = true := by
  intro u hu
  obtain ⟨e, _, he⟩ := List.mem_flatMap.1 hu
  simp only [Ent.cells, List.mem_cons, List.not_mem_nil, or_false] at he
  rcases he with rfl | rfl <;> rfl
theorem Try.infoE : (Try.prog.info? 39).map (fun i => (i.zero, i.size, i.bytes)) = some (some (.agg #[.int .u64 0, .slice none 0 0]), 2, 32) := by kernel_rfl
/-- 'append(l, e)' of entries. -/
theorem appEnt {w : World} {ops : Array Oper} {rest : List Oper} {o : Oper} {a : Act} {Q : Exit → Act → World → Prop} (hgd : o.guard = none) (s x : Operand)
    (ho : o.op = .call { callee := .builtin .append, args := #[s, x], argTypes := #[22, 22] })
    (base : Nat) (v : Value) (n : Nat) (es : List Ent) (hs : a.eval s = v) (hown : w.ownsRow base 39 2 v n (es.flatMap Ent.cells))
    (A : Option Addr) (e : Ent) (hx : a.eval x = .slice A 1 1) (hr : RowW w A 1 1 2 e.cells) (hbytes : n ≤ 1048576) (hbase : base ≤ w.heap.size)
    (h : ∀ v' w', w'.ownsRow base 39 2 v' (n + 1) ((es ++ [e]).flatMap Ent.cells) → w.grownBy w' v.ownBlock → wpList Try.prog ops Q rest (a.put o.dst v') w') : wpList Try.prog ops Q (o :: rest) a w := by
  obtain ⟨i0, hi, hz0, hz1, hz2⟩ := info_parts Try.infoE
  exact wpList_appendRowW hgd s x 22 ho base 39 i0 _ 2 32 Try.underlying22 hi hz0 hz1 hz2 rfl (by decide) v n (es.flatMap Ent.cells) hs hown A 1 1 e.cells hx hr (by
    intro u hu
    exact one_ent [e] u (by simpa using hu)) (by decide) (by omega) hbase fun v' w' h2 h3 => h v' w' (by rw [List.flatMap_append]; simpa using h2) h3
end Go.Proofs.Ytiilgkajijnbcaa
