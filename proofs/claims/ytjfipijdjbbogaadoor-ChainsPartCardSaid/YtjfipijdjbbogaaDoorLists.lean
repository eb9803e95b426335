/-
  Rows of rows of ints: the inner ones lie in blocks of ints.
-/
import Derived.Test.YtjfipijdjbbogaaDoorInts
namespace Go.Proofs.YtjfipijdjbbogaaDoor
open Go.ChangeShapes Go.WideShapes Go.ChangeAt Go.RowKit
set_option linter.unusedVariables false
set_option linter.unusedSimpArgs false

/-- A slice of ints. -/
structure Li where
  A : Option Addr
  n : Nat
  c : Nat
  l : List Int
instance : Inhabited Li := ⟨⟨none, 0, 0, []⟩⟩
def Li.val (p : Li) : Value := .slice p.A p.n p.c
theorem one_li (l : List Li) : ∀ u ∈ l.map Li.val, u.oneCell' = true := by
  intro u hu
  obtain ⟨c, _, rfl⟩ := List.mem_map.1 hu
  rfl
/-- It reads so in w, and lies in a block of ints. -/
def LI (w : World) (p : Li) : Prop := Ints w p.A p.n p.c p.l ∧ ∀ x, p.A = some x → ∃ cur fr, w.heap[x.block]? = some (.cells cur 3 fr)
section
variable {w w' : World} {p : Li}
theorem LI.lt (h : LI w p) {x : Addr} (hx : p.A = some x) : x.block < w.heap.size := by
  obtain ⟨_, _, h1⟩ := h.2 x hx
  exact (Array.getElem?_eq_some_iff.1 h1).1
theorem LI.keep (h : LI w p) (hb : Below w.heap.size w w') : LI w' p :=
  ⟨h.1.keep hb, fun x hx => by rw [hb.block x.block (h.lt hx)]; exact h.2 x hx⟩
/-- A row of slices may be written: the ints stay. -/
theorem LI.only {g : Nat} {t : TypeId} {cs : List Value} (h : LI w p) (H : Has w g t cs) (ht : t ≠ 3) (ho : Only g w w') : LI w' p := by
  have hne : ∀ x, p.A = some x → x.block ≠ g := fun x hx e => by
    obtain ⟨cur, fr, h1⟩ := h.2 x hx
    rw [e] at h1
    unfold Has at H
    rw [H] at h1
    cases h1
    exact ht rfl
  exact ⟨Row.only h.1 ho (fun _ x hx => hne x hx), fun x hx => by rw [ho.block x.block (hne x hx)]; exact h.2 x hx⟩
theorem LI.grown {base n k : Nat} {t : TypeId} {v : Value} {xs : List Value} (h : LI w p) (ho : w.ownsRow base t k v n xs) (ht : t ≠ 3) (hg : w.grownBy w' v.ownBlock) : LI w' p := by
  have hk : ∀ x, p.A = some x → w'.heap[x.block]? = w.heap[x.block]? := fun x hx => by
    refine hg.block _ (h.lt hx) fun e => ?_
    obtain ⟨cur, fr, h1⟩ := h.2 x hx
    rcases ho.2 with ⟨rfl, _⟩ | ⟨g, cap, cur', rfl, _, hgg, _⟩
    · simp [Value.ownBlock] at e
    · simp [Value.ownBlock] at e
      rw [e, hgg] at h1
      cases h1
      exact ht rfl
  refine ⟨?_, fun x hx => by rw [hk x hx]; exact h.2 x hx⟩
  obtain ⟨h1, h2, h3, h0, h4⟩ := h.1
  refine ⟨h1, h2, h3, h0, fun hn => ?_⟩
  obtain ⟨b, off, e, hlt, hc⟩ := h4 hn
  refine ⟨b, off, e, Nat.lt_of_lt_of_le hlt hg.size, fun j hj => ?_⟩
  rw [← hc j hj]
  simp only [World.cell?, hk _ e]
end
/-- What a call has made for itself. -/
theorem LI.own {w : World} {base n : Nat} {v : Value} {l : List Int} (h : w.ownsRow base 3 1 v n (l.map iv)) : ∃ A c, v = .slice A n c ∧ LI w ⟨A, n, c, l⟩ := by
  obtain ⟨A, c, rfl, hr⟩ := Row.own h
  refine ⟨A, c, rfl, hr, fun x hx => ?_⟩
  rcases h.2 with ⟨h2, _⟩ | ⟨g, cap, cur, h2, _, hg, _⟩
  · cases h2
    cases hx
  · cases h2
    cases hx
    exact ⟨cur, _, hg⟩
/-- A row of such slices. -/
def Lists (w : World) (A : Option Addr) (n c : Nat) (ps : List Li) : Prop := Row w A n c (ps.map Li.val) ∧ ∀ p ∈ ps, LI w p
section
variable {w w' : World} {A : Option Addr} {n c : Nat} {ps : List Li}
theorem Lists.len (h : Lists w A n c ps) : ps.length = n := by simpa using h.1.1
theorem Lists.le (h : Lists w A n c ps) : n ≤ 9223372036854775807 := by
  have h1 := h.1.2.1
  have h2 := h.1.2.2.1
  unfold maxLen at h2
  omega
theorem Lists.keep (h : Lists w A n c ps) (hb : Below w.heap.size w w') : Lists w' A n c ps := ⟨h.1.keep hb, fun p hp => (h.2 p hp).keep hb⟩
theorem Lists.nil (w : World) : Lists w none 0 0 [] := ⟨Row.nil w, fun p h => absurd h (by simp)⟩
theorem Lists.at_ (h : Lists w A n c ps) (hn : 0 < n) :
    ∃ b off, A = some ⟨b, off, none⟩ ∧ b < w.heap.size ∧ ∀ j, j < n → w.cell? ⟨b, off + j, none⟩ = some (.slice (ps.getD j default).A (ps.getD j default).n (ps.getD j default).c) ∧ LI w (ps.getD j default) := by
  have hl := h.len
  obtain ⟨b, off, e, hb, hc⟩ := h.1.2.2.2.2 hn
  refine ⟨b, off, e, hb, fun j hj => ?_⟩
  have hj' : j < ps.length := by omega
  refine ⟨(hc j hj).trans (by simp [Li.val, hj']), h.2 _ ?_⟩
  rw [List.getD_eq_getElem?_getD, List.getElem?_eq_getElem hj']
  exact List.getElem_mem hj'
/-- Element j as a list. -/
theorem li_at {ps : List Li} {ls : List (List Int)} (h : ps.map Li.l = ls) (j : Nat) (hj : j < ps.length) : (ps.getD j default).l = ls.getD j [] := by
  subst h
  simp [hj]
end
/-- The same, said of lists alone. -/
def ListsOf (w : World) (A : Option Addr) (n c : Nat) (ls : List (List Int)) : Prop := ∃ ps, Lists w A n c ps ∧ ps.map Li.l = ls
theorem ListsOf.nil (w : World) : ListsOf w none 0 0 [] := ⟨[], Lists.nil w, rfl⟩
theorem ListsOf.keep {w w' : World} {A : Option Addr} {n c : Nat} {ls : List (List Int)} (h : ListsOf w A n c ls) (hb : Below w.heap.size w w') : ListsOf w' A n c ls := by
  obtain ⟨ps, h1, h2⟩ := h
  exact ⟨ps, h1.keep hb, h2⟩
theorem ListsOf.len {w : World} {A : Option Addr} {n c : Nat} {ls : List (List Int)} (h : ListsOf w A n c ls) : ls.length = n := by
  obtain ⟨ps, h1, rfl⟩ := h
  rw [List.length_map]
  exact h1.len
theorem ListsOf.le {w : World} {A : Option Addr} {n c : Nat} {ls : List (List Int)} (h : ListsOf w A n c ls) : n ≤ 9223372036854775807 := by
  obtain ⟨ps, h1, _⟩ := h
  exact h1.le
theorem ListsOf.at_ {w : World} {A : Option Addr} {n c : Nat} {ls : List (List Int)} (h : ListsOf w A n c ls) (hn : 0 < n) :
    ∃ b off, A = some ⟨b, off, none⟩ ∧ b < w.heap.size ∧ ∀ j, j < n → ∃ B m d, w.cell? ⟨b, off + j, none⟩ = some (.slice B m d) ∧ Ints w B m d (ls.getD j []) := by
  obtain ⟨ps, h1, h2⟩ := h
  obtain ⟨b, off, e, hb, hc⟩ := h1.at_ hn
  refine ⟨b, off, e, hb, fun j hj => ⟨_, _, _, (hc j hj).1, ?_⟩⟩
  rw [← li_at h2 j (by rw [h1.len]; exact hj)]
  exact (hc j hj).2.1
theorem own_past {w w' : World} {base k n : Nat} {e : TypeId} {v : Value} {xs : List Value} (h : w.ownsRow base e k v n xs) (hb : Below w.heap.size w w') : w'.ownsRow base e k v n xs := by
  obtain ⟨h1, h2⟩ := h
  refine ⟨h1, ?_⟩
  rcases h2 with h2 | ⟨g, cap, cur, r1, r2, r3, r4⟩
  · exact .inl h2
  · exact .inr ⟨g, cap, cur, r1, r2, (hb.block g (Array.getElem?_eq_some_iff.1 r3).1).trans r3, r4⟩
theorem Tryd.infoLi : (Tryd.prog.info? 34).map (fun i => (i.zero, i.size, i.bytes)) = some (some (.slice none 0 0), 1, 24) := by kernel_rfl
/-- 'append(s, x...)' of slices of ints. -/
theorem appL {w : World} {ops : Array Oper} {rest : List Oper} {o : Oper} {a : Act} {Q : Exit → Act → World → Prop} (hgd : o.guard = none) (s x : Operand)
    (ho : o.op = .call { callee := .builtin .append, args := #[s, x], argTypes := #[25, 25] })
    (base : Nat) (v : Value) (n : Nat) (l : List Li) (hs : a.eval s = v) (hown : w.ownsRow base 34 1 v n (l.map Li.val))
    (A : Option Addr) (m c : Nat) (l' : List Li) (hx : a.eval x = .slice A m c) (hr : Row w A m c (l'.map Li.val)) (hbytes : (n + m) * 24 ≤ 140737488355328) (hbase : base ≤ w.heap.size)
    (h : ∀ v' w', w'.ownsRow base 34 1 v' (n + m) ((l ++ l').map Li.val) → w.grownBy w' v.ownBlock → wpList Tryd.prog ops Q rest (a.put o.dst v') w') : wpList Tryd.prog ops Q (o :: rest) a w := by
  obtain ⟨i0, hi, hz0, hz1, hz2⟩ := info_parts Tryd.infoLi
  exact wpList_appendRow hgd s x 25 ho base 34 i0 (.slice none 0 0) 24 Tryd.underlying25 hi hz0 hz1 hz2 rfl v n (l.map Li.val) hs hown A m c (l'.map Li.val) hx hr (one_li l') (by decide) hbytes hbase fun v' w' h2 h3 => h v' w' (by rw [List.map_append]; exact h2) h3
theorem lit1L (w : World) (p : Li) : Row (w.alloc (.cells #[.slice p.A p.n p.c] 34)) (some ⟨w.heap.size, 0, none⟩) 1 1 ([p].map Li.val) :=
  (Has.new w 34 [.slice p.A p.n p.c]).row 0 1 1 (by simp) (Nat.le_refl _) (by unfold maxLen; omega)
theorem run_makeL (n : Nat) (hn : n ≤ 1048576) (u : World) : (Instr.makeSlice 25 (.int .i64 (n : Int)) (.int .i64 (n : Int))).run Tryd.prog u =
    .ok (.slice (some ⟨u.heap.size, 0, none⟩) n n) (u.alloc (.cells ((List.replicate n (default : Li)).map Li.val).toArray 34)) := by
  obtain ⟨i0, hi, hz0, hz1, hz2⟩ := info_parts Tryd.infoLi
  have h := run_make (P := Tryd.prog) u 25 34 i0 _ Tryd.underlying25 hi hz0 .i64 .i64 (n : Int) (n : Int) (by omega) (by omega) (by rw [hz2]; omega) (by omega)
  have e : madeCells (Value.slice none 0 0).cells n = ((List.replicate n (default : Li)).map Li.val).toArray := by
    rw [List.map_replicate, show Li.val default = Value.slice none 0 0 from rfl, ← toList_madeCells_one]
    simp [Value.cells]
  rw [Int.toNat_natCast, hz1, Nat.mul_one, e] at h
  exact h
end Go.Proofs.YtjfipijdjbbogaaDoor
