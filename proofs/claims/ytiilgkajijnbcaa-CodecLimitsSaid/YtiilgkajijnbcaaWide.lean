/-
  Slices whose elements are several cells (of no program): rows by cells, their own rows, append.
-/
import Derived.Test.YtiilgkajijnbcaaLow
import Derived.Deep.Slices
namespace Go.Proofs.Ytiilgkajijnbcaa
open Go.ChangeShapes Go.WideShapes Go.ChangeAt Go.RowKit
set_option linter.unusedVariables false
set_option linter.unusedSimpArgs false

/-- The slice value '.slice A n c', its elements k cells each, reads, in w, as the cells xs. -/
def RowW (w : World) (A : Option Addr) (n c k : Nat) (xs : List Value) : Prop :=
  xs.length = n * k ∧ n ≤ c ∧ c ≤ maxLen ∧ (A = none → c = 0) ∧ (0 < n → ∃ b off, A = some ⟨b, off, none⟩ ∧ b < w.heap.size ∧ ∀ j, j < n * k → w.cell? ⟨b, off + j, none⟩ = xs[j]?)
theorem RowW.nil (w : World) (k : Nat) : RowW w none 0 0 k [] := ⟨by simp, Nat.le_refl _, Nat.zero_le _, fun _ => rfl, fun h => absurd h (by omega)⟩
theorem RowW.keep {w w' : World} {A : Option Addr} {n c k : Nat} {xs : List Value} (h : RowW w A n c k xs) (hb : Below w.heap.size w w') : RowW w' A n c k xs := by
  obtain ⟨h1, h2, h3, h0, h4⟩ := h
  refine ⟨h1, h2, h3, h0, fun hn => ?_⟩
  obtain ⟨b, off, e, hlt, hc⟩ := h4 hn
  exact ⟨b, off, e, Nat.lt_of_lt_of_le hlt hb.size, fun j hj => (hb.cell (p := ⟨b, off + j, none⟩) hlt).trans (hc j hj)⟩
theorem RowW.own {w : World} {base k : Nat} {e : TypeId} {v : Value} {n : Nat} {xs : List Value} (h : w.ownsRow base e k v n xs) : ∃ A c, v = .slice A n c ∧ RowW w A n c k xs := by
  obtain ⟨h1, h2⟩ := h
  rcases h2 with ⟨rfl, rfl⟩ | ⟨g, cap, cur, rfl, _, hg, hnc, hcm, hsz, htk⟩
  · exact ⟨none, 0, rfl, h1, Nat.le_refl _, Nat.zero_le _, fun _ => rfl, fun h => absurd h (by omega)⟩
  · refine ⟨_, _, rfl, h1, hnc, hcm, fun h => (by cases h), fun _ => ⟨g, 0, rfl, (Array.getElem?_eq_some_iff.1 hg).1, fun j hj => ?_⟩⟩
    rw [Nat.zero_add, cell_of_row w g j cur e (0, 0) hg, ← htk]
    simp [hj]
theorem RowW.le {w : World} {A : Option Addr} {n c k : Nat} {xs : List Value} (h : RowW w A n c k xs) : n ≤ 9223372036854775807 := by
  have h1 := h.2.1
  have h2 := h.2.2.1
  unfold maxLen at h2
  omega
theorem RowW.of_row {w : World} {A : Option Addr} {n c : Nat} {xs : List Value} (h : Row w A n c xs) : RowW w A n c 1 xs := by
  obtain ⟨h1, h2, h3, h0, h4⟩ := h
  exact ⟨by omega, h2, h3, h0, fun hn => by rw [Nat.mul_one]; exact h4 hn⟩

/-- Cell i of element j. -/
theorem flatMap_at {α : Type} (f : α → List Value) (k : Nat) : ∀ (es : List α) (hk : ∀ e ∈ es, (f e).length = k) (j : Nat) (hj : j < es.length) (i : Nat) (hi : i < k), (es.flatMap f)[j * k + i]? = (f es[j])[i]?
  | e :: es, hk, 0, _, i, hi => by
    rw [List.flatMap_cons, Nat.zero_mul, Nat.zero_add, List.getElem?_append_left (by rw [hk e (by simp)]; exact hi)]
    rfl
  | e :: es, hk, j + 1, hj, i, hi => by
    have hl := hk e (by simp)
    rw [List.flatMap_cons, List.getElem?_append_right (by rw [hl, Nat.succ_mul]; omega), hl, show (j + 1) * k + i - k = j * k + i by rw [Nat.succ_mul]; omega,
      flatMap_at f k es (fun e he => hk e (by simp [he])) j (by simpa using hj) i hi]
    rfl
theorem flatMap_len {α : Type} (f : α → List Value) (k : Nat) : ∀ (es : List α) (hk : ∀ e ∈ es, (f e).length = k), (es.flatMap f).length = es.length * k
  | [], _ => by simp
  | e :: es, hk => by
    rw [List.flatMap_cons, List.length_append, hk e (by simp), flatMap_len f k es (fun e he => hk e (by simp [he])), List.length_cons, Nat.succ_mul]
    omega
/-- The cells of element j of a slice. -/
theorem RowW.at_ {α : Type} {f : α → List Value} {w : World} {A : Option Addr} {n c k : Nat} {es : List α} (h : RowW w A n c k (es.flatMap f)) (hk : ∀ e ∈ es, (f e).length = k) (hl : es.length = n) (hn : 0 < n) :
    ∃ b off, A = some ⟨b, off, none⟩ ∧ b < w.heap.size ∧ ∀ j (hj : j < es.length) i, i < k → w.cell? ⟨b, off + j * k + i, none⟩ = (f es[j])[i]? := by
  obtain ⟨b, off, e, hb, hc⟩ := h.2.2.2.2 hn
  refine ⟨b, off, e, hb, fun j hj i hi => ?_⟩
  rw [Nat.add_assoc, hc (j * k + i) ?_, flatMap_at f k es hk j hj i hi]
  have h1 : (j + 1) * k ≤ n * k := Nat.mul_le_mul_right k (by omega)
  rw [Nat.succ_mul] at h1
  omega

/-- 'append(s, x...)' onto a row of the call's own, the elements k cells each. -/
theorem wpList_appendRowW {P : Program} {w : World} {ops : Array Oper} {rest : List Oper} {o : Oper} {a : Act} {Q : Exit → Act → World → Prop} (hgd : o.guard = none) (s x : Operand) (t : TypeId)
    (ho : o.op = .call { callee := .builtin .append, args := #[s, x], argTypes := #[t, t] })
    (base : Nat) (e : TypeId) (i : TypeInfo) (z : Value) (k bytes : Nat) (ht : P.underlying t = some (.slice e)) (hi : P.info? e = some i) (hz : i.zero = some z) (hsize : i.size = k) (hby : i.bytes = bytes) (hzs : z.cells.size = k) (hk : 0 < k)
    (v : Value) (n : Nat) (xs : List Value) (hs : a.eval s = v) (hown : w.ownsRow base e k v n xs)
    (A : Option Addr) (m c : Nat) (news : List Value) (hx : a.eval x = .slice A m c) (hr : RowW w A m c k news) (h1 : ∀ u ∈ news, u.oneCell' = true) (hb0 : 0 < bytes) (hbytes : (n + m) * bytes ≤ 140737488355328) (hbase : base ≤ w.heap.size)
    (h : ∀ v' w', w'.ownsRow base e k v' (n + m) (xs ++ news) → w.grownBy w' v.ownBlock → wpList P ops Q rest (a.put o.dst v') w') : wpList P ops Q (o :: rest) a w := by
  have hm : n + m ≤ 140737488355328 := Nat.le_trans (Nat.le_mul_of_pos_right _ hb0) hbytes
  obtain ⟨r1, _, _, r3, r4⟩ := hr
  rcases A with _ | ad
  · obtain rfl := r3 rfl
    have hm0 : m = 0 := by
      rcases Nat.eq_zero_or_pos m with h0 | h0
      · exact h0
      · obtain ⟨_, _, e0, _⟩ := r4 h0
        cases e0
    subst hm0
    obtain rfl : news = [] := List.eq_nil_of_length_eq_zero (by omega)
    exact wpList_append_own_none hgd s x t ho base e i k ht hi v n xs hs hown hx (h v w (by simpa using hown) ⟨rfl, rfl, rfl, Nat.le_refl _, fun _ _ _ => rfl⟩)
  · have hnews : ∀ j u, news[j]? = some u → w.cell? (ad.add j) = some u := by
      intro j u hu
      have hj : j < news.length := (List.getElem?_eq_some_iff.1 hu).1
      have hm0 : 0 < m := by
        rcases Nat.eq_zero_or_pos m with h0 | h0
        · rw [r1, h0, Nat.zero_mul] at hj
          omega
        · exact h0
      obtain ⟨b, off, e0, _, hc⟩ := r4 hm0
      have e0 := Option.some.inj e0
      subst e0
      rw [add_plain, hc j (by omega), hu]
    exact wpList_append_own w hgd s x t ho base e i z k bytes ht hi hz hsize hby hzs hk v n xs hs hown ad m c news hx r1 hnews h1 (by unfold maxLen; omega) hbytes hbase fun v' w' h2 h3 _ => h v' w' h2 h3
/-- The same, as one step of a region that draws its order: of a row that is not nil. -/
theorem step_appRowW {P : Program} {w : World} {ops : Array Oper} {o : Oper} {a : Act} {K : Act → World → Prop} {Q : Exit → Act → World → Prop} {E : Prop} (hgd : o.guard = none) (s x : Operand) (t : TypeId)
    (ho : o.op = .call { callee := .builtin .append, args := #[s, x], argTypes := #[t, t] })
    (base : Nat) (e : TypeId) (i : TypeInfo) (z : Value) (k bytes : Nat) (ht : P.underlying t = some (.slice e)) (hi : P.info? e = some i) (hz : i.zero = some z) (hsize : i.size = k) (hby : i.bytes = bytes) (hzs : z.cells.size = k) (hk : 0 < k)
    (v : Value) (n : Nat) (xs : List Value) (hs : a.eval s = v) (hown : w.ownsRow base e k v n xs)
    (ad : Addr) (m c : Nat) (news : List Value) (hx : a.eval x = .slice (some ad) m c) (hr : RowW w (some ad) m c k news) (h1 : ∀ u ∈ news, u.oneCell' = true) (hb0 : 0 < bytes) (hbytes : (n + m) * bytes ≤ 140737488355328) (hbase : base ≤ w.heap.size)
    (h : ∀ v' w', w'.ownsRow base e k v' (n + m) (xs ++ news) → w.grownBy w' v.ownBlock → K (a.put o.dst v') w') :
    if Region.wanted o (yielded ops a.tmps) = true then Oper.wp P o a w K Q else E := by
  have hw : Region.wanted o (yielded ops a.tmps) = true := by simp [Region.wanted, hgd]
  rw [if_pos hw]
  have hm : n + m ≤ 140737488355328 := Nat.le_trans (Nat.le_mul_of_pos_right _ hb0) hbytes
  obtain ⟨r1, _, _, r3, r4⟩ := hr
  have hnews : ∀ j u, news[j]? = some u → w.cell? (ad.add j) = some u := by
    intro j u hu
    have hj : j < news.length := (List.getElem?_eq_some_iff.1 hu).1
    have hm0 : 0 < m := by
      rcases Nat.eq_zero_or_pos m with h0 | h0
      · rw [r1, h0, Nat.zero_mul] at hj
        omega
      · exact h0
    obtain ⟨b, off, e0, _, hc⟩ := r4 hm0
    have e0 := Option.some.inj e0
    subst e0
    rw [add_plain, hc j (by omega), hu]
  exact wp_append_own w s x t ho base e i z k bytes ht hi hz hsize hby hzs hk v n xs hs hown ad m c news hx r1 hnews h1 (by unfold maxLen; omega) hbytes hbase fun v' w' h2 h3 _ => h v' w' h2 h3
/-- What a literal of one element has just laid. -/
theorem litW (w : World) (t : TypeId) (k : Nat) (vs : List Value) (h : vs.length = k) : RowW (w.alloc (.cells vs.toArray t)) (some ⟨w.heap.size, 0, none⟩) 1 1 k vs := by
  refine ⟨by omega, Nat.le_refl _, by simp [maxLen], fun h => (by cases h), fun _ => ⟨_, _, rfl, by simp, fun j hj => ?_⟩⟩
  rw [Nat.zero_add, cell_of_row _ w.heap.size j vs.toArray t (0, 0) (heap_alloc_new w _)]
  simp
end Go.Proofs.Ytiilgkajijnbcaa
