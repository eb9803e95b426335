/-
  Several texts in one.
-/
import Derived.Test.YtcdoeiccdmmfkaaDoorShaB
import Derived.Test.YtcdoeiccdmmfkaaDoorRefHash
import Derived.Test.YtcdoeiccdmmfkaaDoorNumb
import Derived.Test.YtcdoeiccdmmfkaaDoorLow
import Derived.Laws.IdiomStrings
import Derived.Lib.SlBytesConst
import Derived.Deep.RegionHeld
import Derived.Deep.RegionHeld3
/-
  Contracts of proof.Challenge and of the reference's: slices of slices of bytes.
-/
namespace Go.Proofs.YtcdoeiccdmmfkaaDoor
open Go.ChangeShapes Go.WideShapes Go.ChangeAt Go.RowKit
set_option linter.unusedVariables false
set_option linter.unusedSimpArgs false

/-! ### The spec -/
/-- Lists of bytes, each behind its length. -/
def partsB (ls : List (List UInt8)) : List UInt8 := ls.flatMap fun l => be64 l.length ++ l
theorem partsN_B (ps : List Part) (h : ∀ p ∈ ps, p.l.length = p.n) : partsN ps = partsB (ps.map Part.l) := by
  rw [partsN, partsB, List.flatMap_map]
  induction ps with
  | nil => rfl
  | cons p r ih => rw [List.flatMap_cons, List.flatMap_cons, ih (fun q hq => h q (by simp [hq])), h p (by simp)]
theorem partsB_nums : ∀ l : List Nat, (partsB (l.map be64)).length = 16 * l.length
  | [] => rfl
  | x :: l => by
    have ih := partsB_nums l
    rw [partsB] at ih ⊢
    rw [List.map_cons, List.flatMap_cons, List.length_append, ih, List.length_append, be64_len, be64_len, List.length_cons]
    omega
/-- The challenge of a name and of numbers. -/
def chalN (s : List UInt8) (l : List Nat) : Nat := ofS (shaN (partsB (s :: l.map be64)))
theorem chalN_lt (s : List UInt8) (l : List Nat) : chalN s l < 2305843009213693950 := ofS_lt _

/-! ### Parts that lie in blocks of bytes -/
def PB (w : World) (p : Part) : Prop := Bytes w p.A p.n p.c p.l ∧ ∀ x, p.A = some x → ∃ cur fr, w.heap[x.block]? = some (.cells cur 5 fr)
theorem PB.lt {w : World} {p : Part} (h : PB w p) {x : Addr} (hx : p.A = some x) : x.block < w.heap.size := by
  obtain ⟨_, _, h1⟩ := h.2 x hx
  exact (Array.getElem?_eq_some_iff.1 h1).1
theorem PB.keep {w w' : World} {p : Part} (h : PB w p) (hb : Below w.heap.size w w') : PB w' p :=
  ⟨h.1.keep hb, fun x hx => by rw [hb.block x.block (h.lt hx)]; exact h.2 x hx⟩
theorem PB.grown {w w' : World} {p : Part} {base n : Nat} {v : Value} {xs : List Value} (h : PB w p) (ho : w.ownsRow base 23 1 v n xs) (hg : w.grownBy w' v.ownBlock) : PB w' p := by
  have hk : ∀ x, p.A = some x → w'.heap[x.block]? = w.heap[x.block]? := fun x hx => by
    refine hg.block _ (h.lt hx) fun e => ?_
    obtain ⟨cur, fr, h1⟩ := h.2 x hx
    rcases ho.2 with ⟨rfl, _⟩ | ⟨g, cap, cur', rfl, _, hgg, _⟩
    · simp [Value.ownBlock] at e
    · simp [Value.ownBlock] at e
      rw [e, hgg] at h1
      cases h1
  refine ⟨?_, fun x hx => by rw [hk x hx]; exact h.2 x hx⟩
  obtain ⟨h1, h2, h3, h0, h4⟩ := h.1
  refine ⟨h1, h2, h3, h0, fun hn => ?_⟩
  obtain ⟨b, off, e, hlt, hc⟩ := h4 hn
  refine ⟨b, off, e, Nat.lt_of_lt_of_le hlt hg.size, fun j hj => ?_⟩
  rw [← hc j hj]
  simp only [World.cell?, hk _ e]
/-- What a call has made for itself is a part. -/
theorem PB.own {w : World} {base n : Nat} {v : Value} {l : List UInt8} (h : w.ownsRow base 5 1 v n (l.map bv)) : ∃ A c, v = .slice A n c ∧ PB w ⟨A, n, c, l⟩ := by
  obtain ⟨A, c, rfl, hr⟩ := Row.own h
  refine ⟨A, c, rfl, hr, fun x hx => ?_⟩
  obtain rfl : A = some x := hx
  rcases h.2 with ⟨h2, _⟩ | ⟨g, cap, cur, h2, _, hg, _⟩
  · cases h2
  · cases h2
    exact ⟨_, _, hg⟩
/-- '[]byte(s)' of a string. -/
theorem run_name (s : List UInt8) (hs : s.length ≤ maxLen) (w : World) : ∃ c w', (convert 9 23 (.string (str s))).run Tryd.prog w = .ok (.slice (some ⟨w.heap.size, 0, none⟩) s.length c) w' ∧ PB w' ⟨some ⟨w.heap.size, 0, none⟩, s.length, c, s⟩ ∧ Below w.heap.size w w' := by
  have hsz : (str s).size = s.length := by simp [str, ByteArray.size]
  have h := run_bytes_of_string (P := Tryd.prog) w 9 23 5 (str s) Tryd.underlying9 Tryd.underlying23 Tryd.underlying5
  rw [hsz] at h
  obtain ⟨c, hc⟩ : ∃ c, grownCap w s.length 0 5 = c := ⟨_, rfl⟩
  have h1 : s.length ≤ c := hc ▸ grownCap_ge w _ _ _
  have h2 : c ≤ maxLen := hc ▸ grownCap_le_maxLen w _ _ _ hs
  rw [hc] at h
  refine ⟨c, _, h, ⟨⟨by simp, h1, h2, fun h => (by cases h), fun hn => ⟨_, _, rfl, ?_, fun j hj => ?_⟩⟩, fun x hx => ?_⟩, ((Below.refl _ _).drew).alloc (Nat.le_refl _) _⟩
  · show w.heap.size < (w.heap.push _).size
    simp
  · have hh := heap_alloc_new w.drew (.cells (bytesRow (str s) c) 5 ((bytesRow (str s) c).size, (bytesRow (str s) c).size + 1))
    have hh' : (w.drew.alloc (.cells (bytesRow (str s) c) 5 ((bytesRow (str s) c).size, (bytesRow (str s) c).size + 1))).heap[w.heap.size]? = some (.cells (bytesRow (str s) c) 5 ((bytesRow (str s) c).size, (bytesRow (str s) c).size + 1)) := hh
    rw [Nat.zero_add, cell_of_row _ w.heap.size j _ _ _ hh']
    have hj' : j < s.length := hj
    rw [bytesRow, Array.getElem?_append_left (by simp [str]; exact hj')]
    simp [str, bv, hj']
  · obtain rfl : (⟨w.heap.size, 0, none⟩ : Addr) = x := by injection hx
    exact ⟨_, _, heap_alloc_new w.drew _⟩
/-- '[]byte("abc")' of a constant: its block is marked. -/
theorem Bytes.marked (w : World) (l : List UInt8) (h63 : l.length ≤ maxLen) (fr : Nat × Nat) : Bytes (w.alloc (.cells (l.map bv).toArray 5 fr)) (some ⟨w.heap.size, 0, none⟩) l.length l.length l := by
  refine ⟨by simp, Nat.le_refl _, h63, fun h => (by cases h), fun _ => ⟨_, _, rfl, by simp, fun j hj => ?_⟩⟩
  rw [Nat.zero_add, cell_of_row _ w.heap.size j (l.map bv).toArray 5 fr (heap_alloc_new w _)]
  simp
theorem Tryd.infoB : (Tryd.prog.info? 23).map (fun i => (i.zero, i.size, i.bytes)) = some (some (.slice none 0 0), 1, 24) := by kernel_rfl
/-- make([][]byte, 0, cap) -/
theorem run_makeB (cap : Nat) (hc : cap ≤ 1048576) (u : World) : (Instr.makeSlice 51 (.int .i64 0) (.int .i64 (cap : Int))).run Tryd.prog u =
    .ok (.slice (some ⟨u.heap.size, 0, none⟩) 0 cap) (u.alloc (.cells (List.replicate cap (Value.slice none 0 0)).toArray 23)) := by
  obtain ⟨i0, hi, hz0, hz1, hz2⟩ := info_parts Tryd.infoB
  have h := run_make (P := Tryd.prog) u 51 23 i0 (.slice none 0 0) Tryd.underlying51 hi hz0 .i64 .i64 0 (cap : Int) (by omega) (by omega) (by rw [hz2]; omega) (by omega)
  have e : (madeCells #[Value.slice none 0 0] cap) = (List.replicate cap (Value.slice none 0 0)).toArray := by
    rw [← toList_madeCells_one]
  rw [Int.toNat_natCast] at h
  rw [← e]
  simpa [hz1, Value.cells] using h
theorem own_makeB (cap : Nat) (hc : cap ≤ 1048576) (u : World) (base : Nat) (hb : base ≤ u.heap.size) : (u.alloc (.cells (List.replicate cap (Value.slice none 0 0)).toArray 23)).ownsRow base 23 1 (.slice (some ⟨u.heap.size, 0, none⟩) 0 cap) 0 [] :=
  ⟨rfl, .inr ⟨u.heap.size, cap, _, rfl, hb, heap_alloc_new u _, Nat.zero_le _, by unfold maxLen; omega, by simp, by simp⟩⟩
theorem litB (w : World) (v : Value) : Row (w.alloc (.cells #[v] 23)) (some ⟨w.heap.size, 0, none⟩) 1 1 [v] := by
  refine ⟨rfl, Nat.le_refl _, by simp [maxLen], fun h => (by cases h), fun _ => ⟨_, _, rfl, by simp, fun j hj => ?_⟩⟩
  rw [Nat.zero_add, cell_of_row _ w.heap.size j #[v] 23 (0, 0) (heap_alloc_new w _)]
  simp
/-- 'append(s, x)' of slices of bytes. -/
theorem appB {w : World} {ops : Array Oper} {rest : List Oper} {o : Oper} {a : Act} {Q : Exit → Act → World → Prop} (hgd : o.guard = none) (s x : Operand)
    (ho : o.op = .call { callee := .builtin .append, args := #[s, x], argTypes := #[51, 51] })
    (base : Nat) (v : Value) (n : Nat) (ps : List Part) (hs : a.eval s = v) (hown : w.ownsRow base 23 1 v n (ps.map Part.val))
    (A : Option Addr) (p : Part) (hx : a.eval x = .slice A 1 1) (hr : Row w A 1 1 [p.val]) (hbytes : n ≤ 1048576) (hbase : base ≤ w.heap.size)
    (h : ∀ v' w', w'.ownsRow base 23 1 v' (n + 1) ((ps ++ [p]).map Part.val) → w.grownBy w' v.ownBlock → wpList Tryd.prog ops Q rest (a.put o.dst v') w') : wpList Tryd.prog ops Q (o :: rest) a w := by
  obtain ⟨i0, hi, hz0, hz1, hz2⟩ := info_parts Tryd.infoB
  exact wpList_appendRow hgd s x 51 ho base 23 i0 (.slice none 0 0) 24 Tryd.underlying51 hi hz0 hz1 hz2 rfl v n (ps.map Part.val) hs hown A 1 1 [p.val] hx hr (by intro u hu; obtain rfl := List.mem_singleton.1 hu; rfl) (by decide) (by omega) hbase fun v' w' h2 h3 => h v' w' (by rw [List.map_append]; exact h2) h3
/-- A literal of one part is a row of the call's own. -/
theorem own_litB (w : World) (base : Nat) (p : Part) (hb : base ≤ w.heap.size) : (w.alloc (.cells #[p.val] 23)).ownsRow base 23 1 (.slice (some ⟨w.heap.size, 0, none⟩) 1 1) 1 ([p].map Part.val) :=
  ⟨rfl, .inr ⟨w.heap.size, 1, _, rfl, hb, heap_alloc_new w _, Nat.le_refl _, by simp [maxLen], rfl, rfl⟩⟩
/-- The parts as sha.Parts takes them. -/
theorem partsAt_own {w : World} {base n : Nat} {v : Value} {ps : List Part} (h : w.ownsRow base 23 1 v n (ps.map Part.val)) (hp : ∀ p ∈ ps, PB w p) : ∃ A c, v = .slice A n c ∧ PartsAt w A n c ps ∧ ∀ p ∈ ps, p.l.length = p.n := by
  obtain ⟨A, c, rfl, hr⟩ := Row.own h
  exact ⟨A, c, rfl, ⟨hr, fun p hq => (hp p hq).1⟩, fun p hq => (hp p hq).1.len⟩
end Go.Proofs.YtcdoeiccdmmfkaaDoor
/-
  What chapters 9 and 10 say of answers and of what they come back to; proofs as values; the reference's answer.
-/
namespace Go.Proofs.YtcdoeiccdmmfkaaDoor
open Go.ChangeShapes Go.WideShapes Go.ChangeAt Go.RowKit
set_option linter.unusedVariables false
set_option linter.unusedSimpArgs false

/-! ### The spec -/
def answerS (c s d : Nat) : Nat := subS d (mulS c s)
theorem answerS_lt (c s d : Nat) : answerS c s d < 2305843009213693950 := subS_lt _ _
def backN (g x c s : Nat) : Nat := mulN (timesN g s) (timesN x c)
theorem backN_lt (g x c s : Nat) : backN g x c s < 2305843009213693951 := mulN_lt _ _
/-- What the numbers of a proof are held against. -/
def smallN (c s : Nat) : Prop := c < 2305843009213693950 ∧ s < 2305843009213693950
instance (c s : Nat) : Decidable (smallN c s) := inferInstanceAs (Decidable (_ ∧ _))

/-! ### Proofs as values -/
theorem size_proof : (Tryd.prog.info? 26).map (·.size) = some 2 := by kernel_rfl
theorem newProof (w : World) (c s : Nat) : Has (w.alloc (.cells #[.int .u64 (c : Int), .int .u64 (s : Int)] 26)) w.heap.size 26 [nv c, nv s] := Has.new w 26 [nv c, nv s]
theorem newProof0 (w : World) : Has (w.alloc (.cells #[.int .u64 0, .int .u64 0] 26)) w.heap.size 26 [nv 0, nv 0] := Has.new w 26 [nv 0, nv 0]
section
variable {w : World} {ops : Array Oper} {rest : List Oper} {o : Oper} {a : Act} {Q : Exit → Act → World → Prop}
theorem wpList_store_proof (hgd : o.guard = none) (x y : Operand) (ho : o.op = .store 26 x y) (g : Nat) (hx : a.eval x = .pointer (some ⟨g, 0, none⟩)) (c s : Nat) (hy : a.eval y = .agg #[.int .u64 (c : Int), .int .u64 (s : Int)])
    (c0 s0 : Nat) (H : Has w g 26 [nv c0, nv s0])
    (h : ∀ w', Only g w w' → Has w' g 26 [nv c, nv s] → wpList Tryd.prog ops Q rest (a.put o.dst undef) w') : wpList Tryd.prog ops Q (o :: rest) a w :=
  wpList_store_has hgd 26 x y ho g hx [nv c, nv s] hy 26 _ H size_proof rfl (one_nv [c, s]) h
theorem wpList_load_proof (hgd : o.guard = none) (x : Operand) (ho : o.op = .load 26 x) (g : Nat) (hx : a.eval x = .pointer (some ⟨g, 0, none⟩)) (c s : Nat) (H : Has w g 26 [nv c, nv s])
    (h : wpList Tryd.prog ops Q rest (a.put o.dst (.agg #[.int .u64 (c : Int), .int .u64 (s : Int)])) w) : wpList Tryd.prog ops Q (o :: rest) a w :=
  wpList_load_has hgd 26 x ho g hx 26 [nv c, nv s] H _ Tryd.underlying26 rfl size_proof h
theorem ret_proof {fn : Func} {R : Ending → World → Prop} {p : Tmp} (h : fn.results = #[.cell p 26]) (g : Nat) (hp : a.tmps.getD p undef = .pointer (some ⟨g, 0, none⟩)) (c s : Nat) (H : Has w g 26 [nv c, nv s])
    (hf : a.defers = []) (hR : R (.returned (.agg #[.int .u64 (c : Int), .int .u64 (s : Int)])) w) : bodyPost Tryd.prog fn R .ret a w :=
  ret_has h g hp 26 [nv c, nv s] H _ Tryd.underlying26 rfl size_proof hf hR
end

theorem refAnswer' {c s d r : Nat} (hr : answerS c s d = r) (hc : c < 18446744073709551616) (hs : s < 18446744073709551616) (hd : d < 18446744073709551616) (w : World) :
    Calls Tryd.prog 25 #[.int .u64 (d : Int), .int .u64 (c : Int), .int .u64 (s : Int)] w fun e w' => e = .returned (.int .u64 (r : Int)) ∧ w = w' := by
  obtain ⟨m, hm⟩ : ∃ m, mulS c s = m := ⟨_, rfl⟩
  have bm : m < 2305843009213693950 := by rw [← hm]; exact mulS_lt _ _
  have C1 := Lib.hid (fun w => refMulN' hm hc hs rfl rfl w)
  have C2 := Lib.hid (fun w => refSubN' (show subS d m = r by rw [← hm]; exact hr) hd (by omega) rfl rfl w)
  clear hm hr
  go_enter Tryd.func25, Tryd.ntmps25
  go_wp2_with fail
  refine (C1.out _).mono ?_
  rintro e w' ⟨rfl, rfl⟩
  go_wp2_with fail
  refine (C2.out _).mono ?_
  rintro e w' ⟨rfl, rfl⟩
  go_wp2_with fail
  go_ret
  exact ⟨rfl, rfl⟩
end Go.Proofs.YtcdoeiccdmmfkaaDoor
/-
  Contracts of the reference's small and back.
-/
namespace Go.Proofs.YtcdoeiccdmmfkaaDoor
open Go.ChangeShapes Go.WideShapes Go.ChangeAt Go.RowKit
set_option linter.unusedVariables false
set_option linter.unusedSimpArgs false

theorem Has.proof {w : World} {g c s : Nat} {t : TypeId} (h : Has w g t [nv c, nv s]) : w.cell? ⟨g, 0, none⟩ = some (.int .u64 (c : Int)) ∧ w.cell? ⟨g, 1, none⟩ = some (.int .u64 (s : Int)) := ⟨h.cell 0, h.cell 1⟩
theorem refSmall' (c s : Nat) (w : World) {b : Bool} (hb : decide (smallN c s) = b) :
    Calls Tryd.prog 35 #[.agg #[.int .u64 (c : Int), .int .u64 (s : Int)]] w fun e w' => e = .returned (.bool b) ∧ Below w.heap.size w w' := by
  subst hb
  have H1 := newProof w c s
  have hb1 := (Below.refl w.heap.size w).alloc (Nat.le_refl _) (.cells #[.int .u64 (c : Int), .int .u64 (s : Int)] 26)
  obtain ⟨c0, c1⟩ := H1.proof
  by_cases hc : c < 2305843009213693950
  · have h1 : decide ((c : Int) < 2305843009213693950) = true := decide_eq_true (by omega)
    have HD := Lib.hid (show decide ((s : Int) < 2305843009213693950) = decide (smallN c s) from decide_eq_decide.2 ⟨fun h => ⟨hc, by omega⟩, fun h => by have := h.2; omega⟩)
    clear hc H1
    go_enter Tryd.func35, Tryd.ntmps35
    go_wp2_with fail
    go_ret
    exact ⟨ret_bool HD.out, hb1⟩
  · have h1 : decide ((c : Int) < 2305843009213693950) = false := decide_eq_false (by omega)
    have HD := Lib.hid (show decide (smallN c s) = false from decide_eq_false (fun h => hc h.1))
    clear hc H1
    go_enter Tryd.func35, Tryd.ntmps35
    go_wp2_with fail
    go_ret
    exact ⟨ret_bool HD.out.symm, hb1⟩

/-! ### What a proof comes back to -/
theorem prodN_two {a b : Nat} (ha : rightN a) (hb : rightN b) : prodN 1 [a, b] = mulN a b := by
  simp only [prodN, if_pos ha, if_pos hb]
  rw [show mulN 1 a = a by rw [mulN, Nat.one_mul, Nat.mod_eq_of_lt ha.2]]
theorem refBack' {g x c s r : Nat} (hr : backN g x c s = r) (hg : g < 18446744073709551616) (hx : x < 18446744073709551616) (hc : c < 18446744073709551616) (hs : s < 18446744073709551616) (w : World) :
    Calls Tryd.prog 36 #[.int .u64 (g : Int), .int .u64 (x : Int), .agg #[.int .u64 (c : Int), .int .u64 (s : Int)]] w fun e w' => e = .returned (.int .u64 (r : Int)) ∧ Below w.heap.size w w' := by
  obtain ⟨t, ht⟩ : ∃ t, timesN g s = t := ⟨_, rfl⟩
  obtain ⟨u, hu⟩ : ∃ t, timesN x c = t := ⟨_, rfl⟩
  have bt : t < 2305843009213693951 := by rw [← ht]; exact timesN_lt _ _
  have bu : u < 2305843009213693951 := by rw [← hu]; exact timesN_lt _ _
  have A1 := Lib.hid (fun w => refTimes' ht hg hs rfl rfl w)
  have A2 := Lib.hid (fun w => refTimes' hu hx hc rfl rfl w)
  have A3 := Lib.hid (fun w => refMulP' (a := t) (b := u) (show mulN t u = r by rw [← hr, backN, ht, hu]) (by omega) (by omega) w)
  have H1 := newProof w c s
  obtain ⟨c0, c1⟩ := H1.proof
  have hb1 := (Below.refl w.heap.size w).alloc (Nat.le_refl _) (.cells #[.int .u64 (c : Int), .int .u64 (s : Int)] 26)
  clear ht hu hr H1
  go_enter Tryd.func36, Tryd.ntmps36
  go_wp2_with fail
  go_quiet (first
    | (go_at_call 26; with_reducible refine Calls.quiet_of_same ((A1.out _).mono fun _ _ h => ⟨h.1, h.2.symm⟩))
    | (go_at_call 26; with_reducible refine Calls.quiet_of_same ((A2.out _).mono fun _ _ h => ⟨h.1, h.2.symm⟩))
    | (go_at_call 58; with_reducible refine Calls.quiet_of_same ((A3.out _).mono fun _ _ h => ⟨h.1, h.2.symm⟩)))
  go_wp2_with fail
  go_ret
  exact ⟨rfl, below_drewN hb1 _⟩

/-! ### The checks -/
theorem beq_nat (c q : Nat) : ((c : Int) == (q : Int)) = decide (c = q) := by
  by_cases h : c = q
  · subst h; simp
  · have h1 : ¬ (c : Int) = (q : Int) := by omega
    simp [h, h1]
end Go.Proofs.YtcdoeiccdmmfkaaDoor
