/-
  Several texts in one.
-/
import Derived.Test.YtjfipijdjbbogaaDoorRows
import Derived.WalkKit
import Derived.ProofKit
import Derived.OpenShut
import Derived.ShutString
import Derived.ChangeOld
import Derived.Below
import Derived.Lib.Hide
import Derived.Laws.CopyOwn
import Derived.Laws.AppendOwnNone
import Derived.Laws.BytesArg
import Derived.Deep.DeepMust
import Derived.Deep.DeepFit
import Derived.WideKeyArr2
import Derived.Laws.Rows
import Derived.Deep.MidRow
import Derived.BigQuiet
import Derived.Deep.QuietTactic
import Derived.Deep.RegionHeldLaw
import Derived.Stop.BytesEq
/-
  Words for memory that the proofs of this place share: a slice that reads as a list of values, a slice of bytes, big-endian numbers.
-/
namespace Go.Proofs.YtjfipijdjbbogaaDoor
open Go.ChangeShapes Go.WideShapes Go.ChangeAt Go.RowKit
set_option linter.unusedVariables false
set_option linter.unusedSimpArgs false

/-! ### Endings -/
theorem ret_int {k : IntKind} {a b : Int} (h : a = b) : Ending.returned (.int k a) = .returned (.int k b) := by rw [h]
theorem ret_ii {k k' : IntKind} {a b : Int} (h : a = b) (c : Int) : Ending.returned (.tuple #[.int k a, .int k' c]) = .returned (.tuple #[.int k b, .int k' c]) := by rw [h]
theorem ret_bool {a b : Bool} (h : a = b) : Ending.returned (.bool a) = .returned (.bool b) := by rw [h]

/-! ### A slice's cells, read -/
/-- The slice value '.slice A n c' reads, in w, as the values xs (one cell each); nothing is said of its spare room. -/
def Row (w : World) (A : Option Addr) (n c : Nat) (xs : List Value) : Prop :=
  xs.length = n ∧ n ≤ c ∧ c ≤ maxLen ∧ (A = none → c = 0) ∧ (0 < n → ∃ b off, A = some ⟨b, off, none⟩ ∧ b < w.heap.size ∧ ∀ j, j < n → w.cell? ⟨b, off + j, none⟩ = xs[j]?)

theorem Row.nil (w : World) : Row w none 0 0 [] := ⟨rfl, Nat.le_refl _, Nat.zero_le _, fun _ => rfl, fun h => absurd h (by omega)⟩

theorem Row.keep {w w' : World} {A : Option Addr} {n c : Nat} {xs : List Value} (h : Row w A n c xs) (hb : Below w.heap.size w w') : Row w' A n c xs := by
  obtain ⟨h1, h2, h3, h0, h4⟩ := h
  refine ⟨h1, h2, h3, h0, fun hn => ?_⟩
  obtain ⟨b, off, e, hlt, hc⟩ := h4 hn
  exact ⟨b, off, e, Nat.lt_of_lt_of_le hlt hb.size, fun j hj => (hb.cell (p := ⟨b, off + j, none⟩) hlt).trans (hc j hj)⟩

theorem Row.same {w w' : World} {A : Option Addr} {n c : Nat} {xs : List Value} (h : Row w A n c xs) (hs : w.heap.size ≤ w'.heap.size) (hb : ∀ p : Addr, p.block < w.heap.size → w'.cell? p = w.cell? p) : Row w' A n c xs := by
  obtain ⟨h1, h2, h3, h0, h4⟩ := h
  refine ⟨h1, h2, h3, h0, fun hn => ?_⟩
  obtain ⟨b, off, e, hlt, hc⟩ := h4 hn
  exact ⟨b, off, e, Nat.lt_of_lt_of_le hlt hs, fun j hj => (hb ⟨b, off + j, none⟩ hlt).trans (hc j hj)⟩

/-- What a call has made for itself reads as a row. -/
theorem Row.own {w : World} {base : Nat} {e : TypeId} {v : Value} {n : Nat} {xs : List Value} (h : w.ownsRow base e 1 v n xs) : ∃ A c, v = .slice A n c ∧ Row w A n c xs := by
  obtain ⟨h1, h2⟩ := h
  rw [Nat.mul_one] at h1
  rcases h2 with ⟨rfl, rfl⟩ | ⟨g, cap, cur, rfl, _, hg, hnc, hcm, hsz, htk⟩
  · exact ⟨none, 0, rfl, h1, Nat.le_refl _, Nat.zero_le _, fun _ => rfl, fun h => absurd h (by omega)⟩
  · refine ⟨_, _, rfl, h1, hnc, hcm, fun h => (by cases h), fun _ => ⟨g, 0, rfl, (Array.getElem?_eq_some_iff.1 hg).1, fun j hj => ?_⟩⟩
    rw [Nat.zero_add, cell_of_row w g j cur e (0, 0) hg, ← htk]
    simp [hj]

theorem add_plain (b off j : Nat) : (Addr.add ⟨b, off, none⟩ j) = ⟨b, off + j, none⟩ := by
  unfold Addr.add
  split
  · next h0 => subst h0; rfl
  · rfl
/-- A row as the source of an append or a copy, in a world that has kept it. -/
theorem Row.src {w : World} {A : Option Addr} {n c : Nat} {xs : List Value} (h : Row w A n c xs) {w2 : World} (hk : ∀ p : Addr, p.block < w.heap.size → w2.cell? p = w.cell? p) :
    0 < xs.length → ∃ ad, A = some ad ∧ ∀ j v, xs[j]? = some v → w2.cell? (ad.add j) = some v := by
  intro hn
  obtain ⟨h1, _, _, _, h4⟩ := h
  obtain ⟨b, off, e, hb, hc⟩ := h4 (by omega)
  refine ⟨_, e, fun j v hv => ?_⟩
  have hj : j < xs.length := (List.getElem?_eq_some_iff.1 hv).1
  rw [add_plain, hk _ hb, hc j (by omega), hv]
/-- What has been copied to the head of a new block is a row of the call's own. -/
theorem own_splice {w : World} {base g n cap : Nat} {e : TypeId} {Z xs : List Value} (hg : w.heap[g]? = some (.cells (splice Z 0 xs).toArray e (0, 0))) (hb : base ≤ g) (hn : xs.length = n) (hnc : n ≤ cap) (hc : cap ≤ maxLen) (hZ : Z.length = cap) :
    w.ownsRow base e 1 (.slice (some ⟨g, 0, none⟩) n cap) n xs := by
  subst hn
  refine ⟨by simp, .inr ⟨g, cap, _, rfl, hb, hg, hnc, hc, ?_, ?_⟩⟩
  · have := length_splice Z 0 xs (by omega)
    simp [this, hZ]
  · simp [splice]

theorem own_base {w : World} {base base' : Nat} {e : TypeId} {size n : Nat} {v : Value} {xs : List Value} (h : w.ownsRow base e size v n xs) (hb : base' ≤ base) : w.ownsRow base' e size v n xs := by
  obtain ⟨h1, h2⟩ := h
  refine ⟨h1, ?_⟩
  rcases h2 with h2 | ⟨g, cap, cur, r1, r2, r3⟩
  · exact .inl h2
  · exact .inr ⟨g, cap, cur, r1, Nat.le_trans hb r2, r3⟩
/-- 'append(s, x...)' onto a row of the call's own, x any row. -/
theorem wpList_appendRow {P : Program} {w : World} {ops : Array Oper} {rest : List Oper} {o : Oper} {a : Act} {Q : Exit → Act → World → Prop} (hgd : o.guard = none) (s x : Operand) (t : TypeId)
    (ho : o.op = .call { callee := .builtin .append, args := #[s, x], argTypes := #[t, t] })
    (base : Nat) (e : TypeId) (i : TypeInfo) (z : Value) (bytes : Nat) (ht : P.underlying t = some (.slice e)) (hi : P.info? e = some i) (hz : i.zero = some z) (hsize : i.size = 1) (hby : i.bytes = bytes) (hzs : z.cells.size = 1)
    (v : Value) (n : Nat) (xs : List Value) (hs : a.eval s = v) (hown : w.ownsRow base e 1 v n xs)
    (A : Option Addr) (m c : Nat) (news : List Value) (hx : a.eval x = .slice A m c) (hr : Row w A m c news) (h1 : ∀ u ∈ news, u.oneCell' = true) (hb0 : 0 < bytes) (hbytes : (n + m) * bytes ≤ 140737488355328) (hbase : base ≤ w.heap.size)
    (h : ∀ v' w', w'.ownsRow base e 1 v' (n + m) (xs ++ news) → w.grownBy w' v.ownBlock → wpList P ops Q rest (a.put o.dst v') w') : wpList P ops Q (o :: rest) a w := by
  have hm : n + m ≤ 140737488355328 := Nat.le_trans (Nat.le_mul_of_pos_right _ hb0) hbytes
  obtain ⟨r1, _, _, r3, r4⟩ := hr
  rcases A with _ | ad
  · obtain rfl := r3 rfl
    have hm0 : m = 0 := by
      rcases Nat.eq_zero_or_pos m with h0 | h0
      · exact h0
      · obtain ⟨_, _, e0, _⟩ := r4 h0
        cases e0
    subst hm0
    obtain rfl : news = [] := List.eq_nil_of_length_eq_zero r1
    exact wpList_append_own_none hgd s x t ho base e i 1 ht hi v n xs hs hown hx (h v w (by simpa using hown) ⟨rfl, rfl, rfl, Nat.le_refl _, fun _ _ _ => rfl⟩)
  · have hnews : ∀ j u, news[j]? = some u → w.cell? (ad.add j) = some u := by
      intro j u hu
      have hj : j < news.length := (List.getElem?_eq_some_iff.1 hu).1
      obtain ⟨b, off, e0, _, hc⟩ := r4 (by omega)
      have e0 := Option.some.inj e0
      subst e0
      rw [add_plain, hc j (by omega), hu]
    exact wpList_append_own w hgd s x t ho base e i z 1 bytes ht hi hz hsize hby hzs (by decide) v n xs hs hown ad m c news hx (by omega) hnews h1 (by unfold maxLen; omega) hbytes hbase fun v' w' h2 h3 _ => h v' w' h2 h3

/-! ### Bytes -/
/-- A byte as a cell. -/
def bv (c : UInt8) : Value := .int .u8 (c.toNat : Int)
/-- A row of bytes. -/
def Bytes (w : World) (A : Option Addr) (n c : Nat) (l : List UInt8) : Prop := Row w A n c (l.map bv)

theorem Bytes.len {w : World} {A : Option Addr} {n c : Nat} {l : List UInt8} (h : Bytes w A n c l) : l.length = n := by simpa using h.1
theorem Bytes.le {w : World} {A : Option Addr} {n c : Nat} {l : List UInt8} (h : Bytes w A n c l) : n ≤ 9223372036854775807 := by
  have h1 := h.2.1
  have h2 := h.2.2.1
  unfold maxLen at h2
  omega
theorem Bytes.at_ {w : World} {A : Option Addr} {n c : Nat} {l : List UInt8} (h : Bytes w A n c l) (hn : 0 < n) :
    ∃ b off, A = some ⟨b, off, none⟩ ∧ b < w.heap.size ∧ ∀ j, j < n → w.cell? ⟨b, off + j, none⟩ = some (.int .u8 ((l.getD j 0).toNat : Int)) := by
  have hl := h.len
  obtain ⟨b, off, e, hb, hc⟩ := h.2.2.2.2 hn
  refine ⟨b, off, e, hb, fun j hj => (hc j hj).trans ?_⟩
  have hj' : j < l.length := by omega
  simp [bv, hj']
theorem Bytes.keep {w w' : World} {A : Option Addr} {n c : Nat} {l : List UInt8} (h : Bytes w A n c l) (hb : Below w.heap.size w w') : Bytes w' A n c l := Row.keep h hb

/-- What the given shell tells of a slice of bytes that came in. -/
theorem Bytes.of_row {w : World} {A : Option Addr} {n c : Nat} {zs : List Int}
    (h : (A = none ∧ n = 0 ∧ c = 0 ∧ zs = []) ∨
      ∃ x, A = some x ∧ n ≤ c ∧ c ≤ maxLen ∧ zs.length = c ∧ (∀ i, i < zs.length → w.cell? (x.add i) = some (.int .u8 (zs.getD i 0))) ∧ ∀ k ∈ zs, (Lit.int .u8 k).wf = true) : ∃ l, Bytes w A n c l := by
  rcases h with ⟨rfl, rfl, rfl, rfl⟩ | ⟨x, rfl, h1, h2, h3, h4, h5⟩
  · exact ⟨[], Row.nil w⟩
  · refine ⟨(zs.take n).map (fun z => UInt8.ofNat z.toNat), by simp; omega, h1, h2, fun h => (by cases h), fun hn => ?_⟩
    have hc0 := h4 0 (by omega)
    obtain ⟨b, off, spot⟩ := x
    have hspot : spot = none := by simpa [Addr.add] using World.cell?_spot hc0
    subst hspot
    refine ⟨b, off, rfl, ?_, fun j hj => ?_⟩
    · have := World.block_lt_of_cell? w _ hc0
      simpa [Addr.add] using this
    · have hj' : j < zs.length := by omega
      have hc := h4 j hj'
      have hz : (Lit.int .u8 (zs[j])).wf = true := h5 _ (List.getElem_mem hj')
      have hz' : 0 ≤ zs[j] ∧ zs[j] ≤ 255 := by simpa [Lit.wf, IntKind.min, IntKind.max, IntKind.signed, IntKind.bits] using hz
      rw [add_plain] at hc
      rw [hc]
      simp [bv, hj, hj']
      omega

/-- string(b) -/
def str (l : List UInt8) : ByteArray := ⟨l.toArray⟩
theorem run_str {P : Program} {src e dst : TypeId} (hs : P.underlying src = some (.slice e)) (he : P.underlying e = some (.int .u8)) (hd : P.underlying dst = some .string)
    {w : World} {A : Option Addr} {n c : Nat} {l : List UInt8} (h : Bytes w A n c l) : (convert src dst (.slice A n c)).run P w = .ok (.string (str l)) w := by
  have hl := h.len
  rcases Nat.eq_zero_or_pos n with h0 | h0
  · subst h0
    obtain rfl : l = [] := List.eq_nil_of_length_eq_zero hl
    rcases A with _ | ⟨b, off, spot⟩
    · exact run_convert_bytes_nil w src e hs he 0 c dst hd
    · rw [run_convert_bytes_string w src dst e _ 0 c hs he hd, run_bytesToString w _ 0 c [] (run_loadCells_list (P := P) w _ [] (fun j v hj => by simp at hj))]
      rfl
  · obtain ⟨b, off, rfl, _, hc⟩ := h.at_ h0
    have := run_convert_bytes_arg w src e hs he b off n c (l.map fun c => (c.toNat : Int)) (by simpa using hl) (fun i hi => by
      rw [hc i hi]
      have hi' : i < l.length := by omega
      simp [hi']) dst hd
    rw [this]
    simp [strOfNums, str, Function.comp_def]

/-! ### Big-endian numbers -/
def be (l : List UInt8) : Nat := l.foldl (fun x c => x * 256 + c.toNat) 0
theorem be_snoc (l : List UInt8) (c : UInt8) : be (l ++ [c]) = be l * 256 + c.toNat := by simp [be]
theorem be_lt_of (l : List UInt8) : ∀ a m : Nat, a < m → l.foldl (fun x c => x * 256 + c.toNat) a < m * 256 ^ l.length := by
  induction l with
  | nil => intro a m h; simpa using h
  | cons c l ih =>
    intro a m h
    have hc := c.toNat_lt
    have := ih (a * 256 + c.toNat) (m * 256) (by omega)
    rw [List.foldl_cons, List.length_cons, Nat.pow_succ]
    rw [Nat.mul_assoc, Nat.mul_comm 256] at this
    exact this
theorem be_lt (l : List UInt8) : be l < 256 ^ l.length := by
  have := be_lt_of l 0 1 (by omega)
  rw [Nat.one_mul] at this
  exact this
/-! ### Numbers that came in -/
theorem u64_wf {a : Int} (h : (Lit.int .u64 a).wf = true) : ∃ n : Nat, a = (n : Int) ∧ n < 18446744073709551616 := by
  have h0 : 0 ≤ a ∧ a ≤ 18446744073709551615 := by simpa [Lit.wf, IntKind.min, IntKind.max, IntKind.signed, IntKind.bits] using h
  exact ⟨a.toNat, by omega, by omega⟩
theorem i64_wf {a : Int} (h : (Lit.int .i64 a).wf = true) : -9223372036854775808 ≤ a ∧ a ≤ 9223372036854775807 := by
  simpa [Lit.wf, IntKind.min, IntKind.max, IntKind.signed, IntKind.bits] using h
theorem u8_wf {a : Int} (h : (Lit.int .u8 a).wf = true) : ∃ n : Nat, a = (n : Int) ∧ n < 256 := by
  have h0 : 0 ≤ a ∧ a ≤ 255 := by simpa [Lit.wf, IntKind.min, IntKind.max, IntKind.signed, IntKind.bits] using h
  exact ⟨a.toNat, by omega, by omega⟩
end Go.Proofs.YtjfipijdjbbogaaDoor
/-
  What is known of an array of bytes that came in.
-/
namespace Go.Proofs.YtjfipijdjbbogaaDoor
open Go.ChangeShapes Go.WideShapes Go.ChangeAt Go.RowKit
set_option linter.unusedVariables false
set_option linter.unusedSimpArgs false

section
variable {H : Type} {enc : TypeId × Value → H} {P : Program} {k e : TypeId} {n : Nat} {W : World} {base : Nat} {sp : Nat → Bool} {held : Bool}
theorem mapM_bytes (he : P.underlying e = some (.int .u8)) {m : Nat} {cs : List Value} {c : Nat} : ∀ (L : List Nat) (xs : List (DataW H × List MemPlace)),
    L.mapM (fun i => DataW.trod enc P W base sp held m e ((cs.drop (i * c)).take c)) = some xs → ∀ i ∈ L, ∃ a : Int, (cs.drop (i * c)).take c = [.int .u8 a] ∧ (Lit.int .u8 a).wf = true
  | [], xs, h, i, hi => by cases hi
  | j :: L, xs, h, i, hi => by
    rw [List.mapM_cons] at h
    simp only [bind, Option.bind_eq_some_iff, pure, Option.some.injEq] at h
    obtain ⟨y, hy, ys, hys, rfl⟩ := h
    rcases List.mem_cons.1 hi with rfl | hi
    · obtain ⟨a, ea, _, wa⟩ := DataW.trod_int he hy
      exact ⟨a, ea, wa⟩
    · exact mapM_bytes he L ys hys i hi
def byteOf : Value → UInt8
  | .int _ a => UInt8.ofNat a.toNat
  | _ => 0
theorem open_byte_arr (hu : P.underlying k = some (.array n e)) (he : P.underlying e = some (.int .u8)) (one : P.cellsOf e = 1) (size : P.cellsOf k = n) {r : Reach} {b0 : Nat} {v : Value} {d : DataW H} {ps : List MemPlace}
    (hval : Value.okWide P W r b0 k v) (hd : DataW.Trod enc P W base sp held k v d ps) : ∃ l : List UInt8, l.length = n ∧ v = .agg (l.map bv).toArray := by
  simp only [Value.okWide, hu] at hval
  obtain ⟨xs, rfl, hn, _⟩ := hval
  rw [size] at hn
  obtain ⟨fuel, hf⟩ := hd
  cases fuel with
  | zero => simp [DataW.trod] at hf
  | succ m =>
    rw [DataW.trod_step] at hf
    unfold DataW.trodStep at hf
    simp only [hu, Value.cells] at hf
    rw [if_pos (by rw [size]; simpa using hn)] at hf
    simp only [Option.map_eq_some_iff] at hf
    obtain ⟨ys, hy, _⟩ := hf
    have hall := mapM_bytes he _ ys hy
    refine ⟨xs.toList.map byteOf, by simp [hn], ?_⟩
    congr 1
    apply Array.ext'
    show xs.toList = (xs.toList.map byteOf).map bv
    rw [List.map_map]
    apply List.ext_getElem
    · simp
    · intro i h1 h2
      obtain ⟨a, ha, wa⟩ := hall i (List.mem_range.2 (by simp at h1; omega))
      rw [one, Nat.mul_one, List.drop_eq_getElem_cons h1, List.take_succ_cons, List.take_zero] at ha
      have hx : xs.toList[i] = .int .u8 a := by injection ha
      have hz' : 0 ≤ a ∧ a ≤ 255 := by simpa [Lit.wf, IntKind.min, IntKind.max, IntKind.signed, IntKind.bits] using wa
      rw [List.getElem_map, hx]
      simp [byteOf, bv]
      omega
end
end Go.Proofs.YtjfipijdjbbogaaDoor
/-
  Rows of numbers of 64 bits (of no program): as Bytes for bytes.
-/
namespace Go.Proofs.YtjfipijdjbbogaaDoor
open Go.ChangeShapes Go.WideShapes Go.ChangeAt Go.RowKit
set_option linter.unusedVariables false
set_option linter.unusedSimpArgs false

/-- A number of 64 bits as a cell. -/
def nv (x : Nat) : Value := .int .u64 (x : Int)
theorem one_nv (l : List Nat) : ∀ u ∈ l.map nv, u.oneCell' = true := by
  intro u hu
  obtain ⟨c, _, rfl⟩ := List.mem_map.1 hu
  rfl
/-- A row of numbers of 64 bits. -/
def Nums (w : World) (A : Option Addr) (n c : Nat) (l : List Nat) : Prop := Row w A n c (l.map nv) ∧ ∀ x ∈ l, x < 18446744073709551616
theorem Nums.len {w : World} {A : Option Addr} {n c : Nat} {l : List Nat} (h : Nums w A n c l) : l.length = n := by simpa using h.1.1
theorem Nums.le {w : World} {A : Option Addr} {n c : Nat} {l : List Nat} (h : Nums w A n c l) : n ≤ 9223372036854775807 := by
  have h1 := h.1.2.1
  have h2 := h.1.2.2.1
  unfold maxLen at h2
  omega
theorem Nums.lt {w : World} {A : Option Addr} {n c : Nat} {l : List Nat} (h : Nums w A n c l) (j : Nat) : l.getD j 0 < 18446744073709551616 := by
  rw [List.getD_eq_getElem?_getD]
  by_cases hj : j < l.length
  · rw [List.getElem?_eq_getElem hj, Option.getD_some]
    exact h.2 _ (List.getElem_mem hj)
  · rw [List.getElem?_eq_none (by omega), Option.getD_none]
    omega
theorem Nums.at_ {w : World} {A : Option Addr} {n c : Nat} {l : List Nat} (h : Nums w A n c l) (hn : 0 < n) :
    ∃ b off, A = some ⟨b, off, none⟩ ∧ b < w.heap.size ∧ ∀ j, j < n → w.cell? ⟨b, off + j, none⟩ = some (.int .u64 ((l.getD j 0 : Nat) : Int)) := by
  have hl := h.len
  obtain ⟨b, off, e, hb, hc⟩ := h.1.2.2.2.2 hn
  refine ⟨b, off, e, hb, fun j hj => (hc j hj).trans ?_⟩
  have hj' : j < l.length := by omega
  simp [nv, hj']
theorem Nums.keep {w w' : World} {A : Option Addr} {n c : Nat} {l : List Nat} (h : Nums w A n c l) (hb : Below w.heap.size w w') : Nums w' A n c l := ⟨Row.keep h.1 hb, h.2⟩
/-- What the given shell tells of a slice of numbers that came in. -/
theorem Nums.of_row {w : World} {A : Option Addr} {n c : Nat} {zs : List Int}
    (h : (A = none ∧ n = 0 ∧ c = 0 ∧ zs = []) ∨
      ∃ x, A = some x ∧ n ≤ c ∧ c ≤ maxLen ∧ zs.length = c ∧ (∀ i, i < zs.length → w.cell? (x.add i) = some (.int .u64 (zs.getD i 0))) ∧ ∀ k ∈ zs, (Lit.int .u64 k).wf = true) : ∃ l, Nums w A n c l := by
  rcases h with ⟨rfl, rfl, rfl, rfl⟩ | ⟨x, rfl, h1, h2, h3, h4, h5⟩
  · exact ⟨[], Row.nil w, fun x hx => by cases hx⟩
  · have hwf : ∀ k ∈ zs, 0 ≤ k ∧ k ≤ 18446744073709551615 := fun k hk => by
      simpa [Lit.wf, IntKind.min, IntKind.max, IntKind.signed, IntKind.bits] using h5 k hk
    refine ⟨(zs.take n).map Int.toNat, ⟨by simp; omega, h1, h2, fun h => (by cases h), fun hn => ?_⟩, fun k hk => ?_⟩
    · have hc0 := h4 0 (by omega)
      obtain ⟨b, off, spot⟩ := x
      have hspot : spot = none := by simpa [Addr.add] using World.cell?_spot hc0
      subst hspot
      refine ⟨b, off, rfl, ?_, fun j hj => ?_⟩
      · have := World.block_lt_of_cell? w _ hc0
        simpa [Addr.add] using this
      · have hj' : j < zs.length := by omega
        have hc := h4 j hj'
        have hz := hwf _ (List.getElem_mem hj')
        rw [add_plain] at hc
        rw [hc]
        simp [nv, hj, hj']
        omega
    · obtain ⟨z, hz, rfl⟩ := List.mem_map.1 hk
      have := hwf z (List.mem_of_mem_take hz)
      omega

end Go.Proofs.YtjfipijdjbbogaaDoor
/-
  Contracts of words.Put32, words.Put64 and of the reference's Put32, Put64.
-/
namespace Go.Proofs.YtjfipijdjbbogaaDoor
open Go.ChangeShapes Go.WideShapes Go.ChangeAt Go.RowKit
set_option linter.unusedVariables false
set_option linter.unusedSimpArgs false

/-- What 'put' lays behind the bytes. -/
def putB (x size j : Nat) : List UInt8 := (List.range j).map fun i => UInt8.ofNat (x / 2 ^ (8 * (size - 1 - i)))
def be32 (x : Nat) : List UInt8 := [UInt8.ofNat (x / 16777216), UInt8.ofNat (x / 65536), UInt8.ofNat (x / 256), UInt8.ofNat x]
def be64 (x : Nat) : List UInt8 := be32 (x / 4294967296) ++ be32 (x % 4294967296)
theorem putB_len (x size j : Nat) : (putB x size j).length = j := by simp [putB]
theorem putB_succ (x size j : Nat) : putB x size (j + 1) = putB x size j ++ [UInt8.ofNat (x / 2 ^ (8 * (size - 1 - j)))] := by simp [putB, List.range_succ]
theorem putB4 (x : Nat) : putB x 4 4 = be32 x := by simp [putB, be32, List.range_succ]
theorem u8_mod (a b : Nat) (h : a % 256 = b % 256) : UInt8.ofNat a = UInt8.ofNat b := by
  apply UInt8.toNat_inj.1
  simpa using h
theorem putB8 (x : Nat) : putB x 8 8 = be64 x := by
  simp only [putB, be64, be32, List.range_succ, List.range_zero, List.map_cons, List.map_nil, List.nil_append, List.cons_append]
  have e : ∀ a b : Nat, x / a / b = x / (a * b) := fun a b => Nat.div_div_eq_div_mul x a b
  simp only [e]
  congr 1
  congr 1
  congr 1
  congr 1
  congr 1
  · exact u8_mod _ _ (by omega)
  congr 1
  · exact u8_mod _ _ (by omega)
  congr 1
  · exact u8_mod _ _ (by omega)
  congr 1
  exact u8_mod _ _ (by omega)
theorem be64_len (x : Nat) : (be64 x).length = 8 := by simp [be64, be32]
theorem be32_len (x : Nat) : (be32 x).length = 4 := by simp [be32]
theorem be_be32 (x : Nat) (h : x < 4294967296) : be (be32 x) = x := by
  simp [be, be32]; omega
theorem be_be64 (x : Nat) (h : x < 18446744073709551616) : be (be64 x) = x := by
  simp [be, be64, be32]; omega

theorem Tryd.info8 : (Tryd.prog.info? 5).map (fun i => (i.zero, i.size, i.bytes)) = some (some (.int .u8 0), 1, 1) := by kernel_rfl

/-- n bytes 0, as a new block holds them. -/
def noughts (n : Nat) : List Value := List.replicate n (.int .u8 0)
theorem noughts_len (n : Nat) : (noughts n).length = n := by simp [noughts]
theorem one_bv (l : List UInt8) : ∀ u ∈ l.map bv, u.oneCell' = true := by
  intro u hu
  obtain ⟨c, _, rfl⟩ := List.mem_map.1 hu
  rfl

/-- make([]byte, n, cap) -/
theorem run_make8 (n cap : Nat) (hn : n ≤ cap) (hc : cap ≤ 281474976710656) (u : World) : (Instr.makeSlice 52 (.int .i64 (n : Int)) (.int .i64 (cap : Int))).run Tryd.prog u =
    .ok (.slice (some ⟨u.heap.size, 0, none⟩) n cap) (u.alloc (.cells (noughts cap).toArray 5)) := by
  obtain ⟨i0, hi, hz0, hz1, hz2⟩ := info_parts Tryd.info8
  have h := run_make (P := Tryd.prog) u 52 5 i0 (.int .u8 0) Tryd.underlying52 hi hz0 .i64 .i64 (n : Int) (cap : Int) (by omega) (by omega) (by rw [hz2]; omega) (by omega)
  have e : (madeCells #[Value.int .u8 0] cap) = (noughts cap).toArray := by
    rw [noughts, ← toList_madeCells_one]
  rw [Int.toNat_natCast] at h
  rw [← e]
  simpa [hz1, Value.cells] using h

/-- 'append(s, x...)' of bytes. -/
theorem app8 {w : World} {ops : Array Oper} {rest : List Oper} {o : Oper} {a : Act} {Q : Exit → Act → World → Prop} (hgd : o.guard = none) (s x : Operand)
    (ho : o.op = .call { callee := .builtin .append, args := #[s, x], argTypes := #[52, 52] })
    (base : Nat) (v : Value) (n : Nat) (l : List UInt8) (hs : a.eval s = v) (hown : w.ownsRow base 5 1 v n (l.map bv))
    (A : Option Addr) (m c : Nat) (l' : List UInt8) (hx : a.eval x = .slice A m c) (hr : Bytes w A m c l') (hbytes : n + m ≤ 140737488355328) (hbase : base ≤ w.heap.size)
    (h : ∀ v' w', w'.ownsRow base 5 1 v' (n + m) ((l ++ l').map bv) → w.grownBy w' v.ownBlock → wpList Tryd.prog ops Q rest (a.put o.dst v') w') : wpList Tryd.prog ops Q (o :: rest) a w := by
  obtain ⟨i0, hi, hz0, hz1, hz2⟩ := info_parts Tryd.info8
  exact wpList_appendRow hgd s x 52 ho base 5 i0 (.int .u8 0) 1 Tryd.underlying52 hi hz0 hz1 hz2 rfl v n (l.map bv) hs hown A m c (l'.map bv) hx hr (one_bv l') (by decide) (by omega) hbase fun v' w' h2 h3 => h v' w' (by rw [List.map_append]; exact h2) h3
/-- What a literal of bytes has just laid. -/
theorem Bytes.lit (w : World) (l : List UInt8) (h63 : l.length ≤ maxLen) : Bytes (w.alloc (.cells (l.map bv).toArray 5)) (some ⟨w.heap.size, 0, none⟩) l.length l.length l := by
  refine ⟨by simp, Nat.le_refl _, h63, fun h => (by cases h), fun _ => ⟨_, _, rfl, by simp, fun j hj => ?_⟩⟩
  rw [Nat.zero_add, cell_of_row _ w.heap.size j (l.map bv).toArray 5 (0, 0) (heap_alloc_new w _)]
  simp

/-- '[]byte("abc")' of a constant: its block is marked. -/
theorem Bytes.marked (w : World) (l : List UInt8) (h63 : l.length ≤ maxLen) (fr : Nat × Nat) : Bytes (w.alloc (.cells (l.map bv).toArray 5 fr)) (some ⟨w.heap.size, 0, none⟩) l.length l.length l := by
  refine ⟨by simp, Nat.le_refl _, h63, fun h => (by cases h), fun _ => ⟨_, _, rfl, by simp, fun j hj => ?_⟩⟩
  rw [Nat.zero_add, cell_of_row _ w.heap.size j (l.map bv).toArray 5 fr (heap_alloc_new w _)]
  simp
theorem lit1 (w : World) (x t : Nat) : Bytes (w.alloc (.cells #[.int .u8 ((x : Int) / 2 ^ t % 256)] 5)) (some ⟨w.heap.size, 0, none⟩) 1 1 [UInt8.ofNat (x / 2 ^ t)] := by
  have e : bv (UInt8.ofNat (x / 2 ^ t)) = .int .u8 ((x : Int) / 2 ^ t % 256) := by simp [bv]
  have h := Bytes.lit w [UInt8.ofNat (x / 2 ^ t)] (by simp [maxLen])
  rw [List.map_cons, List.map_nil, e] at h
  exact h
theorem litK (w : World) (x : Nat) (hx : x < 256) : Bytes (w.alloc (.cells #[.int .u8 (x : Int)] 5)) (some ⟨w.heap.size, 0, none⟩) 1 1 [UInt8.ofNat x] := by
  have e : bv (UInt8.ofNat x) = .int .u8 (x : Int) := by simp [bv]; omega
  have h := Bytes.lit w [UInt8.ofNat x] (by simp [maxLen])
  rw [List.map_cons, List.map_nil, e] at h
  exact h
/-- A literal of bytes is a row of the call's own. -/
theorem own_lit (w : World) (base : Nat) (l : List UInt8) (hb : base ≤ w.heap.size) (h63 : l.length ≤ maxLen) : (w.alloc (.cells (l.map bv).toArray 5)).ownsRow base 5 1 (.slice (some ⟨w.heap.size, 0, none⟩) l.length l.length) l.length (l.map bv) :=
  ⟨by simp, .inr ⟨w.heap.size, l.length, _, rfl, hb, heap_alloc_new w _, Nat.le_refl _, h63, by simp, by rw [Nat.mul_one, List.take_of_length_le (by simp)]⟩⟩

namespace wordsPut
set_option maxHeartbeats 400000 in
theorem put_any (A : Option Addr) (n c : Nat) (l : List UInt8) (x : Nat) (size : Nat) (w : World) (hl : Bytes w A n c l) (hn : n ≤ 140737488351232) (hs0 : 0 < size) (hs8 : size ≤ 8) :
    Calls Tryd.prog 57 #[.slice A n c, .int .u64 (x : Int), .int .i64 (size : Int)] w
      fun e w' => ∃ v, e = .returned v ∧ w'.ownsRow w.heap.size 5 1 v (n + size) ((l ++ putB x size size).map bv) ∧ Below w.heap.size w w' := by
  have hlen := Lib.hid hl.len
  have hmk := fun u => run_make8 n (n + size) (by omega) (by omega) u
  rw [show ((n + size : Nat) : Int) = (n : Int) + (size : Int) by omega] at hmk
  have C1 := Lib.hid (show (l.map bv).length = Nat.min n n from hl.1.trans (Nat.min_self n).symm)
  have C2 := Lib.hid (fun (o : Obj) => Row.src hl (w2 := w.alloc o) (fun p hp => World.cell?_alloc_lt w _ p hp))
  have C3 := Lib.hid (show 0 + (l.map bv).length ≤ (noughts (n + size)).length by rw [noughts_len, hl.1]; omega)
  go_enter Tryd.func57, Tryd.ntmps57
  go_wp2_with ((with_reducible refine wpList_copy_splice rfl (.tmp 16) (.tmp 17) 52 52 rfl 5 Tryd.underlying52 (by kernel_rfl) (some ⟨w.heap.size, 0, none⟩) A n (n + size) n c rfl rfl w.heap.size 0 (noughts (n + size)) 5 (heap_alloc_new w _) (l.map bv) C1.out (fun h => ⟨rfl, C2.out _ h⟩) C3.out (one_bv l) w.heap.size w ((Below.refl _ _).alloc (Nat.le_refl _) _) (Nat.le_refl _) ?_); intro w1 hg1 hb1)
  have hown := own_splice hg1.out (Nat.le_refl _) hl.1 (by omega : n ≤ n + size) (by unfold maxLen; omega) (noughts_len _)
  clear hmk hg1 C1 C2 C3
  go_wp2_with fail
  go_loopw [7, 8] (fun v s wr => ∃ (j : Nat) (q : Int), j ≤ size ∧ q = 8 * ((size : Int) - 1 - j) ∧ s = .int .i64 q ∧ wr.ownsRow w.heap.size 5 1 v (n + j) ((l ++ putB x size j).map bv) ∧ Below w.heap.size w wr) (fun _ s _ => (intOf s + 8).toNat)
  case atStart => exact ⟨0, _, Nat.zero_le _, by omega, rfl, by simpa [putB] using hown, hb1⟩
  case round =>
    clear hown hb1
    obtain ⟨j, q, hj, hq0, rfl, hown, hb⟩ := hrel
    have hq := Lib.hid hq0
    by_cases hlt : j < size
    · obtain ⟨t, rfl⟩ := Int.eq_ofNat_of_zero_le (show 0 ≤ q by omega)
      have ht : t ≤ 56 := by omega
      clear hq0
      have HL := Lib.hid (lit1 wr x t)
      have HB := Lib.hid (show n + j + 1 ≤ 140737488355328 by omega)
      go_wp2_with (at_builtin; (refine app8 rfl (.tmp 26) (.tmp 31) rfl w.heap.size u7 (n + j) (l ++ putB x size j) rfl (hown.alloc _) (some ⟨wr.heap.size, 0, none⟩) 1 1 [UInt8.ofNat (x / 2 ^ t)] rfl HL.out HB.out (Nat.le_trans hb.size (by simp)) ?_); intro v2 w2 hown2 hg2)
      go_roundw
      case rel =>
        have h0 := hq.out
        have e : t = 8 * (size - 1 - j) := by omega
        refine ⟨j + 1, _, by omega, ?_, rfl, ?_, (hb.alloc hb.size _).grown hg2 (Nat.le_trans hb.size (by simp)) (fun k hk => (hown.lt k hk).1)⟩
        · omega
        · rw [putB_succ, ← List.append_assoc, ← e]
          exact hown2
      case measure => simp [intOf]; omega
    · have hq1 : q < 0 := by omega
      clear hq0
      obtain rfl : j = size := by omega
      go_wp2
      go_ret
      exact ⟨_, rfl, hown, hb⟩

end wordsPut
namespace wordsPut
theorem put64 (A : Option Addr) (n c : Nat) (l : List UInt8) (x : Nat) (w : World) (hl : Bytes w A n c l) (hn : n ≤ 140737488351232) :
    Calls Tryd.prog 47 #[.slice A n c, .int .u64 (x : Int)] w
      fun e w' => ∃ v, e = .returned v ∧ w'.ownsRow w.heap.size 5 1 v (n + 8) ((l ++ be64 x).map bv) ∧ Below w.heap.size w w' := by
  go_enter Tryd.func47, Tryd.ntmps47
  go_wp2_with (go_at_call 57; refine (put_any A n c l x 8 w hl hn (by omega) (by omega)).mono ?_; rintro e w' ⟨v, rfl, hown, hb⟩)
  go_ret
  exact ⟨_, rfl, by rw [← putB8]; exact hown, hb⟩
end wordsPut

namespace refPut
theorem and255 (y : Nat) (h : y < 4294967296) : bits .and .u32 (y : Int) 255 % 256 = ((y % 256 : Nat) : Int) := by
  have e := u32_and_nat y 255 h (by omega)
  rw [nat_mask8] at e
  rw [show (255 : Int) = ((255 : Nat) : Int) from rfl, e]
  omega
theorem lit4 (w : World) (x : Nat) (hx : x < 4294967296) : Bytes (w.alloc (.cells #[.int .u8 ((x : Int) / 16777216), .int .u8 (bits .and .u32 ((x : Int) / 65536) 255 % 256),
    .int .u8 (bits .and .u32 ((x : Int) / 256) 255 % 256), .int .u8 (bits .and .u32 (x : Int) 255 % 256)] 5)) (some ⟨w.heap.size, 0, none⟩) 4 4 (be32 x) := by
  have e1 : bv (UInt8.ofNat (x / 16777216)) = .int .u8 ((x : Int) / 16777216) := by simp [bv]; omega
  have e2 : bv (UInt8.ofNat (x / 65536)) = .int .u8 (bits .and .u32 ((x : Int) / 65536) 255 % 256) := by
    have := and255 (x / 65536) (by omega)
    simp only [bv, UInt8.toNat_ofNat']
    congr 1
    rw [← this]; rfl
  have e3 : bv (UInt8.ofNat (x / 256)) = .int .u8 (bits .and .u32 ((x : Int) / 256) 255 % 256) := by
    have := and255 (x / 256) (by omega)
    simp only [bv, UInt8.toNat_ofNat']
    congr 1
    rw [← this]; rfl
  have e4 : bv (UInt8.ofNat x) = .int .u8 (bits .and .u32 (x : Int) 255 % 256) := by
    rw [and255 x hx]
    simp [bv]
  have h := Bytes.lit w (be32 x) (by rw [be32_len]; simp [maxLen])
  rw [be32_len] at h
  simp only [be32, List.map_cons, List.map_nil, e1, e2, e3, e4] at h
  exact h

theorem put32 (A : Option Addr) (n c : Nat) (l : List UInt8) (x : Nat) (w : World) (hl : Bytes w A n c l) (hn : n ≤ 140737488351232) (hx : x < 4294967296) :
    Calls Tryd.prog 50 #[.slice A n c, .int .u32 (x : Int)] w
      fun e w' => ∃ v, e = .returned v ∧ w'.ownsRow w.heap.size 5 1 v (n + 4) ((l ++ be32 x).map bv) ∧ Below w.heap.size w w' := by
  have HB := Lib.hid (show 0 + n ≤ 140737488355328 by omega)
  have HC := Lib.hid (show 0 + n + 4 ≤ 140737488355328 by omega)
  go_enter Tryd.func50, Tryd.ntmps50
  go_wp2_with (at_builtin; first
    | ((with_reducible refine app8 rfl (.const (.slice none 0 0)) (.tmp 5) rfl w.heap.size (.slice none 0 0) 0 [] rfl (World.ownsRow_nil _ _ _ _) A n c l rfl hl HB.out (Nat.le_refl _) ?_); intro v2 w2 hown2 hg2)
    | ((refine app8 rfl (.tmp 6) (.tmp 21) rfl w.heap.size v2 (0 + n) ([] ++ l) rfl (hown2.alloc _) (some ⟨w2.heap.size, 0, none⟩) 4 4 (be32 x) rfl (lit4 w2 x hx) HC.out (Nat.le_trans hg2.size (by simp)) ?_); intro v3 w3 hown3 hg3))
  go_ret
  have hb2 : Below w.heap.size w w2 := (Below.refl _ _).grown hg2 (Nat.le_refl _) (fun k hk => by cases hk)
  refine ⟨_, rfl, ?_, (hb2.alloc hb2.size _).grown hg3 (Nat.le_trans hb2.size (by simp)) (fun k hk => (hown2.lt k hk).1)⟩
  simpa using hown3
theorem put32i (A : Option Addr) (n c : Nat) (l : List UInt8) (y : Int) (w : World) (hl : Bytes w A n c l) (hn : n ≤ 140737488351232) (h0 : 0 ≤ y) (h1 : y < 4294967296) :
    Calls Tryd.prog 50 #[.slice A n c, .int .u32 y] w
      fun e w' => ∃ v, e = .returned v ∧ w'.ownsRow w.heap.size 5 1 v (n + 4) ((l ++ be32 y.toNat).map bv) ∧ Below w.heap.size w w' := by
  obtain ⟨x, rfl⟩ := Int.eq_ofNat_of_zero_le h0
  rw [Int.toNat_natCast]
  exact put32 A n c l x w hl hn (by omega)
end refPut
namespace refPut
theorem low32 (x : Nat) (h : x < 18446744073709551616) : bits .and .u64 (x : Int) 4294967295 = ((x % 4294967296 : Nat) : Int) := by
  have e := u64_and_nat x 4294967295 h (by omega)
  rw [nat_mask32] at e
  exact e
theorem put64 (A : Option Addr) (n c : Nat) (l : List UInt8) (x : Nat) (w : World) (hl : Bytes w A n c l) (hn : n ≤ 140737488351228) (hx : x < 18446744073709551616) :
    Calls Tryd.prog 39 #[.slice A n c, .int .u64 (x : Int)] w
      fun e w' => ∃ v, e = .returned v ∧ w'.ownsRow w.heap.size 5 1 v (n + 8) ((l ++ be64 x).map bv) ∧ Below w.heap.size w w' := by
  go_enter Tryd.func39, Tryd.ntmps39
  go_wp2_with fail
  refine (put32i A n c l _ w hl (by omega) (by omega) (by omega)).mono ?_
  rintro e w1 ⟨v1, rfl, hown1, hb1⟩
  obtain ⟨A1, c1, rfl, hr1⟩ := Row.own hown1
  go_wp2_with fail
  have e := low32 x hx
  have H := Lib.hid e
  clear e
  refine (put32i A1 (n + 4) c1 _ _ w1 hr1 (by omega) (by rw [H.out]; omega) (by rw [H.out]; omega)).mono ?_
  rintro e w2 ⟨v2, rfl, hown2, hb2⟩
  go_wp2_with fail
  go_ret
  refine ⟨_, rfl, ?_, hb1.trans (hb2.mono hb1.size)⟩
  have h := own_base hown2 hb1.size
  rw [H.out] at h
  rw [be64, ← List.append_assoc]
  have e1 : ((x : Int) / 4294967296).toNat = x / 4294967296 := by omega
  have e2 : (((x % 4294967296 : Nat) : Int) % 4294967296).toNat = x % 4294967296 := by omega
  rw [e1, e2] at h
  exact h
end refPut
end Go.Proofs.YtjfipijdjbbogaaDoor
/-
  Contracts of words.Get32, words.Get64 and of the reference's Get32, Get64.
-/
namespace Go.Proofs.YtjfipijdjbbogaaDoor
open Go.ChangeShapes Go.WideShapes Go.ChangeAt Go.RowKit
set_option linter.unusedVariables false
set_option linter.unusedSimpArgs false

/-- What 'get' answers: the number and the error. -/
def getV (l : List UInt8) (i : Int) (size : Nat) : Int :=
  if i < 0 ∨ (l.length : Int) < i ∨ (l.length : Int) - i < size then 0 else (be ((l.drop i.toNat).take size) : Nat)
def getE (l : List UInt8) (i : Int) (size : Nat) : Int :=
  if i < 0 ∨ (l.length : Int) < i then 1 else if (l.length : Int) - i < size then 4 else 0

theorem or_join (x c : Nat) (hx : x < 72057594037927936) (hc : c < 256) : bits .or .u64 ((x : Int) * 256) (c : Int) = ((x * 256 + c : Nat) : Int) := by
  have h := u64_or_nat (x * 256) c (by omega) (by omega)
  rw [nat_join 8 (x * 256) c (by omega) (by omega)] at h
  rw [← h]; rfl
theorem be_take_succ (l : List UInt8) (i j : Nat) (h : i + j < l.length) : be ((l.drop i).take (j + 1)) = be ((l.drop i).take j) * 256 + (l[i + j]?.getD 0).toNat := by
  rw [← be_snoc]
  congr 1
  have hj : j < (l.drop i).length := by simp; omega
  rw [List.take_succ_eq_append_getElem hj]
  simp [h]
theorem be_take_small (l : List UInt8) (i j : Nat) (h : j ≤ 7) : be ((l.drop i).take j) < 72057594037927936 := by
  have h1 := be_lt ((l.drop i).take j)
  have hle : ((l.drop i).take j).length ≤ 7 := by simp; omega
  exact Nat.lt_of_lt_of_le h1 (Nat.pow_le_pow_right (by omega) hle)
theorem getV_lt (l : List UInt8) (i : Int) : 0 ≤ getV l i 4 ∧ getV l i 4 < 4294967296 := by
  unfold getV
  split
  · omega
  · have h1 := be_lt ((l.drop i.toNat).take 4)
    have hle : ((l.drop i.toNat).take 4).length ≤ 4 := by simp; omega
    have h2 : be ((l.drop i.toNat).take 4) < 256 ^ 4 := Nat.lt_of_lt_of_le h1 (Nat.pow_le_pow_right (by omega) hle)
    omega
theorem getV_lt8 (l : List UInt8) (i : Int) : 0 ≤ getV l i 8 ∧ getV l i 8 < 18446744073709551616 := by
  unfold getV
  split
  · omega
  · have h1 := be_lt ((l.drop i.toNat).take 8)
    have hle : ((l.drop i.toNat).take 8).length ≤ 8 := by simp; omega
    have h2 : be ((l.drop i.toNat).take 8) < 256 ^ 8 := Nat.lt_of_lt_of_le h1 (Nat.pow_le_pow_right (by omega) hle)
    omega

namespace wordsGet
theorem no1 (A : Option Addr) (n c : Nat) (i : Int) (size : Int) (w : World) (h : i < 0) :
    Calls Tryd.prog 48 #[.slice A n c, .int .i64 i, .int .i64 size] w fun e w' => e = .returned (.tuple #[.int .u64 0, .int .i64 1]) ∧ w = w' := by
  go_enter Tryd.func48, Tryd.ntmps48
  go_wp2
  go_ret2
  exact ⟨rfl, rfl⟩
theorem no2 (A : Option Addr) (n c : Nat) (i : Int) (size : Int) (w : World) (h0 : 0 ≤ i) (h : (n : Int) < i) :
    Calls Tryd.prog 48 #[.slice A n c, .int .i64 i, .int .i64 size] w fun e w' => e = .returned (.tuple #[.int .u64 0, .int .i64 1]) ∧ w = w' := by
  go_enter Tryd.func48, Tryd.ntmps48
  go_wp2
  go_ret2
  exact ⟨rfl, rfl⟩
theorem no3 (A : Option Addr) (n c : Nat) (i : Int) (size : Int) (w : World) (hn : n ≤ 9223372036854775807) (h0 : 0 ≤ i) (h : i ≤ (n : Int)) (hs : (n : Int) - i < size) :
    Calls Tryd.prog 48 #[.slice A n c, .int .i64 i, .int .i64 size] w fun e w' => e = .returned (.tuple #[.int .u64 0, .int .i64 4]) ∧ w = w' := by
  go_enter Tryd.func48, Tryd.ntmps48
  go_wp2
  go_ret2
  exact ⟨rfl, rfl⟩
set_option maxHeartbeats 400000 in
theorem yes (A : Option Addr) (n c : Nat) (l : List UInt8) (i : Nat) (size : Nat) (w : World) (hl : Bytes w A n c l) (hs0 : 0 < size) (hs8 : size ≤ 8) (hs : i + size ≤ n) :
    Calls Tryd.prog 48 #[.slice A n c, .int .i64 (i : Int), .int .i64 (size : Int)] w fun e w' => e = .returned (.tuple #[.int .u64 (be ((l.drop i).take size) : Nat), .int .i64 0]) ∧ w = w' := by
  obtain ⟨b, off, rfl, hb, hc⟩ := hl.at_ (by omega)
  have hn := hl.le
  have hcap := hl.2.1
  have H := Lib.hid hl.len
  have h1 : (i : Int) ≤ (n : Int) := by omega
  have h2 : (size : Int) ≤ (n : Int) - i := by omega
  go_enter Tryd.func48, Tryd.ntmps48
  go_wp2
  go_loop [8, 32] (fun x k => ∃ j : Nat, j ≤ size ∧ k = .int .i64 j ∧ x = .int .u64 (be ((l.drop i).take j) : Nat)) (fun _ k => size - (intOf k).toNat)
  case atStart => exact ⟨0, Nat.zero_le _, rfl, rfl⟩
  case round =>
    obtain ⟨j, hj, rfl, rfl⟩ := hrel
    by_cases hlt : j < size
    · have hcj := hc (i + j) (by omega)
      rw [show off + (i + j) = off + i + j by omega] at hcj
      have hb8 := be_take_small l i j (by omega)
      have hcb := (l[i + j]?.getD 0).toNat_lt
      go_wp2
      go_round
      case rel => exact ⟨j + 1, by omega, by go_num, by rw [or_join _ _ hb8 hcb, be_take_succ l i j (by rw [H.out]; omega)]⟩
      case measure => simp [intOf]; omega
    · go_wp2
      go_ret2
      obtain rfl : j = size := by omega
      exact ⟨rfl, rfl⟩

theorem any (A : Option Addr) (n c : Nat) (l : List UInt8) (i : Int) (size : Nat) (w : World) (hl : Bytes w A n c l) (hs0 : 0 < size) (hs8 : size ≤ 8) :
    Calls Tryd.prog 48 #[.slice A n c, .int .i64 i, .int .i64 (size : Int)] w fun e w' => e = .returned (.tuple #[.int .u64 (getV l i size), .int .i64 (getE l i size)]) ∧ w = w' := by
  have hn := hl.le
  have hlen := hl.len
  by_cases h1 : i < 0
  · rw [getV, getE, if_pos (.inl h1), if_pos (.inl h1)]
    exact no1 A n c i size w h1
  · by_cases h2 : (n : Int) < i
    · rw [getV, getE, hlen, if_pos (.inr (.inl h2)), if_pos (.inr h2)]
      exact no2 A n c i size w (by omega) h2
    · by_cases h3 : (n : Int) - i < size
      · rw [getV, getE, hlen, if_pos (.inr (.inr h3)), if_neg (by omega), if_pos h3]
        exact no3 A n c i size w hn (by omega) (by omega) h3
      · rw [getV, getE, hlen, if_neg (by omega), if_neg (by omega), if_neg h3]
        obtain ⟨k, rfl⟩ := Int.eq_ofNat_of_zero_le (show 0 ≤ i by omega)
        exact yes A n c l k size w hl hs0 hs8 (by omega)

end wordsGet
namespace wordsGet
theorem get64 (A : Option Addr) (n c : Nat) (l : List UInt8) (i : Int) (w : World) (hl : Bytes w A n c l) :
    Calls Tryd.prog 37 #[.slice A n c, .int .i64 i] w fun e w' => e = .returned (.tuple #[.int .u64 (getV l i 8), .int .i64 (getE l i 8)]) ∧ w = w' := by
  go_enter Tryd.func37, Tryd.ntmps37
  go_wp2_with (go_at_call 48; refine (any A n c l i 8 w hl (by omega) (by omega)).mono ?_; rintro e w' ⟨rfl, rfl⟩)
  go_ret2
  exact ⟨rfl, rfl⟩
end wordsGet

namespace refGet
theorem no1 (A : Option Addr) (n c : Nat) (i : Int) (size : Int) (w : World) (h : i < 0) :
    Calls Tryd.prog 51 #[.slice A n c, .int .i64 i, .int .i64 size] w fun e w' => e = .returned (.tuple #[.int .u64 0, .int .i64 1]) ∧ w = w' := by
  go_enter Tryd.func51, Tryd.ntmps51
  go_wp2
  go_ret2
  exact ⟨rfl, rfl⟩
theorem no2 (A : Option Addr) (n c : Nat) (i : Int) (size : Int) (w : World) (h0 : 0 ≤ i) (h : (n : Int) < i) :
    Calls Tryd.prog 51 #[.slice A n c, .int .i64 i, .int .i64 size] w fun e w' => e = .returned (.tuple #[.int .u64 0, .int .i64 1]) ∧ w = w' := by
  go_enter Tryd.func51, Tryd.ntmps51
  go_wp2
  go_ret2
  exact ⟨rfl, rfl⟩
theorem no3 (A : Option Addr) (n c : Nat) (i : Int) (size : Int) (w : World) (hn : n ≤ 9223372036854775807) (h0 : 0 ≤ i) (h : i ≤ (n : Int)) (hs : (n : Int) - i < size) :
    Calls Tryd.prog 51 #[.slice A n c, .int .i64 i, .int .i64 size] w fun e w' => e = .returned (.tuple #[.int .u64 0, .int .i64 4]) ∧ w = w' := by
  go_enter Tryd.func51, Tryd.ntmps51
  go_wp2
  go_ret2
  exact ⟨rfl, rfl⟩
set_option maxHeartbeats 400000 in
theorem yes (A : Option Addr) (n c : Nat) (l : List UInt8) (i : Nat) (size : Nat) (w : World) (hl : Bytes w A n c l) (hs0 : 0 < size) (hs8 : size ≤ 8) (hs : i + size ≤ n) :
    Calls Tryd.prog 51 #[.slice A n c, .int .i64 (i : Int), .int .i64 (size : Int)] w fun e w' => e = .returned (.tuple #[.int .u64 (be ((l.drop i).take size) : Nat), .int .i64 0]) ∧ w = w' := by
  obtain ⟨b, off, rfl, hb, hc⟩ := hl.at_ (by omega)
  have hn := hl.le
  have hcap := hl.2.1
  have H := Lib.hid hl.len
  have h1 : (i : Int) ≤ (n : Int) := by omega
  have h2 : (size : Int) ≤ (n : Int) - i := by omega
  go_enter Tryd.func51, Tryd.ntmps51
  go_wp2
  go_loop [8, 9] (fun x k => ∃ j : Nat, j ≤ size ∧ k = .int .i64 j ∧ x = .int .u64 (be ((l.drop i).take j) : Nat)) (fun _ k => size - (intOf k).toNat)
  case atStart => exact ⟨0, Nat.zero_le _, rfl, rfl⟩
  case round =>
    obtain ⟨j, hj, rfl, rfl⟩ := hrel
    by_cases hlt : j < size
    · have hcj := hc (i + j) (by omega)
      have hb8 := be_take_small l i j (by omega)
      have hcb := (l[i + j]?.getD 0).toNat_lt
      go_wp2
      go_round
      case rel => exact ⟨j + 1, by omega, by go_num, by rw [or_join _ _ hb8 hcb, be_take_succ l i j (by rw [H.out]; omega)]⟩
      case measure => simp [intOf]; omega
    · go_wp2
      go_ret2
      obtain rfl : j = size := by omega
      exact ⟨rfl, rfl⟩

theorem any (A : Option Addr) (n c : Nat) (l : List UInt8) (i : Int) (size : Nat) (w : World) (hl : Bytes w A n c l) (hs0 : 0 < size) (hs8 : size ≤ 8) :
    Calls Tryd.prog 51 #[.slice A n c, .int .i64 i, .int .i64 (size : Int)] w fun e w' => e = .returned (.tuple #[.int .u64 (getV l i size), .int .i64 (getE l i size)]) ∧ w = w' := by
  have hn := hl.le
  have hlen := hl.len
  by_cases h1 : i < 0
  · rw [getV, getE, if_pos (.inl h1), if_pos (.inl h1)]
    exact no1 A n c i size w h1
  · by_cases h2 : (n : Int) < i
    · rw [getV, getE, hlen, if_pos (.inr (.inl h2)), if_pos (.inr h2)]
      exact no2 A n c i size w (by omega) h2
    · by_cases h3 : (n : Int) - i < size
      · rw [getV, getE, hlen, if_pos (.inr (.inr h3)), if_neg (by omega), if_pos h3]
        exact no3 A n c i size w hn (by omega) (by omega) h3
      · rw [getV, getE, hlen, if_neg (by omega), if_neg (by omega), if_neg h3]
        obtain ⟨k, rfl⟩ := Int.eq_ofNat_of_zero_le (show 0 ≤ i by omega)
        exact yes A n c l k size w hl hs0 hs8 (by omega)

end refGet
namespace refGet
theorem get32 (A : Option Addr) (n c : Nat) (l : List UInt8) (i : Int) (w : World) (hl : Bytes w A n c l) :
    Calls Tryd.prog 59 #[.slice A n c, .int .i64 i] w fun e w' => e = .returned (.tuple #[.int .u32 (getV l i 4), .int .i64 (getE l i 4)]) ∧ w = w' := by
  have hb := getV_lt l i
  go_enter Tryd.func59, Tryd.ntmps59
  go_wp2_with (go_at_call 51; refine (any A n c l i 4 w hl (by omega) (by omega)).mono ?_; rintro e w' ⟨rfl, rfl⟩)
  go_ret2
  exact ⟨rfl, rfl⟩
end refGet
namespace refGet
theorem get64 (A : Option Addr) (n c : Nat) (l : List UInt8) (i : Int) (w : World) (hl : Bytes w A n c l) :
    Calls Tryd.prog 40 #[.slice A n c, .int .i64 i] w fun e w' => e = .returned (.tuple #[.int .u64 (getV l i 8), .int .i64 (getE l i 8)]) ∧ w = w' := by
  go_enter Tryd.func40, Tryd.ntmps40
  go_wp2_with (go_at_call 51; refine (any A n c l i 8 w hl (by omega) (by omega)).mono ?_; rintro e w' ⟨rfl, rfl⟩)
  go_ret2
  exact ⟨rfl, rfl⟩
end refGet
end Go.Proofs.YtjfipijdjbbogaaDoor
/-
  A block of memory that is known whole; arrays of integers as lists of their cells.
-/
namespace Go.Proofs.YtjfipijdjbbogaaDoor
open Go.ChangeShapes Go.WideShapes Go.ChangeAt Go.RowKit
set_option linter.unusedVariables false
set_option linter.unusedSimpArgs false

/-- Block g holds just the cells cs, of type t, none frozen. -/
def Has (w : World) (g : Nat) (t : TypeId) (cs : List Value) : Prop := w.heap[g]? = some (.cells cs.toArray t (0, 0))

section
variable {w w' : World} {g : Nat} {t : TypeId} {cs : List Value}
theorem Has.lt (h : Has w g t cs) : g < w.heap.size := (Array.getElem?_eq_some_iff.1 h).1
theorem Has.cell (h : Has w g t cs) (i : Nat) : w.cell? ⟨g, i, none⟩ = cs[i]? := by
  rw [cell_of_row w g i cs.toArray t (0, 0) h]
  simp
theorem Has.froz (h : Has w g t cs) (i : Nat) : w.frozen? ⟨g, i, none⟩ = false := frozen_of_row w g i cs.toArray t h
theorem Has.new (w : World) (t : TypeId) (cs : List Value) : Has (w.alloc (.cells cs.toArray t)) w.heap.size t cs := heap_alloc_new w _
theorem Has.at_ {g' : Nat} (h : Has w g t cs) (e : g = g') : Has w g' t cs := e ▸ h
theorem Has.alloc (h : Has w g t cs) (o : Obj) : Has (w.alloc o) g t cs := (heap_alloc_old w o h.lt).trans h
theorem Has.set (h : Has w g t cs) (i : Nat) (v : Value) : Has (w.setCell ⟨g, i, none⟩ v) g t (cs.set i v) := by
  have := heap_setCell_same w g i cs.toArray t v h
  simpa [Has] using this
theorem Has.far (h : Has w g t cs) (p : Addr) (hp : g ≠ p.block) (v : Value) : Has (w.setCell p v) g t cs := (heap_setCell_other w p g v hp).trans h
theorem Has.keep {B : Nat} (h : Has w g t cs) (hb : Below B w w') (hg : g < B) : Has w' g t cs := (hb.block g hg).trans h
theorem Has.grown {row : Option Nat} (h : Has w g t cs) (hb : w.grownBy w' row) (hg : some g ≠ row) : Has w' g t cs := (hb.block g h.lt hg).trans h
end

/-- u32 as a cell -/
def uv (x : Nat) : Value := .int .u32 (x : Int)
theorem one_uv (l : List Nat) : ∀ u ∈ l.map uv, u.oneCell' = true := by
  intro u hu
  obtain ⟨c, _, rfl⟩ := List.mem_map.1 hu
  rfl
theorem below_drewN {B : Nat} {w w' : World} (h : Below B w w') (k : Nat) : Below B w (w'.drewN k) := ⟨h.os, h.tape, h.output, h.size, h.block⟩

/-- n words. -/
def wN (n : Nat) (f : Nat → Nat) : List Value := (List.range n).map fun j => uv (f j)
theorem wN_len {n : Nat} (f : Nat → Nat) : (wN n f).length = n := by simp [wN]
theorem wN_at {n : Nat} (f : Nat → Nat) (j : Nat) (h : j < n) : (wN n f)[j]? = some (.int .u32 (f j : Int)) := by simp [wN, h, uv]
theorem wN_set {n : Nat} (f g : Nat → Nat) (j : Nat) (h : ∀ i, i < n → i ≠ j → f i = g i) (v : Value) (hv : v = uv (g j)) : (wN n f).set j v = wN n g := by
  apply List.ext_getElem?
  intro i
  rw [List.getElem?_set]
  by_cases hi : i < n
  · by_cases hj : j = i
    · subst hj
      rw [if_pos rfl, if_pos (by simp [wN, hi]), wN_at g j hi, hv]
      rfl
    · rw [if_neg hj, wN_at f i hi, wN_at g i hi, h i hi (fun e => hj e.symm)]
  · have h1 : ∀ f : Nat → Nat, (wN n f)[i]? = none := fun f => by simp [wN]; omega
    by_cases hj : j = i
    · subst hj
      rw [if_pos rfl, if_neg (by simp [wN]; omega), h1]
    · rw [if_neg hj, h1, h1]
theorem wN_one {n : Nat} (f : Nat → Nat) : ∀ u ∈ wN n f, u.oneCell' = true := by
  intro u hu
  obtain ⟨c, _, rfl⟩ := List.mem_map.1 hu
  rfl
/-- A word out of an array that is no variable. -/
theorem run_index_word {P : Program} {T e : TypeId} {n : Nat} (hT : P.underlying T = some (.array n e)) (he : P.underlying e = some (.int .u32)) (hs : (P.info? e).map (·.size) = some 1)
    (l : List Nat) (hl : l.length = n) (j : Nat) (hj : j < n) (w : World) : (Instr.index T (.agg (l.map uv).toArray) (.int .i64 (j : Int))).run P w = .ok (.int .u32 ((l.getD j 0 : Nat) : Int)) w := by
  cases hq : P.info? e with
  | none => simp [hq] at hs
  | some i =>
    have h1 : i.size = 1 := by simpa [hq] using hs
    have h2 : (0 : Int) ≤ (j : Int) ∧ (j : Int) < (n : Int) := by omega
    have h3 : j < l.length := by omega
    simp [Instr.index, asIntOf, Sem.run_bind, Sem.run_pure, run_underlying hT, h2, sizeOf, typeInfo, hq, h1, part, isAgg, run_underlying he, h3, uv, hj]
/-- w' is w but for what block g holds. -/
structure Only (g : Nat) (w w' : World) : Prop where
  os : w'.os = w.os
  tape : w'.tape = w.tape
  output : w'.output = w.output
  size : w'.heap.size = w.heap.size
  block : ∀ k, k ≠ g → w'.heap[k]? = w.heap[k]?
theorem Only.below {B g : Nat} {a w w' : World} (h : Below B a w) (ho : Only g w w') (hg : B ≤ g) : Below B a w' :=
  ⟨ho.os.trans h.os, ho.tape.trans h.tape, ho.output.trans h.output, by rw [ho.size]; exact h.size, fun k hk => (ho.block k (by omega)).trans (h.block k hk)⟩
theorem Has.only {g k : Nat} {t : TypeId} {cs : List Value} {w w' : World} (h : Has w k t cs) (ho : Only g w w') (hk : k ≠ g) : Has w' k t cs := (ho.block k hk).trans h
theorem Only.cell {g : Nat} {w w' : World} (ho : Only g w w') (p : Addr) (hp : p.block ≠ g) : w'.cell? p = w.cell? p := by
  simp only [World.cell?, ho.block p.block hp]
theorem Only.setRow (w : World) (g : Nat) (cs : Array Value) : Only g w (w.setRow g cs) := ⟨rfl, rfl, rfl, by simp, fun k hk => setRow_other w g k cs hk⟩
theorem Only.setCell (w : World) (g i : Nat) (v : Value) : Only g w (w.setCell ⟨g, i, none⟩ v) := ⟨rfl, rfl, rfl, by simp, fun k hk => heap_setCell_other w ⟨g, i, none⟩ k v hk⟩
theorem Only.trans {g : Nat} {a b c : World} (h : Only g a b) (h' : Only g b c) : Only g a c :=
  ⟨h'.os.trans h.os, h'.tape.trans h.tape, h'.output.trans h.output, h'.size.trans h.size, fun k hk => (h'.block k hk).trans (h.block k hk)⟩
theorem Only.refl (g : Nat) (w : World) : Only g w w := ⟨rfl, rfl, rfl, rfl, fun _ _ => rfl⟩
theorem Only.drew {g : Nat} {a b : World} (h : Only g a b) : Only g a b.drew := ⟨h.os, h.tape, h.output, h.size, h.block⟩
theorem Only.drewN {g : Nat} {a b : World} (h : Only g a b) (k : Nat) : Only g a (b.drewN k) := ⟨h.os, h.tape, h.output, h.size, h.block⟩

section
variable {P : Program} {w : World} {ops : Array Oper} {rest : List Oper} {o : Oper} {a : Act} {Q : Exit → Act → World → Prop}
/-- A whole array is read out of its own block. -/
theorem wpList_load_has (hgd : o.guard = none) (ty : TypeId) (x : Operand) (ho : o.op = .load ty x) (g : Nat) (hx : a.eval x = .pointer (some ⟨g, 0, none⟩)) (t : TypeId) (cs : List Value) (H : Has w g t cs)
    (d : TypeDesc) (hu : P.underlying ty = some d) (hd : (match d with | .struct _ | .array _ _ => true | _ => false) = true) (hi : (P.info? ty).map (·.size) = some cs.length)
    (h : wpList P ops Q rest (a.put o.dst (.agg cs.toArray)) w) : wpList P ops Q (o :: rest) a w :=
  wpList_load_row hgd ty x ho g hx t cs.toArray (0, 0) d H hu hd (by simpa using hi) h
/-- A whole array is written into its own block. -/
theorem wpList_store_has (hgd : o.guard = none) (ty : TypeId) (x y : Operand) (ho : o.op = .store ty x y) (g : Nat) (hx : a.eval x = .pointer (some ⟨g, 0, none⟩)) (cs : List Value) (hy : a.eval y = .agg cs.toArray)
    (t : TypeId) (old : List Value) (H : Has w g t old) (hi : (P.info? ty).map (·.size) = some cs.length) (hold : old.length = cs.length) (h1 : ∀ u ∈ cs, u.oneCell' = true)
    (h : ∀ w', Only g w w' → Has w' g t cs → wpList P ops Q rest (a.put o.dst undef) w') : wpList P ops Q (o :: rest) a w :=
  wpList_store_row hgd ty x y ho g cs.toArray hx hy t old.toArray H (by simpa using hi) (by simpa using hold) (Array.all_eq_true_iff_forall_mem.2 fun v hv => h1 v (by simpa using hv))
    (h _ (Only.setRow w g _) (setRow_heap w g old.toArray _ t _ H))
/-- Two results: a value, and a whole array in its own block. -/
theorem ret_tmp_has {fn : Func} {R : Ending → World → Prop} {u p : Tmp} {ty : TypeId} (h : fn.results = #[.tmp u, .cell p ty]) (v : Value) (hv : a.tmps.getD u undef = v) (g : Nat) (hp : a.tmps.getD p undef = .pointer (some ⟨g, 0, none⟩)) (t : TypeId) (cs : List Value) (H : Has w g t cs)
    (d : TypeDesc) (hu : P.underlying ty = some d) (hd : (match d with | .struct _ | .array _ _ => true | _ => false) = true) (hi : (P.info? ty).map (·.size) = some cs.length)
    (hf : a.defers = []) (hR : R (.returned (.tuple #[v, .agg cs.toArray])) w) : bodyPost P fn R .ret a w := by
  refine bodyPost_ret ?_ hf hR
  have hl := run_loadVar_row (P := P) w g t ty cs.toArray (0, 0) d H hu hd (by simpa using hi)
  have hp' : a.tmps[p]?.getD undef = .pointer (some ⟨g, 0, none⟩) := by simpa using hp
  have hv' : a.tmps[u]?.getD undef = v := by simpa using hv
  simp [results, h, hp', hv', asAddr, hl]
/-- A result that is a whole array lies in its own block. -/
theorem ret_has {fn : Func} {R : Ending → World → Prop} {p : Tmp} {ty : TypeId} (h : fn.results = #[.cell p ty]) (g : Nat) (hp : a.tmps.getD p undef = .pointer (some ⟨g, 0, none⟩)) (t : TypeId) (cs : List Value) (H : Has w g t cs)
    (d : TypeDesc) (hu : P.underlying ty = some d) (hd : (match d with | .struct _ | .array _ _ => true | _ => false) = true) (hi : (P.info? ty).map (·.size) = some cs.length)
    (hf : a.defers = []) (hR : R (.returned (.agg cs.toArray)) w) : bodyPost P fn R .ret a w :=
  bodyPost_ret (results_cell_row h a.tmps w g t cs.toArray (0, 0) d hp H hu hd (by simpa using hi)) hf hR
end

/-! ### A row of which a part is taken -/
theorem Row.tail {w : World} {b off n c : Nat} {xs : List Value} (h : Row w (some ⟨b, off, none⟩) n c xs) (k : Nat) (hk : k ≤ n) : Row w (some ⟨b, off + k, none⟩) (n - k) (c - k) (xs.drop k) := by
  obtain ⟨h1, h2, h3, h0, h4⟩ := h
  refine ⟨by simp [h1], by omega, by omega, fun h => (by cases h), fun hn => ?_⟩
  obtain ⟨b', off', e, hb, hc⟩ := h4 (by omega)
  obtain ⟨rfl, rfl⟩ : b = b' ∧ off = off' := by cases e; exact ⟨rfl, rfl⟩
  refine ⟨_, _, rfl, hb, fun j hj => ?_⟩
  rw [Nat.add_assoc, hc (k + j) (by omega), List.getElem?_drop]
theorem Row.head {w : World} {b off n c : Nat} {xs : List Value} (h : Row w (some ⟨b, off, none⟩) n c xs) (k : Nat) (hk : k ≤ n) : Row w (some ⟨b, off, none⟩) k c (xs.take k) := by
  obtain ⟨h1, h2, h3, h0, h4⟩ := h
  refine ⟨by simp [h1]; omega, by omega, by omega, fun h => (by cases h), fun hn => ?_⟩
  obtain ⟨b', off', e, hb, hc⟩ := h4 (by omega)
  obtain ⟨rfl, rfl⟩ : b = b' ∧ off = off' := by cases e; exact ⟨rfl, rfl⟩
  refine ⟨_, _, rfl, hb, fun j hj => ?_⟩
  rw [hc j (by omega), List.getElem?_take, if_pos hj]
theorem Bytes.tail {w : World} {b off n c : Nat} {l : List UInt8} (h : Bytes w (some ⟨b, off, none⟩) n c l) (k : Nat) (hk : k ≤ n) : Bytes w (some ⟨b, off + k, none⟩) (n - k) (c - k) (l.drop k) := by
  rw [Bytes, List.map_drop]; exact Row.tail h k hk
theorem Bytes.head {w : World} {b off n c : Nat} {l : List UInt8} (h : Bytes w (some ⟨b, off, none⟩) n c l) (k : Nat) (hk : k ≤ n) : Bytes w (some ⟨b, off, none⟩) k c (l.take k) := by
  rw [Bytes, List.map_take]; exact Row.head h k hk
/-- A row out of a block that is known whole. -/
theorem Has.row {w : World} {g : Nat} {t : TypeId} {cs : List Value} (h : Has w g t cs) (o n c : Nat) (ho : o + n ≤ cs.length) (hn : n ≤ c) (hc : c ≤ maxLen) : Row w (some ⟨g, o, none⟩) n c ((cs.drop o).take n) := by
  refine ⟨by simp; omega, hn, hc, fun h => (by cases h), fun _ => ⟨_, _, rfl, h.lt, fun j hj => ?_⟩⟩
  rw [h.cell, List.getElem?_take, if_pos hj, List.getElem?_drop]
/-- The row A, of n elements, lies in no place of block g. -/
def Off (g : Nat) (A : Option Addr) (n : Nat) : Prop := 0 < n → ∀ p, A = some p → p.block ≠ g
theorem Off.of_row {w : World} {g : Nat} {A : Option Addr} {n c : Nat} {xs : List Value} (h : Row w A n c xs) (hg : w.heap.size ≤ g) : Off g A n := fun hn p hp => by
  obtain ⟨b, off, e, hb, _⟩ := h.2.2.2.2 hn
  subst hp
  cases e
  show b ≠ g
  omega
theorem own_off {w : World} {base g : Nat} {e : TypeId} {n n' c : Nat} {A : Option Addr} {xs : List Value} (h : w.ownsRow base e 1 (.slice A n' c) n xs) (hg : g < base) (k : Nat) : Off g A k := by
  intro _ p hp
  subst hp
  obtain ⟨_, h2⟩ := h
  rcases h2 with ⟨h2, _⟩ | ⟨g', cap, cur, h2, hb, _⟩
  · cases h2
  · cases h2
    intro e
    have e' : g' = g := e
    omega
theorem Row.only {g : Nat} {w w' : World} {A : Option Addr} {n c : Nat} {xs : List Value} (h : Row w A n c xs) (ho : Only g w w') (hA : Off g A n) : Row w' A n c xs := by
  obtain ⟨h1, h2, h3, h0, h4⟩ := h
  refine ⟨h1, h2, h3, h0, fun hn => ?_⟩
  obtain ⟨b, off, rfl, hb, hc⟩ := h4 hn
  exact ⟨b, off, rfl, by rw [ho.size]; exact hb, fun j hj => (ho.cell ⟨b, off + j, none⟩ (hA hn ⟨b, off, none⟩ rfl)).trans (hc j hj)⟩
/-- w' is w but for what block g holds and for new blocks. -/
structure Save (g : Nat) (w w' : World) : Prop where
  os : w'.os = w.os
  tape : w'.tape = w.tape
  output : w'.output = w.output
  size : w.heap.size ≤ w'.heap.size
  block : ∀ k, k < w.heap.size → k ≠ g → w'.heap[k]? = w.heap[k]?
theorem Save.refl (g : Nat) (w : World) : Save g w w := ⟨rfl, rfl, rfl, Nat.le_refl _, fun _ _ _ => rfl⟩
theorem Save.trans {g : Nat} {a b c : World} (h : Save g a b) (h' : Save g b c) : Save g a c :=
  ⟨h'.os.trans h.os, h'.tape.trans h.tape, h'.output.trans h.output, Nat.le_trans h.size h'.size, fun k hk hg => (h'.block k (Nat.lt_of_lt_of_le hk h.size) hg).trans (h.block k hk hg)⟩
theorem Only.save {g : Nat} {w w' : World} (h : Only g w w') : Save g w w' := ⟨h.os, h.tape, h.output, Nat.le_of_eq h.size.symm, fun k _ hg => h.block k hg⟩
theorem Save.new {g b : Nat} {a w w' : World} (h : Save g a w) (ho : Only b w w') (hb : a.heap.size ≤ b) : Save g a w' :=
  ⟨ho.os.trans h.os, ho.tape.trans h.tape, ho.output.trans h.output, by rw [ho.size]; exact h.size, fun k hk hg => (ho.block k (by omega)).trans (h.block k hk hg)⟩
theorem Save.of_below {g : Nat} {w w' : World} (h : Below w.heap.size w w') : Save g w w' := ⟨h.os, h.tape, h.output, h.size, fun k hk _ => h.block k hk⟩
theorem Save.drew {g : Nat} {a b : World} (h : Save g a b) : Save g a b.drew := ⟨h.os, h.tape, h.output, h.size, h.block⟩
theorem Save.drewN {g : Nat} {a b : World} (h : Save g a b) (k : Nat) : Save g a (b.drewN k) := ⟨h.os, h.tape, h.output, h.size, h.block⟩
theorem Save.below {B g : Nat} {a w w' : World} (h : Below B a w) (ho : Save g w w') (hg : B ≤ g) (hB : B ≤ w.heap.size) : Below B a w' :=
  ⟨ho.os.trans h.os, ho.tape.trans h.tape, ho.output.trans h.output, Nat.le_trans h.size ho.size, fun k hk => (ho.block k (by omega) (by omega)).trans (h.block k hk)⟩
theorem Row.save {g : Nat} {w w' : World} {A : Option Addr} {n c : Nat} {xs : List Value} (h : Row w A n c xs) (ho : Save g w w') (hA : Off g A n) : Row w' A n c xs := by
  obtain ⟨h1, h2, h3, h0, h4⟩ := h
  refine ⟨h1, h2, h3, h0, fun hn => ?_⟩
  obtain ⟨b, off, rfl, hb, hc⟩ := h4 hn
  refine ⟨b, off, rfl, Nat.lt_of_lt_of_le hb ho.size, fun j hj => ?_⟩
  rw [← hc j hj]
  simp only [World.cell?, ho.block b hb (hA hn _ rfl)]
theorem Has.save {g k : Nat} {t : TypeId} {cs : List Value} {w w' : World} (h : Has w k t cs) (ho : Save g w w') (hk : k ≠ g) : Has w' k t cs := (ho.block k h.lt hk).trans h

/-! ### Many cells written -/
theorem Only.setCells (g : Nat) : ∀ (vs : List Value) (o : Nat) (w : World), Only g w (w.setCells g o vs)
  | [], _, w => Only.refl g w
  | v :: r, o, w => (Only.setCell w g o v).trans (Only.setCells g r (o + 1) _)
theorem splice_nil {α : Type} (L : List α) (o : Nat) : splice L o [] = L := by simp [splice]
theorem splice_cons {α : Type} (L : List α) (o : Nat) (v : α) (r : List α) (h : o < L.length) : splice (L.set o v) (o + 1) r = splice L o (v :: r) := by
  simp only [splice, List.length_cons, List.cons_append]
  rw [List.drop_set_of_lt (by omega), List.take_add_one, List.getElem?_set_self h, List.take_set_of_le (Nat.le_refl _)]
  simp
  congr 1
  omega
theorem Has.setCells {g : Nat} {t : TypeId} : ∀ (vs : List Value) (o : Nat) (w : World) (cs : List Value), Has w g t cs → o + vs.length ≤ cs.length → Has (w.setCells g o vs) g t (splice cs o vs)
  | [], o, w, cs, h, _ => by rw [splice_nil]; exact h
  | v :: r, o, w, cs, h, hl => by
    have hl' : o < cs.length := by simp at hl; omega
    have := Has.setCells r (o + 1) (w.setCell ⟨g, o, none⟩ v) (cs.set o v) (h.set o v) (by simp at hl ⊢; omega)
    rw [splice_cons cs o v r hl'] at this
    exact this
theorem Has.there {w : World} {g : Nat} {t : TypeId} {cs : List Value} (h : Has w g t cs) (o n : Nat) (hn : o + n ≤ cs.length) : w.there g o n := fun j hj => by
  rw [h.cell, h.froz]
  simp
  omega
theorem Has.range {w : World} {g : Nat} {t : TypeId} {cs : List Value} (h : Has w g t cs) (o : Nat) (xs : List Value) (hx : (cs.drop o).take xs.length = xs) : w.rangeAt g o xs := fun j v hv => by
  have hj : j < xs.length := (List.getElem?_eq_some_iff.1 hv).1
  rw [h.cell, ← hv, ← List.getElem?_drop]
  conv => rhs; rw [← hx]
  rw [List.getElem?_take, if_pos hj]

/-- Many cells are written into a part of a block that is known whole. -/
theorem run_cells_has {P : Program} {w : World} {g : Nat} {t : TypeId} {cs : List Value} (H : Has w g t cs) (o : Nat) (vs : List Value) (h : o + vs.length ≤ cs.length) (h1 : ∀ u ∈ vs, u.oneCell' = true) :
    ∃ w', Only g w w' ∧ Has w' g t (splice cs o vs) ∧ Sem.run P (storeCells ⟨g, o, none⟩ vs) w = .ok () w' := by
  refine ⟨w.setCells g o vs, Only.setCells g vs o w, Has.setCells vs o w cs H h, ?_⟩
  have ht := H.there o vs.length h
  have := run_storeCells_cells (P := P) g o vs 0 w (fun j hj => by simpa using (ht j hj).1) (fun j hj => by simpa using (ht j hj).2) h1
  simpa using this
/-! ### copy into a part of a block that is known whole -/
section
variable {P : Program} {w : World} {o : Oper} {a : Act} {Q : Exit → Act → World → Prop}
theorem wp_copy_has {K : Act → World → Prop} (d s : Operand) (dT sT : TypeId) (ho : o.op = .call { callee := .builtin .copy, args := #[d, s], argTypes := #[dT, sT] }) (e : TypeId) (hu : P.underlying dT = some (.slice e)) (hsz : (P.info? e).map (·.size) = some 1)
    (g off dn dc : Nat) (hd : a.eval d = .slice (some ⟨g, off, none⟩) dn dc) (A : Option Addr) (n c : Nat) (hs : a.eval s = .slice A n c) (xs : List Value) (hr : Row w A n c xs) (t : TypeId) (cur : List Value) (H : Has w g t cur)
    (k : Nat) (hk : k = Nat.min n dn) (hfit : off + k ≤ cur.length) (h1 : ∀ v ∈ xs, v.oneCell' = true)
    (h : ∀ w', Only g w w' → Has w' g t (splice cur off (xs.take k)) → K (a.put o.dst (.int .i64 (k : Int))) w') : o.wp P a w K Q := by
  have hkl : k ≤ n := by subst hk; exact Nat.min_le_left _ _
  have hlen : (xs.take k).length = k := by rw [List.length_take, hr.1]; omega
  rcases Nat.eq_zero_or_pos k with h0 | h0
  · subst h0
    have hrun := run_copy_none (P := P) w dT sT o.type e (some ⟨g, off, none⟩) A dn dc n c hu hsz hk.symm
    unfold Oper.wp
    simp [execOp, ho, resolve, invoke, builtin, hd, hs, hrun, Result.andThen, goInt]
    exact h w (Only.refl g w) (by rw [List.take_zero, splice_nil]; exact H)
  · obtain ⟨ad, rfl, hsrc⟩ := Row.src hr (w2 := w) (fun _ _ => rfl) (by rw [hr.1]; omega)
    have hrun := run_copy_row (P := P) w dT sT o.type e g off dn dc ad n c cur.toArray t (xs.take k) hu hsz H (by rw [hlen]; exact hk)
      (fun j v hj => hsrc j v (by rw [List.getElem?_take] at hj; split at hj; exact hj; cases hj)) (by rw [hlen]; simpa using hfit) (fun v hv => h1 v (List.mem_of_mem_take hv))
    have e1 : min k xs.length = k := by rw [hr.1]; omega
    unfold Oper.wp
    simp [execOp, ho, resolve, invoke, builtin, hd, hs, hrun, Result.andThen, goInt, e1]
    have h2 := h _ (Only.setRow w g (splice cur off (xs.take k)).toArray) (setRow_heap w g cur.toArray _ t _ H)
    simp [splice, e1] at h2
    exact h2
theorem wpList_copy_has {ops : Array Oper} {rest : List Oper} (hgd : o.guard = none) (d s : Operand) (dT sT : TypeId) (ho : o.op = .call { callee := .builtin .copy, args := #[d, s], argTypes := #[dT, sT] }) (e : TypeId) (hu : P.underlying dT = some (.slice e)) (hsz : (P.info? e).map (·.size) = some 1)
    (g off dn dc : Nat) (hd : a.eval d = .slice (some ⟨g, off, none⟩) dn dc) (A : Option Addr) (n c : Nat) (hs : a.eval s = .slice A n c) (xs : List Value) (hr : Row w A n c xs) (t : TypeId) (cur : List Value) (H : Has w g t cur)
    (k : Nat) (hk : k = Nat.min n dn) (hfit : off + k ≤ cur.length) (h1 : ∀ v ∈ xs, v.oneCell' = true)
    (h : ∀ w', Only g w w' → Has w' g t (splice cur off (xs.take k)) → wpList P ops Q rest (a.put o.dst (.int .i64 (k : Int))) w') : wpList P ops Q (o :: rest) a w :=
  wpList_plain hgd fun _ hK => wp_copy_has d s dT sT ho e hu hsz g off dn dc hd A n c hs xs hr t cur H k hk hfit h1 fun w' h2 h3 => hK _ _ (h w' h2 h3)
theorem step_copy_has {ops : Array Oper} {K : Act → World → Prop} {E : Prop} (hgd : o.guard = none) (d s : Operand) (dT sT : TypeId) (ho : o.op = .call { callee := .builtin .copy, args := #[d, s], argTypes := #[dT, sT] }) (e : TypeId) (hu : P.underlying dT = some (.slice e)) (hsz : (P.info? e).map (·.size) = some 1)
    (g off dn dc : Nat) (hd : a.eval d = .slice (some ⟨g, off, none⟩) dn dc) (A : Option Addr) (n c : Nat) (hs : a.eval s = .slice A n c) (xs : List Value) (hr : Row w A n c xs) (t : TypeId) (cur : List Value) (H : Has w g t cur)
    (k : Nat) (hk : k = Nat.min n dn) (hfit : off + k ≤ cur.length) (h1 : ∀ v ∈ xs, v.oneCell' = true)
    (h : ∀ w', Only g w w' → Has w' g t (splice cur off (xs.take k)) → K (a.put o.dst (.int .i64 (k : Int))) w') : if Region.wanted o (yielded ops a.tmps) = true then Oper.wp P o a w K Q else E := by
  have hw : Region.wanted o (yielded ops a.tmps) = true := by simp [Region.wanted, hgd]
  rw [if_pos hw]
  exact wp_copy_has d s dT sT ho e hu hsz g off dn dc hd A n c hs xs hr t cur H k hk hfit h1 h
end
end Go.Proofs.YtjfipijdjbbogaaDoor
/-
  Contracts of words.Rot and of the reference's Rot.
-/
namespace Go.Proofs.YtjfipijdjbbogaaDoor
open Go.ChangeShapes Go.WideShapes Go.ChangeAt Go.RowKit
set_option linter.unusedVariables false
set_option linter.unusedSimpArgs false

/-- x turned right by k, 0 ≤ k < 32 -/
def rotN (x k : Nat) : Nat := x / 2 ^ k ||| x * 2 ^ (32 - k) % 4294967296
theorem rotN_zero (x : Nat) (h : x < 4294967296) : rotN x 0 = x := by
  have e : x * 2 ^ (32 - 0) % 4294967296 = 0 := by omega
  rw [rotN, e]
  simp
theorem rotN_lt (x k : Nat) (h : x < 4294967296) : rotN x k < 4294967296 := by
  have h1 : x / 2 ^ k < 2 ^ 32 := Nat.lt_of_le_of_lt (Nat.div_le_self _ _) h
  exact Nat.or_lt_two_pow (n := 32) h1 (Nat.mod_lt _ (by decide))
theorem and31 (n : Int) : bits .and .i64 n 31 = (((n % 32).toNat : Nat) : Int) := by
  show IntKind.i64.wrap ((BitVec.ofInt 64 n &&& BitVec.ofInt 64 31).toNat : Int) = _
  have e1 : (BitVec.ofInt 64 31).toNat = 2 ^ 5 - 1 := by decide
  rw [BitVec.toNat_and, e1, Nat.and_two_pow_sub_one_eq_mod, BitVec.toNat_ofInt, IntKind.wrap_i64]
  omega
theorem rot_or (x k : Nat) (hx : x < 4294967296) : bits .or .u32 ((x : Int) / 2 ^ k) ((x : Int) * 2 ^ (32 - k) % 4294967296) = ((rotN x k : Nat) : Int) := by
  have h1 : x / 2 ^ k < 4294967296 := Nat.lt_of_le_of_lt (Nat.div_le_self _ _) hx
  have h := u32_or_nat (x / 2 ^ k) (x * 2 ^ (32 - k) % 4294967296) h1 (Nat.mod_lt _ (by decide))
  rw [rotN, ← h]
  congr 1

theorem rotN_bit (x k i : Nat) (hx : x < 4294967296) (hk : k < 32) (hi : i < 32) : (rotN x k).testBit i = x.testBit ((i + k) % 32) := by
  rw [rotN, Nat.testBit_or, Nat.testBit_div_two_pow]
  rw [show 4294967296 = 2 ^ 32 from rfl, Nat.testBit_mod_two_pow, Nat.mul_comm, Nat.testBit_two_pow_mul]
  by_cases h : i + k < 32
  · rw [Nat.mod_eq_of_lt h]
    have h2 : ¬ (i ≥ 32 - k) := by omega
    simp [h2]
  · have h1 : x.testBit (i + k) = false := Nat.testBit_lt_two_pow (Nat.lt_of_lt_of_le hx (Nat.pow_le_pow_right (n := 2) (i := 32) (by omega) (by omega)))
    have h2 : i ≥ 32 - k := by omega
    have h3 : (i + k) % 32 = i - (32 - k) := by omega
    rw [h1, h3]
    simp [hi, h2]
theorem rotN_rotN (x a b c : Nat) (hx : x < 4294967296) (ha : a < 32) (hb : b < 32) (hc : c = (a + b) % 32) : rotN (rotN x a) b = rotN x c := by
  refine Nat.eq_of_testBit_eq fun i => ?_
  have hr := rotN_lt x a hx
  by_cases hi : i < 32
  · rw [rotN_bit _ _ _ hr hb hi, rotN_bit _ _ _ hx ha (Nat.mod_lt _ (by omega)), rotN_bit _ _ _ hx (by omega) hi]
    congr 1
    omega
  · have h2 : ∀ y, y < 4294967296 → y.testBit i = false := fun y hy => Nat.testBit_lt_two_pow (Nat.lt_of_lt_of_le hy (Nat.pow_le_pow_right (n := 2) (i := 32) (by omega) (by omega)))
    rw [h2 _ (rotN_lt _ _ hr), h2 _ (rotN_lt _ _ hx)]
theorem bit1 (x i : Nat) (hx : x < 4294967296) : bits .and .u32 ((x : Int) / 2 ^ i) 1 = ((x / 2 ^ i % 2 : Nat) : Int) := by
  have h1 : x / 2 ^ i < 4294967296 := Nat.lt_of_le_of_lt (Nat.div_le_self _ _) hx
  have h := u32_and_nat (x / 2 ^ i) 1 h1 (by omega)
  rw [nat_mask1] at h
  rw [← h]
  congr 1
theorem bit_eq (x y i j : Nat) (h : x.testBit i = y.testBit j) : x / 2 ^ i % 2 = y / 2 ^ j % 2 := by
  have e : ∀ z k : Nat, z / 2 ^ k % 2 = (z.testBit k).toNat := fun z k => by
    rw [Nat.testBit_eq_decide_div_mod_eq]
    rcases Nat.mod_two_eq_zero_or_one (z / 2 ^ k) with h | h <;> simp [h]
  rw [e, e, h]

theorem tmod_cases (n b : Int) : (0 ≤ n ∧ n.tmod b = n % b) ∨ (n < 0 ∧ n.tmod b = -((-n) % b)) := by
  rcases Int.lt_or_le n 0 with h | h
  · refine .inr ⟨h, ?_⟩
    have e : (-n).tmod b = (-n) % b := Int.tmod_eq_emod_of_nonneg (by omega)
    rw [← e, Int.neg_tmod, Int.neg_neg]
  · exact .inl ⟨h, Int.tmod_eq_emod_of_nonneg h⟩

theorem wordsRot (x : Nat) (n : Int) (w : World) (hx : x < 4294967296) :
    Calls Tryd.prog 72 #[.int .u32 (x : Int), .int .i64 n] w fun e w' => e = .returned (.int .u32 ((rotN x (n % 32).toNat : Nat) : Int)) ∧ ∃ k, w' = w.drewN k := by
  have h31 := and31 n
  have hk : (n % 32).toNat ≤ 31 := by omega
  generalize (n % 32).toNat = k at *
  have hz : (0 : Int) ≤ 32 - (k : Int) := by omega
  go_enter Tryd.func72, Tryd.ntmps72
  go_wp2
  go_quiet (fail)
  go_wp2
  go_ret
  exact ⟨ret_int (rot_or x k hx), _, rfl⟩
theorem refRot (x : Nat) (n : Int) (w : World) (hx : x < 4294967296) :
    Calls Tryd.prog 69 #[.int .u32 (x : Int), .int .i64 n] w fun e w' => e = .returned (.int .u32 ((rotN x (n % 32).toNat : Nat) : Int)) ∧ w = w' := by
  have h1 := tmod_cases n 32
  have h2 : (n.tmod 32 + 32) % 32 = (((n % 32).toNat : Nat) : Int) := by omega
  have h3 : -31 ≤ n.tmod 32 ∧ n.tmod 32 ≤ 31 := by omega
  clear h1
  have hk : (n % 32).toNat ≤ 31 := by omega
  generalize ht : n.tmod 32 = t at *
  generalize (n % 32).toNat = k at *
  by_cases h0 : k = 0
  · subst h0
    rw [rotN_zero x hx]
    go_enter Tryd.func69, Tryd.ntmps69
    go_wp2
    go_ret
    exact ⟨rfl, rfl⟩
  · have h4 : ((k : Int) == 0) = false := by simp [h0]
    go_enter Tryd.func69, Tryd.ntmps69
    go_wp2
    go_ret
    exact ⟨ret_int (rot_or x k hx), rfl⟩
end Go.Proofs.YtjfipijdjbbogaaDoor
/-
  'append(s, x...)' of bytes, as one step of a region that draws its order.
-/
namespace Go.Proofs.YtjfipijdjbbogaaDoor
open Go.ChangeShapes Go.WideShapes Go.ChangeAt Go.RowKit
set_option linter.unusedVariables false
set_option linter.unusedSimpArgs false

/-- 'append(s, x...)' of bytes, as one step of a region that draws its order. -/
theorem step_app8 {ops : Array Oper} {o : Oper} {a : Act} {w : World} {K : Act → World → Prop} {Q : Exit → Act → World → Prop} {E : Prop} (hgd : o.guard = none) (s x : Operand)
    (ho : o.op = .call { callee := .builtin .append, args := #[s, x], argTypes := #[52, 52] })
    (base : Nat) (v : Value) (n : Nat) (l : List UInt8) (hs : a.eval s = v) (hown : w.ownsRow base 5 1 v n (l.map bv))
    (A : Option Addr) (m c : Nat) (l' : List UInt8) (hx : a.eval x = .slice A m c) (hr : Bytes w A m c l') (hbytes : n + m ≤ 140737488355328) (hbase : base ≤ w.heap.size)
    (h : ∀ v' w', w'.ownsRow base 5 1 v' (n + m) ((l ++ l').map bv) → w.grownBy w' v.ownBlock → K (a.put o.dst v') w') :
    if Region.wanted o (yielded ops a.tmps) = true then Oper.wp Tryd.prog o a w K Q else E := by
  have hw : Region.wanted o (yielded ops a.tmps) = true := by simp [Region.wanted, hgd]
  rw [if_pos hw]
  obtain ⟨i0, hi, hz0, hz1, hz2⟩ := info_parts Tryd.info8
  obtain ⟨r1, r2, r5, r3, r4⟩ := hr
  rcases A with _ | ad
  · obtain rfl := r3 rfl
    have hm0 : m = 0 := by omega
    subst hm0
    obtain rfl : l' = [] := by simpa using r1
    have hrun := run_append_owned_none (P := Tryd.prog) (w := w) base 52 o.type 5 i0 1 Tryd.underlying52 hi v n (l.map bv) hown
    unfold Oper.wp
    simp [execOp, ho, resolve, invoke, builtin, hs, hx, hrun, Result.andThen]
    exact h v w (by simpa using hown) ⟨rfl, rfl, rfl, Nat.le_refl _, fun _ _ _ => rfl⟩
  · have hnews : ∀ j u, (l'.map bv)[j]? = some u → w.cell? (ad.add j) = some u := by
      intro j u hu
      have hj : j < (l'.map bv).length := (List.getElem?_eq_some_iff.1 hu).1
      obtain ⟨b, off, e0, _, hc⟩ := r4 (by omega)
      have e0 := Option.some.inj e0
      subst e0
      rw [add_plain, hc j (by omega), hu]
    exact wp_append_own w s x 52 ho base 5 i0 (.int .u8 0) 1 1 Tryd.underlying52 hi hz0 hz1 hz2 rfl (by decide) v n (l.map bv) hs hown ad m c (l'.map bv) hx (by omega) hnews (one_bv l') (by unfold maxLen; omega) (by omega) hbase fun v' w' h2 h3 _ => h v' w' (by rw [List.map_append]; exact h2) h3

end Go.Proofs.YtjfipijdjbbogaaDoor
/-
  Keys (32 bytes) as values: equal ones are equal; a new one; one stored into a block, loaded, returned.
-/
namespace Go.Proofs.YtjfipijdjbbogaaDoor
open Go.ChangeShapes Go.WideShapes Go.ChangeAt Go.RowKit
set_option linter.unusedVariables false
set_option linter.unusedSimpArgs false

theorem eq_key (l : List UInt8) (hl : l.length = 32) (w : World) : (Op.equalIn 10000 23 (.agg (l.map bv).toArray) (.agg (l.map bv).toArray)).run Tryd.prog w = .ok true w := by
  have h := run_equalIn_bytes (P := Tryd.prog) w 9998 23 5 32 Tryd.underlying23 Tryd.underlying5 (fun u => by kernel_rfl) l l hl hl
  have e : (l == l) = true := by simp
  rw [e] at h
  exact h
/-- A new key: 32 bytes 0. -/
def zkey : List Value := (List.replicate 32 0 : List UInt8).map bv
theorem newKey (w : World) : Has (w.alloc (.cells #[.int .u8 0, .int .u8 0, .int .u8 0, .int .u8 0, .int .u8 0, .int .u8 0, .int .u8 0, .int .u8 0, .int .u8 0, .int .u8 0, .int .u8 0, .int .u8 0, .int .u8 0, .int .u8 0, .int .u8 0, .int .u8 0, .int .u8 0, .int .u8 0, .int .u8 0, .int .u8 0, .int .u8 0, .int .u8 0, .int .u8 0, .int .u8 0, .int .u8 0, .int .u8 0, .int .u8 0, .int .u8 0, .int .u8 0, .int .u8 0, .int .u8 0, .int .u8 0] 23)) w.heap.size 23 zkey := Has.new w 23 zkey
theorem newKey_below {B : Nat} {a w : World} (h : Below B a w) (hB : B ≤ w.heap.size) : Below B a (w.alloc (.cells #[.int .u8 0, .int .u8 0, .int .u8 0, .int .u8 0, .int .u8 0, .int .u8 0, .int .u8 0, .int .u8 0, .int .u8 0, .int .u8 0, .int .u8 0, .int .u8 0, .int .u8 0, .int .u8 0, .int .u8 0, .int .u8 0, .int .u8 0, .int .u8 0, .int .u8 0, .int .u8 0, .int .u8 0, .int .u8 0, .int .u8 0, .int .u8 0, .int .u8 0, .int .u8 0, .int .u8 0, .int .u8 0, .int .u8 0, .int .u8 0, .int .u8 0, .int .u8 0] 23)) := h.alloc hB _
theorem size_key : (Tryd.prog.info? 23).map (·.size) = some 32 := by kernel_rfl
section
variable {w : World} {ops : Array Oper} {rest : List Oper} {o : Oper} {a : Act} {Q : Exit → Act → World → Prop}
theorem wpList_store_key (hgd : o.guard = none) (x y : Operand) (ho : o.op = .store 23 x y) (g : Nat) (hx : a.eval x = .pointer (some ⟨g, 0, none⟩)) (l : List UInt8) (hl : l.length = 32) (hy : a.eval y = .agg (l.map bv).toArray)
    (old : List Value) (H : Has w g 23 old) (hold : old.length = 32)
    (h : ∀ w', Only g w w' → Has w' g 23 (l.map bv) → wpList Tryd.prog ops Q rest (a.put o.dst undef) w') : wpList Tryd.prog ops Q (o :: rest) a w :=
  wpList_store_has hgd 23 x y ho g hx (l.map bv) hy 23 old H (by rw [List.length_map, hl]; exact size_key) (by rw [List.length_map, hl, hold]) (one_bv l) h
theorem wpList_load_key (hgd : o.guard = none) (x : Operand) (ho : o.op = .load 23 x) (g : Nat) (hx : a.eval x = .pointer (some ⟨g, 0, none⟩)) (l : List UInt8) (hl : l.length = 32) (H : Has w g 23 (l.map bv))
    (h : wpList Tryd.prog ops Q rest (a.put o.dst (.agg (l.map bv).toArray)) w) : wpList Tryd.prog ops Q (o :: rest) a w :=
  wpList_load_has hgd 23 x ho g hx 23 (l.map bv) H _ Tryd.underlying23 rfl (by rw [List.length_map, hl]; exact size_key) h
theorem ret_key {fn : Func} {R : Ending → World → Prop} {p : Tmp} (h : fn.results = #[.cell p 23]) (g : Nat) (hp : a.tmps.getD p undef = .pointer (some ⟨g, 0, none⟩)) (l : List UInt8) (hl : l.length = 32) (H : Has w g 23 (l.map bv))
    (hf : a.defers = []) (hR : R (.returned (.agg (l.map bv).toArray)) w) : bodyPost Tryd.prog fn R .ret a w :=
  ret_has h g hp 23 (l.map bv) H _ Tryd.underlying23 rfl (by rw [List.length_map, hl]; exact size_key) hf hR
end
theorem Has.bytes {w : World} {g : Nat} {t : TypeId} {l : List UInt8} (h : Has w g t (l.map bv)) (n : Nat) (hn : l.length = n) (hm : n ≤ maxLen) : Bytes w (some ⟨g, 0, none⟩) n n l := by
  have := h.row 0 n n (by rw [List.length_map]; omega) (Nat.le_refl _) hm
  rw [List.drop_zero, List.take_of_length_le (by rw [List.length_map]; omega)] at this
  exact this
theorem zkey_len : zkey.length = 32 := rfl
end Go.Proofs.YtjfipijdjbbogaaDoor
