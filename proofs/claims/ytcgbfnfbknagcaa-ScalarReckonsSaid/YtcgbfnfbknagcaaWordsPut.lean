/-
  Contracts of words.Put32, words.Put64 and of the reference's Put32, Put64.
-/
import Derived.Test.YtcgbfnfbknagcaaBase
namespace Go.Proofs.Ytcgbfnfbknagcaa
open Go.ChangeShapes Go.WideShapes Go.ChangeAt Go.RowKit
set_option linter.unusedVariables false
set_option linter.unusedSimpArgs false

/-- What 'put' lays behind the bytes. -/
def putB (x size j : Nat) : List UInt8 := (List.range j).map fun i => UInt8.ofNat (x / 2 ^ (8 * (size - 1 - i)))
def be32 (x : Nat) : List UInt8 := [UInt8.ofNat (x / 16777216), UInt8.ofNat (x / 65536), UInt8.ofNat (x / 256), UInt8.ofNat x]
def be64 (x : Nat) : List UInt8 := be32 (x / 4294967296) ++ be32 (x % 4294967296)
theorem putB_len (x size j : Nat) : (putB x size j).length = j := by simp [putB]
theorem putB_succ (x size j : Nat) : putB x size (j + 1) = putB x size j ++ [UInt8.ofNat (x / 2 ^ (8 * (size - 1 - j)))] := by simp [putB, List.range_succ]
theorem putB4 (x : Nat) : putB x 4 4 = be32 x := by simp [putB, be32, List.range_succ]
theorem u8_mod (a b : Nat) (h : a % 256 = b % 256) : UInt8.ofNat a = UInt8.ofNat b := by
  apply UInt8.toNat_inj.1
  simpa using h
theorem putB8 (x : Nat) : putB x 8 8 = be64 x := by
  simp only [putB, be64, be32, List.range_succ, List.range_zero, List.map_cons, List.map_nil, List.nil_append, List.cons_append]
  have e : ∀ a b : Nat, x / a / b = x / (a * b) := fun a b => Nat.div_div_eq_div_mul x a b
  simp only [e]
  congr 1
  congr 1
  congr 1
  congr 1
  congr 1
  · exact u8_mod _ _ (by omega)
  congr 1
  · exact u8_mod _ _ (by omega)
  congr 1
  · exact u8_mod _ _ (by omega)
  congr 1
  exact u8_mod _ _ (by omega)
theorem be64_len (x : Nat) : (be64 x).length = 8 := by simp [be64, be32]
theorem be32_len (x : Nat) : (be32 x).length = 4 := by simp [be32]

theorem Try.info8 : (Try.prog.info? 5).map (fun i => (i.zero, i.size, i.bytes)) = some (some (.int .u8 0), 1, 1) := by kernel_rfl

/-- n bytes 0, as a new block holds them. -/
def noughts (n : Nat) : List Value := List.replicate n (.int .u8 0)
theorem noughts_len (n : Nat) : (noughts n).length = n := by simp [noughts]
theorem one_bv (l : List UInt8) : ∀ u ∈ l.map bv, u.oneCell' = true := by
  intro u hu
  obtain ⟨c, _, rfl⟩ := List.mem_map.1 hu
  rfl

/-- make([]byte, n, cap) -/
theorem run_make8 (n cap : Nat) (hn : n ≤ cap) (hc : cap ≤ 281474976710656) (u : World) : (Instr.makeSlice 28 (.int .i64 (n : Int)) (.int .i64 (cap : Int))).run Try.prog u =
    .ok (.slice (some ⟨u.heap.size, 0, none⟩) n cap) (u.alloc (.cells (noughts cap).toArray 5)) := by
  obtain ⟨i0, hi, hz0, hz1, hz2⟩ := info_parts Try.info8
  have h := run_make (P := Try.prog) u 28 5 i0 (.int .u8 0) Try.underlying28 hi hz0 .i64 .i64 (n : Int) (cap : Int) (by omega) (by omega) (by rw [hz2]; omega) (by omega)
  have e : (madeCells #[Value.int .u8 0] cap) = (noughts cap).toArray := by
    rw [noughts, ← toList_madeCells_one]
  rw [Int.toNat_natCast] at h
  rw [← e]
  simpa [hz1, Value.cells] using h

/-- 'append(s, x...)' of bytes. -/
theorem app8 {w : World} {ops : Array Oper} {rest : List Oper} {o : Oper} {a : Act} {Q : Exit → Act → World → Prop} (hgd : o.guard = none) (s x : Operand)
    (ho : o.op = .call { callee := .builtin .append, args := #[s, x], argTypes := #[28, 28] })
    (base : Nat) (v : Value) (n : Nat) (l : List UInt8) (hs : a.eval s = v) (hown : w.ownsRow base 5 1 v n (l.map bv))
    (A : Option Addr) (m c : Nat) (l' : List UInt8) (hx : a.eval x = .slice A m c) (hr : Bytes w A m c l') (hbytes : n + m ≤ 140737488355328) (hbase : base ≤ w.heap.size)
    (h : ∀ v' w', w'.ownsRow base 5 1 v' (n + m) ((l ++ l').map bv) → w.grownBy w' v.ownBlock → wpList Try.prog ops Q rest (a.put o.dst v') w') : wpList Try.prog ops Q (o :: rest) a w := by
  obtain ⟨i0, hi, hz0, hz1, hz2⟩ := info_parts Try.info8
  exact wpList_appendRow hgd s x 28 ho base 5 i0 (.int .u8 0) 1 Try.underlying28 hi hz0 hz1 hz2 rfl v n (l.map bv) hs hown A m c (l'.map bv) hx hr (one_bv l') (by decide) (by omega) hbase fun v' w' h2 h3 => h v' w' (by rw [List.map_append]; exact h2) h3
/-- What a literal of bytes has just laid. -/
theorem Bytes.lit (w : World) (l : List UInt8) (h63 : l.length ≤ maxLen) : Bytes (w.alloc (.cells (l.map bv).toArray 5)) (some ⟨w.heap.size, 0, none⟩) l.length l.length l := by
  refine ⟨by simp, Nat.le_refl _, h63, fun h => (by cases h), fun _ => ⟨_, _, rfl, by simp, fun j hj => ?_⟩⟩
  rw [Nat.zero_add, cell_of_row _ w.heap.size j (l.map bv).toArray 5 (0, 0) (heap_alloc_new w _)]
  simp

theorem lit1 (w : World) (x t : Nat) : Bytes (w.alloc (.cells #[.int .u8 ((x : Int) / 2 ^ t % 256)] 5)) (some ⟨w.heap.size, 0, none⟩) 1 1 [UInt8.ofNat (x / 2 ^ t)] := by
  have e : bv (UInt8.ofNat (x / 2 ^ t)) = .int .u8 ((x : Int) / 2 ^ t % 256) := by simp [bv]
  have h := Bytes.lit w [UInt8.ofNat (x / 2 ^ t)] (by simp [maxLen])
  rw [List.map_cons, List.map_nil, e] at h
  exact h
theorem litK (w : World) (x : Nat) (hx : x < 256) : Bytes (w.alloc (.cells #[.int .u8 (x : Int)] 5)) (some ⟨w.heap.size, 0, none⟩) 1 1 [UInt8.ofNat x] := by
  have e : bv (UInt8.ofNat x) = .int .u8 (x : Int) := by simp [bv]; omega
  have h := Bytes.lit w [UInt8.ofNat x] (by simp [maxLen])
  rw [List.map_cons, List.map_nil, e] at h
  exact h
/-- A literal of bytes is a row of the call's own. -/
theorem own_lit (w : World) (base : Nat) (l : List UInt8) (hb : base ≤ w.heap.size) (h63 : l.length ≤ maxLen) : (w.alloc (.cells (l.map bv).toArray 5)).ownsRow base 5 1 (.slice (some ⟨w.heap.size, 0, none⟩) l.length l.length) l.length (l.map bv) :=
  ⟨by simp, .inr ⟨w.heap.size, l.length, _, rfl, hb, heap_alloc_new w _, Nat.le_refl _, h63, by simp, by rw [Nat.mul_one, List.take_of_length_le (by simp)]⟩⟩


end Go.Proofs.Ytcgbfnfbknagcaa
