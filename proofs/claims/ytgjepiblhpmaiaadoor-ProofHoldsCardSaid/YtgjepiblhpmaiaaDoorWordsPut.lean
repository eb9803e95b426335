/-
  Contracts of words.Put32, words.Put64 and of the reference's Put32, Put64.
-/
import Derived.Test.YtgjepiblhpmaiaaDoorBase
namespace Go.Proofs.YtgjepiblhpmaiaaDoor
open Go.ChangeShapes Go.WideShapes Go.ChangeAt Go.RowKit
set_option linter.unusedVariables false
set_option linter.unusedSimpArgs false

/-- What 'put' lays behind the bytes. -/
def putB (x size j : Nat) : List UInt8 := (List.range j).map fun i => UInt8.ofNat (x / 2 ^ (8 * (size - 1 - i)))
def be32 (x : Nat) : List UInt8 := [UInt8.ofNat (x / 16777216), UInt8.ofNat (x / 65536), UInt8.ofNat (x / 256), UInt8.ofNat x]
def be64 (x : Nat) : List UInt8 := be32 (x / 4294967296) ++ be32 (x % 4294967296)
theorem putB_len (x size j : Nat) : (putB x size j).length = j := by simp [putB]
theorem putB_succ (x size j : Nat) : putB x size (j + 1) = putB x size j ++ [UInt8.ofNat (x / 2 ^ (8 * (size - 1 - j)))] := by simp [putB, List.range_succ]
theorem putB4 (x : Nat) : putB x 4 4 = be32 x := by simp [putB, be32, List.range_succ]
theorem u8_mod (a b : Nat) (h : a % 256 = b % 256) : UInt8.ofNat a = UInt8.ofNat b := by
  apply UInt8.toNat_inj.1
  simpa using h
theorem putB8 (x : Nat) : putB x 8 8 = be64 x := by
  simp only [putB, be64, be32, List.range_succ, List.range_zero, List.map_cons, List.map_nil, List.nil_append, List.cons_append]
  have e : ∀ a b : Nat, x / a / b = x / (a * b) := fun a b => Nat.div_div_eq_div_mul x a b
  simp only [e]
  congr 1
  congr 1
  congr 1
  congr 1
  congr 1
  · exact u8_mod _ _ (by omega)
  congr 1
  · exact u8_mod _ _ (by omega)
  congr 1
  · exact u8_mod _ _ (by omega)
  congr 1
  exact u8_mod _ _ (by omega)
theorem be64_len (x : Nat) : (be64 x).length = 8 := by simp [be64, be32]
theorem be32_len (x : Nat) : (be32 x).length = 4 := by simp [be32]

theorem Tryd.info8 : (Tryd.prog.info? 5).map (fun i => (i.zero, i.size, i.bytes)) = some (some (.int .u8 0), 1, 1) := by kernel_rfl

/-- n bytes 0, as a new block holds them. -/
def noughts (n : Nat) : List Value := List.replicate n (.int .u8 0)
theorem noughts_len (n : Nat) : (noughts n).length = n := by simp [noughts]
theorem one_bv (l : List UInt8) : ∀ u ∈ l.map bv, u.oneCell' = true := by
  intro u hu
  obtain ⟨c, _, rfl⟩ := List.mem_map.1 hu
  rfl

/-- make([]byte, n, cap) -/
theorem run_make8 (n cap : Nat) (hn : n ≤ cap) (hc : cap ≤ 281474976710656) (u : World) : (Instr.makeSlice 39 (.int .i64 (n : Int)) (.int .i64 (cap : Int))).run Tryd.prog u =
    .ok (.slice (some ⟨u.heap.size, 0, none⟩) n cap) (u.alloc (.cells (noughts cap).toArray 5)) := by
  obtain ⟨i0, hi, hz0, hz1, hz2⟩ := info_parts Tryd.info8
  have h := run_make (P := Tryd.prog) u 39 5 i0 (.int .u8 0) Tryd.underlying39 hi hz0 .i64 .i64 (n : Int) (cap : Int) (by omega) (by omega) (by rw [hz2]; omega) (by omega)
  have e : (madeCells #[Value.int .u8 0] cap) = (noughts cap).toArray := by
    rw [noughts, ← toList_madeCells_one]
  rw [Int.toNat_natCast] at h
  rw [← e]
  simpa [hz1, Value.cells] using h

/-- 'append(s, x...)' of bytes. -/
theorem app8 {w : World} {ops : Array Oper} {rest : List Oper} {o : Oper} {a : Act} {Q : Exit → Act → World → Prop} (hgd : o.guard = none) (s x : Operand)
    (ho : o.op = .call { callee := .builtin .append, args := #[s, x], argTypes := #[39, 39] })
    (base : Nat) (v : Value) (n : Nat) (l : List UInt8) (hs : a.eval s = v) (hown : w.ownsRow base 5 1 v n (l.map bv))
    (A : Option Addr) (m c : Nat) (l' : List UInt8) (hx : a.eval x = .slice A m c) (hr : Bytes w A m c l') (hbytes : n + m ≤ 140737488355328) (hbase : base ≤ w.heap.size)
    (h : ∀ v' w', w'.ownsRow base 5 1 v' (n + m) ((l ++ l').map bv) → w.grownBy w' v.ownBlock → wpList Tryd.prog ops Q rest (a.put o.dst v') w') : wpList Tryd.prog ops Q (o :: rest) a w := by
  obtain ⟨i0, hi, hz0, hz1, hz2⟩ := info_parts Tryd.info8
  exact wpList_appendRow hgd s x 39 ho base 5 i0 (.int .u8 0) 1 Tryd.underlying39 hi hz0 hz1 hz2 rfl v n (l.map bv) hs hown A m c (l'.map bv) hx hr (one_bv l') (by decide) (by omega) hbase fun v' w' h2 h3 => h v' w' (by rw [List.map_append]; exact h2) h3
/-- What a literal of bytes has just laid. -/
theorem Bytes.lit (w : World) (l : List UInt8) (h63 : l.length ≤ maxLen) : Bytes (w.alloc (.cells (l.map bv).toArray 5)) (some ⟨w.heap.size, 0, none⟩) l.length l.length l := by
  refine ⟨by simp, Nat.le_refl _, h63, fun h => (by cases h), fun _ => ⟨_, _, rfl, by simp, fun j hj => ?_⟩⟩
  rw [Nat.zero_add, cell_of_row _ w.heap.size j (l.map bv).toArray 5 (0, 0) (heap_alloc_new w _)]
  simp

theorem lit1 (w : World) (x t : Nat) : Bytes (w.alloc (.cells #[.int .u8 ((x : Int) / 2 ^ t % 256)] 5)) (some ⟨w.heap.size, 0, none⟩) 1 1 [UInt8.ofNat (x / 2 ^ t)] := by
  have e : bv (UInt8.ofNat (x / 2 ^ t)) = .int .u8 ((x : Int) / 2 ^ t % 256) := by simp [bv]
  have h := Bytes.lit w [UInt8.ofNat (x / 2 ^ t)] (by simp [maxLen])
  rw [List.map_cons, List.map_nil, e] at h
  exact h
theorem litK (w : World) (x : Nat) (hx : x < 256) : Bytes (w.alloc (.cells #[.int .u8 (x : Int)] 5)) (some ⟨w.heap.size, 0, none⟩) 1 1 [UInt8.ofNat x] := by
  have e : bv (UInt8.ofNat x) = .int .u8 (x : Int) := by simp [bv]; omega
  have h := Bytes.lit w [UInt8.ofNat x] (by simp [maxLen])
  rw [List.map_cons, List.map_nil, e] at h
  exact h
/-- A literal of bytes is a row of the call's own. -/
theorem own_lit (w : World) (base : Nat) (l : List UInt8) (hb : base ≤ w.heap.size) (h63 : l.length ≤ maxLen) : (w.alloc (.cells (l.map bv).toArray 5)).ownsRow base 5 1 (.slice (some ⟨w.heap.size, 0, none⟩) l.length l.length) l.length (l.map bv) :=
  ⟨by simp, .inr ⟨w.heap.size, l.length, _, rfl, hb, heap_alloc_new w _, Nat.le_refl _, h63, by simp, by rw [Nat.mul_one, List.take_of_length_le (by simp)]⟩⟩

namespace wordsPut
set_option maxHeartbeats 400000 in
theorem put_any (A : Option Addr) (n c : Nat) (l : List UInt8) (x : Nat) (size : Nat) (w : World) (hl : Bytes w A n c l) (hn : n ≤ 140737488351232) (hs0 : 0 < size) (hs8 : size ≤ 8) :
    Calls Tryd.prog 54 #[.slice A n c, .int .u64 (x : Int), .int .i64 (size : Int)] w
      fun e w' => ∃ v, e = .returned v ∧ w'.ownsRow w.heap.size 5 1 v (n + size) ((l ++ putB x size size).map bv) ∧ Below w.heap.size w w' := by
  have hlen := Lib.hid hl.len
  have hmk := fun u => run_make8 n (n + size) (by omega) (by omega) u
  rw [show ((n + size : Nat) : Int) = (n : Int) + (size : Int) by omega] at hmk
  have C1 := Lib.hid (show (l.map bv).length = Nat.min n n from hl.1.trans (Nat.min_self n).symm)
  have C2 := Lib.hid (fun (o : Obj) => Row.src hl (w2 := w.alloc o) (fun p hp => World.cell?_alloc_lt w _ p hp))
  have C3 := Lib.hid (show 0 + (l.map bv).length ≤ (noughts (n + size)).length by rw [noughts_len, hl.1]; omega)
  go_enter Tryd.func54, Tryd.ntmps54
  go_wp2_with ((with_reducible refine wpList_copy_splice rfl (.tmp 16) (.tmp 17) 39 39 rfl 5 Tryd.underlying39 (by kernel_rfl) (some ⟨w.heap.size, 0, none⟩) A n (n + size) n c rfl rfl w.heap.size 0 (noughts (n + size)) 5 (heap_alloc_new w _) (l.map bv) C1.out (fun h => ⟨rfl, C2.out _ h⟩) C3.out (one_bv l) w.heap.size w ((Below.refl _ _).alloc (Nat.le_refl _) _) (Nat.le_refl _) ?_); intro w1 hg1 hb1)
  have hown := own_splice hg1.out (Nat.le_refl _) hl.1 (by omega : n ≤ n + size) (by unfold maxLen; omega) (noughts_len _)
  clear hmk hg1 C1 C2 C3
  go_wp2_with fail
  go_loopw [7, 8] (fun v s wr => ∃ (j : Nat) (q : Int), j ≤ size ∧ q = 8 * ((size : Int) - 1 - j) ∧ s = .int .i64 q ∧ wr.ownsRow w.heap.size 5 1 v (n + j) ((l ++ putB x size j).map bv) ∧ Below w.heap.size w wr) (fun _ s _ => (intOf s + 8).toNat)
  case atStart => exact ⟨0, _, Nat.zero_le _, by omega, rfl, by simpa [putB] using hown, hb1⟩
  case round =>
    clear hown hb1
    obtain ⟨j, q, hj, hq0, rfl, hown, hb⟩ := hrel
    have hq := Lib.hid hq0
    by_cases hlt : j < size
    · obtain ⟨t, rfl⟩ := Int.eq_ofNat_of_zero_le (show 0 ≤ q by omega)
      have ht : t ≤ 56 := by omega
      clear hq0
      have HL := Lib.hid (lit1 wr x t)
      have HB := Lib.hid (show n + j + 1 ≤ 140737488355328 by omega)
      go_wp2_with (at_builtin; (refine app8 rfl (.tmp 26) (.tmp 31) rfl w.heap.size u7 (n + j) (l ++ putB x size j) rfl (hown.alloc _) (some ⟨wr.heap.size, 0, none⟩) 1 1 [UInt8.ofNat (x / 2 ^ t)] rfl HL.out HB.out (Nat.le_trans hb.size (by simp)) ?_); intro v2 w2 hown2 hg2)
      go_roundw
      case rel =>
        have h0 := hq.out
        have e : t = 8 * (size - 1 - j) := by omega
        refine ⟨j + 1, _, by omega, ?_, rfl, ?_, (hb.alloc hb.size _).grown hg2 (Nat.le_trans hb.size (by simp)) (fun k hk => (hown.lt k hk).1)⟩
        · omega
        · rw [putB_succ, ← List.append_assoc, ← e]
          exact hown2
      case measure => simp [intOf]; omega
    · have hq1 : q < 0 := by omega
      clear hq0
      obtain rfl : j = size := by omega
      go_wp2
      go_ret
      exact ⟨_, rfl, hown, hb⟩

end wordsPut
namespace wordsPut
theorem put64 (A : Option Addr) (n c : Nat) (l : List UInt8) (x : Nat) (w : World) (hl : Bytes w A n c l) (hn : n ≤ 140737488351232) :
    Calls Tryd.prog 41 #[.slice A n c, .int .u64 (x : Int)] w
      fun e w' => ∃ v, e = .returned v ∧ w'.ownsRow w.heap.size 5 1 v (n + 8) ((l ++ be64 x).map bv) ∧ Below w.heap.size w w' := by
  go_enter Tryd.func41, Tryd.ntmps41
  go_wp2_with (go_at_call 54; refine (put_any A n c l x 8 w hl hn (by omega) (by omega)).mono ?_; rintro e w' ⟨v, rfl, hown, hb⟩)
  go_ret
  exact ⟨_, rfl, by rw [← putB8]; exact hown, hb⟩
end wordsPut

namespace refPut
theorem and255 (y : Nat) (h : y < 4294967296) : bits .and .u32 (y : Int) 255 % 256 = ((y % 256 : Nat) : Int) := by
  have e := u32_and_nat y 255 h (by omega)
  rw [nat_mask8] at e
  rw [show (255 : Int) = ((255 : Nat) : Int) from rfl, e]
  omega
theorem lit4 (w : World) (x : Nat) (hx : x < 4294967296) : Bytes (w.alloc (.cells #[.int .u8 ((x : Int) / 16777216), .int .u8 (bits .and .u32 ((x : Int) / 65536) 255 % 256),
    .int .u8 (bits .and .u32 ((x : Int) / 256) 255 % 256), .int .u8 (bits .and .u32 (x : Int) 255 % 256)] 5)) (some ⟨w.heap.size, 0, none⟩) 4 4 (be32 x) := by
  have e1 : bv (UInt8.ofNat (x / 16777216)) = .int .u8 ((x : Int) / 16777216) := by simp [bv]; omega
  have e2 : bv (UInt8.ofNat (x / 65536)) = .int .u8 (bits .and .u32 ((x : Int) / 65536) 255 % 256) := by
    have := and255 (x / 65536) (by omega)
    simp only [bv, UInt8.toNat_ofNat']
    congr 1
    rw [← this]; rfl
  have e3 : bv (UInt8.ofNat (x / 256)) = .int .u8 (bits .and .u32 ((x : Int) / 256) 255 % 256) := by
    have := and255 (x / 256) (by omega)
    simp only [bv, UInt8.toNat_ofNat']
    congr 1
    rw [← this]; rfl
  have e4 : bv (UInt8.ofNat x) = .int .u8 (bits .and .u32 (x : Int) 255 % 256) := by
    rw [and255 x hx]
    simp [bv]
  have h := Bytes.lit w (be32 x) (by rw [be32_len]; simp [maxLen])
  rw [be32_len] at h
  simp only [be32, List.map_cons, List.map_nil, e1, e2, e3, e4] at h
  exact h

theorem put32 (A : Option Addr) (n c : Nat) (l : List UInt8) (x : Nat) (w : World) (hl : Bytes w A n c l) (hn : n ≤ 140737488351232) (hx : x < 4294967296) :
    Calls Tryd.prog 60 #[.slice A n c, .int .u32 (x : Int)] w
      fun e w' => ∃ v, e = .returned v ∧ w'.ownsRow w.heap.size 5 1 v (n + 4) ((l ++ be32 x).map bv) ∧ Below w.heap.size w w' := by
  have HB := Lib.hid (show 0 + n ≤ 140737488355328 by omega)
  have HC := Lib.hid (show 0 + n + 4 ≤ 140737488355328 by omega)
  go_enter Tryd.func60, Tryd.ntmps60
  go_wp2_with (at_builtin; first
    | ((with_reducible refine app8 rfl (.const (.slice none 0 0)) (.tmp 5) rfl w.heap.size (.slice none 0 0) 0 [] rfl (World.ownsRow_nil _ _ _ _) A n c l rfl hl HB.out (Nat.le_refl _) ?_); intro v2 w2 hown2 hg2)
    | ((refine app8 rfl (.tmp 6) (.tmp 21) rfl w.heap.size v2 (0 + n) ([] ++ l) rfl (hown2.alloc _) (some ⟨w2.heap.size, 0, none⟩) 4 4 (be32 x) rfl (lit4 w2 x hx) HC.out (Nat.le_trans hg2.size (by simp)) ?_); intro v3 w3 hown3 hg3))
  go_ret
  have hb2 : Below w.heap.size w w2 := (Below.refl _ _).grown hg2 (Nat.le_refl _) (fun k hk => by cases hk)
  refine ⟨_, rfl, ?_, (hb2.alloc hb2.size _).grown hg3 (Nat.le_trans hb2.size (by simp)) (fun k hk => (hown2.lt k hk).1)⟩
  simpa using hown3
theorem put32i (A : Option Addr) (n c : Nat) (l : List UInt8) (y : Int) (w : World) (hl : Bytes w A n c l) (hn : n ≤ 140737488351232) (h0 : 0 ≤ y) (h1 : y < 4294967296) :
    Calls Tryd.prog 60 #[.slice A n c, .int .u32 y] w
      fun e w' => ∃ v, e = .returned v ∧ w'.ownsRow w.heap.size 5 1 v (n + 4) ((l ++ be32 y.toNat).map bv) ∧ Below w.heap.size w w' := by
  obtain ⟨x, rfl⟩ := Int.eq_ofNat_of_zero_le h0
  rw [Int.toNat_natCast]
  exact put32 A n c l x w hl hn (by omega)
end refPut
namespace refPut
theorem low32 (x : Nat) (h : x < 18446744073709551616) : bits .and .u64 (x : Int) 4294967295 = ((x % 4294967296 : Nat) : Int) := by
  have e := u64_and_nat x 4294967295 h (by omega)
  rw [nat_mask32] at e
  exact e
theorem put64 (A : Option Addr) (n c : Nat) (l : List UInt8) (x : Nat) (w : World) (hl : Bytes w A n c l) (hn : n ≤ 140737488351228) (hx : x < 18446744073709551616) :
    Calls Tryd.prog 47 #[.slice A n c, .int .u64 (x : Int)] w
      fun e w' => ∃ v, e = .returned v ∧ w'.ownsRow w.heap.size 5 1 v (n + 8) ((l ++ be64 x).map bv) ∧ Below w.heap.size w w' := by
  go_enter Tryd.func47, Tryd.ntmps47
  go_wp2_with fail
  refine (put32i A n c l _ w hl (by omega) (by omega) (by omega)).mono ?_
  rintro e w1 ⟨v1, rfl, hown1, hb1⟩
  obtain ⟨A1, c1, rfl, hr1⟩ := Row.own hown1
  go_wp2_with fail
  have e := low32 x hx
  have H := Lib.hid e
  clear e
  refine (put32i A1 (n + 4) c1 _ _ w1 hr1 (by omega) (by rw [H.out]; omega) (by rw [H.out]; omega)).mono ?_
  rintro e w2 ⟨v2, rfl, hown2, hb2⟩
  go_wp2_with fail
  go_ret
  refine ⟨_, rfl, ?_, hb1.trans (hb2.mono hb1.size)⟩
  have h := own_base hown2 hb1.size
  rw [H.out] at h
  rw [be64, ← List.append_assoc]
  have e1 : ((x : Int) / 4294967296).toNat = x / 4294967296 := by omega
  have e2 : (((x % 4294967296 : Nat) : Int) % 4294967296).toNat = x % 4294967296 := by omega
  rw [e1, e2] at h
  exact h
end refPut
end Go.Proofs.YtgjepiblhpmaiaaDoor
