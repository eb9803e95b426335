/-
  Several texts in one.
-/
import Derived.Test.YtcdoeiccdmmfkaaDoorShaB
import Derived.Deep.RegionHeldLaw
import Derived.Deep.RegionHeld
/-
  The spec of mac; contracts of package mac.
-/
namespace Go.Proofs.YtcdoeiccdmmfkaaDoor
open Go.ChangeShapes Go.WideShapes Go.ChangeAt Go.RowKit
set_option linter.unusedVariables false
set_option linter.unusedSimpArgs false

def mkey (key : List UInt8) : List UInt8 := if 64 < key.length then shaN key else key
def mblk (key : List UInt8) : List UInt8 := mkey key ++ List.replicate (64 - (mkey key).length) 0
def mask (m : UInt8) (k : List UInt8) : List UInt8 := k.map fun c => c ^^^ m
def macN (key b : List UInt8) : List UInt8 := shaN (mask 92 (mblk key) ++ shaN (mask 54 (mblk key) ++ b))
theorem mkey_len (key : List UInt8) : (mkey key).length ≤ 64 := by
  unfold mkey
  split
  · rw [shaN_len]; omega
  · omega
theorem mblk_len (key : List UInt8) : (mblk key).length = 64 := by
  have := mkey_len key
  simp [mblk]
  omega
theorem mask_len (m : UInt8) (k : List UInt8) : (mask m k).length = k.length := by simp [mask]
theorem macN_len (key b : List UInt8) : (macN key b).length = 32 := shaN_len _

/-- A new block of 64 bytes 0. -/
def zblk : List Value := (List.replicate 64 0 : List UInt8).map bv
theorem newBlk (w : World) : Has (w.alloc (.cells #[.int .u8 0, .int .u8 0, .int .u8 0, .int .u8 0, .int .u8 0, .int .u8 0, .int .u8 0, .int .u8 0, .int .u8 0, .int .u8 0, .int .u8 0, .int .u8 0, .int .u8 0, .int .u8 0, .int .u8 0, .int .u8 0, .int .u8 0, .int .u8 0, .int .u8 0, .int .u8 0, .int .u8 0, .int .u8 0, .int .u8 0, .int .u8 0, .int .u8 0, .int .u8 0, .int .u8 0, .int .u8 0, .int .u8 0, .int .u8 0, .int .u8 0, .int .u8 0, .int .u8 0, .int .u8 0, .int .u8 0, .int .u8 0, .int .u8 0, .int .u8 0, .int .u8 0, .int .u8 0, .int .u8 0, .int .u8 0, .int .u8 0, .int .u8 0, .int .u8 0, .int .u8 0, .int .u8 0, .int .u8 0, .int .u8 0, .int .u8 0, .int .u8 0, .int .u8 0, .int .u8 0, .int .u8 0, .int .u8 0, .int .u8 0, .int .u8 0, .int .u8 0, .int .u8 0, .int .u8 0, .int .u8 0, .int .u8 0, .int .u8 0, .int .u8 0] 58)) w.heap.size 58 zblk := Has.new w 58 zblk
theorem size_blk : (Tryd.prog.info? 58).map (·.size) = some 64 := by kernel_rfl
theorem size_u8 : (Tryd.prog.info? 5).map (·.size) = some 1 := by kernel_rfl
theorem zblk_splice (l : List UInt8) (h : l.length ≤ 64) : splice zblk 0 (l.map bv) = (l ++ List.replicate (64 - l.length) 0).map bv := by
  rw [splice, zblk, List.map_append, List.map_replicate, List.map_replicate, List.length_map, Nat.zero_add, List.drop_replicate, List.take_zero, List.nil_append]

/-- A byte out of an array that is no variable. -/
theorem run_index_byte {P : Program} {T e : TypeId} {n : Nat} (hT : P.underlying T = some (.array n e)) (he : P.underlying e = some (.int .u8)) (hs : (P.info? e).map (·.size) = some 1)
    (l : List UInt8) (hl : l.length = n) (j : Nat) (hj : j < n) (w : World) : (Instr.index T (.agg (l.map bv).toArray) (.int .i64 (j : Int))).run P w = .ok (.int .u8 (((l.getD j 0).toNat : Nat) : Int)) w := by
  cases hq : P.info? e with
  | none => simp [hq] at hs
  | some i =>
    have h1 : i.size = 1 := by simpa [hq] using hs
    have h2 : (0 : Int) ≤ (j : Int) ∧ (j : Int) < (n : Int) := by omega
    have h3 : j < l.length := by omega
    simp [Instr.index, asIntOf, Sem.run_bind, Sem.run_pure, run_underlying hT, h2, sizeOf, typeInfo, hq, h1, part, isAgg, run_underlying he, h3, bv, hj]
theorem xor_u8 (x m : Nat) (hx : x < 256) (hm : m < 256) : bits .xor .u8 (x : Int) (m : Int) = (((UInt8.ofNat x ^^^ UInt8.ofNat m).toNat : Nat) : Int) := by
  rw [u8_xor_nat x m hx hm, UInt8.toNat_xor, UInt8.toNat_ofNat_of_lt' hx, UInt8.toNat_ofNat_of_lt' hm]
theorem bv_ofNat (x : Nat) (hx : x < 256) : bv (UInt8.ofNat x) = .int .u8 (x : Int) := by
  rw [bv, UInt8.toNat_ofNat_of_lt' hx]
/-- What a literal of one byte has just laid. -/
theorem litX (w : World) (x m : Nat) (hx : x < 256) (hm : m < 256) : Bytes (w.alloc (.cells #[.int .u8 (bits .xor .u8 (x : Int) (m : Int))] 5)) (some ⟨w.heap.size, 0, none⟩) 1 1 [UInt8.ofNat x ^^^ UInt8.ofNat m] := by
  have h := Bytes.lit w [UInt8.ofNat x ^^^ UInt8.ofNat m] (by simp [maxLen])
  rw [List.map_cons, List.map_nil, bv, ← xor_u8 x m hx hm] at h
  exact h

namespace mac
set_option maxHeartbeats 400000 in
theorem blockShort (A : Option Addr) (n c : Nat) (l : List UInt8) (w : World) (hl : Bytes w A n c l) (hn : n ≤ 64) :
    Calls Tryd.prog 59 #[.slice A n c] w fun e w' => e = .returned (.agg ((mblk l).map bv).toArray) ∧ Below w.heap.size w w' := by
  have hlen := hl.len
  have hn' : ¬ (64 : Int) < (n : Int) := by omega
  have H2 := newBlk w
  obtain ⟨w1, hw1⟩ : ∃ x, x = w.alloc (.cells #[.int .u8 0, .int .u8 0, .int .u8 0, .int .u8 0, .int .u8 0, .int .u8 0, .int .u8 0, .int .u8 0, .int .u8 0, .int .u8 0, .int .u8 0, .int .u8 0, .int .u8 0, .int .u8 0, .int .u8 0, .int .u8 0, .int .u8 0, .int .u8 0, .int .u8 0, .int .u8 0, .int .u8 0, .int .u8 0, .int .u8 0, .int .u8 0, .int .u8 0, .int .u8 0, .int .u8 0, .int .u8 0, .int .u8 0, .int .u8 0, .int .u8 0, .int .u8 0, .int .u8 0, .int .u8 0, .int .u8 0, .int .u8 0, .int .u8 0, .int .u8 0, .int .u8 0, .int .u8 0, .int .u8 0, .int .u8 0, .int .u8 0, .int .u8 0, .int .u8 0, .int .u8 0, .int .u8 0, .int .u8 0, .int .u8 0, .int .u8 0, .int .u8 0, .int .u8 0, .int .u8 0, .int .u8 0, .int .u8 0, .int .u8 0, .int .u8 0, .int .u8 0, .int .u8 0, .int .u8 0, .int .u8 0, .int .u8 0, .int .u8 0, .int .u8 0] 58) := ⟨_, rfl⟩
  have H3 := newBlk (w.alloc (.cells #[.int .u8 0, .int .u8 0, .int .u8 0, .int .u8 0, .int .u8 0, .int .u8 0, .int .u8 0, .int .u8 0, .int .u8 0, .int .u8 0, .int .u8 0, .int .u8 0, .int .u8 0, .int .u8 0, .int .u8 0, .int .u8 0, .int .u8 0, .int .u8 0, .int .u8 0, .int .u8 0, .int .u8 0, .int .u8 0, .int .u8 0, .int .u8 0, .int .u8 0, .int .u8 0, .int .u8 0, .int .u8 0, .int .u8 0, .int .u8 0, .int .u8 0, .int .u8 0, .int .u8 0, .int .u8 0, .int .u8 0, .int .u8 0, .int .u8 0, .int .u8 0, .int .u8 0, .int .u8 0, .int .u8 0, .int .u8 0, .int .u8 0, .int .u8 0, .int .u8 0, .int .u8 0, .int .u8 0, .int .u8 0, .int .u8 0, .int .u8 0, .int .u8 0, .int .u8 0, .int .u8 0, .int .u8 0, .int .u8 0, .int .u8 0, .int .u8 0, .int .u8 0, .int .u8 0, .int .u8 0, .int .u8 0, .int .u8 0, .int .u8 0, .int .u8 0] 58))
  have H2' := H2.alloc (.cells #[.int .u8 0, .int .u8 0, .int .u8 0, .int .u8 0, .int .u8 0, .int .u8 0, .int .u8 0, .int .u8 0, .int .u8 0, .int .u8 0, .int .u8 0, .int .u8 0, .int .u8 0, .int .u8 0, .int .u8 0, .int .u8 0, .int .u8 0, .int .u8 0, .int .u8 0, .int .u8 0, .int .u8 0, .int .u8 0, .int .u8 0, .int .u8 0, .int .u8 0, .int .u8 0, .int .u8 0, .int .u8 0, .int .u8 0, .int .u8 0, .int .u8 0, .int .u8 0, .int .u8 0, .int .u8 0, .int .u8 0, .int .u8 0, .int .u8 0, .int .u8 0, .int .u8 0, .int .u8 0, .int .u8 0, .int .u8 0, .int .u8 0, .int .u8 0, .int .u8 0, .int .u8 0, .int .u8 0, .int .u8 0, .int .u8 0, .int .u8 0, .int .u8 0, .int .u8 0, .int .u8 0, .int .u8 0, .int .u8 0, .int .u8 0, .int .u8 0, .int .u8 0, .int .u8 0, .int .u8 0, .int .u8 0, .int .u8 0, .int .u8 0, .int .u8 0] 58)
  have H3' := H3.at_ (show _ = w.heap.size + 1 by simp)
  have hb : Below w.heap.size w ((w.alloc (.cells #[.int .u8 0, .int .u8 0, .int .u8 0, .int .u8 0, .int .u8 0, .int .u8 0, .int .u8 0, .int .u8 0, .int .u8 0, .int .u8 0, .int .u8 0, .int .u8 0, .int .u8 0, .int .u8 0, .int .u8 0, .int .u8 0, .int .u8 0, .int .u8 0, .int .u8 0, .int .u8 0, .int .u8 0, .int .u8 0, .int .u8 0, .int .u8 0, .int .u8 0, .int .u8 0, .int .u8 0, .int .u8 0, .int .u8 0, .int .u8 0, .int .u8 0, .int .u8 0, .int .u8 0, .int .u8 0, .int .u8 0, .int .u8 0, .int .u8 0, .int .u8 0, .int .u8 0, .int .u8 0, .int .u8 0, .int .u8 0, .int .u8 0, .int .u8 0, .int .u8 0, .int .u8 0, .int .u8 0, .int .u8 0, .int .u8 0, .int .u8 0, .int .u8 0, .int .u8 0, .int .u8 0, .int .u8 0, .int .u8 0, .int .u8 0, .int .u8 0, .int .u8 0, .int .u8 0, .int .u8 0, .int .u8 0, .int .u8 0, .int .u8 0, .int .u8 0] 58)).alloc (.cells #[.int .u8 0, .int .u8 0, .int .u8 0, .int .u8 0, .int .u8 0, .int .u8 0, .int .u8 0, .int .u8 0, .int .u8 0, .int .u8 0, .int .u8 0, .int .u8 0, .int .u8 0, .int .u8 0, .int .u8 0, .int .u8 0, .int .u8 0, .int .u8 0, .int .u8 0, .int .u8 0, .int .u8 0, .int .u8 0, .int .u8 0, .int .u8 0, .int .u8 0, .int .u8 0, .int .u8 0, .int .u8 0, .int .u8 0, .int .u8 0, .int .u8 0, .int .u8 0, .int .u8 0, .int .u8 0, .int .u8 0, .int .u8 0, .int .u8 0, .int .u8 0, .int .u8 0, .int .u8 0, .int .u8 0, .int .u8 0, .int .u8 0, .int .u8 0, .int .u8 0, .int .u8 0, .int .u8 0, .int .u8 0, .int .u8 0, .int .u8 0, .int .u8 0, .int .u8 0, .int .u8 0, .int .u8 0, .int .u8 0, .int .u8 0, .int .u8 0, .int .u8 0, .int .u8 0, .int .u8 0, .int .u8 0, .int .u8 0, .int .u8 0, .int .u8 0] 58)) := ((Below.refl _ _).alloc (Nat.le_refl _) _).alloc (by simp) _
  have hl3 := hl.keep hb
  obtain ⟨B, hB⟩ : ∃ B, B = mblk l := ⟨_, rfl⟩
  have hsp : splice zblk 0 ((l.map bv).take n) = B.map bv := by
    have hm : mkey l = l := by rw [mkey, if_neg (by omega)]
    rw [List.take_of_length_le (by rw [List.length_map]; omega), zblk_splice l (by omega), hB, mblk, hm]
  have hBl : B.length = 64 := by rw [hB, mblk_len]
  have HS := Lib.hid (And.intro hsp (And.intro hB hBl))
  have HK := Lib.hid (show n = Nat.min n 64 from (Nat.min_eq_left hn).symm)
  have HF := Lib.hid (show 0 + n ≤ zblk.length by rw [show zblk.length = 64 from rfl]; omega)
  have HO := Lib.hid (one_bv l)
  have HL := Lib.hid (show Row _ A n c (l.map bv) from hl3)
  have SZ := Lib.hid (show (Tryd.prog.info? 58).map (·.size) = some (B.map bv).length by rw [List.length_map, hBl]; exact size_blk)
  have LL := Lib.hid (show zblk.length = (B.map bv).length by rw [List.length_map, hBl]; rfl)
  have OB := Lib.hid (one_bv B)
  clear hlen hsp hB hBl hl3 H2 H3 hw1 w1
  go_enter Tryd.func59, Tryd.ntmps59
  go_wp2_with (first
    | ((with_reducible refine wpList_copy_has rfl (.tmp 13) (.tmp 14) 23 23 rfl 5 Tryd.underlying23 size_u8 (w.heap.size + 1) 0 64 64 rfl A n c rfl (l.map bv) HL.out 58 zblk H3' n HK.out HF.out HO.out ?_); intro w4 o4 H4; have H24 := H2'.only o4 (by omega); have hb4 := o4.below hb (by omega); have H4' := HS.out.1 ▸ H4)
    | ((with_reducible refine wpList_load_has rfl 58 (.tmp 3) rfl (w.heap.size + 1) rfl 58 (B.map bv) H4' _ Tryd.underlying58 rfl SZ.out ?_))
    | ((with_reducible refine wpList_store_has rfl 58 (.tmp 2) (.tmp 16) rfl w.heap.size rfl (B.map bv) rfl 58 zblk H24 SZ.out LL.out OB.out ?_); intro w5 o5 H5))
  refine ret_has Tryd.results59 w.heap.size ?_ 58 (B.map bv) H5 _ Tryd.underlying58 rfl SZ.out ?_ ⟨by rw [HS.out.2.1], o5.below hb4 (Nat.le_refl _)⟩
  · rfl
  · rfl
set_option maxHeartbeats 800000 in
theorem blockLong (A : Option Addr) (n c : Nat) (l : List UInt8) (w : World) (hl : Bytes w A n c l) (hT : Tab w) (hn : 64 < n) :
    Calls Tryd.prog 59 #[.slice A n c] w fun e w' => e = .returned (.agg ((mblk l).map bv).toArray) ∧ Below w.heap.size w w' := by
  have hlen := hl.len
  have hn' : (64 : Int) < (n : Int) := by omega
  have H2 := newBlk w
  have H3 := newBlk (w.alloc (.cells #[.int .u8 0, .int .u8 0, .int .u8 0, .int .u8 0, .int .u8 0, .int .u8 0, .int .u8 0, .int .u8 0, .int .u8 0, .int .u8 0, .int .u8 0, .int .u8 0, .int .u8 0, .int .u8 0, .int .u8 0, .int .u8 0, .int .u8 0, .int .u8 0, .int .u8 0, .int .u8 0, .int .u8 0, .int .u8 0, .int .u8 0, .int .u8 0, .int .u8 0, .int .u8 0, .int .u8 0, .int .u8 0, .int .u8 0, .int .u8 0, .int .u8 0, .int .u8 0, .int .u8 0, .int .u8 0, .int .u8 0, .int .u8 0, .int .u8 0, .int .u8 0, .int .u8 0, .int .u8 0, .int .u8 0, .int .u8 0, .int .u8 0, .int .u8 0, .int .u8 0, .int .u8 0, .int .u8 0, .int .u8 0, .int .u8 0, .int .u8 0, .int .u8 0, .int .u8 0, .int .u8 0, .int .u8 0, .int .u8 0, .int .u8 0, .int .u8 0, .int .u8 0, .int .u8 0, .int .u8 0, .int .u8 0, .int .u8 0, .int .u8 0, .int .u8 0] 58))
  have H2' := H2.alloc (.cells #[.int .u8 0, .int .u8 0, .int .u8 0, .int .u8 0, .int .u8 0, .int .u8 0, .int .u8 0, .int .u8 0, .int .u8 0, .int .u8 0, .int .u8 0, .int .u8 0, .int .u8 0, .int .u8 0, .int .u8 0, .int .u8 0, .int .u8 0, .int .u8 0, .int .u8 0, .int .u8 0, .int .u8 0, .int .u8 0, .int .u8 0, .int .u8 0, .int .u8 0, .int .u8 0, .int .u8 0, .int .u8 0, .int .u8 0, .int .u8 0, .int .u8 0, .int .u8 0, .int .u8 0, .int .u8 0, .int .u8 0, .int .u8 0, .int .u8 0, .int .u8 0, .int .u8 0, .int .u8 0, .int .u8 0, .int .u8 0, .int .u8 0, .int .u8 0, .int .u8 0, .int .u8 0, .int .u8 0, .int .u8 0, .int .u8 0, .int .u8 0, .int .u8 0, .int .u8 0, .int .u8 0, .int .u8 0, .int .u8 0, .int .u8 0, .int .u8 0, .int .u8 0, .int .u8 0, .int .u8 0, .int .u8 0, .int .u8 0, .int .u8 0, .int .u8 0] 58)
  have H3' := H3.at_ (show _ = w.heap.size + 1 by simp)
  have hb : Below w.heap.size w ((w.alloc (.cells #[.int .u8 0, .int .u8 0, .int .u8 0, .int .u8 0, .int .u8 0, .int .u8 0, .int .u8 0, .int .u8 0, .int .u8 0, .int .u8 0, .int .u8 0, .int .u8 0, .int .u8 0, .int .u8 0, .int .u8 0, .int .u8 0, .int .u8 0, .int .u8 0, .int .u8 0, .int .u8 0, .int .u8 0, .int .u8 0, .int .u8 0, .int .u8 0, .int .u8 0, .int .u8 0, .int .u8 0, .int .u8 0, .int .u8 0, .int .u8 0, .int .u8 0, .int .u8 0, .int .u8 0, .int .u8 0, .int .u8 0, .int .u8 0, .int .u8 0, .int .u8 0, .int .u8 0, .int .u8 0, .int .u8 0, .int .u8 0, .int .u8 0, .int .u8 0, .int .u8 0, .int .u8 0, .int .u8 0, .int .u8 0, .int .u8 0, .int .u8 0, .int .u8 0, .int .u8 0, .int .u8 0, .int .u8 0, .int .u8 0, .int .u8 0, .int .u8 0, .int .u8 0, .int .u8 0, .int .u8 0, .int .u8 0, .int .u8 0, .int .u8 0, .int .u8 0] 58)).alloc (.cells #[.int .u8 0, .int .u8 0, .int .u8 0, .int .u8 0, .int .u8 0, .int .u8 0, .int .u8 0, .int .u8 0, .int .u8 0, .int .u8 0, .int .u8 0, .int .u8 0, .int .u8 0, .int .u8 0, .int .u8 0, .int .u8 0, .int .u8 0, .int .u8 0, .int .u8 0, .int .u8 0, .int .u8 0, .int .u8 0, .int .u8 0, .int .u8 0, .int .u8 0, .int .u8 0, .int .u8 0, .int .u8 0, .int .u8 0, .int .u8 0, .int .u8 0, .int .u8 0, .int .u8 0, .int .u8 0, .int .u8 0, .int .u8 0, .int .u8 0, .int .u8 0, .int .u8 0, .int .u8 0, .int .u8 0, .int .u8 0, .int .u8 0, .int .u8 0, .int .u8 0, .int .u8 0, .int .u8 0, .int .u8 0, .int .u8 0, .int .u8 0, .int .u8 0, .int .u8 0, .int .u8 0, .int .u8 0, .int .u8 0, .int .u8 0, .int .u8 0, .int .u8 0, .int .u8 0, .int .u8 0, .int .u8 0, .int .u8 0, .int .u8 0, .int .u8 0] 58)) := ((Below.refl _ _).alloc (Nat.le_refl _) _).alloc (by simp) _
  have K0 := sha.Sum A n c l _ (hl.keep hb) (hT.keep hb)
  obtain ⟨B, hB⟩ : ∃ B, B = mblk l := ⟨_, rfl⟩
  obtain ⟨S, hS⟩ : ∃ S, S = shaN l := ⟨_, rfl⟩
  rw [← hS] at K0
  have hSl : S.length = 32 := by rw [hS, shaN_len]
  have hm : mkey l = S := by rw [mkey, if_pos (by omega), hS]
  have hsp : splice zblk 0 ((S.map bv).take 32) = B.map bv := by
    rw [List.take_of_length_le (by rw [List.length_map]; omega), zblk_splice S (by omega), hB, mblk, hm]
  have hBl : B.length = 64 := by rw [hB, mblk_len]
  have HS := Lib.hid (And.intro hsp (And.intro hB (And.intro hBl (And.intro hS hSl))))
  have HF := Lib.hid (show 0 + 32 ≤ zblk.length by rw [show zblk.length = 64 from rfl]; omega)
  have K := Lib.hid K0
  have SZ := Lib.hid (show (Tryd.prog.info? 58).map (·.size) = some (B.map bv).length by rw [List.length_map, hBl]; exact size_blk)
  have LL := Lib.hid (show zblk.length = (B.map bv).length by rw [List.length_map, hBl]; rfl)
  have OB := Lib.hid (one_bv B)
  clear hlen hsp hB hBl hS hSl hm K0 H2 H3
  go_enter Tryd.func59, Tryd.ntmps59
  go_wp2_with fail
  refine (K.out).mono ?_
  rintro e w2 ⟨rfl, hb2⟩
  have H22 := H2'.keep hb2 H2'.lt
  have H32 := H3'.keep hb2 H3'.lt
  have hbw := hb.trans (hb2.mono hb.size)
  have hg3 := H32.lt
  have HK := newKey w2
  have H23 := H22.alloc (.cells #[.int .u8 0, .int .u8 0, .int .u8 0, .int .u8 0, .int .u8 0, .int .u8 0, .int .u8 0, .int .u8 0, .int .u8 0, .int .u8 0, .int .u8 0, .int .u8 0, .int .u8 0, .int .u8 0, .int .u8 0, .int .u8 0, .int .u8 0, .int .u8 0, .int .u8 0, .int .u8 0, .int .u8 0, .int .u8 0, .int .u8 0, .int .u8 0, .int .u8 0, .int .u8 0, .int .u8 0, .int .u8 0, .int .u8 0, .int .u8 0, .int .u8 0, .int .u8 0] 30)
  have H33 := H32.alloc (.cells #[.int .u8 0, .int .u8 0, .int .u8 0, .int .u8 0, .int .u8 0, .int .u8 0, .int .u8 0, .int .u8 0, .int .u8 0, .int .u8 0, .int .u8 0, .int .u8 0, .int .u8 0, .int .u8 0, .int .u8 0, .int .u8 0, .int .u8 0, .int .u8 0, .int .u8 0, .int .u8 0, .int .u8 0, .int .u8 0, .int .u8 0, .int .u8 0, .int .u8 0, .int .u8 0, .int .u8 0, .int .u8 0, .int .u8 0, .int .u8 0, .int .u8 0, .int .u8 0] 30)
  have hb3 := newKey_below hbw hbw.size
  clear H2' H3' hb hb2 K H22 H32
  go_wp2_with ((with_reducible refine wpList_store_key rfl (.tmp 4) (.tmp 9) rfl w2.heap.size rfl S HS.out.2.2.2.2 rfl zkey HK rfl ?_); intro w4 o4 H4)
  have hgg := HK.lt
  have H24 := H23.only o4 (by omega)
  have H34 := H33.only o4 (Nat.ne_of_lt hg3)
  have hb4 := o4.below hb3 hbw.size
  have hS4 := H4.bytes 32 HS.out.2.2.2.2 (by simp [maxLen])
  clear H23 H33 hb3 HK o4 H4
  go_region_law ((refine step_copy_has (by rfl) (.tmp 10) (.tmp 11) 23 23 (by rfl) 5 Tryd.underlying23 (by kernel_rfl) (w.heap.size + 1) 0 64 64 (by rfl) (some ⟨w2.heap.size, 0, none⟩) 32 32 (by rfl) (S.map bv) hS4 58 zblk H34 32 (by rfl) HF.out (one_bv S) ?_; intro w5 o5 H5))
  all_goals
    have H25 := (show Has w4.drew w.heap.size 58 zblk from H24).only o5 (by omega)
    have hb5 := o5.below hb4.drew (by omega)
    rw [HS.out.1] at H5
    clear H24 H34 hb4 hS4 o5
    go_wp2_with (first
      | ((with_reducible refine wpList_load_has rfl 58 (.tmp 3) rfl (w.heap.size + 1) rfl 58 (B.map bv) H5 _ Tryd.underlying58 rfl SZ.out ?_))
      | ((with_reducible refine wpList_store_has rfl 58 (.tmp 2) (.tmp 16) rfl w.heap.size rfl (B.map bv) rfl 58 zblk H25 SZ.out LL.out OB.out ?_); intro w6 o6 H6))
    refine ret_has Tryd.results59 w.heap.size ?_ 58 (B.map bv) H6 _ Tryd.underlying58 rfl SZ.out ?_ ⟨by rw [HS.out.2.1], o6.below hb5 (Nat.le_refl _)⟩
    · rfl
    · rfl
theorem block (A : Option Addr) (n c : Nat) (l : List UInt8) (w : World) (hl : Bytes w A n c l) (hT : Tab w) :
    Calls Tryd.prog 59 #[.slice A n c] w fun e w' => e = .returned (.agg ((mblk l).map bv).toArray) ∧ Below w.heap.size w w' := by
  by_cases h : 64 < n
  · exact blockLong A n c l w hl hT h
  · exact blockShort A n c l w hl (by omega)
set_option maxHeartbeats 800000 in
theorem masked (k : List UInt8) (hk : k.length = 64) (m : Nat) (hm : m < 256) (A : Option Addr) (n c : Nat) (l : List UInt8) (w : World) (hl : Bytes w A n c l) (hn : n ≤ 70368744177664) :
    Calls Tryd.prog 60 #[.agg (k.map bv).toArray, .int .u8 (m : Int), .slice A n c] w fun e w' => ∃ v, e = .returned v ∧ w'.ownsRow w.heap.size 5 1 v (64 + n) ((mask (UInt8.ofNat m) k ++ l).map bv) ∧ Below w.heap.size w w' := by
  obtain ⟨mu, hmu⟩ : ∃ x, x = UInt8.ofNat m := ⟨_, rfl⟩
  have hmk := fun u => run_make8 0 (64 + n) (by omega) (by omega) u
  rw [show ((64 + n : Nat) : Int) = 64 + (n : Int) by omega, show ((0 : Nat) : Int) = 0 from rfl] at hmk
  have e1 : 64 + (n : Int) ≤ 9223372036854775807 := by omega
  have ix := fun (j : Nat) (hj : j < 64) (u : World) => run_index_byte (P := Tryd.prog) (T := 58) Tryd.underlying58 Tryd.underlying5 size_u8 k hk j hj u
  have Hk := Lib.hid hk
  have HM := Lib.hid hmu
  have hb0 := (Below.refl w.heap.size w).alloc (Nat.le_refl _) (.cells (k.map bv).toArray 58)
  have H0 := Has.new w 58 (k.map bv)
  have hb1 := hb0.alloc hb0.size (.cells (noughts (64 + n)).toArray 5)
  have H1 := H0.alloc (.cells (noughts (64 + n)).toArray 5)
  have hown0 : ((w.alloc (.cells (k.map bv).toArray 58)).alloc (.cells (noughts (64 + n)).toArray 5)).ownsRow w.heap.size 5 1 (.slice (some ⟨w.heap.size + 1, 0, none⟩) 0 (64 + n)) 0 (([] : List UInt8).map bv) :=
    own_splice (Z := noughts (64 + n)) (xs := []) (by rw [splice_nil]; exact (Has.new _ _ _).at_ (show _ = w.heap.size + 1 by simp)) (by omega) rfl (by omega) (by unfold maxLen; omega) (noughts_len _)
  have SZ := Lib.hid (show (Tryd.prog.info? 58).map (·.size) = some (k.map bv).length by rw [List.length_map, hk]; exact size_blk)
  have HB := Lib.hid (show ∀ x, x < 64 → x + 1 ≤ 140737488355328 by omega)
  have HB2 := Lib.hid (show 64 + n ≤ 140737488355328 by omega)
  clear hmu
  go_enter Tryd.func60, Tryd.ntmps60
  go_wp2_with ((with_reducible refine wpList_load_has rfl 58 (.tmp 3) rfl w.heap.size rfl 58 (k.map bv) H1 _ Tryd.underlying58 rfl SZ.out ?_))
  change Code.wp _ _ _ _ ((w.alloc (.cells (k.map bv).toArray 58)).alloc (.cells (noughts (64 + n)).toArray 5))
  generalize ((w.alloc (.cells (k.map bv).toArray 58)).alloc (.cells (noughts (64 + n)).toArray 5)) = w1 at *
  clear H1 H0 hb0 hmk
  go_loopw [7, 15] (fun v i wr => ∃ j : Nat, j ≤ 64 ∧ i = .int .i64 j ∧ wr.ownsRow w.heap.size 5 1 v j ((mask mu (k.take j)).map bv) ∧ Below w.heap.size w wr) (fun _ i _ => 64 - (intOf i).toNat)
  case atStart => exact ⟨0, by omega, rfl, by simpa [mask] using hown0, hb1⟩
  case round =>
    clear hown0 hb1
    obtain ⟨j, hj, rfl, hown, hb⟩ := hrel
    by_cases hlt : j < 64
    · have ixj := ix j hlt
      obtain ⟨x, hx⟩ : ∃ x, x = (k.getD j 0).toNat := ⟨_, rfl⟩
      have hx256 : x < 256 := by rw [hx]; exact UInt8.toNat_lt _
      rw [← hx] at ixj
      have HX := Lib.hid hx
      have HL := Lib.hid (litX wr x m hx256 hm)
      have HJ := Lib.hid (HB.out j hlt)
      clear hx ix
      go_wp2_with (at_builtin; (refine app8 rfl (.tmp 18) (.tmp 22) rfl w.heap.size u7 j (mask mu (k.take j)) rfl (hown.alloc _) (some ⟨wr.heap.size, 0, none⟩) 1 1 [UInt8.ofNat x ^^^ UInt8.ofNat m] rfl HL.out HJ.out (Nat.le_trans hb.size (by simp)) ?_); intro v2 w2 hown2 hg2)
      go_roundw
      case rel =>
        refine ⟨j + 1, by omega, by go_num, ?_, (hb.alloc hb.size _).grown hg2 (Nat.le_trans hb.size (by simp)) (fun k hk => (hown.lt k hk).1)⟩
        have hjk : j < k.length := by rw [Hk.out]; exact hlt
        have e : k[j] = UInt8.ofNat x := by rw [HX.out]; simp [hjk]
        rw [List.take_succ_eq_append_getElem hjk, mask, List.map_append, ← mask, List.map_cons, List.map_nil, e, HM.out, ← HM.out]
        rw [HM.out] at hown2 ⊢
        exact hown2
      case measure => simp [intOf]; omega
    · obtain rfl : j = 64 := by omega
      have hl1 := hl.keep hb
      rw [List.take_of_length_le (Nat.le_of_eq Hk.out)] at hown
      clear ix
      go_wp2_with (at_builtin; (refine app8 rfl (.tmp 25) (.tmp 26) rfl w.heap.size u7 64 (mask mu k) rfl hown A n c l rfl hl1 HB2.out hb.size ?_); intro v2 w2 hown2 hg2)
      go_ret
      exact ⟨_, rfl, by rw [← HM.out]; exact hown2, hb.grown hg2 hb.size (fun k hk => (hown.lt k hk).1)⟩
end mac
end Go.Proofs.YtcdoeiccdmmfkaaDoor
/-
  Contract of mac.Of.
-/
namespace Go.Proofs.YtcdoeiccdmmfkaaDoor
open Go.ChangeShapes Go.WideShapes Go.ChangeAt Go.RowKit
set_option linter.unusedVariables false
set_option linter.unusedSimpArgs false

namespace mac
set_option maxRecDepth 10000 in
set_option maxHeartbeats 800000 in
theorem Of (A : Option Addr) (n c : Nat) (l : List UInt8) (B : Option Addr) (m d : Nat) (l' : List UInt8) (w : World) (hl : Bytes w A n c l) (hl' : Bytes w B m d l') (hm : m ≤ 70368744177664) (hT : Tab w) :
    Calls Tryd.prog 37 #[.slice A n c, .slice B m d] w fun e w' => e = .returned (.agg ((macN l l').map bv).toArray) ∧ Below w.heap.size w w' := by
  have HR := newKey w
  have hb1 := newKey_below (Below.refl w.heap.size w) (Nat.le_refl _)
  have K0 := block A n c l _ (hl.keep hb1) (hT.keep hb1)
  obtain ⟨X, hX⟩ : ∃ B, B = mblk l := ⟨_, rfl⟩
  have hXl : X.length = 64 := by rw [hX, mblk_len]
  rw [← hX] at K0
  have K := Lib.hid K0
  have H0 := Lib.hid (And.intro hX hXl)
  have SX := Lib.hid (show (Tryd.prog.info? 58).map (·.size) = some (X.map bv).length by rw [List.length_map, hXl]; exact size_blk)
  have LX := Lib.hid (show zblk.length = (X.map bv).length by rw [List.length_map, hXl]; rfl)
  have OX := Lib.hid (one_bv X)
  clear hX hXl K0
  go_enter Tryd.func37, Tryd.ntmps37
  go_wp2_with fail
  refine (K.out).mono ?_
  rintro e w2 ⟨rfl, hb2⟩
  have hbw2 := hb1.trans (hb2.mono hb1.size)
  have HR2 := HR.keep hb2 HR.lt
  have H3 := newBlk w2
  have HR3 := HR2.alloc (.cells #[.int .u8 0, .int .u8 0, .int .u8 0, .int .u8 0, .int .u8 0, .int .u8 0, .int .u8 0, .int .u8 0, .int .u8 0, .int .u8 0, .int .u8 0, .int .u8 0, .int .u8 0, .int .u8 0, .int .u8 0, .int .u8 0, .int .u8 0, .int .u8 0, .int .u8 0, .int .u8 0, .int .u8 0, .int .u8 0, .int .u8 0, .int .u8 0, .int .u8 0, .int .u8 0, .int .u8 0, .int .u8 0, .int .u8 0, .int .u8 0, .int .u8 0, .int .u8 0, .int .u8 0, .int .u8 0, .int .u8 0, .int .u8 0, .int .u8 0, .int .u8 0, .int .u8 0, .int .u8 0, .int .u8 0, .int .u8 0, .int .u8 0, .int .u8 0, .int .u8 0, .int .u8 0, .int .u8 0, .int .u8 0, .int .u8 0, .int .u8 0, .int .u8 0, .int .u8 0, .int .u8 0, .int .u8 0, .int .u8 0, .int .u8 0, .int .u8 0, .int .u8 0, .int .u8 0, .int .u8 0, .int .u8 0, .int .u8 0, .int .u8 0, .int .u8 0] 58)
  have hb3 : Below w.heap.size w (w2.alloc (.cells #[.int .u8 0, .int .u8 0, .int .u8 0, .int .u8 0, .int .u8 0, .int .u8 0, .int .u8 0, .int .u8 0, .int .u8 0, .int .u8 0, .int .u8 0, .int .u8 0, .int .u8 0, .int .u8 0, .int .u8 0, .int .u8 0, .int .u8 0, .int .u8 0, .int .u8 0, .int .u8 0, .int .u8 0, .int .u8 0, .int .u8 0, .int .u8 0, .int .u8 0, .int .u8 0, .int .u8 0, .int .u8 0, .int .u8 0, .int .u8 0, .int .u8 0, .int .u8 0, .int .u8 0, .int .u8 0, .int .u8 0, .int .u8 0, .int .u8 0, .int .u8 0, .int .u8 0, .int .u8 0, .int .u8 0, .int .u8 0, .int .u8 0, .int .u8 0, .int .u8 0, .int .u8 0, .int .u8 0, .int .u8 0, .int .u8 0, .int .u8 0, .int .u8 0, .int .u8 0, .int .u8 0, .int .u8 0, .int .u8 0, .int .u8 0, .int .u8 0, .int .u8 0, .int .u8 0, .int .u8 0, .int .u8 0, .int .u8 0, .int .u8 0, .int .u8 0] 58)) := hbw2.alloc hbw2.size _
  have hr2 := HR2.lt
  clear HR hb1 hb2 K HR2
  go_wp2_with (first
    | ((with_reducible refine wpList_store_has rfl 58 (.tmp 5) (.tmp 8) rfl w2.heap.size rfl (X.map bv) rfl 58 zblk H3 SX.out LX.out OX.out ?_); intro w4 o4 H4; have HR4 := HR3.only o4 (by omega); have hb4 := o4.below hb3 hbw2.size)
    | ((with_reducible refine wpList_load_has rfl 58 (.tmp 5) rfl w2.heap.size rfl 58 (X.map bv) H4 _ Tryd.underlying58 rfl SX.out ?_)))
  refine (masked X H0.out.2 54 (by omega) B m d l' w4 (hl'.keep hb4) hm).mono ?_
  rintro e w5 ⟨v5, rfl, hown5, hb5⟩
  obtain ⟨A5, c5, rfl, hr5⟩ := Row.own hown5
  have hbw5 := hb4.trans (hb5.mono hb4.size)
  have H45 := H4.keep hb5 H4.lt
  have HR5 := HR4.keep hb5 HR4.lt
  obtain ⟨I, hI⟩ : ∃ I, I = shaN (mask 54 X ++ l') := ⟨_, rfl⟩
  have hIl : I.length = 32 := by rw [hI, shaN_len]
  have KS0 := sha.Sum A5 (64 + m) c5 (mask 54 X ++ l') w5 hr5 (hT.keep hbw5)
  rw [← hI] at KS0
  have KS := Lib.hid KS0
  have HI := Lib.hid (And.intro hI hIl)
  have hw45 := H45.lt
  clear hown5 hr5 hI hIl KS0 hb5 H4 HR4 hb4 o4 H3 HR3 hb3
  go_wp2_with fail
  refine (KS.out).mono ?_
  rintro e w6 ⟨rfl, hb6⟩
  have hbw6 := hbw5.trans (hb6.mono hbw5.size)
  have H46 := H45.keep hb6 hw45
  have HR6 := HR5.keep hb6 HR5.lt
  have HK := newKey w6
  have H47 := H46.alloc (.cells #[.int .u8 0, .int .u8 0, .int .u8 0, .int .u8 0, .int .u8 0, .int .u8 0, .int .u8 0, .int .u8 0, .int .u8 0, .int .u8 0, .int .u8 0, .int .u8 0, .int .u8 0, .int .u8 0, .int .u8 0, .int .u8 0, .int .u8 0, .int .u8 0, .int .u8 0, .int .u8 0, .int .u8 0, .int .u8 0, .int .u8 0, .int .u8 0, .int .u8 0, .int .u8 0, .int .u8 0, .int .u8 0, .int .u8 0, .int .u8 0, .int .u8 0, .int .u8 0] 30)
  have HR7 := HR6.alloc (.cells #[.int .u8 0, .int .u8 0, .int .u8 0, .int .u8 0, .int .u8 0, .int .u8 0, .int .u8 0, .int .u8 0, .int .u8 0, .int .u8 0, .int .u8 0, .int .u8 0, .int .u8 0, .int .u8 0, .int .u8 0, .int .u8 0, .int .u8 0, .int .u8 0, .int .u8 0, .int .u8 0, .int .u8 0, .int .u8 0, .int .u8 0, .int .u8 0, .int .u8 0, .int .u8 0, .int .u8 0, .int .u8 0, .int .u8 0, .int .u8 0, .int .u8 0, .int .u8 0] 30)
  have hb7 := newKey_below hbw6 hbw6.size
  have hr6 := HR6.lt
  have hw46 := H46.lt
  clear KS hbw5 H45 HR5 hb6 H46 HR6
  go_wp2_with ((with_reducible refine wpList_store_key rfl (.tmp 6) (.tmp 12) rfl w6.heap.size rfl I HI.out.2 rfl zkey HK rfl ?_); intro w8 o8 H8)
  have H48 := H47.only o8 (by omega)
  have HR8 := HR7.only o8 (by omega)
  have hb8 := o8.below hb7 hbw6.size
  have hI8 := H8.bytes 32 HI.out.2 (by simp [maxLen])
  clear HK H47 HR7 hb7 o8 hbw6
  have KM := Lib.hid (show Calls Tryd.prog 60 #[.agg (X.map bv).toArray, .int .u8 92, .slice (some ⟨w6.heap.size, 0, none⟩) 32 32] w8.drew (fun e w' => ∃ v, e = .returned v ∧ w'.ownsRow w8.drew.heap.size 5 1 v 96 ((mask 92 X ++ I).map bv) ∧ Below w8.drew.heap.size w8.drew w') from masked X H0.out.2 92 (by omega) (some ⟨w6.heap.size, 0, none⟩) 32 32 I w8.drew (hI8.keep (Below.refl _ _).drew) (by omega))
  obtain ⟨R, hR⟩ : ∃ R, R = shaN (mask 92 X ++ I) := ⟨_, rfl⟩
  have hRl : R.length = 32 := by rw [hR, shaN_len]
  have hRm : R = macN l l' := by rw [hR, HI.out.1, H0.out.1, macN]
  have KT := Lib.hid (fun (A9 : Option Addr) (c9 : Nat) (w9 : World) (hb9 : Below w8.drew.heap.size w8.drew w9) (h : Row w9 A9 96 c9 ((mask 92 X ++ I).map bv)) => show Calls Tryd.prog 27 #[.slice A9 96 c9] w9 fun e w' => e = .returned (.agg (R.map bv).toArray) ∧ Below w9.heap.size w9 w' by
    rw [hR]
    exact sha.Sum A9 96 c9 _ w9 h (hT.keep (hb8.drew.trans (hb9.mono hb8.size))))
  have HC := Lib.hid (fun (u : World) (hb : Below w8.drew.heap.size w8.drew u) => Has.keep (w := w8.drew) HR8 hb HR8.lt)
  have HCT := Lib.hid (fun (u : World) (h : Has u w.heap.size 30 zkey) => Has.there h 0 (R.map bv).length (by rw [List.length_map, hRl]; decide))
  have SR := Lib.hid (show (Tryd.prog.info? 30).map (·.size) = some (R.map bv).length by rw [List.length_map, hRl]; exact size_key)
  have HRR := Lib.hid (And.intro hRl hRm)
  have hu1 := Tryd.underlying58
  have hi1 := SX.out
  have hone1 := OX.out
  have hrg1 : w8.rangeAt w2.heap.size 0 (X.map bv) := Has.range H48 0 (X.map bv) (by rw [List.drop_zero, List.take_length])
  have HRG := Lib.hid (fun (u : World) (h : Below w8.drew.heap.size w8.drew u) => Has.range (Has.keep (w := w8.drew) H48 h H48.lt) 0 (X.map bv) (by rw [List.drop_zero, List.take_length]))
  have HRS := Lib.hid (fun (u : World) (h : Below w8.drew.heap.size w8.drew u) => Has.range ((Has.keep (w := w8.drew) H48 h H48.lt).only (Only.setCells w.heap.size (R.map bv) 0 u) (by omega)) 0 (X.map bv) (by rw [List.drop_zero, List.take_length]))
  have hu2 := Tryd.underlying30
  have hi2 := SR.out
  have hone2 := one_bv R
  have hk1 := H0.out.2
  clear hR hRl hRm H48 H8 hI8
  go_region_held (fun w' => w'.rangeAt w2.heap.size 0 (X.map bv))
    (first | exact hrg1 | exact HRG.out _ hb9 | exact HRG.out _ (hb9.trans (hb10.mono hb9.size)) | exact HRS.out _ (hb9.trans (hb10.mono hb9.size)))
    (first
    | (go_at_call 60; with_reducible refine (KM.out).mono ?_; rintro e w9 ⟨v9, rfl, hown9, hb9⟩; obtain ⟨A9, c9, rfl, hr9⟩ := Row.own hown9)
    | (go_at_call 27; with_reducible refine (KT.out A9 c9 w9 hb9 hr9).mono ?_; rintro e w10 ⟨rfl, hb10⟩; have HR10 := HC.out w10 (hb9.trans (hb10.mono hb9.size)); have hth := HCT.out w10 HR10))
  have hB := hb9.trans (hb10.mono hb9.size)
  have hb12 := (Only.setCells w.heap.size (R.map bv) 0 w10).below (hb8.drew.trans (hB.mono hb8.size)) (Nat.le_refl _)
  have H12 := Has.setCells (R.map bv) 0 w10 _ HR10 (by rw [List.length_map, HRR.out.1]; decide)
  rw [show splice zkey 0 (R.map bv) = R.map bv by rw [splice, List.length_map, HRR.out.1, show List.drop (0 + 32) zkey = [] from rfl]; simp] at H12
  clear hth HR10 hu1 hi1 hone1 hrg1 hu2 hi2 hone2 hk1
  go_wp2
  refine ret_key Tryd.results37 w.heap.size ?_ R HRR.out.1 H12 ?_ ⟨by rw [HRR.out.2], hb12⟩
  · rfl
  · rfl
end mac
end Go.Proofs.YtcdoeiccdmmfkaaDoor
