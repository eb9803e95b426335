/-
  The spec of mac; contracts of package mac.
-/
import Derived.Test.YtekpekmfddbiaaaDoorKey
import Derived.Deep.RegionHeldLaw
namespace Go.Proofs.YtekpekmfddbiaaaDoor
open Go.ChangeShapes Go.WideShapes Go.ChangeAt Go.RowKit
set_option linter.unusedVariables false
set_option linter.unusedSimpArgs false

def mkey (key : List UInt8) : List UInt8 := if 64 < key.length then shaN key else key
def mblk (key : List UInt8) : List UInt8 := mkey key ++ List.replicate (64 - (mkey key).length) 0
def mask (m : UInt8) (k : List UInt8) : List UInt8 := k.map fun c => c ^^^ m
def macN (key b : List UInt8) : List UInt8 := shaN (mask 92 (mblk key) ++ shaN (mask 54 (mblk key) ++ b))
theorem mkey_len (key : List UInt8) : (mkey key).length ≤ 64 := by
  unfold mkey
  split
  · rw [shaN_len]; omega
  · omega
theorem mblk_len (key : List UInt8) : (mblk key).length = 64 := by
  have := mkey_len key
  simp [mblk]
  omega
theorem mask_len (m : UInt8) (k : List UInt8) : (mask m k).length = k.length := by simp [mask]
theorem macN_len (key b : List UInt8) : (macN key b).length = 32 := shaN_len _

/-- A new block of 64 bytes 0. -/
def zblk : List Value := (List.replicate 64 0 : List UInt8).map bv
theorem newBlk (w : World) : Has (w.alloc (.cells #[.int .u8 0, .int .u8 0, .int .u8 0, .int .u8 0, .int .u8 0, .int .u8 0, .int .u8 0, .int .u8 0, .int .u8 0, .int .u8 0, .int .u8 0, .int .u8 0, .int .u8 0, .int .u8 0, .int .u8 0, .int .u8 0, .int .u8 0, .int .u8 0, .int .u8 0, .int .u8 0, .int .u8 0, .int .u8 0, .int .u8 0, .int .u8 0, .int .u8 0, .int .u8 0, .int .u8 0, .int .u8 0, .int .u8 0, .int .u8 0, .int .u8 0, .int .u8 0, .int .u8 0, .int .u8 0, .int .u8 0, .int .u8 0, .int .u8 0, .int .u8 0, .int .u8 0, .int .u8 0, .int .u8 0, .int .u8 0, .int .u8 0, .int .u8 0, .int .u8 0, .int .u8 0, .int .u8 0, .int .u8 0, .int .u8 0, .int .u8 0, .int .u8 0, .int .u8 0, .int .u8 0, .int .u8 0, .int .u8 0, .int .u8 0, .int .u8 0, .int .u8 0, .int .u8 0, .int .u8 0, .int .u8 0, .int .u8 0, .int .u8 0, .int .u8 0] 43)) w.heap.size 43 zblk := Has.new w 43 zblk
theorem size_blk : (Tryd.prog.info? 43).map (·.size) = some 64 := by kernel_rfl
theorem size_u8 : (Tryd.prog.info? 5).map (·.size) = some 1 := by kernel_rfl
theorem zblk_splice (l : List UInt8) (h : l.length ≤ 64) : splice zblk 0 (l.map bv) = (l ++ List.replicate (64 - l.length) 0).map bv := by
  rw [splice, zblk, List.map_append, List.map_replicate, List.map_replicate, List.length_map, Nat.zero_add, List.drop_replicate, List.take_zero, List.nil_append]

/-- A byte out of an array that is no variable. -/
theorem run_index_byte {P : Program} {T e : TypeId} {n : Nat} (hT : P.underlying T = some (.array n e)) (he : P.underlying e = some (.int .u8)) (hs : (P.info? e).map (·.size) = some 1)
    (l : List UInt8) (hl : l.length = n) (j : Nat) (hj : j < n) (w : World) : (Instr.index T (.agg (l.map bv).toArray) (.int .i64 (j : Int))).run P w = .ok (.int .u8 (((l.getD j 0).toNat : Nat) : Int)) w := by
  cases hq : P.info? e with
  | none => simp [hq] at hs
  | some i =>
    have h1 : i.size = 1 := by simpa [hq] using hs
    have h2 : (0 : Int) ≤ (j : Int) ∧ (j : Int) < (n : Int) := by omega
    have h3 : j < l.length := by omega
    simp [Instr.index, asIntOf, Sem.run_bind, Sem.run_pure, run_underlying hT, h2, sizeOf, typeInfo, hq, h1, part, isAgg, run_underlying he, h3, bv, hj]
theorem xor_u8 (x m : Nat) (hx : x < 256) (hm : m < 256) : bits .xor .u8 (x : Int) (m : Int) = (((UInt8.ofNat x ^^^ UInt8.ofNat m).toNat : Nat) : Int) := by
  rw [u8_xor_nat x m hx hm, UInt8.toNat_xor, UInt8.toNat_ofNat_of_lt' hx, UInt8.toNat_ofNat_of_lt' hm]
theorem bv_ofNat (x : Nat) (hx : x < 256) : bv (UInt8.ofNat x) = .int .u8 (x : Int) := by
  rw [bv, UInt8.toNat_ofNat_of_lt' hx]
/-- What a literal of one byte has just laid. -/
theorem litX (w : World) (x m : Nat) (hx : x < 256) (hm : m < 256) : Bytes (w.alloc (.cells #[.int .u8 (bits .xor .u8 (x : Int) (m : Int))] 5)) (some ⟨w.heap.size, 0, none⟩) 1 1 [UInt8.ofNat x ^^^ UInt8.ofNat m] := by
  have h := Bytes.lit w [UInt8.ofNat x ^^^ UInt8.ofNat m] (by simp [maxLen])
  rw [List.map_cons, List.map_nil, bv, ← xor_u8 x m hx hm] at h
  exact h

namespace mac
set_option maxHeartbeats 400000 in
theorem blockShort (A : Option Addr) (n c : Nat) (l : List UInt8) (w : World) (hl : Bytes w A n c l) (hn : n ≤ 64) :
    Calls Tryd.prog 23 #[.slice A n c] w fun e w' => e = .returned (.agg ((mblk l).map bv).toArray) ∧ Below w.heap.size w w' := by
  have hlen := hl.len
  have hn' : ¬ (64 : Int) < (n : Int) := by omega
  have H2 := newBlk w
  obtain ⟨w1, hw1⟩ : ∃ x, x = w.alloc (.cells #[.int .u8 0, .int .u8 0, .int .u8 0, .int .u8 0, .int .u8 0, .int .u8 0, .int .u8 0, .int .u8 0, .int .u8 0, .int .u8 0, .int .u8 0, .int .u8 0, .int .u8 0, .int .u8 0, .int .u8 0, .int .u8 0, .int .u8 0, .int .u8 0, .int .u8 0, .int .u8 0, .int .u8 0, .int .u8 0, .int .u8 0, .int .u8 0, .int .u8 0, .int .u8 0, .int .u8 0, .int .u8 0, .int .u8 0, .int .u8 0, .int .u8 0, .int .u8 0, .int .u8 0, .int .u8 0, .int .u8 0, .int .u8 0, .int .u8 0, .int .u8 0, .int .u8 0, .int .u8 0, .int .u8 0, .int .u8 0, .int .u8 0, .int .u8 0, .int .u8 0, .int .u8 0, .int .u8 0, .int .u8 0, .int .u8 0, .int .u8 0, .int .u8 0, .int .u8 0, .int .u8 0, .int .u8 0, .int .u8 0, .int .u8 0, .int .u8 0, .int .u8 0, .int .u8 0, .int .u8 0, .int .u8 0, .int .u8 0, .int .u8 0, .int .u8 0] 43) := ⟨_, rfl⟩
  have H3 := newBlk (w.alloc (.cells #[.int .u8 0, .int .u8 0, .int .u8 0, .int .u8 0, .int .u8 0, .int .u8 0, .int .u8 0, .int .u8 0, .int .u8 0, .int .u8 0, .int .u8 0, .int .u8 0, .int .u8 0, .int .u8 0, .int .u8 0, .int .u8 0, .int .u8 0, .int .u8 0, .int .u8 0, .int .u8 0, .int .u8 0, .int .u8 0, .int .u8 0, .int .u8 0, .int .u8 0, .int .u8 0, .int .u8 0, .int .u8 0, .int .u8 0, .int .u8 0, .int .u8 0, .int .u8 0, .int .u8 0, .int .u8 0, .int .u8 0, .int .u8 0, .int .u8 0, .int .u8 0, .int .u8 0, .int .u8 0, .int .u8 0, .int .u8 0, .int .u8 0, .int .u8 0, .int .u8 0, .int .u8 0, .int .u8 0, .int .u8 0, .int .u8 0, .int .u8 0, .int .u8 0, .int .u8 0, .int .u8 0, .int .u8 0, .int .u8 0, .int .u8 0, .int .u8 0, .int .u8 0, .int .u8 0, .int .u8 0, .int .u8 0, .int .u8 0, .int .u8 0, .int .u8 0] 43))
  have H2' := H2.alloc (.cells #[.int .u8 0, .int .u8 0, .int .u8 0, .int .u8 0, .int .u8 0, .int .u8 0, .int .u8 0, .int .u8 0, .int .u8 0, .int .u8 0, .int .u8 0, .int .u8 0, .int .u8 0, .int .u8 0, .int .u8 0, .int .u8 0, .int .u8 0, .int .u8 0, .int .u8 0, .int .u8 0, .int .u8 0, .int .u8 0, .int .u8 0, .int .u8 0, .int .u8 0, .int .u8 0, .int .u8 0, .int .u8 0, .int .u8 0, .int .u8 0, .int .u8 0, .int .u8 0, .int .u8 0, .int .u8 0, .int .u8 0, .int .u8 0, .int .u8 0, .int .u8 0, .int .u8 0, .int .u8 0, .int .u8 0, .int .u8 0, .int .u8 0, .int .u8 0, .int .u8 0, .int .u8 0, .int .u8 0, .int .u8 0, .int .u8 0, .int .u8 0, .int .u8 0, .int .u8 0, .int .u8 0, .int .u8 0, .int .u8 0, .int .u8 0, .int .u8 0, .int .u8 0, .int .u8 0, .int .u8 0, .int .u8 0, .int .u8 0, .int .u8 0, .int .u8 0] 43)
  have H3' := H3.at_ (show _ = w.heap.size + 1 by simp)
  have hb : Below w.heap.size w ((w.alloc (.cells #[.int .u8 0, .int .u8 0, .int .u8 0, .int .u8 0, .int .u8 0, .int .u8 0, .int .u8 0, .int .u8 0, .int .u8 0, .int .u8 0, .int .u8 0, .int .u8 0, .int .u8 0, .int .u8 0, .int .u8 0, .int .u8 0, .int .u8 0, .int .u8 0, .int .u8 0, .int .u8 0, .int .u8 0, .int .u8 0, .int .u8 0, .int .u8 0, .int .u8 0, .int .u8 0, .int .u8 0, .int .u8 0, .int .u8 0, .int .u8 0, .int .u8 0, .int .u8 0, .int .u8 0, .int .u8 0, .int .u8 0, .int .u8 0, .int .u8 0, .int .u8 0, .int .u8 0, .int .u8 0, .int .u8 0, .int .u8 0, .int .u8 0, .int .u8 0, .int .u8 0, .int .u8 0, .int .u8 0, .int .u8 0, .int .u8 0, .int .u8 0, .int .u8 0, .int .u8 0, .int .u8 0, .int .u8 0, .int .u8 0, .int .u8 0, .int .u8 0, .int .u8 0, .int .u8 0, .int .u8 0, .int .u8 0, .int .u8 0, .int .u8 0, .int .u8 0] 43)).alloc (.cells #[.int .u8 0, .int .u8 0, .int .u8 0, .int .u8 0, .int .u8 0, .int .u8 0, .int .u8 0, .int .u8 0, .int .u8 0, .int .u8 0, .int .u8 0, .int .u8 0, .int .u8 0, .int .u8 0, .int .u8 0, .int .u8 0, .int .u8 0, .int .u8 0, .int .u8 0, .int .u8 0, .int .u8 0, .int .u8 0, .int .u8 0, .int .u8 0, .int .u8 0, .int .u8 0, .int .u8 0, .int .u8 0, .int .u8 0, .int .u8 0, .int .u8 0, .int .u8 0, .int .u8 0, .int .u8 0, .int .u8 0, .int .u8 0, .int .u8 0, .int .u8 0, .int .u8 0, .int .u8 0, .int .u8 0, .int .u8 0, .int .u8 0, .int .u8 0, .int .u8 0, .int .u8 0, .int .u8 0, .int .u8 0, .int .u8 0, .int .u8 0, .int .u8 0, .int .u8 0, .int .u8 0, .int .u8 0, .int .u8 0, .int .u8 0, .int .u8 0, .int .u8 0, .int .u8 0, .int .u8 0, .int .u8 0, .int .u8 0, .int .u8 0, .int .u8 0] 43)) := ((Below.refl _ _).alloc (Nat.le_refl _) _).alloc (by simp) _
  have hl3 := hl.keep hb
  obtain ⟨B, hB⟩ : ∃ B, B = mblk l := ⟨_, rfl⟩
  have hsp : splice zblk 0 ((l.map bv).take n) = B.map bv := by
    have hm : mkey l = l := by rw [mkey, if_neg (by omega)]
    rw [List.take_of_length_le (by rw [List.length_map]; omega), zblk_splice l (by omega), hB, mblk, hm]
  have hBl : B.length = 64 := by rw [hB, mblk_len]
  have HS := Lib.hid (And.intro hsp (And.intro hB hBl))
  have HK := Lib.hid (show n = Nat.min n 64 from (Nat.min_eq_left hn).symm)
  have HF := Lib.hid (show 0 + n ≤ zblk.length by rw [show zblk.length = 64 from rfl]; omega)
  have HO := Lib.hid (one_bv l)
  have HL := Lib.hid (show Row _ A n c (l.map bv) from hl3)
  have SZ := Lib.hid (show (Tryd.prog.info? 43).map (·.size) = some (B.map bv).length by rw [List.length_map, hBl]; exact size_blk)
  have LL := Lib.hid (show zblk.length = (B.map bv).length by rw [List.length_map, hBl]; rfl)
  have OB := Lib.hid (one_bv B)
  clear hlen hsp hB hBl hl3 H2 H3 hw1 w1
  go_enter Tryd.func23, Tryd.ntmps23
  go_wp2_with (first
    | ((with_reducible refine wpList_copy_has rfl (.tmp 13) (.tmp 14) 24 24 rfl 5 Tryd.underlying24 size_u8 (w.heap.size + 1) 0 64 64 rfl A n c rfl (l.map bv) HL.out 43 zblk H3' n HK.out HF.out HO.out ?_); intro w4 o4 H4; have H24 := H2'.only o4 (by omega); have hb4 := o4.below hb (by omega); have H4' := HS.out.1 ▸ H4)
    | ((with_reducible refine wpList_load_has rfl 43 (.tmp 3) rfl (w.heap.size + 1) rfl 43 (B.map bv) H4' _ Tryd.underlying43 rfl SZ.out ?_))
    | ((with_reducible refine wpList_store_has rfl 43 (.tmp 2) (.tmp 16) rfl w.heap.size rfl (B.map bv) rfl 43 zblk H24 SZ.out LL.out OB.out ?_); intro w5 o5 H5))
  refine ret_has Tryd.results23 w.heap.size ?_ 43 (B.map bv) H5 _ Tryd.underlying43 rfl SZ.out ?_ ⟨by rw [HS.out.2.1], o5.below hb4 (Nat.le_refl _)⟩
  · rfl
  · rfl
set_option maxHeartbeats 800000 in
theorem blockLong (A : Option Addr) (n c : Nat) (l : List UInt8) (w : World) (hl : Bytes w A n c l) (hT : Tab w) (hn : 64 < n) :
    Calls Tryd.prog 23 #[.slice A n c] w fun e w' => e = .returned (.agg ((mblk l).map bv).toArray) ∧ Below w.heap.size w w' := by
  have hlen := hl.len
  have hn' : (64 : Int) < (n : Int) := by omega
  have H2 := newBlk w
  have H3 := newBlk (w.alloc (.cells #[.int .u8 0, .int .u8 0, .int .u8 0, .int .u8 0, .int .u8 0, .int .u8 0, .int .u8 0, .int .u8 0, .int .u8 0, .int .u8 0, .int .u8 0, .int .u8 0, .int .u8 0, .int .u8 0, .int .u8 0, .int .u8 0, .int .u8 0, .int .u8 0, .int .u8 0, .int .u8 0, .int .u8 0, .int .u8 0, .int .u8 0, .int .u8 0, .int .u8 0, .int .u8 0, .int .u8 0, .int .u8 0, .int .u8 0, .int .u8 0, .int .u8 0, .int .u8 0, .int .u8 0, .int .u8 0, .int .u8 0, .int .u8 0, .int .u8 0, .int .u8 0, .int .u8 0, .int .u8 0, .int .u8 0, .int .u8 0, .int .u8 0, .int .u8 0, .int .u8 0, .int .u8 0, .int .u8 0, .int .u8 0, .int .u8 0, .int .u8 0, .int .u8 0, .int .u8 0, .int .u8 0, .int .u8 0, .int .u8 0, .int .u8 0, .int .u8 0, .int .u8 0, .int .u8 0, .int .u8 0, .int .u8 0, .int .u8 0, .int .u8 0, .int .u8 0] 43))
  have H2' := H2.alloc (.cells #[.int .u8 0, .int .u8 0, .int .u8 0, .int .u8 0, .int .u8 0, .int .u8 0, .int .u8 0, .int .u8 0, .int .u8 0, .int .u8 0, .int .u8 0, .int .u8 0, .int .u8 0, .int .u8 0, .int .u8 0, .int .u8 0, .int .u8 0, .int .u8 0, .int .u8 0, .int .u8 0, .int .u8 0, .int .u8 0, .int .u8 0, .int .u8 0, .int .u8 0, .int .u8 0, .int .u8 0, .int .u8 0, .int .u8 0, .int .u8 0, .int .u8 0, .int .u8 0, .int .u8 0, .int .u8 0, .int .u8 0, .int .u8 0, .int .u8 0, .int .u8 0, .int .u8 0, .int .u8 0, .int .u8 0, .int .u8 0, .int .u8 0, .int .u8 0, .int .u8 0, .int .u8 0, .int .u8 0, .int .u8 0, .int .u8 0, .int .u8 0, .int .u8 0, .int .u8 0, .int .u8 0, .int .u8 0, .int .u8 0, .int .u8 0, .int .u8 0, .int .u8 0, .int .u8 0, .int .u8 0, .int .u8 0, .int .u8 0, .int .u8 0, .int .u8 0] 43)
  have H3' := H3.at_ (show _ = w.heap.size + 1 by simp)
  have hb : Below w.heap.size w ((w.alloc (.cells #[.int .u8 0, .int .u8 0, .int .u8 0, .int .u8 0, .int .u8 0, .int .u8 0, .int .u8 0, .int .u8 0, .int .u8 0, .int .u8 0, .int .u8 0, .int .u8 0, .int .u8 0, .int .u8 0, .int .u8 0, .int .u8 0, .int .u8 0, .int .u8 0, .int .u8 0, .int .u8 0, .int .u8 0, .int .u8 0, .int .u8 0, .int .u8 0, .int .u8 0, .int .u8 0, .int .u8 0, .int .u8 0, .int .u8 0, .int .u8 0, .int .u8 0, .int .u8 0, .int .u8 0, .int .u8 0, .int .u8 0, .int .u8 0, .int .u8 0, .int .u8 0, .int .u8 0, .int .u8 0, .int .u8 0, .int .u8 0, .int .u8 0, .int .u8 0, .int .u8 0, .int .u8 0, .int .u8 0, .int .u8 0, .int .u8 0, .int .u8 0, .int .u8 0, .int .u8 0, .int .u8 0, .int .u8 0, .int .u8 0, .int .u8 0, .int .u8 0, .int .u8 0, .int .u8 0, .int .u8 0, .int .u8 0, .int .u8 0, .int .u8 0, .int .u8 0] 43)).alloc (.cells #[.int .u8 0, .int .u8 0, .int .u8 0, .int .u8 0, .int .u8 0, .int .u8 0, .int .u8 0, .int .u8 0, .int .u8 0, .int .u8 0, .int .u8 0, .int .u8 0, .int .u8 0, .int .u8 0, .int .u8 0, .int .u8 0, .int .u8 0, .int .u8 0, .int .u8 0, .int .u8 0, .int .u8 0, .int .u8 0, .int .u8 0, .int .u8 0, .int .u8 0, .int .u8 0, .int .u8 0, .int .u8 0, .int .u8 0, .int .u8 0, .int .u8 0, .int .u8 0, .int .u8 0, .int .u8 0, .int .u8 0, .int .u8 0, .int .u8 0, .int .u8 0, .int .u8 0, .int .u8 0, .int .u8 0, .int .u8 0, .int .u8 0, .int .u8 0, .int .u8 0, .int .u8 0, .int .u8 0, .int .u8 0, .int .u8 0, .int .u8 0, .int .u8 0, .int .u8 0, .int .u8 0, .int .u8 0, .int .u8 0, .int .u8 0, .int .u8 0, .int .u8 0, .int .u8 0, .int .u8 0, .int .u8 0, .int .u8 0, .int .u8 0, .int .u8 0] 43)) := ((Below.refl _ _).alloc (Nat.le_refl _) _).alloc (by simp) _
  have K0 := sha.Sum A n c l _ (hl.keep hb) (hT.keep hb)
  obtain ⟨B, hB⟩ : ∃ B, B = mblk l := ⟨_, rfl⟩
  obtain ⟨S, hS⟩ : ∃ S, S = shaN l := ⟨_, rfl⟩
  rw [← hS] at K0
  have hSl : S.length = 32 := by rw [hS, shaN_len]
  have hm : mkey l = S := by rw [mkey, if_pos (by omega), hS]
  have hsp : splice zblk 0 ((S.map bv).take 32) = B.map bv := by
    rw [List.take_of_length_le (by rw [List.length_map]; omega), zblk_splice S (by omega), hB, mblk, hm]
  have hBl : B.length = 64 := by rw [hB, mblk_len]
  have HS := Lib.hid (And.intro hsp (And.intro hB (And.intro hBl (And.intro hS hSl))))
  have HF := Lib.hid (show 0 + 32 ≤ zblk.length by rw [show zblk.length = 64 from rfl]; omega)
  have K := Lib.hid K0
  have SZ := Lib.hid (show (Tryd.prog.info? 43).map (·.size) = some (B.map bv).length by rw [List.length_map, hBl]; exact size_blk)
  have LL := Lib.hid (show zblk.length = (B.map bv).length by rw [List.length_map, hBl]; rfl)
  have OB := Lib.hid (one_bv B)
  clear hlen hsp hB hBl hS hSl hm K0 H2 H3
  go_enter Tryd.func23, Tryd.ntmps23
  go_wp2_with fail
  refine (K.out).mono ?_
  rintro e w2 ⟨rfl, hb2⟩
  have H22 := H2'.keep hb2 H2'.lt
  have H32 := H3'.keep hb2 H3'.lt
  have hbw := hb.trans (hb2.mono hb.size)
  have hg3 := H32.lt
  have HK := newKey w2
  have H23 := H22.alloc (.cells #[.int .u8 0, .int .u8 0, .int .u8 0, .int .u8 0, .int .u8 0, .int .u8 0, .int .u8 0, .int .u8 0, .int .u8 0, .int .u8 0, .int .u8 0, .int .u8 0, .int .u8 0, .int .u8 0, .int .u8 0, .int .u8 0, .int .u8 0, .int .u8 0, .int .u8 0, .int .u8 0, .int .u8 0, .int .u8 0, .int .u8 0, .int .u8 0, .int .u8 0, .int .u8 0, .int .u8 0, .int .u8 0, .int .u8 0, .int .u8 0, .int .u8 0, .int .u8 0] 23)
  have H33 := H32.alloc (.cells #[.int .u8 0, .int .u8 0, .int .u8 0, .int .u8 0, .int .u8 0, .int .u8 0, .int .u8 0, .int .u8 0, .int .u8 0, .int .u8 0, .int .u8 0, .int .u8 0, .int .u8 0, .int .u8 0, .int .u8 0, .int .u8 0, .int .u8 0, .int .u8 0, .int .u8 0, .int .u8 0, .int .u8 0, .int .u8 0, .int .u8 0, .int .u8 0, .int .u8 0, .int .u8 0, .int .u8 0, .int .u8 0, .int .u8 0, .int .u8 0, .int .u8 0, .int .u8 0] 23)
  have hb3 := newKey_below hbw hbw.size
  clear H2' H3' hb hb2 K H22 H32
  go_wp2_with ((with_reducible refine wpList_store_key rfl (.tmp 4) (.tmp 9) rfl w2.heap.size rfl S HS.out.2.2.2.2 rfl zkey HK rfl ?_); intro w4 o4 H4)
  have hgg := HK.lt
  have H24 := H23.only o4 (by omega)
  have H34 := H33.only o4 (Nat.ne_of_lt hg3)
  have hb4 := o4.below hb3 hbw.size
  have hS4 := H4.bytes 32 HS.out.2.2.2.2 (by simp [maxLen])
  clear H23 H33 hb3 HK o4 H4
  go_region_law ((refine step_copy_has (by rfl) (.tmp 10) (.tmp 11) 24 24 (by rfl) 5 Tryd.underlying24 (by kernel_rfl) (w.heap.size + 1) 0 64 64 (by rfl) (some ⟨w2.heap.size, 0, none⟩) 32 32 (by rfl) (S.map bv) hS4 43 zblk H34 32 (by rfl) HF.out (one_bv S) ?_; intro w5 o5 H5))
  all_goals
    have H25 := (show Has w4.drew w.heap.size 43 zblk from H24).only o5 (by omega)
    have hb5 := o5.below hb4.drew (by omega)
    rw [HS.out.1] at H5
    clear H24 H34 hb4 hS4 o5
    go_wp2_with (first
      | ((with_reducible refine wpList_load_has rfl 43 (.tmp 3) rfl (w.heap.size + 1) rfl 43 (B.map bv) H5 _ Tryd.underlying43 rfl SZ.out ?_))
      | ((with_reducible refine wpList_store_has rfl 43 (.tmp 2) (.tmp 16) rfl w.heap.size rfl (B.map bv) rfl 43 zblk H25 SZ.out LL.out OB.out ?_); intro w6 o6 H6))
    refine ret_has Tryd.results23 w.heap.size ?_ 43 (B.map bv) H6 _ Tryd.underlying43 rfl SZ.out ?_ ⟨by rw [HS.out.2.1], o6.below hb5 (Nat.le_refl _)⟩
    · rfl
    · rfl
theorem block (A : Option Addr) (n c : Nat) (l : List UInt8) (w : World) (hl : Bytes w A n c l) (hT : Tab w) :
    Calls Tryd.prog 23 #[.slice A n c] w fun e w' => e = .returned (.agg ((mblk l).map bv).toArray) ∧ Below w.heap.size w w' := by
  by_cases h : 64 < n
  · exact blockLong A n c l w hl hT h
  · exact blockShort A n c l w hl (by omega)
set_option maxHeartbeats 800000 in
theorem masked (k : List UInt8) (hk : k.length = 64) (m : Nat) (hm : m < 256) (A : Option Addr) (n c : Nat) (l : List UInt8) (w : World) (hl : Bytes w A n c l) (hn : n ≤ 70368744177664) :
    Calls Tryd.prog 25 #[.agg (k.map bv).toArray, .int .u8 (m : Int), .slice A n c] w fun e w' => ∃ v, e = .returned v ∧ w'.ownsRow w.heap.size 5 1 v (64 + n) ((mask (UInt8.ofNat m) k ++ l).map bv) ∧ Below w.heap.size w w' := by
  obtain ⟨mu, hmu⟩ : ∃ x, x = UInt8.ofNat m := ⟨_, rfl⟩
  have hmk := fun u => run_make8 0 (64 + n) (by omega) (by omega) u
  rw [show ((64 + n : Nat) : Int) = 64 + (n : Int) by omega, show ((0 : Nat) : Int) = 0 from rfl] at hmk
  have e1 : 64 + (n : Int) ≤ 9223372036854775807 := by omega
  have ix := fun (j : Nat) (hj : j < 64) (u : World) => run_index_byte (P := Tryd.prog) (T := 43) Tryd.underlying43 Tryd.underlying5 size_u8 k hk j hj u
  have Hk := Lib.hid hk
  have HM := Lib.hid hmu
  have hb0 := (Below.refl w.heap.size w).alloc (Nat.le_refl _) (.cells (k.map bv).toArray 43)
  have H0 := Has.new w 43 (k.map bv)
  have hb1 := hb0.alloc hb0.size (.cells (noughts (64 + n)).toArray 5)
  have H1 := H0.alloc (.cells (noughts (64 + n)).toArray 5)
  have hown0 : ((w.alloc (.cells (k.map bv).toArray 43)).alloc (.cells (noughts (64 + n)).toArray 5)).ownsRow w.heap.size 5 1 (.slice (some ⟨w.heap.size + 1, 0, none⟩) 0 (64 + n)) 0 (([] : List UInt8).map bv) :=
    own_splice (Z := noughts (64 + n)) (xs := []) (by rw [splice_nil]; exact (Has.new _ _ _).at_ (show _ = w.heap.size + 1 by simp)) (by omega) rfl (by omega) (by unfold maxLen; omega) (noughts_len _)
  have SZ := Lib.hid (show (Tryd.prog.info? 43).map (·.size) = some (k.map bv).length by rw [List.length_map, hk]; exact size_blk)
  have HB := Lib.hid (show ∀ x, x < 64 → x + 1 ≤ 140737488355328 by omega)
  have HB2 := Lib.hid (show 64 + n ≤ 140737488355328 by omega)
  clear hmu
  go_enter Tryd.func25, Tryd.ntmps25
  go_wp2_with ((with_reducible refine wpList_load_has rfl 43 (.tmp 3) rfl w.heap.size rfl 43 (k.map bv) H1 _ Tryd.underlying43 rfl SZ.out ?_))
  change Code.wp _ _ _ _ ((w.alloc (.cells (k.map bv).toArray 43)).alloc (.cells (noughts (64 + n)).toArray 5))
  generalize ((w.alloc (.cells (k.map bv).toArray 43)).alloc (.cells (noughts (64 + n)).toArray 5)) = w1 at *
  clear H1 H0 hb0 hmk
  go_loopw [7, 15] (fun v i wr => ∃ j : Nat, j ≤ 64 ∧ i = .int .i64 j ∧ wr.ownsRow w.heap.size 5 1 v j ((mask mu (k.take j)).map bv) ∧ Below w.heap.size w wr) (fun _ i _ => 64 - (intOf i).toNat)
  case atStart => exact ⟨0, by omega, rfl, by simpa [mask] using hown0, hb1⟩
  case round =>
    clear hown0 hb1
    obtain ⟨j, hj, rfl, hown, hb⟩ := hrel
    by_cases hlt : j < 64
    · have ixj := ix j hlt
      obtain ⟨x, hx⟩ : ∃ x, x = (k.getD j 0).toNat := ⟨_, rfl⟩
      have hx256 : x < 256 := by rw [hx]; exact UInt8.toNat_lt _
      rw [← hx] at ixj
      have HX := Lib.hid hx
      have HL := Lib.hid (litX wr x m hx256 hm)
      have HJ := Lib.hid (HB.out j hlt)
      clear hx ix
      go_wp2_with (at_builtin; (refine app8 rfl (.tmp 18) (.tmp 22) rfl w.heap.size u7 j (mask mu (k.take j)) rfl (hown.alloc _) (some ⟨wr.heap.size, 0, none⟩) 1 1 [UInt8.ofNat x ^^^ UInt8.ofNat m] rfl HL.out HJ.out (Nat.le_trans hb.size (by simp)) ?_); intro v2 w2 hown2 hg2)
      go_roundw
      case rel =>
        refine ⟨j + 1, by omega, by go_num, ?_, (hb.alloc hb.size _).grown hg2 (Nat.le_trans hb.size (by simp)) (fun k hk => (hown.lt k hk).1)⟩
        have hjk : j < k.length := by rw [Hk.out]; exact hlt
        have e : k[j] = UInt8.ofNat x := by rw [HX.out]; simp [hjk]
        rw [List.take_succ_eq_append_getElem hjk, mask, List.map_append, ← mask, List.map_cons, List.map_nil, e, HM.out, ← HM.out]
        rw [HM.out] at hown2 ⊢
        exact hown2
      case measure => simp [intOf]; omega
    · obtain rfl : j = 64 := by omega
      have hl1 := hl.keep hb
      rw [List.take_of_length_le (Nat.le_of_eq Hk.out)] at hown
      clear ix
      go_wp2_with (at_builtin; (refine app8 rfl (.tmp 25) (.tmp 26) rfl w.heap.size u7 64 (mask mu k) rfl hown A n c l rfl hl1 HB2.out hb.size ?_); intro v2 w2 hown2 hg2)
      go_ret
      exact ⟨_, rfl, by rw [← HM.out]; exact hown2, hb.grown hg2 hb.size (fun k hk => (hown.lt k hk).1)⟩
end mac
end Go.Proofs.YtekpekmfddbiaaaDoor
