/-
  Several texts in one.
-/
import Derived.Test.YtjfipijdjbbogaaDoorLow
import Derived.BigQuiet
import Derived.Deep.QuietTactic
/-
  What SHA-256 answers, on numbers: the specification that both the program's sums and the document's own are held against.
-/
namespace Go.Proofs.YtjfipijdjbbogaaDoor
open Go.ChangeShapes Go.WideShapes Go.ChangeAt Go.RowKit
set_option linter.unusedVariables false
set_option linter.unusedSimpArgs false

def bsig0 (x : Nat) : Nat := rotN x 2 ^^^ rotN x 13 ^^^ rotN x 22
def bsig1 (x : Nat) : Nat := rotN x 6 ^^^ rotN x 11 ^^^ rotN x 25
def ssig0 (x : Nat) : Nat := rotN x 7 ^^^ rotN x 18 ^^^ x / 8
def ssig1 (x : Nat) : Nat := rotN x 17 ^^^ rotN x 19 ^^^ x / 1024
def chN (x y z : Nat) : Nat := (x &&& y) ^^^ ((4294967295 ^^^ x) &&& z)
def majN (x y z : Nat) : Nat := (x &&& y) ^^^ (x &&& z) ^^^ (y &&& z)

def kN : List Nat := [1116352408, 1899447441, 3049323471, 3921009573, 961987163, 1508970993, 2453635748, 2870763221, 3624381080, 310598401, 607225278, 1426881987, 1925078388, 2162078206, 2614888103, 3248222580, 3835390401, 4022224774, 264347078, 604807628, 770255983, 1249150122, 1555081692, 1996064986, 2554220882, 2821834349, 2952996808, 3210313671, 3336571891, 3584528711, 113926993, 338241895, 666307205, 773529912, 1294757372, 1396182291, 1695183700, 1986661051, 2177026350, 2456956037, 2730485921, 2820302411, 3259730800, 3345764771, 3516065817, 3600352804, 4094571909, 275423344, 430227734, 506948616, 659060556, 883997877, 958139571, 1322822218, 1537002063, 1747873779, 1955562222, 2024104815, 2227730452, 2361852424, 2428436474, 2756734187, 3204031479, 3329325298]

/-- The eight numbers of a state. -/
structure S8 where
  a : Nat
  b : Nat
  c : Nat
  d : Nat
  e : Nat
  f : Nat
  g : Nat
  h : Nat
def S8.list (s : S8) : List Nat := [s.a, s.b, s.c, s.d, s.e, s.f, s.g, s.h]
def h0N : S8 := ⟨1779033703, 3144134277, 1013904242, 2773480762, 1359893119, 2600822924, 528734635, 1541459225⟩
def t1N (s : S8) (k w : Nat) : Nat := (s.h + bsig1 s.e + chN s.e s.f s.g + k + w) % 4294967296
def t2N (s : S8) : Nat := (bsig0 s.a + majN s.a s.b s.c) % 4294967296
def S8.rnd (s : S8) (k w : Nat) : S8 := ⟨(t1N s k w + t2N s) % 4294967296, s.a, s.b, s.c, (s.d + t1N s k w) % 4294967296, s.e, s.f, s.g⟩
/-- n rounds over the words ws. -/
def runN (ws : List Nat) (s : S8) : Nat → S8
  | 0 => s
  | n + 1 => (runN ws s n).rnd (kN.getD n 0) (ws.getD n 0)
/-- The word behind 16 + n words. -/
def nextN (l : List Nat) (n : Nat) : Nat := (ssig1 (l.getD (14 + n) 0) + l.getD (9 + n) 0 + ssig0 (l.getD (1 + n) 0) + l.getD n 0) % 4294967296
def schedN (l : List Nat) : Nat → List Nat
  | 0 => l
  | n + 1 => schedN l n ++ [nextN (schedN l n) n]
def addN (s t : S8) : S8 := ⟨(s.a + t.a) % 4294967296, (s.b + t.b) % 4294967296, (s.c + t.c) % 4294967296, (s.d + t.d) % 4294967296, (s.e + t.e) % 4294967296, (s.f + t.f) % 4294967296, (s.g + t.g) % 4294967296, (s.h + t.h) % 4294967296⟩
/-- The word number j of a block of which i bytes have been read. -/
def wordN (l : List UInt8) (i j : Nat) : Nat := be (((l.take i).drop (4 * j)).take 4)
def wordsN (l : List UInt8) : List Nat := (List.range 16).map (wordN l 64)
def compN (s : S8) (l : List UInt8) : S8 := addN s (runN (schedN (wordsN l) 48) s 64)
/-- The state behind n blocks. -/
def hashN (l : List UInt8) : Nat → S8
  | 0 => h0N
  | n + 1 => compN (hashN l n) ((l.drop (64 * n)).take 64)
def padN (n : Nat) : List UInt8 := 128 :: List.replicate ((119 - n % 64) % 64) 0 ++ be64 (8 * n % 18446744073709551616)
def endN (l : List UInt8) : S8 := hashN (l ++ padN l.length) ((l ++ padN l.length).length / 64)
def keyN (s : S8) : List UInt8 := s.list.flatMap be32
def shaN (l : List UInt8) : List UInt8 := keyN (endN l)
theorem ev0 : (shaN []).take 8 = [0xe3, 0xb0, 0xc4, 0x42, 0x98, 0xfc, 0x1c, 0x14] := by decide +kernel
theorem ev1 : (shaN [97, 98, 99]).take 8 = [0xba, 0x78, 0x16, 0xbf, 0x8f, 0x01, 0xcf, 0xea] := by decide +kernel
theorem ev2 : (shaN [97, 98, 99, 100, 98, 99, 100, 101, 99, 100, 101, 102, 100, 101, 102, 103, 101, 102, 103, 104, 102, 103, 104, 105, 103, 104, 105, 106, 104, 105, 106, 107, 105, 106, 107, 108, 106, 107, 108, 109, 107, 108, 109, 110, 108, 109, 110, 111, 109, 110, 111, 112, 110, 111, 112, 113]).take 8 = [0x24, 0x8d, 0x6a, 0x61, 0xd2, 0x06, 0x38, 0xb8] := by decide +kernel
end Go.Proofs.YtjfipijdjbbogaaDoor
/-
  Contracts of the small functions of package sha, and of the reference's turn.
-/
namespace Go.Proofs.YtjfipijdjbbogaaDoor
open Go.ChangeShapes Go.WideShapes Go.ChangeAt Go.RowKit
set_option linter.unusedVariables false
set_option linter.unusedSimpArgs false

theorem xor_lt {a b : Nat} (ha : a < 4294967296) (hb : b < 4294967296) : a ^^^ b < 4294967296 := Nat.xor_lt_two_pow (n := 32) ha hb
theorem and_lt {a : Nat} (b : Nat) (ha : a < 4294967296) : a &&& b < 4294967296 := Nat.lt_of_le_of_lt Nat.and_le_left ha
theorem bsig0_lt {x : Nat} (h : x < 4294967296) : bsig0 x < 4294967296 := xor_lt (xor_lt (rotN_lt _ _ h) (rotN_lt _ _ h)) (rotN_lt _ _ h)
theorem bsig1_lt {x : Nat} (h : x < 4294967296) : bsig1 x < 4294967296 := xor_lt (xor_lt (rotN_lt _ _ h) (rotN_lt _ _ h)) (rotN_lt _ _ h)
theorem ssig0_lt {x : Nat} (h : x < 4294967296) : ssig0 x < 4294967296 := xor_lt (xor_lt (rotN_lt _ _ h) (rotN_lt _ _ h)) (by omega)
theorem ssig1_lt {x : Nat} (h : x < 4294967296) : ssig1 x < 4294967296 := xor_lt (xor_lt (rotN_lt _ _ h) (rotN_lt _ _ h)) (by omega)
theorem chN_lt {x y z : Nat} (h : x < 4294967296) : chN x y z < 4294967296 := xor_lt (and_lt _ h) (and_lt _ (xor_lt (by omega) h))
theorem majN_lt {x y z : Nat} (h : x < 4294967296) (hy : y < 4294967296) : majN x y z < 4294967296 := xor_lt (xor_lt (and_lt _ h) (and_lt _ h)) (and_lt _ hy)

theorem ch_int (x y z : Nat) (hx : x < 4294967296) (hy : y < 4294967296) (hz : z < 4294967296) :
    bits .xor .u32 (bits .and .u32 (x : Int) (y : Int)) (bits .and .u32 (bits .xor .u32 IntKind.u32.max (x : Int)) (z : Int)) = ((chN x y z : Nat) : Int) := by
  have e := u32_xor_nat 4294967295 x (by omega) hx
  rw [show IntKind.u32.max = ((4294967295 : Nat) : Int) from rfl, e, u32_and_nat _ _ hx hy, u32_and_nat _ _ (xor_lt (by omega) hx) hz, u32_xor_nat _ _ (and_lt _ hx) (and_lt _ (xor_lt (by omega) hx))]
  rfl
theorem maj_int (x y z : Nat) (hx : x < 4294967296) (hy : y < 4294967296) (hz : z < 4294967296) :
    bits .xor .u32 (bits .xor .u32 (bits .and .u32 (x : Int) (y : Int)) (bits .and .u32 (x : Int) (z : Int))) (bits .and .u32 (y : Int) (z : Int)) = ((majN x y z : Nat) : Int) := by
  rw [u32_and_nat _ _ hx hy, u32_and_nat _ _ hx hz, u32_and_nat _ _ hy hz, u32_xor_nat _ _ (and_lt _ hx) (and_lt _ hx), u32_xor_nat _ _ (xor_lt (and_lt _ hx) (and_lt _ hx)) (and_lt _ hy)]
  rfl
theorem xor3_int (a b c : Nat) (ha : a < 4294967296) (hb : b < 4294967296) (hc : c < 4294967296) : bits .xor .u32 (bits .xor .u32 (a : Int) (b : Int)) (c : Int) = ((a ^^^ b ^^^ c : Nat) : Int) := by
  rw [u32_xor_nat _ _ ha hb, u32_xor_nat _ _ (xor_lt ha hb) hc]
theorem bsig0_int (x : Nat) (h : x < 4294967296) : bits .xor .u32 (bits .xor .u32 ((rotN x 2 : Nat) : Int) ((rotN x 13 : Nat) : Int)) ((rotN x 22 : Nat) : Int) = ((bsig0 x : Nat) : Int) := xor3_int _ _ _ (rotN_lt _ _ h) (rotN_lt _ _ h) (rotN_lt _ _ h)
theorem bsig1_int (x : Nat) (h : x < 4294967296) : bits .xor .u32 (bits .xor .u32 ((rotN x 6 : Nat) : Int) ((rotN x 11 : Nat) : Int)) ((rotN x 25 : Nat) : Int) = ((bsig1 x : Nat) : Int) := xor3_int _ _ _ (rotN_lt _ _ h) (rotN_lt _ _ h) (rotN_lt _ _ h)
theorem ssig0_int (x : Nat) (h : x < 4294967296) : bits .xor .u32 (bits .xor .u32 ((rotN x 7 : Nat) : Int) ((rotN x 18 : Nat) : Int)) ((x : Int) / 8) = ((ssig0 x : Nat) : Int) := xor3_int _ _ (x / 8) (rotN_lt _ _ h) (rotN_lt _ _ h) (by omega)
theorem ssig1_int (x : Nat) (h : x < 4294967296) : bits .xor .u32 (bits .xor .u32 ((rotN x 17 : Nat) : Int) ((rotN x 19 : Nat) : Int)) ((x : Int) / 1024) = ((ssig1 x : Nat) : Int) := xor3_int _ _ (x / 1024) (rotN_lt _ _ h) (rotN_lt _ _ h) (by omega)

namespace sha
theorem choose (x y z : Nat) (w : World) (hx : x < 4294967296) (hy : y < 4294967296) (hz : z < 4294967296) :
    Calls Tryd.prog 66 #[.int .u32 (x : Int), .int .u32 (y : Int), .int .u32 (z : Int)] w fun e w' => e = .returned (.int .u32 ((chN x y z : Nat) : Int)) ∧ w = w' := by
  go_enter Tryd.func66, Tryd.ntmps66
  go_wp2
  go_ret
  exact ⟨ret_int (ch_int x y z hx hy hz), rfl⟩
theorem majority (x y z : Nat) (w : World) (hx : x < 4294967296) (hy : y < 4294967296) (hz : z < 4294967296) :
    Calls Tryd.prog 68 #[.int .u32 (x : Int), .int .u32 (y : Int), .int .u32 (z : Int)] w fun e w' => e = .returned (.int .u32 ((majN x y z : Nat) : Int)) ∧ w = w' := by
  go_enter Tryd.func68, Tryd.ntmps68
  go_wp2
  go_ret
  exact ⟨ret_int (maj_int x y z hx hy hz), rfl⟩
theorem bigSigma0 (x : Nat) (w : World) (hx : x < 4294967296) :
    Calls Tryd.prog 67 #[.int .u32 (x : Int)] w fun e w' => e = .returned (.int .u32 ((bsig0 x : Nat) : Int)) ∧ ∃ k, w' = w.drewN k := by
  go_enter Tryd.func67, Tryd.ntmps67
  go_wp2_with (go_at_call 72; refine (wordsRot _ _ _ hx).mono ?_; rintro e w' ⟨rfl, ⟨k, rfl⟩⟩)
  go_ret
  exact ⟨ret_int (bsig0_int x hx), _, rfl⟩
theorem bigSigma1 (x : Nat) (w : World) (hx : x < 4294967296) :
    Calls Tryd.prog 65 #[.int .u32 (x : Int)] w fun e w' => e = .returned (.int .u32 ((bsig1 x : Nat) : Int)) ∧ ∃ k, w' = w.drewN k := by
  go_enter Tryd.func65, Tryd.ntmps65
  go_wp2_with (go_at_call 72; refine (wordsRot _ _ _ hx).mono ?_; rintro e w' ⟨rfl, ⟨k, rfl⟩⟩)
  go_ret
  exact ⟨ret_int (bsig1_int x hx), _, rfl⟩
theorem smallSigma0 (x : Nat) (w : World) (hx : x < 4294967296) :
    Calls Tryd.prog 71 #[.int .u32 (x : Int)] w fun e w' => e = .returned (.int .u32 ((ssig0 x : Nat) : Int)) ∧ ∃ k, w' = w.drewN k := by
  go_enter Tryd.func71, Tryd.ntmps71
  go_wp2_with (go_at_call 72; refine (wordsRot _ _ _ hx).mono ?_; rintro e w' ⟨rfl, ⟨k, rfl⟩⟩)
  go_ret
  exact ⟨ret_int (ssig0_int x hx), _, rfl⟩
theorem smallSigma1 (x : Nat) (w : World) (hx : x < 4294967296) :
    Calls Tryd.prog 70 #[.int .u32 (x : Int)] w fun e w' => e = .returned (.int .u32 ((ssig1 x : Nat) : Int)) ∧ ∃ k, w' = w.drewN k := by
  go_enter Tryd.func70, Tryd.ntmps70
  go_wp2_with (go_at_call 72; refine (wordsRot _ _ _ hx).mono ?_; rintro e w' ⟨rfl, ⟨k, rfl⟩⟩)
  go_ret
  exact ⟨ret_int (ssig1_int x hx), _, rfl⟩
end sha
theorem refTurn (x : Nat) (n : Int) (w : World) (hx : x < 4294967296) :
    Calls Tryd.prog 63 #[.int .u32 (x : Int), .int .i64 n] w fun e w' => e = .returned (.int .u32 ((rotN x (n % 32).toNat : Nat) : Int)) ∧ w = w' := by
  go_enter Tryd.func63, Tryd.ntmps63
  go_wp2_with (go_at_call 69; refine (refRot _ _ _ hx).mono ?_; rintro e w' ⟨rfl, rfl⟩)
  go_ret
  exact ⟨rfl, rfl⟩
end Go.Proofs.YtjfipijdjbbogaaDoor
