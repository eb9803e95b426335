/-
  Contract of seal.streamBlock.
-/
import Derived.Test.YtekpekmfddbiaaaDoorSealSpec
import Derived.Test.YtekpekmfddbiaaaDoorMacOf
namespace Go.Proofs.YtekpekmfddbiaaaDoor
open Go.ChangeShapes Go.WideShapes Go.ChangeAt Go.RowKit
set_option linter.unusedVariables false
set_option linter.unusedSimpArgs false

theorem litK (w : World) (x : Nat) (hx : x < 256) : Bytes (w.alloc (.cells #[.int .u8 (x : Int)] 5)) (some ⟨w.heap.size, 0, none⟩) 1 1 [UInt8.ofNat x] := by
  have e : bv (UInt8.ofNat x) = .int .u8 (x : Int) := by simp [bv]; omega
  have h := Bytes.lit w [UInt8.ofNat x] (by simp [maxLen])
  rw [List.map_cons, List.map_nil, e] at h
  exact h

namespace sealing
set_option maxRecDepth 10000 in
set_option maxHeartbeats 800000 in
theorem streamBlock (k : List UInt8) (hk : k.length = 32) (i : Nat) (hi : i ≤ 70368744177664) (w : World) (hT : Tab w) :
    Calls Tryd.prog 16 #[.agg (k.map bv).toArray, .int .i64 (i : Int)] w fun e w' => e = .returned (.agg ((ksN k i).map bv).toArray) ∧ Below w.heap.size w w' := by
  have hb1 := (Below.refl w.heap.size w).alloc (Nat.le_refl _) (.cells (k.map bv).toArray 23)
  have hb2 := newKey_below hb1 hb1.size
  have HQ2 := (Has.new w 23 (k.map bv)).alloc (.cells #[.int .u8 0, .int .u8 0, .int .u8 0, .int .u8 0, .int .u8 0, .int .u8 0, .int .u8 0, .int .u8 0, .int .u8 0, .int .u8 0, .int .u8 0, .int .u8 0, .int .u8 0, .int .u8 0, .int .u8 0, .int .u8 0, .int .u8 0, .int .u8 0, .int .u8 0, .int .u8 0, .int .u8 0, .int .u8 0, .int .u8 0, .int .u8 0, .int .u8 0, .int .u8 0, .int .u8 0, .int .u8 0, .int .u8 0, .int .u8 0, .int .u8 0, .int .u8 0] 23)
  have HR2 := (newKey (w.alloc (.cells (k.map bv).toArray 23))).at_ (show _ = w.heap.size + 1 by simp)
  have HKL := Lib.hid hk
  clear hb1
  go_enter Tryd.func16, Tryd.ntmps16
  go_wp2
  change Code.wp _ _ _ _ ((w.alloc (.cells (k.map bv).toArray 23)).alloc (.cells #[.int .u8 0, .int .u8 0, .int .u8 0, .int .u8 0, .int .u8 0, .int .u8 0, .int .u8 0, .int .u8 0, .int .u8 0, .int .u8 0, .int .u8 0, .int .u8 0, .int .u8 0, .int .u8 0, .int .u8 0, .int .u8 0, .int .u8 0, .int .u8 0, .int .u8 0, .int .u8 0, .int .u8 0, .int .u8 0, .int .u8 0, .int .u8 0, .int .u8 0, .int .u8 0, .int .u8 0, .int .u8 0, .int .u8 0, .int .u8 0, .int .u8 0, .int .u8 0] 23))
  generalize ((w.alloc (.cells (k.map bv).toArray 23)).alloc (.cells #[.int .u8 0, .int .u8 0, .int .u8 0, .int .u8 0, .int .u8 0, .int .u8 0, .int .u8 0, .int .u8 0, .int .u8 0, .int .u8 0, .int .u8 0, .int .u8 0, .int .u8 0, .int .u8 0, .int .u8 0, .int .u8 0, .int .u8 0, .int .u8 0, .int .u8 0, .int .u8 0, .int .u8 0, .int .u8 0, .int .u8 0, .int .u8 0, .int .u8 0, .int .u8 0, .int .u8 0, .int .u8 0, .int .u8 0, .int .u8 0, .int .u8 0, .int .u8 0] 23)) = w2 at *
  have hsz2 := HR2.lt
  have ew : IntKind.u64.wrap (i : Int) = (i : Int) := by simp only [IntKind.wrap_u64]; omega
  have hbl : Below w2.heap.size w2 (w2.alloc (.cells #[.int .u8 115] 5)).drew := ((Below.refl _ _).alloc (Nat.le_refl _) _).drew
  have KP := Lib.hid (wordsPut.put64 (some ⟨w2.heap.size, 0, none⟩) 1 1 [115] i (w2.alloc (.cells #[.int .u8 115] 5)).drew ((litK w2 115 (by omega)).keep (Below.refl _ _).drew) (by omega))
  obtain ⟨R, hR⟩ : ∃ R, R = ksN k i := ⟨_, rfl⟩
  have hRl : R.length = 32 := by rw [hR, ksN_len]
  have KM := Lib.hid (fun (A9 : Option Addr) (c9 : Nat) (u : World) (hu : Below w2.heap.size w2 u) (h : Row u A9 9 c9 (([115] ++ be64 i).map bv)) => show Calls Tryd.prog 18 #[.slice (some ⟨w.heap.size, 0, none⟩) 32 32, .slice A9 9 c9] u fun e w' => e = .returned (.agg (R.map bv).toArray) ∧ Below u.heap.size u w' by
    rw [hR]
    exact mac.Of _ 32 32 k A9 9 c9 _ u ((HQ2.bytes 32 HKL.out (by simp [maxLen])).keep hu) h (by omega) (hT.keep (hb2.trans (hu.mono hb2.size))))
  have HBL := Lib.hid hbl
  have HZ := Lib.hid (fun (u : World) (hu : Below w2.heap.size w2 u) => HR2.keep hu hsz2)
  have HCT := Lib.hid (fun (u : World) (h : Has u (w.heap.size + 1) 23 zkey) => Has.there h 0 (R.map bv).length (by rw [List.length_map, hRl]; decide))
  have hu2 := Tryd.underlying23
  have hi2 : (Tryd.prog.info? 23).map (·.size) = some (R.map bv).length := by rw [List.length_map, hRl]; exact size_key
  have hone2 := one_bv R
  have HR := Lib.hid (And.intro hR hRl)
  have hb2' := Lib.hid hb2
  clear hR hRl hbl HQ2 HR2 hb2
  go_region_held (fun _ => True) (trivial)
    (first
    | (go_at_call 17; with_reducible refine (KP.out).mono ?_; rintro e w9 ⟨v9, rfl, hown9, hb9⟩; obtain ⟨A9, c9, rfl, hr9⟩ := Row.own hown9; have hB9 := HBL.out.trans (hb9.mono HBL.out.size))
    | (go_at_call 18; with_reducible refine (KM.out A9 c9 w9 hB9 hr9).mono ?_; rintro e w10 ⟨rfl, hb10⟩; have hB10 := hB9.trans (hb10.mono hB9.size); have HR10 := HZ.out w10 hB10; have hth := HCT.out w10 HR10))
  have HR12 := Has.setCells (R.map bv) 0 w10 _ HR10 (by rw [List.length_map, HR.out.2]; decide)
  rw [show splice zkey 0 (R.map bv) = R.map bv by rw [splice, List.length_map, HR.out.2, show List.drop (0 + 32) zkey = [] from rfl]; simp] at HR12
  have hb12 := (Only.setCells (w.heap.size + 1) (R.map bv) 0 w10).below (hb2'.out.trans (hB10.mono hb2'.out.size)) (by omega)
  clear hth HR10 hu2 hi2 hone2
  go_wp2
  refine ret_key Tryd.results16 (w.heap.size + 1) ?_ R HR.out.2 HR12 ?_ ⟨by rw [HR.out.1], hb12⟩
  · rfl
  · rfl
end sealing
end Go.Proofs.YtekpekmfddbiaaaDoor
