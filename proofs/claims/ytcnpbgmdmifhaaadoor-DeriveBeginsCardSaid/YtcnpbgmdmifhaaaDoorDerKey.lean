/-
  Contract of derive.Key.
-/
import Derived.Test.YtcnpbgmdmifhaaaDoorDerExp
namespace Go.Proofs.YtcnpbgmdmifhaaaDoor
open Go.ChangeShapes Go.WideShapes Go.ChangeAt Go.RowKit
set_option linter.unusedVariables false
set_option linter.unusedSimpArgs false

namespace derive
set_option maxRecDepth 10000 in
set_option maxHeartbeats 800000 in
theorem Key (A : Option Addr) (n c : Nat) (b : List UInt8) (hb : n ≤ 70368744177664) (l : List UInt8) (m : Nat) (hl : l.length = m) (hm : m ≤ 70368744177600) (w : World) (hA : Bytes w A n c b) (hT : Tab w) :
    Calls Tryd.prog 9 #[.slice A n c, .string (str l)] w fun e w' => e = .returned (.agg ((dkN b l).map bv).toArray) ∧ Below w.heap.size w w' := by
  have HR1 := newKey w
  have hb1 := newKey_below (Below.refl w.heap.size w) (Nat.le_refl _)
  have HR2 := HR1.alloc (.cells #[.int .u8 0, .int .u8 0, .int .u8 0, .int .u8 0, .int .u8 0, .int .u8 0, .int .u8 0, .int .u8 0, .int .u8 0, .int .u8 0, .int .u8 0, .int .u8 0, .int .u8 0, .int .u8 0, .int .u8 0, .int .u8 0, .int .u8 0, .int .u8 0, .int .u8 0, .int .u8 0, .int .u8 0, .int .u8 0, .int .u8 0, .int .u8 0, .int .u8 0, .int .u8 0, .int .u8 0, .int .u8 0, .int .u8 0, .int .u8 0, .int .u8 0, .int .u8 0] 23)
  have HS2 := (newKey (w.alloc (.cells #[.int .u8 0, .int .u8 0, .int .u8 0, .int .u8 0, .int .u8 0, .int .u8 0, .int .u8 0, .int .u8 0, .int .u8 0, .int .u8 0, .int .u8 0, .int .u8 0, .int .u8 0, .int .u8 0, .int .u8 0, .int .u8 0, .int .u8 0, .int .u8 0, .int .u8 0, .int .u8 0, .int .u8 0, .int .u8 0, .int .u8 0, .int .u8 0, .int .u8 0, .int .u8 0, .int .u8 0, .int .u8 0, .int .u8 0, .int .u8 0, .int .u8 0, .int .u8 0] 23))).at_ (show _ = w.heap.size + 1 by simp)
  have hb2 := newKey_below hb1 hb1.size
  have HLM := Lib.hid hl
  go_enter Tryd.func9, Tryd.ntmps9
  go_wp2_with fail
  change Calls _ _ _ ((w.alloc (.cells #[.int .u8 0, .int .u8 0, .int .u8 0, .int .u8 0, .int .u8 0, .int .u8 0, .int .u8 0, .int .u8 0, .int .u8 0, .int .u8 0, .int .u8 0, .int .u8 0, .int .u8 0, .int .u8 0, .int .u8 0, .int .u8 0, .int .u8 0, .int .u8 0, .int .u8 0, .int .u8 0, .int .u8 0, .int .u8 0, .int .u8 0, .int .u8 0, .int .u8 0, .int .u8 0, .int .u8 0, .int .u8 0, .int .u8 0, .int .u8 0, .int .u8 0, .int .u8 0] 23)).alloc (.cells #[.int .u8 0, .int .u8 0, .int .u8 0, .int .u8 0, .int .u8 0, .int .u8 0, .int .u8 0, .int .u8 0, .int .u8 0, .int .u8 0, .int .u8 0, .int .u8 0, .int .u8 0, .int .u8 0, .int .u8 0, .int .u8 0, .int .u8 0, .int .u8 0, .int .u8 0, .int .u8 0, .int .u8 0, .int .u8 0, .int .u8 0, .int .u8 0, .int .u8 0, .int .u8 0, .int .u8 0, .int .u8 0, .int .u8 0, .int .u8 0, .int .u8 0, .int .u8 0] 23)) _
  generalize ((w.alloc (.cells #[.int .u8 0, .int .u8 0, .int .u8 0, .int .u8 0, .int .u8 0, .int .u8 0, .int .u8 0, .int .u8 0, .int .u8 0, .int .u8 0, .int .u8 0, .int .u8 0, .int .u8 0, .int .u8 0, .int .u8 0, .int .u8 0, .int .u8 0, .int .u8 0, .int .u8 0, .int .u8 0, .int .u8 0, .int .u8 0, .int .u8 0, .int .u8 0, .int .u8 0, .int .u8 0, .int .u8 0, .int .u8 0, .int .u8 0, .int .u8 0, .int .u8 0, .int .u8 0] 23)).alloc (.cells #[.int .u8 0, .int .u8 0, .int .u8 0, .int .u8 0, .int .u8 0, .int .u8 0, .int .u8 0, .int .u8 0, .int .u8 0, .int .u8 0, .int .u8 0, .int .u8 0, .int .u8 0, .int .u8 0, .int .u8 0, .int .u8 0, .int .u8 0, .int .u8 0, .int .u8 0, .int .u8 0, .int .u8 0, .int .u8 0, .int .u8 0, .int .u8 0, .int .u8 0, .int .u8 0, .int .u8 0, .int .u8 0, .int .u8 0, .int .u8 0, .int .u8 0, .int .u8 0] 23)) = w2 at *
  have hz : Bytes w2 (some ⟨w.heap.size + 1, 0, none⟩) 32 32 (List.replicate 32 0) := Has.bytes (l := List.replicate 32 0) HS2 32 (by simp) (by simp [maxLen])
  obtain ⟨K, hK⟩ : ∃ K, K = macN (List.replicate 32 0) b := ⟨_, rfl⟩
  have hKl : K.length = 32 := by rw [hK, macN_len]
  have C0 := mac.Of _ 32 32 _ A n c b w2 hz (hA.keep hb2) hb (hT.keep hb2)
  rw [← hK] at C0
  have C := Lib.hid C0
  have HK := Lib.hid (And.intro hK hKl)
  clear C0 hK hKl hz hb1 HR1
  refine (C.out).mono ?_
  rintro e w3 ⟨rfl, hb3⟩
  have hbw3 := hb2.trans (hb3.mono hb2.size)
  have HR3 := HR2.keep hb3 HR2.lt
  obtain ⟨E, hE⟩ : ∃ E, E = expN K l 32 := ⟨_, rfl⟩
  have hEl : E.length = 32 := by rw [hE, expN_len]
  have C1 := ExpandHas K HK.out.2 l m HLM.out hm 32 (by omega) (by omega) w3 (hT.keep hbw3)
  rw [← hE] at C1
  have C2 := Lib.hid C1
  have HE := Lib.hid (And.intro hE hEl)
  clear C C1 hE hEl HR2 hb2 HS2 hb3
  go_wp2_with fail
  refine (C2.out).mono ?_
  rintro e w4 ⟨rfl, HV4, hb4⟩
  have hbw4 := hbw3.trans (hb4.mono hbw3.size)
  have HR4 := HR3.keep hb4 HR3.lt
  have SZ := Lib.hid (show (Tryd.prog.info? 23).map (·.size) = some (E.map bv).length by rw [List.length_map, HE.out.2]; exact size_key)
  clear C2 HR3 hbw3
  have hat : ∀ u, (Instr.arrayAt 23 (.slice (some ⟨w3.heap.size + 1, 0, none⟩) 32 32)).run Tryd.prog u = .ok (.pointer (some ⟨w3.heap.size + 1, 0, none⟩)) u := fun u => by
    simp [Instr.arrayAt, run_underlying Tryd.underlying23]
  go_wp2_with (first
    | ((with_reducible refine wpList_load_has rfl 23 (.tmp 11) rfl (w3.heap.size + 1) rfl 5 (E.map bv) HV4 _ Tryd.underlying23 rfl SZ.out ?_))
    | ((with_reducible refine wpList_store_key rfl (.tmp 4) (.tmp 12) rfl w.heap.size rfl E HE.out.2 rfl zkey HR4 rfl ?_); intro w5 o5 H5))
  refine ret_key Tryd.results9 w.heap.size ?_ E HE.out.2 H5 ?_ ⟨by rw [HE.out.1, HK.out.1]; rfl, o5.below hbw4 (Nat.le_refl _)⟩
  · rfl
  · rfl
end derive
end Go.Proofs.YtcnpbgmdmifhaaaDoor
