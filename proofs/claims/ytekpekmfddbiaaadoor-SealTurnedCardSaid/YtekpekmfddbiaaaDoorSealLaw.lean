/-
  What the laws of chapter 5 share: alive.
-/
import Derived.Test.YtekpekmfddbiaaaDoorSealOpen
import Derived.Test.YtekpekmfddbiaaaDoorRefSeal
import Derived.Lib.SlBytesConst
namespace Go.Proofs.YtekpekmfddbiaaaDoor
open Go.ChangeShapes Go.WideShapes Go.ChangeAt Go.RowKit
set_option linter.unusedVariables false
set_option linter.unusedSimpArgs false

/-- What 'seal.Open' answers of what was sealed. -/
theorem open_of_seal (k : List UInt8) (hk : k.length = 32) (A : Option Addr) (n c : Nat) (l : List UInt8) (B : Option Addr) (m d : Nat) (l' : List UInt8) (hn : n ≤ 8796093022208) (hm : m ≤ 8796093022208) (w : World) (hl : Bytes w A n c l) (hl' : Bytes w B m d (sealN k l l')) (hT : Tab w) :
    Calls Tryd.prog 8 #[.agg (k.map bv).toArray, .slice A n c, .slice B m d] w fun e w' => ∃ A' n' c', e = .returned (.tuple #[.slice A' n' c', .bool true]) ∧ Bytes w' A' n' c' l' ∧ Below w.heap.size w w' := by
  have h := sealing.Open k hk A n c l B m d _ hn hm w hl hl' hT
  rw [(open_seal k l l').1, (open_seal k l l').2] at h
  exact h

/-- What '[]byte(..)' of a constant has laid (with the run-time's mark). -/
theorem Bytes.marked (w : World) (l : List UInt8) (h63 : l.length ≤ maxLen) (fr : Nat × Nat) : Bytes (w.alloc (.cells (l.map bv).toArray 5 fr)) (some ⟨w.heap.size, 0, none⟩) l.length l.length l := by
  refine ⟨by simp, Nat.le_refl _, h63, fun h => (by cases h), fun _ => ⟨_, _, rfl, by simp, fun j hj => ?_⟩⟩
  rw [Nat.zero_add, cell_of_row _ w.heap.size j (l.map bv).toArray 5 fr (heap_alloc_new w _)]
  simp

namespace sealLaw
set_option maxRecDepth 10000 in
set_option maxHeartbeats 1000000 in
theorem alive (w : World) (hT : Tab w) : Calls Tryd.prog 6 #[] w fun e w' => e = .returned (.bool true) ∧ Below w.heap.size w w' := by
  obtain ⟨k1, hk1⟩ : ∃ k : List UInt8, k = 1 :: List.replicate 31 0 := ⟨_, rfl⟩
  have hkl : k1.length = 32 := by rw [hk1]; rfl
  have hl3 := Bytes.marked w [97, 98, 99] (by simp [maxLen]) (3, 4)
  have hconv := Lib.run_convert_bytes_const (P := Tryd.prog) w 24 5 #[.int .u8 97, .int .u8 98, .int .u8 99] 3 3 Tryd.underlying24 Tryd.underlying5
  simp only [List.size_toArray, List.length_cons, List.length_nil, Nat.reduceAdd] at hconv
  have hbl : Below w.heap.size w (w.alloc (.cells (([97, 98, 99] : List UInt8).map bv).toArray 5 (3, 4))) := (Below.refl _ _).alloc (Nat.le_refl _) _
  have K1 := Lib.hid (show Calls Tryd.prog 7 #[.agg #[.int .u8 1, .int .u8 0, .int .u8 0, .int .u8 0, .int .u8 0, .int .u8 0, .int .u8 0, .int .u8 0, .int .u8 0, .int .u8 0, .int .u8 0, .int .u8 0, .int .u8 0, .int .u8 0, .int .u8 0, .int .u8 0, .int .u8 0, .int .u8 0, .int .u8 0, .int .u8 0, .int .u8 0, .int .u8 0, .int .u8 0, .int .u8 0, .int .u8 0, .int .u8 0, .int .u8 0, .int .u8 0, .int .u8 0, .int .u8 0, .int .u8 0, .int .u8 0], .slice none 0 0, .slice (some ⟨w.heap.size, 0, none⟩) 3 3] (w.alloc (.cells #[.int .u8 97, .int .u8 98, .int .u8 99] 5 (3, 4))) fun e w' => ∃ g, e = .returned (.slice (some ⟨g, 0, none⟩) 19 19) ∧ Bytes w' (some ⟨g, 0, none⟩) 19 19 (sealN k1 [] [97, 98, 99]) ∧ Below w.heap.size w w' from by
    have h := sealing.Seal k1 hkl none 0 0 [] (some ⟨w.heap.size, 0, none⟩) 3 3 [97, 98, 99] (by omega) (by omega) _ (Row.nil _) hl3 (hT.keep hbl)
    rw [hk1] at h ⊢
    refine h.mono ?_
    rintro e w' ⟨g, he, _, H, hb⟩
    exact ⟨g, he, H.bytes 19 (by rw [sealN_len]; rfl) (by simp [maxLen]), hbl.trans (hb.mono hbl.size)⟩)
  have K2 := Lib.hid (fun (g : Nat) (u : World) (hu : Below w.heap.size w u) (h : Bytes u (some ⟨g, 0, none⟩) 19 19 (sealN k1 [] [97, 98, 99])) => show Calls Tryd.prog 8 #[.agg #[.int .u8 1, .int .u8 0, .int .u8 0, .int .u8 0, .int .u8 0, .int .u8 0, .int .u8 0, .int .u8 0, .int .u8 0, .int .u8 0, .int .u8 0, .int .u8 0, .int .u8 0, .int .u8 0, .int .u8 0, .int .u8 0, .int .u8 0, .int .u8 0, .int .u8 0, .int .u8 0, .int .u8 0, .int .u8 0, .int .u8 0, .int .u8 0, .int .u8 0, .int .u8 0, .int .u8 0, .int .u8 0, .int .u8 0, .int .u8 0, .int .u8 0, .int .u8 0], .slice none 0 0, .slice (some ⟨g, 0, none⟩) 19 19] u fun e w' => ∃ A' n' c', e = .returned (.tuple #[.slice A' n' c', .bool true]) ∧ Bytes w' A' n' c' [97, 98, 99] ∧ Below u.heap.size u w' from by
    have h' := open_of_seal k1 hkl none 0 0 [] _ 19 19 [97, 98, 99] (by omega) (by omega) u (Row.nil _) h (hT.keep hu)
    rw [hk1] at h'
    exact h')
  have K3 := Lib.hid (fun (u : World) (hu : Below w.heap.size w u) => show Calls Tryd.prog 7 #[.agg #[.int .u8 0, .int .u8 0, .int .u8 0, .int .u8 0, .int .u8 0, .int .u8 0, .int .u8 0, .int .u8 0, .int .u8 0, .int .u8 0, .int .u8 0, .int .u8 0, .int .u8 0, .int .u8 0, .int .u8 0, .int .u8 0, .int .u8 0, .int .u8 0, .int .u8 0, .int .u8 0, .int .u8 0, .int .u8 0, .int .u8 0, .int .u8 0, .int .u8 0, .int .u8 0, .int .u8 0, .int .u8 0, .int .u8 0, .int .u8 0, .int .u8 0, .int .u8 0], .slice none 0 0, .slice none 0 0] u fun e w' => ∃ g, e = .returned (.slice (some ⟨g, 0, none⟩) 16 16) ∧ Below u.heap.size u w' from
    (sealing.Seal (List.replicate 32 0) rfl none 0 0 [] none 0 0 [] (by omega) (by omega) u (Row.nil _) (Row.nil _) (hT.keep hu)).mono fun e w' ⟨g, he, _, _, hb⟩ => ⟨g, he, hb⟩)
  clear hk1 hkl hl3 hbl
  go_enter Tryd.func6, Tryd.ntmps6
  go_wp2_with fail
  refine (K1.out).mono ?_
  rintro e w2 ⟨g, rfl, hr2, hb2⟩
  go_wp2_with fail
  refine (K2.out g w2 hb2 hr2).mono ?_
  rintro e w3 ⟨A3, n3, c3, rfl, hr3, hb3⟩
  have hbw3 := hb2.trans (hb3.mono hb2.size)
  have HR3 := Lib.hid hr3
  clear hr2 hr3
  go_wp2_with fail
  refine (K3.out w3 hbw3).mono ?_
  rintro e w4 ⟨g4, rfl, hb4⟩
  have hst := run_str (P := Tryd.prog) Tryd.underlying24 Tryd.underlying5 Tryd.underlying9 (HR3.out.keep hb4)
  rw [show str [97, 98, 99] = ⟨#[97, 98, 99]⟩ from rfl] at hst
  go_wp2_with fail
  go_ret
  exact ⟨rfl, hbw3.trans (hb4.mono hbw3.size)⟩
end sealLaw
end Go.Proofs.YtekpekmfddbiaaaDoor
