/-
  The package's stream in memory: seed, name (a slice in a block of bytes), how many words were drawn, the last digest.
-/
import Derived.Test.YtjfipijdjbbogaaDoorStrm
import Derived.Test.YtjfipijdjbbogaaDoorPart
namespace Go.Proofs.YtjfipijdjbbogaaDoor
open Go.ChangeShapes Go.WideShapes Go.ChangeAt Go.RowKit
set_option linter.unusedVariables false
set_option linter.unusedSimpArgs false

def pCells (seed : List UInt8) (gn n c i : Nat) (dig : List UInt8) : List Value := seed.map bv ++ (.slice (some ⟨gn, 0, none⟩) n c :: nv i :: dig.map bv)
section
variable {seed dig : List UInt8} {gn n c i : Nat}
theorem pC_len (hs : seed.length = 32) (hd : dig.length = 32) : (pCells seed gn n c i dig).length = 66 := by simp [pCells, hs, hd]
theorem pC_32 (hs : seed.length = 32) : (pCells seed gn n c i dig)[32]? = some (.slice (some ⟨gn, 0, none⟩) n c) := by
  rw [pCells, List.getElem?_append_right (by rw [List.length_map]; omega), List.length_map, hs]
  rfl
theorem pC_33 (hs : seed.length = 32) : (pCells seed gn n c i dig)[33]? = some (.int .u64 (i : Int)) := by
  rw [pCells, List.getElem?_append_right (by rw [List.length_map]; omega), List.length_map, hs]
  rfl
theorem pC_set (hs : seed.length = 32) : (pCells seed gn n c i dig).set 33 (.int .u64 ((i : Int) + 1)) = pCells seed gn n c (i + 1) dig := by
  rw [pCells, pCells, List.set_append_right _ _ (by rw [List.length_map]; omega), List.length_map, hs]
  congr 1
theorem pC_dig (hs : seed.length = 32) (hd : dig.length = 32) (d' : List UInt8) (hd' : d'.length = 32) : splice (pCells seed gn n c i dig) 34 (d'.map bv) = pCells seed gn n c i d' := by
  rw [splice, List.drop_eq_nil_of_le (by rw [pC_len hs hd, List.length_map, hd']; omega), List.append_nil, pCells, List.take_append, List.length_map, hs, List.take_of_length_le (by rw [List.length_map, hs]; omega), pCells, List.append_assoc]
  rfl
theorem pC_seed {w : World} {g : Nat} {t : TypeId} (h : Has w g t (pCells seed gn n c i dig)) (hs : seed.length = 32) (hd : dig.length = 32) : Bytes w (some ⟨g, 0, none⟩) 32 32 seed := by
  have := h.row 0 32 32 (by rw [pC_len hs hd]; omega) (Nat.le_refl _) (by simp [maxLen])
  rw [List.drop_zero, pCells, List.take_append_of_le_length (by rw [List.length_map]; omega), List.take_of_length_le (by rw [List.length_map]; omega)] at this
  exact this
theorem pC_digest {w : World} {g : Nat} {t : TypeId} (h : Has w g t (pCells seed gn n c i dig)) (hs : seed.length = 32) (hd : dig.length = 32) : Bytes w (some ⟨g, 34, none⟩) 32 32 dig := by
  have := h.row 34 32 32 (by rw [pC_len hs hd]; omega) (Nat.le_refl _) (by simp [maxLen])
  rw [pCells, List.drop_append, List.drop_eq_nil_of_le (by rw [List.length_map]; omega), List.length_map, hs, List.nil_append] at this
  rw [show (Value.slice (some ⟨gn, 0, none⟩) n c :: nv i :: dig.map bv).drop (34 - 32) = dig.map bv from rfl, List.take_of_length_le (by rw [List.length_map]; omega)] at this
  exact this
end
/-- Block g holds the package's stream. -/
def StrmP (w : World) (g : Nat) (seed name : List UInt8) (i : Nat) : Prop :=
  ∃ gn c dig, Has w g 55 (pCells seed gn name.length c i dig) ∧ Row w (some ⟨gn, 0, none⟩) name.length c (name.map bv) ∧ InB w gn ∧ dig.length = 32 ∧ (i % 4 ≠ 0 → dig = digB seed name i)
/-- Block k is none of bytes. -/
def NoB (w : World) (k : Nat) : Prop := ∀ b, InB w b → b ≠ k
section
variable {w w' : World} {g k i : Nat} {seed name : List UInt8}
theorem StrmP.lt (h : StrmP w g seed name i) : g < w.heap.size := by
  obtain ⟨gn, c, dig, h1, _⟩ := h
  exact h1.lt
theorem StrmP.noB (h : StrmP w g seed name i) : NoB w g := by
  obtain ⟨gn, c, dig, h1, _⟩ := h
  exact fun b hb => hb.ne h1 (by decide)
theorem StrmP.keep (h : StrmP w g seed name i) (hb : Below w.heap.size w w') : StrmP w' g seed name i := by
  obtain ⟨gn, c, dig, h1, h2, h3, h4, h5⟩ := h
  exact ⟨gn, c, dig, h1.keep hb h1.lt, h2.keep hb, h3.keep hb, h4, h5⟩
theorem StrmP.save (h : StrmP w g seed name i) (ho : Save k w w') (hk : g ≠ k) (hn : NoB w k) : StrmP w' g seed name i := by
  obtain ⟨gn, c, dig, h1, h2, h3, h4, h5⟩ := h
  have hg : gn ≠ k := hn gn h3
  exact ⟨gn, c, dig, h1.save ho hk, h2.save ho (fun _ p hp => by cases hp; exact hg), h3.save ho hg, h4, h5⟩
/-- The table lies in another block. -/
theorem strm_off (hs : seed.length = 32) (hT : Tab w) (h : StrmP w g seed name i) : 3 ≠ g := by
  intro e
  obtain ⟨gn, c, dig, h1, _⟩ := h
  have h0 := hT 33 (by omega)
  rw [e, Has.cell h1, pC_33 hs] at h0
  exact absurd (Option.some.inj h0) (by simp)
theorem StrmR.noB (h : StrmR w g seed name i) : NoB w g := fun b hb => hb.ne h (by decide)
end
end Go.Proofs.YtjfipijdjbbogaaDoor
