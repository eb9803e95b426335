/-
  Keys (32 bytes): equal ones are equal; one stored into a new block; what the row's condition on the table gives.
-/
import Derived.Test.YtgjepiblhpmaiaaDoorShaSum
import Derived.Stop.BytesEq
import Derived.Lib.LaidTab
import Derived.LaidMore
namespace Go.Proofs.YtgjepiblhpmaiaaDoor
open Go.ChangeShapes Go.WideShapes Go.ChangeAt Go.RowKit
set_option linter.unusedVariables false
set_option linter.unusedSimpArgs false

theorem eq_key (l : List UInt8) (hl : l.length = 32) (w : World) : (Op.equalIn 10000 42 (.agg (l.map bv).toArray) (.agg (l.map bv).toArray)).run Tryd.prog w = .ok true w := by
  have h := run_equalIn_bytes (P := Tryd.prog) w 9998 42 5 32 Tryd.underlying42 Tryd.underlying5 (fun u => by kernel_rfl) l l hl hl
  have e : (l == l) = true := by simp
  rw [e] at h
  exact h
theorem shaN_len (l : List UInt8) : (shaN l).length = 32 := sha.keyN_len _

/-- The row's condition on the table gives the walks' fact. -/
theorem Tab.of_laid {w : World} (h : laidMetH Tryd.prog [("courierbag/sha.roundWords", Rows.laid_courierbag_sha_roundWords)] w) : Tab w := by
  rw [MakeChecks.laidMetH_plain _ _ _ (by kernel_rfl)] at h
  have h' : laidMet Tryd.prog [("courierbag/sha.roundWords", Lib.tabData .u32 (kN.map Int.ofNat))] w := h
  have hT := Lib.tabIs_of_head (show Tryd.prog.globalNamed "courierbag/sha.roundWords" = some 0 by kernel_rfl) (show (Tryd.prog.globals[0]?).map (·.type) = some 72 by kernel_rfl) Tryd.underlying72 Tryd.underlying54 (by kernel_rfl) (by kernel_rfl) h'
  intro i hi
  have hc := hT.cell (show Tryd.prog.globalNamed "courierbag/sha.roundWords" = some 0 by kernel_rfl) i (by rw [List.length_map]; exact hi)
  rw [hc]
  have hi' : i < kN.length := hi
  simp [hi']

/-- A new key: 32 bytes 0. -/
def zkey : List Value := (List.replicate 32 0 : List UInt8).map bv
theorem newKey (w : World) : Has (w.alloc (.cells #[.int .u8 0, .int .u8 0, .int .u8 0, .int .u8 0, .int .u8 0, .int .u8 0, .int .u8 0, .int .u8 0, .int .u8 0, .int .u8 0, .int .u8 0, .int .u8 0, .int .u8 0, .int .u8 0, .int .u8 0, .int .u8 0, .int .u8 0, .int .u8 0, .int .u8 0, .int .u8 0, .int .u8 0, .int .u8 0, .int .u8 0, .int .u8 0, .int .u8 0, .int .u8 0, .int .u8 0, .int .u8 0, .int .u8 0, .int .u8 0, .int .u8 0, .int .u8 0] 42)) w.heap.size 42 zkey := Has.new w 42 zkey
theorem newKey_below {B : Nat} {a w : World} (h : Below B a w) (hB : B ≤ w.heap.size) : Below B a (w.alloc (.cells #[.int .u8 0, .int .u8 0, .int .u8 0, .int .u8 0, .int .u8 0, .int .u8 0, .int .u8 0, .int .u8 0, .int .u8 0, .int .u8 0, .int .u8 0, .int .u8 0, .int .u8 0, .int .u8 0, .int .u8 0, .int .u8 0, .int .u8 0, .int .u8 0, .int .u8 0, .int .u8 0, .int .u8 0, .int .u8 0, .int .u8 0, .int .u8 0, .int .u8 0, .int .u8 0, .int .u8 0, .int .u8 0, .int .u8 0, .int .u8 0, .int .u8 0, .int .u8 0] 42)) := h.alloc hB _
theorem size_key : (Tryd.prog.info? 42).map (·.size) = some 32 := by kernel_rfl
section
variable {w : World} {ops : Array Oper} {rest : List Oper} {o : Oper} {a : Act} {Q : Exit → Act → World → Prop}
theorem wpList_store_key (hgd : o.guard = none) (x y : Operand) (ho : o.op = .store 42 x y) (g : Nat) (hx : a.eval x = .pointer (some ⟨g, 0, none⟩)) (l : List UInt8) (hl : l.length = 32) (hy : a.eval y = .agg (l.map bv).toArray)
    (old : List Value) (H : Has w g 42 old) (hold : old.length = 32)
    (h : ∀ w', Only g w w' → Has w' g 42 (l.map bv) → wpList Tryd.prog ops Q rest (a.put o.dst undef) w') : wpList Tryd.prog ops Q (o :: rest) a w :=
  wpList_store_has hgd 42 x y ho g hx (l.map bv) hy 42 old H (by rw [List.length_map, hl]; exact size_key) (by rw [List.length_map, hl, hold]) (one_bv l) h
theorem wpList_load_key (hgd : o.guard = none) (x : Operand) (ho : o.op = .load 42 x) (g : Nat) (hx : a.eval x = .pointer (some ⟨g, 0, none⟩)) (l : List UInt8) (hl : l.length = 32) (H : Has w g 42 (l.map bv))
    (h : wpList Tryd.prog ops Q rest (a.put o.dst (.agg (l.map bv).toArray)) w) : wpList Tryd.prog ops Q (o :: rest) a w :=
  wpList_load_has hgd 42 x ho g hx 42 (l.map bv) H _ Tryd.underlying42 rfl (by rw [List.length_map, hl]; exact size_key) h
theorem ret_key {fn : Func} {R : Ending → World → Prop} {p : Tmp} (h : fn.results = #[.cell p 42]) (g : Nat) (hp : a.tmps.getD p undef = .pointer (some ⟨g, 0, none⟩)) (l : List UInt8) (hl : l.length = 32) (H : Has w g 42 (l.map bv))
    (hf : a.defers = []) (hR : R (.returned (.agg (l.map bv).toArray)) w) : bodyPost Tryd.prog fn R .ret a w :=
  ret_has h g hp 42 (l.map bv) H _ Tryd.underlying42 rfl (by rw [List.length_map, hl]; exact size_key) hf hR
end
theorem Has.bytes {w : World} {g : Nat} {t : TypeId} {l : List UInt8} (h : Has w g t (l.map bv)) (n : Nat) (hn : l.length = n) (hm : n ≤ maxLen) : Bytes w (some ⟨g, 0, none⟩) n n l := by
  have := h.row 0 n n (by rw [List.length_map]; omega) (Nat.le_refl _) hm
  rw [List.drop_zero, List.take_of_length_le (by rw [List.length_map]; omega)] at this
  exact this
theorem zkey_len : zkey.length = 32 := rfl
end Go.Proofs.YtgjepiblhpmaiaaDoor
