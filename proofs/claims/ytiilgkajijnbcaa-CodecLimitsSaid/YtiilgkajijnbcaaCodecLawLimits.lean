/-
  The law CodecLimits of chapter 11. (Written by gen_codeclimits.py.)
-/
import Derived.Test.YtiilgkajijnbcaaCodecLaw
import Derived.Test.YtiilgkajijnbcaaPutEntAll
import Derived.Test.YtiilgkajijnbcaaPutSub
import Derived.Test.YtiilgkajijnbcaaPutBatAll
namespace Go.Proofs.Ytiilgkajijnbcaa
open Go.ChangeShapes Go.WideShapes Go.ChangeAt Go.RowKit
set_option linter.unusedVariables false
set_option linter.unusedSimpArgs false

namespace codecLimitsLaw
/-! ### What make gives -/
theorem made_flat {α : Type} (f : α → List Value) (a : α) (zc : Array Value) (k n : Nat) (hz : zc.toList = f a) (hk : (f a).length = k) (hk0 : 0 < k) : madeCells zc (n * k) = ((List.replicate n a).flatMap f).toArray := by
  have hs : zc.size = k := by rw [← hk, ← hz]; simp
  have hl : ((List.replicate n a).flatMap f).length = n * k := by
    have := flatMap_len f k (List.replicate n a) (fun e he => by rw [List.eq_of_mem_replicate he]; exact hk)
    rw [this, List.length_replicate]
  apply Array.ext
  · simp [madeCells, hl]
  · intro i h1 h2
    have hi : i < n * k := by simpa [madeCells] using h1
    have hj : i / k < n := (Nat.div_lt_iff_lt_mul hk0).2 hi
    have hr : i % k < k := Nat.mod_lt _ hk0
    have e := flatMap_at f k (List.replicate n a) (fun e he => by rw [List.eq_of_mem_replicate he]; exact hk) (i / k) (by simpa using hj) (i % k) hr
    rw [Nat.div_add_mod'] at e
    rw [List.getElem_replicate, ← hz] at e
    have hz2 : i % k < zc.size := by rw [hs]; exact hr
    have e2 : ((List.replicate n a).flatMap f)[i]? = some zc[i % k] := by rw [e]; simp [hz2]
    have e3 : (madeCells zc (n * k))[i] = zc[i % k] := by
      simp only [madeCells, Array.getElem_map, Array.getElem_range, hs]
      exact getElem!_pos zc (i % k) hz2
    rw [e3]
    have h3 : i < ((List.replicate n a).flatMap f).length := by rw [hl]; exact hi
    rw [List.getElem?_eq_getElem h3] at e2
    have e4 := Option.some.inj e2
    simpa using e4.symm
theorem make_ent (n : Nat) (hn : n ≤ 1048576) (u : World) : (Instr.makeSlice 22 (.int .i64 (n : Int)) (.int .i64 (n : Int))).run Try.prog u =
    .ok (.slice (some ⟨u.heap.size, 0, none⟩) n n) (u.alloc (.cells ((List.replicate n (default : Ent)).flatMap Ent.cells).toArray 39)) := by
  obtain ⟨i0, hi, hz0, hz1, hz2⟩ := info_parts Try.infoE
  have h := run_make (P := Try.prog) u 22 39 i0 _ Try.underlying22 hi hz0 .i64 .i64 (n : Int) (n : Int) (by omega) (by omega) (by rw [hz2]; omega) (by omega)
  have e := made_flat Ent.cells (default : Ent) (Value.agg #[.int .u64 0, .slice none 0 0]).cells 2 n rfl rfl (by omega)
  rw [Int.toNat_natCast, hz1, e] at h
  exact h
theorem make_let (n : Nat) (hn : n ≤ 1048576) (u : World) : (Instr.makeSlice 51 (.int .i64 (n : Int)) (.int .i64 (n : Int))).run Try.prog u =
    .ok (.slice (some ⟨u.heap.size, 0, none⟩) n n) (u.alloc (.cells ((List.replicate n (⟨List.replicate 32 0, none, 0, 0, []⟩ : Let)).flatMap Let.cells).toArray 96)) := by
  obtain ⟨i0, hi, hz0, hz1, hz2⟩ := info_parts bat33
  have h := run_make (P := Try.prog) u 51 96 i0 _ Try.underlying51 hi hz0 .i64 .i64 (n : Int) (n : Int) (by omega) (by omega) (by rw [hz2]; omega) (by omega)
  have e := made_flat Let.cells (⟨List.replicate 32 0, none, 0, 0, []⟩ : Let) (Value.agg (lcells (List.replicate 32 0) none 0 0).toArray).cells 33 n rfl rfl (by omega)
  rw [Int.toNat_natCast, hz1, e] at h
  exact h
theorem make_64 (n : Nat) (hn : n ≤ 1048576) (u : World) : (Instr.makeSlice 50 (.int .i64 (n : Int)) (.int .i64 (n : Int))).run Try.prog u =
    .ok (.slice (some ⟨u.heap.size, 0, none⟩) n n) (u.alloc (.cells ((List.replicate n 0).map nv).toArray 37)) := by
  obtain ⟨i0, hi, hz0, hz1, hz2⟩ := info_parts bat64
  have h := run_make (P := Try.prog) u 50 37 i0 _ Try.underlying50 hi hz0 .i64 .i64 (n : Int) (n : Int) (by omega) (by omega) (by rw [hz2]; omega) (by omega)
  have e : madeCells (Value.int .u64 0).cells n = ((List.replicate n 0).map nv).toArray := by
    rw [List.map_replicate, show nv 0 = Value.int .u64 0 from rfl, ← toList_madeCells_one]
    simp [Value.cells]
  rw [Int.toNat_natCast, hz1, Nat.mul_one, e] at h
  exact h
theorem has_rowW {w : World} {g : Nat} {t : TypeId} {cs : List Value} (h : Has w g t cs) (n k : Nat) (hl : cs.length = n * k) (hc : n ≤ maxLen) : RowW w (some ⟨g, 0, none⟩) n n k cs :=
  ⟨hl, Nat.le_refl _, hc, fun h => (by cases h), fun _ => ⟨g, 0, rfl, h.lt, fun j hj => by rw [Nat.zero_add]; exact h.cell j⟩⟩
theorem has_row {w : World} {g : Nat} {t : TypeId} {cs : List Value} (h : Has w g t cs) (n : Nat) (hl : cs.length = n) (hc : n ≤ maxLen) : Row w (some ⟨g, 0, none⟩) n n cs := by
  have := h.row 0 n n (by omega) (Nat.le_refl _) hc
  rw [List.drop_zero, List.take_of_length_le (by omega)] at this
  exact this
/-- The first j entries with their X set. -/
def halfE (n j : Nat) : List Ent := List.replicate j ⟨1, none, 0, 0, []⟩ ++ List.replicate (n - j) default
theorem halfE_len {n j : Nat} (h : j ≤ n) : (halfE n j).length = n := by simp [halfE]; omega
theorem halfE_cells {n j : Nat} (h : j ≤ n) : ((halfE n j).flatMap Ent.cells).length = n * 2 := by
  rw [flatMap_len Ent.cells 2 _ (fun e _ => e.cells_len), halfE_len h]
theorem halfE_set {n j : Nat} (h : j < n) : ((halfE n j).flatMap Ent.cells).set (j * 2) (.int .u64 1) = (halfE n (j + 1)).flatMap Ent.cells := by
  have hl : ((List.replicate j (⟨1, none, 0, 0, []⟩ : Ent)).flatMap Ent.cells).length = j * 2 := by
    rw [flatMap_len Ent.cells 2 _ (fun e _ => e.cells_len), List.length_replicate]
  rw [halfE, halfE, List.flatMap_append, List.flatMap_append, List.set_append_right _ _ (by omega), hl, Nat.sub_self, show n - j = (n - (j + 1)) + 1 by omega, List.replicate_succ, List.flatMap_cons, List.replicate_succ', List.flatMap_append, List.append_assoc]
  congr 1
theorem ent_ok (w : World) (n j : Nat) : ∀ e ∈ halfE n j, e.ok w := by
  intro e he
  rcases List.mem_append.1 he with h | h
  · rw [List.eq_of_mem_replicate h]
    exact ⟨Row.nil w, by show 1 < 18446744073709551616; omega⟩
  · rw [List.eq_of_mem_replicate h]
    exact ⟨Row.nil w, by show 0 < 18446744073709551616; omega⟩
/-! ### The spec at these inputs -/
theorem spec_ent (n : Nat) : (wEntries ((halfE n n).map Ent.data)).2 = if 1000 < n then 3 else 0 := by
  have e : (halfE n n).map Ent.data = List.replicate n (1, []) := by simp [halfE, Ent.data]
  rw [e]
  unfold wEntries
  rw [List.length_replicate]
  split
  · rfl
  · rw [if_neg, if_neg]
    · rw [oddE, Bool.not_eq_true, List.any_eq_false]
      intro x hx
      have hs : sizeN (List.replicate n (1, [])) = 0 := by
        unfold sizeN
        cases n with
        | zero => rfl
        | succ n => rfl
      rw [List.eq_of_mem_replicate hx, hs]
      decide
    · rw [longE, Bool.not_eq_true, List.any_eq_false]
      intro x hx
      rw [List.eq_of_mem_replicate hx]
      decide
theorem spec_inner (n : Nat) : (wBatch ⟨0, 0, List.replicate n 0, ([] : List Let).map Let.data⟩).2 = if 20 < n then 3 else 0 := by
  unfold wBatch
  simp only [List.length_replicate, List.map_nil, List.length_nil]
  by_cases h : 20 < n
  · rw [if_pos (.inl h), if_pos h]
  · rw [if_neg (by omega), if_neg h]
    rfl
theorem spec_let (n : Nat) : (wBatch ⟨0, 0, [], (List.replicate n (⟨List.replicate 32 0, none, 0, 0, []⟩ : Let)).map Let.data⟩).2 = if 1000 < n then 3 else 0 := by
  have e : (List.replicate n (⟨List.replicate 32 0, none, 0, 0, []⟩ : Let)).map Let.data = List.replicate n (List.replicate 32 0, []) := by simp [Let.data]
  rw [e]
  unfold wBatch
  simp only [List.length_replicate, List.length_nil]
  by_cases h : 1000 < n
  · rw [if_pos (.inr h), if_pos h]
  · rw [if_neg (by omega), if_neg h, if_neg, if_neg (by decide), if_neg]
    · rw [oddL, Bool.not_eq_true, List.any_eq_false]
      intro x hx
      have hs : sizeL (List.replicate n (List.replicate 32 0, [])) = 0 := by
        unfold sizeL
        cases n with
        | zero => rfl
        | succ n => rfl
      rw [List.eq_of_mem_replicate hx, hs]
      decide
    · rw [longL, Bool.not_eq_true, List.any_eq_false]
      intro x hx
      rw [List.eq_of_mem_replicate hx]
      decide
theorem spec_sub (n : Nat) : (wSub ⟨List.replicate 32 0, 1, List.replicate n 0, 0, 0, 0, 0⟩).2 = if 1048576 < n then 3 else 0 := by
  unfold wSub
  simp only [List.length_replicate]
  split
  · rfl
  · rw [if_pos (by decide)]
/-! ### The walks -/
theorem out (a b : Int) (h : a < 0 ∨ 3 < a ∨ b < -1 ∨ 1 < b) (w : World) :
    Calls Try.prog 9 #[.int .i64 a, .int .i64 b] w fun e w' => e = .returned (.bool true) ∧ Below w.heap.size w w' := by
  by_cases h1 : a < 0
  · clear h
    go_enter Try.func9, Try.ntmps9
    go_wp2_with fail
    refine (alive11 _).mono ?_
    rintro e w2 ⟨rfl, hb2⟩
    go_wp2_with fail
    go_ret
    exact ⟨rfl, hb2⟩
  by_cases h2 : 3 < a
  · clear h
    go_enter Try.func9, Try.ntmps9
    go_wp2_with fail
    refine (alive11 _).mono ?_
    rintro e w2 ⟨rfl, hb2⟩
    go_wp2_with fail
    go_ret
    exact ⟨rfl, hb2⟩
  by_cases h3 : b < -1
  · clear h
    go_enter Try.func9, Try.ntmps9
    go_wp2_with fail
    refine (alive11 _).mono ?_
    rintro e w2 ⟨rfl, hb2⟩
    go_wp2_with fail
    go_ret
    exact ⟨rfl, hb2⟩
  · have h4 : 1 < b := by omega
    clear h
    go_enter Try.func9, Try.ntmps9
    go_wp2_with fail
    refine (alive11 _).mono ?_
    rintro e w2 ⟨rfl, hb2⟩
    go_wp2_with fail
    go_ret
    exact ⟨rfl, hb2⟩
set_option maxRecDepth 10000 in
set_option maxHeartbeats 2000000 in
theorem case0 (b : Int) (n : Nat) (hn : 1000 + b = (n : Int)) (h1 : -1 ≤ b) (h2 : b ≤ 1) (k : Nat) (hk : k = if 1000 < n then 3 else 0) (hz : (k = 3 ∧ 0 < b) ∨ (k = 0 ∧ b ≤ 0)) (w : World) :
    Calls Try.prog 9 #[.int .i64 0, .int .i64 b] w fun e w' => e = .returned (.bool true) ∧ Below w.heap.size w w' := by
  have HN := Lib.hid (show n ≤ 1000 + 1 by omega)
  have hwr : IntKind.i64.wrap (1000 + b) = (n : Int) := by rw [IntKind.wrap_i64]; omega
  have h1' : ¬ b < -1 := by omega
  have h2' : ¬ 1 < b := by omega
  have M := Lib.hid (fun q => num11 (k : Int) q (by omega))
  have HZ := Lib.hid hz
  have HSP := Lib.hid ((spec_ent n).trans hk.symm)
  clear hk hn h1 h2 hz
  go_enter Try.func9, Try.ntmps9
  go_wp2_with fail
  refine (alive11 _).mono ?_
  rintro e w2 ⟨rfl, hb2⟩
  have hmk := make_ent n (by have := HN.out; omega) w2
  have HG := Has.new w2 39 ((halfE n 0).flatMap Ent.cells)
  have hb3 := hb2.alloc hb2.size (.cells ((halfE n 0).flatMap Ent.cells).toArray 39)
  have HG2 := hb2.size
  rw [show List.replicate n (default : Ent) = halfE n 0 by simp [halfE]] at hmk
  go_wp2_with fail
  change Code.wp _ _ _ _ (w2.alloc (.cells ((halfE n 0).flatMap Ent.cells).toArray 39))
  generalize (w2.alloc (.cells ((halfE n 0).flatMap Ent.cells).toArray 39)) = w3 at *
  clear hmk
  go_loopw [8] (fun i wr => ∃ j : Nat, j ≤ n ∧ i = .int .i64 j ∧ Has wr w2.heap.size 39 ((halfE n j).flatMap Ent.cells) ∧ Below w.heap.size w wr) (fun i _ => n - (intOf i).toNat)
  case atStart => exact ⟨0, Nat.zero_le _, rfl, HG, hb3⟩
  case round =>
    clear HG hb3
    obtain ⟨j, hj, rfl, HK, hb⟩ := hrel
    by_cases hlt : j < n
    · have hjn : (j : Int) < (n : Int) := by omega
      have hnb := HN.out
      have fz := HK.froz (j * 2)
      obtain ⟨vk, ck⟩ : ∃ v, wr.cell? ⟨w2.heap.size, j * 2, none⟩ = some v := ⟨_, (HK.cell (j * 2)).trans (List.getElem?_eq_getElem (by rw [halfE_cells hj]; omega))⟩
      have HST := Lib.hid (show Has (wr.setCell ⟨w2.heap.size, j * 2, none⟩ (.int .u64 1)) w2.heap.size 39 ((halfE n (j + 1)).flatMap Ent.cells) by
        rw [← halfE_set hlt]
        exact HK.set (j * 2) _)
      clear HK
      go_wp2_with fail
      go_roundw
      case rel => exact ⟨j + 1, by omega, by go_num, HST.out, (Only.setCell _ _ _ _).below hb HG2⟩
      case measure => simp [intOf]; omega
    · obtain rfl : j = n := by omega
      have hE : Entries wr (some ⟨w2.heap.size, 0, none⟩) j j (halfE j j) := ⟨has_rowW HK j 2 (halfE_cells hj) (by have := HN.out; unfold maxLen; omega), halfE_len hj, ent_ok wr j j⟩
      have hjn : ¬ (j : Int) < (j : Int) := by omega
      obtain ⟨l, kk, hl⟩ : ∃ l kk, wEntries ((halfE j j).map Ent.data) = (l, kk) := ⟨_, _, rfl⟩
      obtain rfl : kk = k := by have := HSP.out; rw [hl] at this; exact this
      have KE := Lib.hid (progEntries' _ j j _ l kk hl wr hE)
      clear HK hE hl HSP
      go_wp2_with fail
      refine (KE.out).mono ?_
      rintro e w5 ⟨v5, rfl, _, hb5⟩
      have HBF := Lib.hid (hb.trans (hb5.mono hb.size))
      clear hb5 hb KE
      rcases HZ.out with ⟨rfl, h0⟩ | ⟨rfl, h0⟩
      · go_wp2_with fail
        refine (M.out _).mono ?_
        rintro e w' ⟨rfl, rfl⟩
        go_wp2_with fail
        go_ret
        exact ⟨rfl, HBF.out⟩
      · have h0' : ¬ 0 < b := by omega
        go_wp2_with fail
        refine (M.out _).mono ?_
        rintro e w' ⟨rfl, rfl⟩
        go_wp2_with fail
        go_ret
        exact ⟨rfl, HBF.out⟩
set_option maxRecDepth 10000 in
set_option maxHeartbeats 2000000 in
theorem case1 (b : Int) (n : Nat) (hn : 20 + b = (n : Int)) (h1 : -1 ≤ b) (h2 : b ≤ 1) (k : Nat) (hk : k = if 20 < n then 3 else 0) (hz : (k = 3 ∧ 0 < b) ∨ (k = 0 ∧ b ≤ 0)) (w : World) :
    Calls Try.prog 9 #[.int .i64 1, .int .i64 b] w fun e w' => e = .returned (.bool true) ∧ Below w.heap.size w w' := by
  have HN := Lib.hid (show n ≤ 20 + 1 by omega)
  have hwr : IntKind.i64.wrap (20 + b) = (n : Int) := by rw [IntKind.wrap_i64]; omega
  have h1' : ¬ b < -1 := by omega
  have h2' : ¬ 1 < b := by omega
  have M := Lib.hid (fun q => num11 (k : Int) q (by omega))
  have HZ := Lib.hid hz
  have HSP := Lib.hid ((spec_inner n).trans hk.symm)
  clear hk hn h1 h2 hz
  go_enter Try.func9, Try.ntmps9
  go_wp2_with fail
  refine (alive11 _).mono ?_
  rintro e w2 ⟨rfl, hb2⟩
  have hmk := make_64 n (by have := HN.out; omega) w2
  have HG := Has.new w2 37 ((List.replicate n 0).map nv)
  have hb3 := hb2.alloc hb2.size (.cells ((List.replicate n 0).map nv).toArray 37)
  have hI : Nums (w2.alloc (.cells ((List.replicate n 0).map nv).toArray 37)) (some ⟨w2.heap.size, 0, none⟩) n n (List.replicate n 0) := ⟨has_row HG n (by simp) (by have := HN.out; unfold maxLen; omega), fun x hx => by rw [List.eq_of_mem_replicate hx]; omega⟩
  obtain ⟨l, kk, hl⟩ : ∃ l kk, wBatch ⟨0, 0, List.replicate n 0, ([] : List Let).map Let.data⟩ = (l, kk) := ⟨_, _, rfl⟩
  obtain rfl : kk = k := by have := HSP.out; rw [hl] at this; exact this
  obtain ⟨CS, hCS⟩ : ∃ x, (List.replicate n 0).map nv = x := ⟨_, rfl⟩
  rw [hCS] at HG hb3 hmk hI
  have KE := Lib.hid (show Calls Try.prog 22 #[.agg #[.int .i64 0, .int .i64 0, .slice (some ⟨w2.heap.size, 0, none⟩) n n, .slice none 0 0]] (w2.alloc (.cells CS.toArray 37)) _ from progBatch' 0 0 (by omega) (by omega) _ n n _ none 0 0 [] l kk hl _ hI ⟨RowW.nil _ _, rfl, fun e he => by cases he⟩)
  clear HG hI hl HSP hCS
  go_wp2_with fail
  refine (KE.out).mono ?_
  rintro e w5 ⟨v5, rfl, _, hb5⟩
  have HBF := Lib.hid (hb3.trans (hb5.mono hb3.size))
  clear hb5 hb3 KE hmk
  rcases HZ.out with ⟨rfl, h0⟩ | ⟨rfl, h0⟩
  · go_wp2_with fail
    refine (M.out _).mono ?_
    rintro e w' ⟨rfl, rfl⟩
    go_wp2_with fail
    go_ret
    exact ⟨rfl, HBF.out⟩
  · have h0' : ¬ 0 < b := by omega
    go_wp2_with fail
    refine (M.out _).mono ?_
    rintro e w' ⟨rfl, rfl⟩
    go_wp2_with fail
    go_ret
    exact ⟨rfl, HBF.out⟩
set_option maxRecDepth 10000 in
set_option maxHeartbeats 2000000 in
theorem case2 (b : Int) (n : Nat) (hn : 1000 + b = (n : Int)) (h1 : -1 ≤ b) (h2 : b ≤ 1) (k : Nat) (hk : k = if 1000 < n then 3 else 0) (hz : (k = 3 ∧ 0 < b) ∨ (k = 0 ∧ b ≤ 0)) (w : World) :
    Calls Try.prog 9 #[.int .i64 2, .int .i64 b] w fun e w' => e = .returned (.bool true) ∧ Below w.heap.size w w' := by
  have HN := Lib.hid (show n ≤ 1000 + 1 by omega)
  have hwr : IntKind.i64.wrap (1000 + b) = (n : Int) := by rw [IntKind.wrap_i64]; omega
  have h1' : ¬ b < -1 := by omega
  have h2' : ¬ 1 < b := by omega
  have M := Lib.hid (fun q => num11 (k : Int) q (by omega))
  have HZ := Lib.hid hz
  have HSP := Lib.hid ((spec_let n).trans hk.symm)
  clear hk hn h1 h2 hz
  go_enter Try.func9, Try.ntmps9
  go_wp2_with fail
  refine (alive11 _).mono ?_
  rintro e w2 ⟨rfl, hb2⟩
  have hmk := make_let n (by have := HN.out; omega) w2
  have HG := Has.new w2 96 ((List.replicate n (⟨List.replicate 32 0, none, 0, 0, []⟩ : Let)).flatMap Let.cells)
  have hb3 := hb2.alloc hb2.size (.cells ((List.replicate n (⟨List.replicate 32 0, none, 0, 0, []⟩ : Let)).flatMap Let.cells).toArray 96)
  obtain ⟨LS, hLS⟩ : ∃ x, (List.replicate n (⟨List.replicate 32 0, none, 0, 0, []⟩ : Let)) = x := ⟨_, rfl⟩
  have hLl : LS.length = n := by rw [← hLS]; simp
  have hLo : ∀ u, ∀ e ∈ LS, Let.ok u e := fun u e he => by
    rw [← hLS] at he
    rw [List.eq_of_mem_replicate he]
    exact ⟨rfl, Row.nil u⟩
  rw [hLS] at HG hb3 hmk HSP
  have hL : Letters (w2.alloc (.cells (LS.flatMap Let.cells).toArray 96)) (some ⟨w2.heap.size, 0, none⟩) n n LS := ⟨has_rowW HG n 33 (by rw [flatMap_len Let.cells 33 _ (fun e he => Let.cells_len (hLo w2 e he).1), hLl]) (by have := HN.out; unfold maxLen; omega), hLl, hLo _⟩
  obtain ⟨l, kk, hl⟩ : ∃ l kk, wBatch ⟨0, 0, [], LS.map Let.data⟩ = (l, kk) := ⟨_, _, rfl⟩
  obtain rfl : kk = k := by have := HSP.out; rw [hl] at this; exact this
  have KE := Lib.hid (show Calls Try.prog 22 #[.agg #[.int .i64 0, .int .i64 0, .slice none 0 0, .slice (some ⟨w2.heap.size, 0, none⟩) n n]] (w2.alloc (.cells (LS.flatMap Let.cells).toArray 96)) _ from progBatch' 0 0 (by omega) (by omega) none 0 0 [] _ n n LS l kk hl _ ⟨Row.nil _, fun x hx => by cases hx⟩ hL)
  clear HG hL hl HSP hLS hLo hLl
  go_wp2_with fail
  refine (KE.out).mono ?_
  rintro e w5 ⟨v5, rfl, _, hb5⟩
  have HBF := Lib.hid (hb3.trans (hb5.mono hb3.size))
  clear hb5 hb3 KE hmk
  rcases HZ.out with ⟨rfl, h0⟩ | ⟨rfl, h0⟩
  · go_wp2_with fail
    refine (M.out _).mono ?_
    rintro e w' ⟨rfl, rfl⟩
    go_wp2_with fail
    go_ret
    exact ⟨rfl, HBF.out⟩
  · have h0' : ¬ 0 < b := by omega
    go_wp2_with fail
    refine (M.out _).mono ?_
    rintro e w' ⟨rfl, rfl⟩
    go_wp2_with fail
    go_ret
    exact ⟨rfl, HBF.out⟩
set_option maxRecDepth 10000 in
set_option maxHeartbeats 2000000 in
theorem case3 (b : Int) (n : Nat) (hn : 1048576 + b = (n : Int)) (h1 : -1 ≤ b) (h2 : b ≤ 1) (k : Nat) (hk : k = if 1048576 < n then 3 else 0) (hz : (k = 3 ∧ 0 < b) ∨ (k = 0 ∧ b ≤ 0)) (w : World) :
    Calls Try.prog 9 #[.int .i64 3, .int .i64 b] w fun e w' => e = .returned (.bool true) ∧ Below w.heap.size w w' := by
  have HN := Lib.hid (show n ≤ 1048576 + 1 by omega)
  have hwr : IntKind.i64.wrap (1048576 + b) = (n : Int) := by rw [IntKind.wrap_i64]; omega
  have h1' : ¬ b < -1 := by omega
  have h2' : ¬ 1 < b := by omega
  have M := Lib.hid (fun q => num11 (k : Int) q (by omega))
  have HZ := Lib.hid hz
  have HSP := Lib.hid ((spec_sub n).trans hk.symm)
  clear hk hn h1 h2 hz
  go_enter Try.func9, Try.ntmps9
  go_wp2_with fail
  refine (alive11 _).mono ?_
  rintro e w2 ⟨rfl, hb2⟩
  have hmk := run_make8 n n (Nat.le_refl _) (by have := HN.out; omega) w2
  have HG := Has.new w2 5 (noughts n)
  have hb3 := hb2.alloc hb2.size (.cells (noughts n).toArray 5)
  have hB : Bytes (w2.alloc (.cells (noughts n).toArray 5)) (some ⟨w2.heap.size, 0, none⟩) n n (List.replicate n 0) := by
    have := has_row HG n (noughts_len n) (by have := HN.out; unfold maxLen; omega)
    rw [Bytes, List.map_replicate]
    exact this
  obtain ⟨l, kk, hl⟩ : ∃ l kk, wSub ⟨List.replicate 32 0, 1, List.replicate n 0, 0, 0, 0, 0⟩ = (l, kk) := ⟨_, _, rfl⟩
  obtain rfl : kk = k := by have := HSP.out; rw [hl] at this; exact this
  have KE := Lib.hid (show Calls Try.prog 17 #[.agg (scells (List.replicate 32 0) 1 (some ⟨w2.heap.size, 0, none⟩) n n 0 0 0 0).toArray] (w2.alloc (.cells (noughts n).toArray 5)) _ from progSubmission' ⟨List.replicate 32 0, 1, List.replicate n 0, 0, 0, 0, 0⟩ ⟨rfl, by show 1 < 18446744073709551616; omega, by show 0 < 18446744073709551616; omega, by show 0 < 18446744073709551616; omega, by show 0 < 18446744073709551616; omega, by show 0 < 18446744073709551616; omega⟩ _ n n l kk hl _ hB)
  clear HG hB hl HSP
  go_wp2_with fail
  refine (KE.out).mono ?_
  rintro e w5 ⟨v5, rfl, _, hb5⟩
  have HBF := Lib.hid (hb3.trans (hb5.mono hb3.size))
  clear hb5 hb3 KE hmk
  rcases HZ.out with ⟨rfl, h0⟩ | ⟨rfl, h0⟩
  · go_wp2_with fail
    refine (M.out _).mono ?_
    rintro e w' ⟨rfl, rfl⟩
    go_wp2_with fail
    go_ret
    exact ⟨rfl, HBF.out⟩
  · have h0' : ¬ 0 < b := by omega
    go_wp2_with fail
    refine (M.out _).mono ?_
    rintro e w' ⟨rfl, rfl⟩
    go_wp2_with fail
    go_ret
    exact ⟨rfl, HBF.out⟩
theorem all (a b : Int) (w : World) (ha : -9223372036854775808 ≤ a ∧ a ≤ 9223372036854775807) (hb : -9223372036854775808 ≤ b ∧ b ≤ 9223372036854775807) :
    Calls Try.prog 9 #[.int .i64 a, .int .i64 b] w fun e w' => e = .returned (.bool true) ∧ Below w.heap.size w w' := by
  by_cases h : a < 0 ∨ 3 < a ∨ b < -1 ∨ 1 < b
  · exact out a b h w
  · have hk : ∀ (base n : Nat), (base : Int) + b = (n : Int) → ((if base < n then 3 else 0 : Nat) = 3 ∧ 0 < b) ∨ ((if base < n then 3 else 0 : Nat) = 0 ∧ b ≤ 0) := fun base n hn => by
      by_cases h1 : base < n
      · rw [if_pos h1]; exact .inl ⟨rfl, by omega⟩
      · rw [if_neg h1]; exact .inr ⟨rfl, by omega⟩
    obtain h0 | h0 | h0 | h0 : a = 0 ∨ a = 1 ∨ a = 2 ∨ a = 3 := by omega
    · subst h0
      obtain ⟨n, hn⟩ : ∃ n : Nat, 1000 + b = (n : Int) := ⟨(1000 + b).toNat, by omega⟩
      exact case0 b n hn (by omega) (by omega) _ rfl (hk 1000 n hn) w
    · subst h0
      obtain ⟨n, hn⟩ : ∃ n : Nat, 20 + b = (n : Int) := ⟨(20 + b).toNat, by omega⟩
      exact case1 b n hn (by omega) (by omega) _ rfl (hk 20 n hn) w
    · subst h0
      obtain ⟨n, hn⟩ : ∃ n : Nat, 1000 + b = (n : Int) := ⟨(1000 + b).toNat, by omega⟩
      exact case2 b n hn (by omega) (by omega) _ rfl (hk 1000 n hn) w
    · subst h0
      obtain ⟨n, hn⟩ : ∃ n : Nat, 1048576 + b = (n : Int) := ⟨(1048576 + b).toNat, by omega⟩
      exact case3 b n hn (by omega) (by omega) _ rfl (hk 1048576 n hn) w
end codecLimitsLaw
end Go.Proofs.Ytiilgkajijnbcaa
