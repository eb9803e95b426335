/-
  ShaKnown: the walk.
-/
import Derived.Test.YtikmhhhnegdfoaaDoorShaLaw
import Derived.BigQuiet
import Derived.Deep.QuietTactic
import Derived.Lib.ConvBytes
namespace Go.Proofs.YtikmhhhnegdfoaaDoor
open Go.ChangeShapes Go.WideShapes Go.ChangeAt Go.RowKit
set_option linter.unusedVariables false
set_option linter.unusedSimpArgs false

/-- []byte(s) of a string that is no constant. -/
theorem conv_bytes (w : World) (s : ByteArray) (hs : s.size ≤ 1000000) : ∃ (c : Nat) (w' : World), (convert 9 22 (.string s)).run Tryd.prog w = .ok (.slice (some ⟨w.heap.size, 0, none⟩) s.size c) w' ∧ Bytes w' (some ⟨w.heap.size, 0, none⟩) s.size c s.data.toList ∧ Below w.heap.size w w' := by
  refine ⟨_, _, Lib.run_convert_string_bytes w 9 22 5 s Tryd.underlying9 Tryd.underlying22 Tryd.underlying5, ?_, ?_⟩
  · refine ⟨by rw [List.length_map]; rfl, grownCap_ge _ _ _ _, grownCap_le_maxLen _ _ _ _ (by simp [maxLen]; omega), fun h => (by cases h), fun hn => ⟨_, _, rfl, by rw [Lib.bytesWorld_size]; omega, fun j hj => ?_⟩⟩
    have hj' : j < s.data.toList.length := hj
    rw [Nat.zero_add, Lib.bytesWorld_cell _ _ _ _ hj, List.getElem?_map, List.getElem?_eq_getElem hj']
    simp [bv, List.getD, List.getElem?_eq_getElem hj']
  · exact ⟨rfl, rfl, rfl, by rw [Lib.bytesWorld_size]; omega, fun k hk => Lib.bytesWorld_at_old _ _ _ _ hk⟩

namespace shaKnownLaw
set_option maxHeartbeats 400000 in
theorem out (n : Int) (w : World) (hT : Tab w) (h : n < 0 ∨ 3 ≤ n) : Calls Tryd.prog 5 #[.int .i64 n] w fun e w' => e = .returned (.bool true) ∧ Below w.heap.size w w' := by
  have K := Lib.hid (shaLaw.alive w hT)
  rcases h with h | h
  · go_enter Tryd.func5, Tryd.ntmps5
    go_wp2_with fail
    refine (K.out).mono ?_
    rintro e w2 ⟨rfl, hb⟩
    go_wp2_with fail
    go_ret
    have h1 := hb.size
    refine ⟨rfl, ?_⟩
    refine ((((hb.alloc ?_ _).alloc ?_ _).alloc ?_ _).alloc ?_ _).alloc ?_ _ <;> first | omega | (simp; omega)
  · have h0 : ¬ n < 0 := by omega
    go_enter Tryd.func5, Tryd.ntmps5
    go_wp2_with fail
    refine (K.out).mono ?_
    rintro e w2 ⟨rfl, hb⟩
    go_wp2_with fail
    go_ret
    have h1 := hb.size
    refine ⟨rfl, ?_⟩
    refine ((((hb.alloc ?_ _).alloc ?_ _).alloc ?_ _).alloc ?_ _).alloc ?_ _ <;> first | omega | (simp; omega)
set_option maxHeartbeats 1000000 in
theorem known0 (w : World) (hT : Tab w) : Calls Tryd.prog 5 #[.int .i64 0] w fun e w' => e = .returned (.bool true) ∧ Below w.heap.size w w' := by
  have K := Lib.hid (shaLaw.alive w hT)
  obtain ⟨l, hl⟩ : ∃ l : List UInt8, l = [] := ⟨_, rfl⟩
  obtain ⟨wl, hwl⟩ : ∃ l : List UInt8, l = [227, 176, 196, 66, 152, 252, 28, 20] := ⟨_, rfl⟩
  have h8 : (shaN l).take 8 = wl := by rw [hl, hwl]; exact ev0
  obtain ⟨Ks, hKs⟩ : ∃ K, K = (shaN l).map bv := ⟨_, rfl⟩
  have hKl : Ks.length = 32 := by rw [hKs, List.length_map, shaN_len]
  have hat : ∀ i, i < 8 → Ks[i]? = (wl.map bv)[i]? := fun i hi => by rw [← h8, hKs, List.map_take, List.getElem?_take, if_pos hi]
  have hwl8 : wl.length = 8 := by rw [hwl]; rfl
  have SZ := Lib.hid (show (Tryd.prog.info? 26).map (·.size) = some Ks.length by rw [hKl]; kernel_rfl)
  have LL := Lib.hid (show ((List.replicate 32 0 : List UInt8).map bv).length = Ks.length by rw [List.length_map, hKl, List.length_replicate])
  have OC := Lib.hid (show ∀ u ∈ Ks, u.oneCell' = true from hKs ▸ one_bv _)
  have HL := Lib.hid (And.intro hl (And.intro hwl (And.intro hKs (And.intro hat (And.intro hwl8 hKl)))))
  clear hl hwl h8 hKs hKl hat hwl8
  go_enter Tryd.func5, Tryd.ntmps5
  go_wp2_with fail
  refine (K.out).mono ?_
  rintro e w2 ⟨rfl, hb⟩
  obtain ⟨c, w3, hcv, hB3, hb3⟩ := conv_bytes (((((w2.alloc (.cells #[.string ⟨#[]⟩, .string ⟨#[97, 98, 99]⟩, .string ⟨#[97, 98, 99, 100, 98, 99, 100, 101, 99, 100, 101, 102, 100, 101, 102, 103, 101, 102, 103, 104, 102, 103, 104, 105, 103, 104, 105, 106, 104, 105, 106, 107, 105, 106, 107, 108, 106, 107, 108, 109, 107, 108, 109, 110, 108, 109, 110, 111, 109, 110, 111, 112, 110, 111, 112, 113]⟩] 9)).alloc (.cells #[.int .u8 227, .int .u8 176, .int .u8 196, .int .u8 66, .int .u8 152, .int .u8 252, .int .u8 28, .int .u8 20] 5)).alloc (.cells #[.int .u8 186, .int .u8 120, .int .u8 22, .int .u8 191, .int .u8 143, .int .u8 1, .int .u8 207, .int .u8 234] 5)).alloc (.cells #[.int .u8 36, .int .u8 141, .int .u8 106, .int .u8 97, .int .u8 210, .int .u8 6, .int .u8 56, .int .u8 184] 5)).alloc (.cells #[.slice (some ⟨w2.heap.size + 1, 0, none⟩) 8 8, .slice (some ⟨w2.heap.size + 1 + 1, 0, none⟩) 8 8, .slice (some ⟨w2.heap.size + 1 + 1 + 1, 0, none⟩) 8 8] 22)) ⟨#[]⟩ (by decide)
  have hbW : Below w.heap.size w (((((w2.alloc (.cells #[.string ⟨#[]⟩, .string ⟨#[97, 98, 99]⟩, .string ⟨#[97, 98, 99, 100, 98, 99, 100, 101, 99, 100, 101, 102, 100, 101, 102, 103, 101, 102, 103, 104, 102, 103, 104, 105, 103, 104, 105, 106, 104, 105, 106, 107, 105, 106, 107, 108, 106, 107, 108, 109, 107, 108, 109, 110, 108, 109, 110, 111, 109, 110, 111, 112, 110, 111, 112, 113]⟩] 9)).alloc (.cells #[.int .u8 227, .int .u8 176, .int .u8 196, .int .u8 66, .int .u8 152, .int .u8 252, .int .u8 28, .int .u8 20] 5)).alloc (.cells #[.int .u8 186, .int .u8 120, .int .u8 22, .int .u8 191, .int .u8 143, .int .u8 1, .int .u8 207, .int .u8 234] 5)).alloc (.cells #[.int .u8 36, .int .u8 141, .int .u8 106, .int .u8 97, .int .u8 210, .int .u8 6, .int .u8 56, .int .u8 184] 5)).alloc (.cells #[.slice (some ⟨w2.heap.size + 1, 0, none⟩) 8 8, .slice (some ⟨w2.heap.size + 1 + 1, 0, none⟩) 8 8, .slice (some ⟨w2.heap.size + 1 + 1 + 1, 0, none⟩) 8 8] 22)) := ((((hb.alloc hb.size _).alloc (by have := hb.size; simp; omega) _).alloc (by have := hb.size; simp; omega) _).alloc (by have := hb.size; simp; omega) _).alloc (by have := hb.size; simp; omega) _
  have H4 : Has (((((w2.alloc (.cells #[.string ⟨#[]⟩, .string ⟨#[97, 98, 99]⟩, .string ⟨#[97, 98, 99, 100, 98, 99, 100, 101, 99, 100, 101, 102, 100, 101, 102, 103, 101, 102, 103, 104, 102, 103, 104, 105, 103, 104, 105, 106, 104, 105, 106, 107, 105, 106, 107, 108, 106, 107, 108, 109, 107, 108, 109, 110, 108, 109, 110, 111, 109, 110, 111, 112, 110, 111, 112, 113]⟩] 9)).alloc (.cells #[.int .u8 227, .int .u8 176, .int .u8 196, .int .u8 66, .int .u8 152, .int .u8 252, .int .u8 28, .int .u8 20] 5)).alloc (.cells #[.int .u8 186, .int .u8 120, .int .u8 22, .int .u8 191, .int .u8 143, .int .u8 1, .int .u8 207, .int .u8 234] 5)).alloc (.cells #[.int .u8 36, .int .u8 141, .int .u8 106, .int .u8 97, .int .u8 210, .int .u8 6, .int .u8 56, .int .u8 184] 5)).alloc (.cells #[.slice (some ⟨w2.heap.size + 1, 0, none⟩) 8 8, .slice (some ⟨w2.heap.size + 1 + 1, 0, none⟩) 8 8, .slice (some ⟨w2.heap.size + 1 + 1 + 1, 0, none⟩) 8 8] 22)) (w2.heap.size + 1 + 1 + 1 + 1) 22 [.slice (some ⟨w2.heap.size + 1, 0, none⟩) 8 8, .slice (some ⟨w2.heap.size + 1 + 1, 0, none⟩) 8 8, .slice (some ⟨w2.heap.size + 1 + 1 + 1, 0, none⟩) 8 8] := (Has.new _ 22 [.slice (some ⟨w2.heap.size + 1, 0, none⟩) 8 8, .slice (some ⟨w2.heap.size + 1 + 1, 0, none⟩) 8 8, .slice (some ⟨w2.heap.size + 1 + 1 + 1, 0, none⟩) 8 8]).at_ (by simp)
  have HWk : Has (((((w2.alloc (.cells #[.string ⟨#[]⟩, .string ⟨#[97, 98, 99]⟩, .string ⟨#[97, 98, 99, 100, 98, 99, 100, 101, 99, 100, 101, 102, 100, 101, 102, 103, 101, 102, 103, 104, 102, 103, 104, 105, 103, 104, 105, 106, 104, 105, 106, 107, 105, 106, 107, 108, 106, 107, 108, 109, 107, 108, 109, 110, 108, 109, 110, 111, 109, 110, 111, 112, 110, 111, 112, 113]⟩] 9)).alloc (.cells #[.int .u8 227, .int .u8 176, .int .u8 196, .int .u8 66, .int .u8 152, .int .u8 252, .int .u8 28, .int .u8 20] 5)).alloc (.cells #[.int .u8 186, .int .u8 120, .int .u8 22, .int .u8 191, .int .u8 143, .int .u8 1, .int .u8 207, .int .u8 234] 5)).alloc (.cells #[.int .u8 36, .int .u8 141, .int .u8 106, .int .u8 97, .int .u8 210, .int .u8 6, .int .u8 56, .int .u8 184] 5)).alloc (.cells #[.slice (some ⟨w2.heap.size + 1, 0, none⟩) 8 8, .slice (some ⟨w2.heap.size + 1 + 1, 0, none⟩) 8 8, .slice (some ⟨w2.heap.size + 1 + 1 + 1, 0, none⟩) 8 8] 22)) (w2.heap.size + 1) 5 (wl.map bv) := by
    rw [HL.out.2.1]
    exact ((((Has.new (w2.alloc (.cells #[.string ⟨#[]⟩, .string ⟨#[97, 98, 99]⟩, .string ⟨#[97, 98, 99, 100, 98, 99, 100, 101, 99, 100, 101, 102, 100, 101, 102, 103, 101, 102, 103, 104, 102, 103, 104, 105, 103, 104, 105, 106, 104, 105, 106, 107, 105, 106, 107, 108, 106, 107, 108, 109, 107, 108, 109, 110, 108, 109, 110, 111, 109, 110, 111, 112, 110, 111, 112, 113]⟩] 9)) 5 [.int .u8 227, .int .u8 176, .int .u8 196, .int .u8 66, .int .u8 152, .int .u8 252, .int .u8 28, .int .u8 20]).at_ (by simp)).alloc _).alloc _).alloc _
  go_wp2_with fail
  have hB3' : Bytes w3 (some ⟨w2.heap.size + 1 + 1 + 1 + 1 + 1, 0, none⟩) 0 c l := by
    rw [HL.out.1]
    have e : (((((w2.alloc (.cells #[.string ⟨#[]⟩, .string ⟨#[97, 98, 99]⟩, .string ⟨#[97, 98, 99, 100, 98, 99, 100, 101, 99, 100, 101, 102, 100, 101, 102, 103, 101, 102, 103, 104, 102, 103, 104, 105, 103, 104, 105, 106, 104, 105, 106, 107, 105, 106, 107, 108, 106, 107, 108, 109, 107, 108, 109, 110, 108, 109, 110, 111, 109, 110, 111, 112, 110, 111, 112, 113]⟩] 9)).alloc (.cells #[.int .u8 227, .int .u8 176, .int .u8 196, .int .u8 66, .int .u8 152, .int .u8 252, .int .u8 28, .int .u8 20] 5)).alloc (.cells #[.int .u8 186, .int .u8 120, .int .u8 22, .int .u8 191, .int .u8 143, .int .u8 1, .int .u8 207, .int .u8 234] 5)).alloc (.cells #[.int .u8 36, .int .u8 141, .int .u8 106, .int .u8 97, .int .u8 210, .int .u8 6, .int .u8 56, .int .u8 184] 5)).alloc (.cells #[.slice (some ⟨w2.heap.size + 1, 0, none⟩) 8 8, .slice (some ⟨w2.heap.size + 1 + 1, 0, none⟩) 8 8, .slice (some ⟨w2.heap.size + 1 + 1 + 1, 0, none⟩) 8 8] 22)).heap.size = w2.heap.size + 1 + 1 + 1 + 1 + 1 := by simp
    rw [e] at hB3
    exact hB3
  have hbw3 := hbW.trans (hb3.mono hbW.size)
  have H43 := H4.keep hb3 H4.lt
  have HW3 := HWk.keep hb3 HWk.lt
  have K1 := sha.Sum _ _ c l w3 hB3' (hT.keep hbw3)
  rw [← HL.out.2.2.1] at K1
  clear hcv hB3 hb3 hbW H4 HWk hB3' K hb
  refine K1.mono ?_
  rintro e w4 ⟨rfl, hb4⟩
  have H44 := H43.keep hb4 H43.lt
  have HW4 := HW3.keep hb4 HW3.lt
  have hbw4 := hbw3.trans (hb4.mono hbw3.size)
  have H0 : Has (w4.alloc (.cells #[.int .u8 0, .int .u8 0, .int .u8 0, .int .u8 0, .int .u8 0, .int .u8 0, .int .u8 0, .int .u8 0, .int .u8 0, .int .u8 0, .int .u8 0, .int .u8 0, .int .u8 0, .int .u8 0, .int .u8 0, .int .u8 0, .int .u8 0, .int .u8 0, .int .u8 0, .int .u8 0, .int .u8 0, .int .u8 0, .int .u8 0, .int .u8 0, .int .u8 0, .int .u8 0, .int .u8 0, .int .u8 0, .int .u8 0, .int .u8 0, .int .u8 0, .int .u8 0] 26)) w4.heap.size 26 ((List.replicate 32 0 : List UInt8).map bv) := Has.new w4 26 ((List.replicate 32 0 : List UInt8).map bv)
  have hb5 := hbw4.alloc hbw4.size (.cells #[.int .u8 0, .int .u8 0, .int .u8 0, .int .u8 0, .int .u8 0, .int .u8 0, .int .u8 0, .int .u8 0, .int .u8 0, .int .u8 0, .int .u8 0, .int .u8 0, .int .u8 0, .int .u8 0, .int .u8 0, .int .u8 0, .int .u8 0, .int .u8 0, .int .u8 0, .int .u8 0, .int .u8 0, .int .u8 0, .int .u8 0, .int .u8 0, .int .u8 0, .int .u8 0, .int .u8 0, .int .u8 0, .int .u8 0, .int .u8 0, .int .u8 0, .int .u8 0] 26)
  have H45 := H44.alloc (.cells #[.int .u8 0, .int .u8 0, .int .u8 0, .int .u8 0, .int .u8 0, .int .u8 0, .int .u8 0, .int .u8 0, .int .u8 0, .int .u8 0, .int .u8 0, .int .u8 0, .int .u8 0, .int .u8 0, .int .u8 0, .int .u8 0, .int .u8 0, .int .u8 0, .int .u8 0, .int .u8 0, .int .u8 0, .int .u8 0, .int .u8 0, .int .u8 0, .int .u8 0, .int .u8 0, .int .u8 0, .int .u8 0, .int .u8 0, .int .u8 0, .int .u8 0, .int .u8 0] 26)
  have HW5 := HW4.alloc (.cells #[.int .u8 0, .int .u8 0, .int .u8 0, .int .u8 0, .int .u8 0, .int .u8 0, .int .u8 0, .int .u8 0, .int .u8 0, .int .u8 0, .int .u8 0, .int .u8 0, .int .u8 0, .int .u8 0, .int .u8 0, .int .u8 0, .int .u8 0, .int .u8 0, .int .u8 0, .int .u8 0, .int .u8 0, .int .u8 0, .int .u8 0, .int .u8 0, .int .u8 0, .int .u8 0, .int .u8 0, .int .u8 0, .int .u8 0, .int .u8 0, .int .u8 0, .int .u8 0] 26)
  have hl1 := H44.lt
  have hl2 := HW4.lt
  have hB4 := hbw4.size
  clear K1 hb4 hbw3 hbw4 H43 HW3 H44 HW4
  go_wp2_with ((with_reducible refine wpList_store_has rfl 26 (.tmp 6) (.tmp 32) rfl w4.heap.size rfl Ks rfl 26 _ H0 SZ.out LL.out OC.out ?_); intro w6 o6 H6)
  have H46 := H45.only o6 (by omega)
  have HW6 := HW5.only o6 (by omega)
  have hb6 := o6.below hb5 hB4
  clear H45 HW5 hb5 H0 o6
  go_loopw [7] (fun i wr => ∃ (j nq : Nat), j ≤ 8 ∧ i = .int .i64 j ∧ wr = w6.drewN nq) (fun i _ => 8 - (intOf i).toNat)
  case atStart => exact ⟨0, 0, by omega, rfl, rfl⟩
  case round =>
    obtain ⟨j, nq, hj, rfl, rfl⟩ := hrel
    by_cases hlt : j < 8
    · obtain ⟨y, hy⟩ : ∃ y, y = (wl.getD j 0).toNat := ⟨_, rfl⟩
      have hjl : j < wl.length := by rw [HL.out.2.2.2.2.1]; exact hlt
      have e : (wl.map bv)[j]? = some (.int .u8 (y : Int)) := by rw [hy]; simp [bv, hjl]
      have ch : w6.cell? ⟨w4.heap.size, j, none⟩ = some (.int .u8 (y : Int)) := ((H6.cell j).trans (HL.out.2.2.2.1 j hlt)).trans e
      have cw : w6.cell? ⟨w2.heap.size + 1, j, none⟩ = some (.int .u8 (y : Int)) := (HW6.cell j).trans e
      have c4 : w6.cell? ⟨w2.heap.size + 1 + 1 + 1 + 1, 0, none⟩ = some (.slice (some ⟨w2.heap.size + 1, 0, none⟩) 8 8) := (H46.cell 0)
      have hj8 : (j : Int) < 8 := by omega
      have hj32 : (j : Int) < 32 := by omega
      clear hy e
      go_wp2
      go_quiet (fail)
      go_wp2
      go_roundw
      case rel => exact ⟨j + 1, _, by omega, by go_num, rfl⟩
      case measure => simp [intOf]; omega
    · obtain rfl : j = 8 := by omega
      go_wp2
      go_ret
      exact ⟨rfl, below_drewN hb6 _⟩
set_option maxHeartbeats 1000000 in
theorem known1 (w : World) (hT : Tab w) : Calls Tryd.prog 5 #[.int .i64 1] w fun e w' => e = .returned (.bool true) ∧ Below w.heap.size w w' := by
  have K := Lib.hid (shaLaw.alive w hT)
  obtain ⟨l, hl⟩ : ∃ l : List UInt8, l = [97, 98, 99] := ⟨_, rfl⟩
  obtain ⟨wl, hwl⟩ : ∃ l : List UInt8, l = [186, 120, 22, 191, 143, 1, 207, 234] := ⟨_, rfl⟩
  have h8 : (shaN l).take 8 = wl := by rw [hl, hwl]; exact ev1
  obtain ⟨Ks, hKs⟩ : ∃ K, K = (shaN l).map bv := ⟨_, rfl⟩
  have hKl : Ks.length = 32 := by rw [hKs, List.length_map, shaN_len]
  have hat : ∀ i, i < 8 → Ks[i]? = (wl.map bv)[i]? := fun i hi => by rw [← h8, hKs, List.map_take, List.getElem?_take, if_pos hi]
  have hwl8 : wl.length = 8 := by rw [hwl]; rfl
  have SZ := Lib.hid (show (Tryd.prog.info? 26).map (·.size) = some Ks.length by rw [hKl]; kernel_rfl)
  have LL := Lib.hid (show ((List.replicate 32 0 : List UInt8).map bv).length = Ks.length by rw [List.length_map, hKl, List.length_replicate])
  have OC := Lib.hid (show ∀ u ∈ Ks, u.oneCell' = true from hKs ▸ one_bv _)
  have HL := Lib.hid (And.intro hl (And.intro hwl (And.intro hKs (And.intro hat (And.intro hwl8 hKl)))))
  clear hl hwl h8 hKs hKl hat hwl8
  go_enter Tryd.func5, Tryd.ntmps5
  go_wp2_with fail
  refine (K.out).mono ?_
  rintro e w2 ⟨rfl, hb⟩
  obtain ⟨c, w3, hcv, hB3, hb3⟩ := conv_bytes (((((w2.alloc (.cells #[.string ⟨#[]⟩, .string ⟨#[97, 98, 99]⟩, .string ⟨#[97, 98, 99, 100, 98, 99, 100, 101, 99, 100, 101, 102, 100, 101, 102, 103, 101, 102, 103, 104, 102, 103, 104, 105, 103, 104, 105, 106, 104, 105, 106, 107, 105, 106, 107, 108, 106, 107, 108, 109, 107, 108, 109, 110, 108, 109, 110, 111, 109, 110, 111, 112, 110, 111, 112, 113]⟩] 9)).alloc (.cells #[.int .u8 227, .int .u8 176, .int .u8 196, .int .u8 66, .int .u8 152, .int .u8 252, .int .u8 28, .int .u8 20] 5)).alloc (.cells #[.int .u8 186, .int .u8 120, .int .u8 22, .int .u8 191, .int .u8 143, .int .u8 1, .int .u8 207, .int .u8 234] 5)).alloc (.cells #[.int .u8 36, .int .u8 141, .int .u8 106, .int .u8 97, .int .u8 210, .int .u8 6, .int .u8 56, .int .u8 184] 5)).alloc (.cells #[.slice (some ⟨w2.heap.size + 1, 0, none⟩) 8 8, .slice (some ⟨w2.heap.size + 1 + 1, 0, none⟩) 8 8, .slice (some ⟨w2.heap.size + 1 + 1 + 1, 0, none⟩) 8 8] 22)) ⟨#[97, 98, 99]⟩ (by decide)
  have hbW : Below w.heap.size w (((((w2.alloc (.cells #[.string ⟨#[]⟩, .string ⟨#[97, 98, 99]⟩, .string ⟨#[97, 98, 99, 100, 98, 99, 100, 101, 99, 100, 101, 102, 100, 101, 102, 103, 101, 102, 103, 104, 102, 103, 104, 105, 103, 104, 105, 106, 104, 105, 106, 107, 105, 106, 107, 108, 106, 107, 108, 109, 107, 108, 109, 110, 108, 109, 110, 111, 109, 110, 111, 112, 110, 111, 112, 113]⟩] 9)).alloc (.cells #[.int .u8 227, .int .u8 176, .int .u8 196, .int .u8 66, .int .u8 152, .int .u8 252, .int .u8 28, .int .u8 20] 5)).alloc (.cells #[.int .u8 186, .int .u8 120, .int .u8 22, .int .u8 191, .int .u8 143, .int .u8 1, .int .u8 207, .int .u8 234] 5)).alloc (.cells #[.int .u8 36, .int .u8 141, .int .u8 106, .int .u8 97, .int .u8 210, .int .u8 6, .int .u8 56, .int .u8 184] 5)).alloc (.cells #[.slice (some ⟨w2.heap.size + 1, 0, none⟩) 8 8, .slice (some ⟨w2.heap.size + 1 + 1, 0, none⟩) 8 8, .slice (some ⟨w2.heap.size + 1 + 1 + 1, 0, none⟩) 8 8] 22)) := ((((hb.alloc hb.size _).alloc (by have := hb.size; simp; omega) _).alloc (by have := hb.size; simp; omega) _).alloc (by have := hb.size; simp; omega) _).alloc (by have := hb.size; simp; omega) _
  have H4 : Has (((((w2.alloc (.cells #[.string ⟨#[]⟩, .string ⟨#[97, 98, 99]⟩, .string ⟨#[97, 98, 99, 100, 98, 99, 100, 101, 99, 100, 101, 102, 100, 101, 102, 103, 101, 102, 103, 104, 102, 103, 104, 105, 103, 104, 105, 106, 104, 105, 106, 107, 105, 106, 107, 108, 106, 107, 108, 109, 107, 108, 109, 110, 108, 109, 110, 111, 109, 110, 111, 112, 110, 111, 112, 113]⟩] 9)).alloc (.cells #[.int .u8 227, .int .u8 176, .int .u8 196, .int .u8 66, .int .u8 152, .int .u8 252, .int .u8 28, .int .u8 20] 5)).alloc (.cells #[.int .u8 186, .int .u8 120, .int .u8 22, .int .u8 191, .int .u8 143, .int .u8 1, .int .u8 207, .int .u8 234] 5)).alloc (.cells #[.int .u8 36, .int .u8 141, .int .u8 106, .int .u8 97, .int .u8 210, .int .u8 6, .int .u8 56, .int .u8 184] 5)).alloc (.cells #[.slice (some ⟨w2.heap.size + 1, 0, none⟩) 8 8, .slice (some ⟨w2.heap.size + 1 + 1, 0, none⟩) 8 8, .slice (some ⟨w2.heap.size + 1 + 1 + 1, 0, none⟩) 8 8] 22)) (w2.heap.size + 1 + 1 + 1 + 1) 22 [.slice (some ⟨w2.heap.size + 1, 0, none⟩) 8 8, .slice (some ⟨w2.heap.size + 1 + 1, 0, none⟩) 8 8, .slice (some ⟨w2.heap.size + 1 + 1 + 1, 0, none⟩) 8 8] := (Has.new _ 22 [.slice (some ⟨w2.heap.size + 1, 0, none⟩) 8 8, .slice (some ⟨w2.heap.size + 1 + 1, 0, none⟩) 8 8, .slice (some ⟨w2.heap.size + 1 + 1 + 1, 0, none⟩) 8 8]).at_ (by simp)
  have HWk : Has (((((w2.alloc (.cells #[.string ⟨#[]⟩, .string ⟨#[97, 98, 99]⟩, .string ⟨#[97, 98, 99, 100, 98, 99, 100, 101, 99, 100, 101, 102, 100, 101, 102, 103, 101, 102, 103, 104, 102, 103, 104, 105, 103, 104, 105, 106, 104, 105, 106, 107, 105, 106, 107, 108, 106, 107, 108, 109, 107, 108, 109, 110, 108, 109, 110, 111, 109, 110, 111, 112, 110, 111, 112, 113]⟩] 9)).alloc (.cells #[.int .u8 227, .int .u8 176, .int .u8 196, .int .u8 66, .int .u8 152, .int .u8 252, .int .u8 28, .int .u8 20] 5)).alloc (.cells #[.int .u8 186, .int .u8 120, .int .u8 22, .int .u8 191, .int .u8 143, .int .u8 1, .int .u8 207, .int .u8 234] 5)).alloc (.cells #[.int .u8 36, .int .u8 141, .int .u8 106, .int .u8 97, .int .u8 210, .int .u8 6, .int .u8 56, .int .u8 184] 5)).alloc (.cells #[.slice (some ⟨w2.heap.size + 1, 0, none⟩) 8 8, .slice (some ⟨w2.heap.size + 1 + 1, 0, none⟩) 8 8, .slice (some ⟨w2.heap.size + 1 + 1 + 1, 0, none⟩) 8 8] 22)) (w2.heap.size + 1 + 1) 5 (wl.map bv) := by
    rw [HL.out.2.1]
    exact (((Has.new ((w2.alloc (.cells #[.string ⟨#[]⟩, .string ⟨#[97, 98, 99]⟩, .string ⟨#[97, 98, 99, 100, 98, 99, 100, 101, 99, 100, 101, 102, 100, 101, 102, 103, 101, 102, 103, 104, 102, 103, 104, 105, 103, 104, 105, 106, 104, 105, 106, 107, 105, 106, 107, 108, 106, 107, 108, 109, 107, 108, 109, 110, 108, 109, 110, 111, 109, 110, 111, 112, 110, 111, 112, 113]⟩] 9)).alloc (.cells #[.int .u8 227, .int .u8 176, .int .u8 196, .int .u8 66, .int .u8 152, .int .u8 252, .int .u8 28, .int .u8 20] 5)) 5 [.int .u8 186, .int .u8 120, .int .u8 22, .int .u8 191, .int .u8 143, .int .u8 1, .int .u8 207, .int .u8 234]).at_ (by simp)).alloc _).alloc _
  go_wp2_with fail
  have hB3' : Bytes w3 (some ⟨w2.heap.size + 1 + 1 + 1 + 1 + 1, 0, none⟩) 3 c l := by
    rw [HL.out.1]
    have e : (((((w2.alloc (.cells #[.string ⟨#[]⟩, .string ⟨#[97, 98, 99]⟩, .string ⟨#[97, 98, 99, 100, 98, 99, 100, 101, 99, 100, 101, 102, 100, 101, 102, 103, 101, 102, 103, 104, 102, 103, 104, 105, 103, 104, 105, 106, 104, 105, 106, 107, 105, 106, 107, 108, 106, 107, 108, 109, 107, 108, 109, 110, 108, 109, 110, 111, 109, 110, 111, 112, 110, 111, 112, 113]⟩] 9)).alloc (.cells #[.int .u8 227, .int .u8 176, .int .u8 196, .int .u8 66, .int .u8 152, .int .u8 252, .int .u8 28, .int .u8 20] 5)).alloc (.cells #[.int .u8 186, .int .u8 120, .int .u8 22, .int .u8 191, .int .u8 143, .int .u8 1, .int .u8 207, .int .u8 234] 5)).alloc (.cells #[.int .u8 36, .int .u8 141, .int .u8 106, .int .u8 97, .int .u8 210, .int .u8 6, .int .u8 56, .int .u8 184] 5)).alloc (.cells #[.slice (some ⟨w2.heap.size + 1, 0, none⟩) 8 8, .slice (some ⟨w2.heap.size + 1 + 1, 0, none⟩) 8 8, .slice (some ⟨w2.heap.size + 1 + 1 + 1, 0, none⟩) 8 8] 22)).heap.size = w2.heap.size + 1 + 1 + 1 + 1 + 1 := by simp
    rw [e] at hB3
    exact hB3
  have hbw3 := hbW.trans (hb3.mono hbW.size)
  have H43 := H4.keep hb3 H4.lt
  have HW3 := HWk.keep hb3 HWk.lt
  have K1 := sha.Sum _ _ c l w3 hB3' (hT.keep hbw3)
  rw [← HL.out.2.2.1] at K1
  clear hcv hB3 hb3 hbW H4 HWk hB3' K hb
  refine K1.mono ?_
  rintro e w4 ⟨rfl, hb4⟩
  have H44 := H43.keep hb4 H43.lt
  have HW4 := HW3.keep hb4 HW3.lt
  have hbw4 := hbw3.trans (hb4.mono hbw3.size)
  have H0 : Has (w4.alloc (.cells #[.int .u8 0, .int .u8 0, .int .u8 0, .int .u8 0, .int .u8 0, .int .u8 0, .int .u8 0, .int .u8 0, .int .u8 0, .int .u8 0, .int .u8 0, .int .u8 0, .int .u8 0, .int .u8 0, .int .u8 0, .int .u8 0, .int .u8 0, .int .u8 0, .int .u8 0, .int .u8 0, .int .u8 0, .int .u8 0, .int .u8 0, .int .u8 0, .int .u8 0, .int .u8 0, .int .u8 0, .int .u8 0, .int .u8 0, .int .u8 0, .int .u8 0, .int .u8 0] 26)) w4.heap.size 26 ((List.replicate 32 0 : List UInt8).map bv) := Has.new w4 26 ((List.replicate 32 0 : List UInt8).map bv)
  have hb5 := hbw4.alloc hbw4.size (.cells #[.int .u8 0, .int .u8 0, .int .u8 0, .int .u8 0, .int .u8 0, .int .u8 0, .int .u8 0, .int .u8 0, .int .u8 0, .int .u8 0, .int .u8 0, .int .u8 0, .int .u8 0, .int .u8 0, .int .u8 0, .int .u8 0, .int .u8 0, .int .u8 0, .int .u8 0, .int .u8 0, .int .u8 0, .int .u8 0, .int .u8 0, .int .u8 0, .int .u8 0, .int .u8 0, .int .u8 0, .int .u8 0, .int .u8 0, .int .u8 0, .int .u8 0, .int .u8 0] 26)
  have H45 := H44.alloc (.cells #[.int .u8 0, .int .u8 0, .int .u8 0, .int .u8 0, .int .u8 0, .int .u8 0, .int .u8 0, .int .u8 0, .int .u8 0, .int .u8 0, .int .u8 0, .int .u8 0, .int .u8 0, .int .u8 0, .int .u8 0, .int .u8 0, .int .u8 0, .int .u8 0, .int .u8 0, .int .u8 0, .int .u8 0, .int .u8 0, .int .u8 0, .int .u8 0, .int .u8 0, .int .u8 0, .int .u8 0, .int .u8 0, .int .u8 0, .int .u8 0, .int .u8 0, .int .u8 0] 26)
  have HW5 := HW4.alloc (.cells #[.int .u8 0, .int .u8 0, .int .u8 0, .int .u8 0, .int .u8 0, .int .u8 0, .int .u8 0, .int .u8 0, .int .u8 0, .int .u8 0, .int .u8 0, .int .u8 0, .int .u8 0, .int .u8 0, .int .u8 0, .int .u8 0, .int .u8 0, .int .u8 0, .int .u8 0, .int .u8 0, .int .u8 0, .int .u8 0, .int .u8 0, .int .u8 0, .int .u8 0, .int .u8 0, .int .u8 0, .int .u8 0, .int .u8 0, .int .u8 0, .int .u8 0, .int .u8 0] 26)
  have hl1 := H44.lt
  have hl2 := HW4.lt
  have hB4 := hbw4.size
  clear K1 hb4 hbw3 hbw4 H43 HW3 H44 HW4
  go_wp2_with ((with_reducible refine wpList_store_has rfl 26 (.tmp 6) (.tmp 32) rfl w4.heap.size rfl Ks rfl 26 _ H0 SZ.out LL.out OC.out ?_); intro w6 o6 H6)
  have H46 := H45.only o6 (by omega)
  have HW6 := HW5.only o6 (by omega)
  have hb6 := o6.below hb5 hB4
  clear H45 HW5 hb5 H0 o6
  go_loopw [7] (fun i wr => ∃ (j nq : Nat), j ≤ 8 ∧ i = .int .i64 j ∧ wr = w6.drewN nq) (fun i _ => 8 - (intOf i).toNat)
  case atStart => exact ⟨0, 0, by omega, rfl, rfl⟩
  case round =>
    obtain ⟨j, nq, hj, rfl, rfl⟩ := hrel
    by_cases hlt : j < 8
    · obtain ⟨y, hy⟩ : ∃ y, y = (wl.getD j 0).toNat := ⟨_, rfl⟩
      have hjl : j < wl.length := by rw [HL.out.2.2.2.2.1]; exact hlt
      have e : (wl.map bv)[j]? = some (.int .u8 (y : Int)) := by rw [hy]; simp [bv, hjl]
      have ch : w6.cell? ⟨w4.heap.size, j, none⟩ = some (.int .u8 (y : Int)) := ((H6.cell j).trans (HL.out.2.2.2.1 j hlt)).trans e
      have cw : w6.cell? ⟨w2.heap.size + 1 + 1, j, none⟩ = some (.int .u8 (y : Int)) := (HW6.cell j).trans e
      have c4 : w6.cell? ⟨w2.heap.size + 1 + 1 + 1 + 1, 1, none⟩ = some (.slice (some ⟨w2.heap.size + 1 + 1, 0, none⟩) 8 8) := (H46.cell 1)
      have hj8 : (j : Int) < 8 := by omega
      have hj32 : (j : Int) < 32 := by omega
      clear hy e
      go_wp2
      go_quiet (fail)
      go_wp2
      go_roundw
      case rel => exact ⟨j + 1, _, by omega, by go_num, rfl⟩
      case measure => simp [intOf]; omega
    · obtain rfl : j = 8 := by omega
      go_wp2
      go_ret
      exact ⟨rfl, below_drewN hb6 _⟩
set_option maxHeartbeats 1000000 in
theorem known2 (w : World) (hT : Tab w) : Calls Tryd.prog 5 #[.int .i64 2] w fun e w' => e = .returned (.bool true) ∧ Below w.heap.size w w' := by
  have K := Lib.hid (shaLaw.alive w hT)
  obtain ⟨l, hl⟩ : ∃ l : List UInt8, l = [97, 98, 99, 100, 98, 99, 100, 101, 99, 100, 101, 102, 100, 101, 102, 103, 101, 102, 103, 104, 102, 103, 104, 105, 103, 104, 105, 106, 104, 105, 106, 107, 105, 106, 107, 108, 106, 107, 108, 109, 107, 108, 109, 110, 108, 109, 110, 111, 109, 110, 111, 112, 110, 111, 112, 113] := ⟨_, rfl⟩
  obtain ⟨wl, hwl⟩ : ∃ l : List UInt8, l = [36, 141, 106, 97, 210, 6, 56, 184] := ⟨_, rfl⟩
  have h8 : (shaN l).take 8 = wl := by rw [hl, hwl]; exact ev2
  obtain ⟨Ks, hKs⟩ : ∃ K, K = (shaN l).map bv := ⟨_, rfl⟩
  have hKl : Ks.length = 32 := by rw [hKs, List.length_map, shaN_len]
  have hat : ∀ i, i < 8 → Ks[i]? = (wl.map bv)[i]? := fun i hi => by rw [← h8, hKs, List.map_take, List.getElem?_take, if_pos hi]
  have hwl8 : wl.length = 8 := by rw [hwl]; rfl
  have SZ := Lib.hid (show (Tryd.prog.info? 26).map (·.size) = some Ks.length by rw [hKl]; kernel_rfl)
  have LL := Lib.hid (show ((List.replicate 32 0 : List UInt8).map bv).length = Ks.length by rw [List.length_map, hKl, List.length_replicate])
  have OC := Lib.hid (show ∀ u ∈ Ks, u.oneCell' = true from hKs ▸ one_bv _)
  have HL := Lib.hid (And.intro hl (And.intro hwl (And.intro hKs (And.intro hat (And.intro hwl8 hKl)))))
  clear hl hwl h8 hKs hKl hat hwl8
  go_enter Tryd.func5, Tryd.ntmps5
  go_wp2_with fail
  refine (K.out).mono ?_
  rintro e w2 ⟨rfl, hb⟩
  obtain ⟨c, w3, hcv, hB3, hb3⟩ := conv_bytes (((((w2.alloc (.cells #[.string ⟨#[]⟩, .string ⟨#[97, 98, 99]⟩, .string ⟨#[97, 98, 99, 100, 98, 99, 100, 101, 99, 100, 101, 102, 100, 101, 102, 103, 101, 102, 103, 104, 102, 103, 104, 105, 103, 104, 105, 106, 104, 105, 106, 107, 105, 106, 107, 108, 106, 107, 108, 109, 107, 108, 109, 110, 108, 109, 110, 111, 109, 110, 111, 112, 110, 111, 112, 113]⟩] 9)).alloc (.cells #[.int .u8 227, .int .u8 176, .int .u8 196, .int .u8 66, .int .u8 152, .int .u8 252, .int .u8 28, .int .u8 20] 5)).alloc (.cells #[.int .u8 186, .int .u8 120, .int .u8 22, .int .u8 191, .int .u8 143, .int .u8 1, .int .u8 207, .int .u8 234] 5)).alloc (.cells #[.int .u8 36, .int .u8 141, .int .u8 106, .int .u8 97, .int .u8 210, .int .u8 6, .int .u8 56, .int .u8 184] 5)).alloc (.cells #[.slice (some ⟨w2.heap.size + 1, 0, none⟩) 8 8, .slice (some ⟨w2.heap.size + 1 + 1, 0, none⟩) 8 8, .slice (some ⟨w2.heap.size + 1 + 1 + 1, 0, none⟩) 8 8] 22)) ⟨#[97, 98, 99, 100, 98, 99, 100, 101, 99, 100, 101, 102, 100, 101, 102, 103, 101, 102, 103, 104, 102, 103, 104, 105, 103, 104, 105, 106, 104, 105, 106, 107, 105, 106, 107, 108, 106, 107, 108, 109, 107, 108, 109, 110, 108, 109, 110, 111, 109, 110, 111, 112, 110, 111, 112, 113]⟩ (by decide)
  have hbW : Below w.heap.size w (((((w2.alloc (.cells #[.string ⟨#[]⟩, .string ⟨#[97, 98, 99]⟩, .string ⟨#[97, 98, 99, 100, 98, 99, 100, 101, 99, 100, 101, 102, 100, 101, 102, 103, 101, 102, 103, 104, 102, 103, 104, 105, 103, 104, 105, 106, 104, 105, 106, 107, 105, 106, 107, 108, 106, 107, 108, 109, 107, 108, 109, 110, 108, 109, 110, 111, 109, 110, 111, 112, 110, 111, 112, 113]⟩] 9)).alloc (.cells #[.int .u8 227, .int .u8 176, .int .u8 196, .int .u8 66, .int .u8 152, .int .u8 252, .int .u8 28, .int .u8 20] 5)).alloc (.cells #[.int .u8 186, .int .u8 120, .int .u8 22, .int .u8 191, .int .u8 143, .int .u8 1, .int .u8 207, .int .u8 234] 5)).alloc (.cells #[.int .u8 36, .int .u8 141, .int .u8 106, .int .u8 97, .int .u8 210, .int .u8 6, .int .u8 56, .int .u8 184] 5)).alloc (.cells #[.slice (some ⟨w2.heap.size + 1, 0, none⟩) 8 8, .slice (some ⟨w2.heap.size + 1 + 1, 0, none⟩) 8 8, .slice (some ⟨w2.heap.size + 1 + 1 + 1, 0, none⟩) 8 8] 22)) := ((((hb.alloc hb.size _).alloc (by have := hb.size; simp; omega) _).alloc (by have := hb.size; simp; omega) _).alloc (by have := hb.size; simp; omega) _).alloc (by have := hb.size; simp; omega) _
  have H4 : Has (((((w2.alloc (.cells #[.string ⟨#[]⟩, .string ⟨#[97, 98, 99]⟩, .string ⟨#[97, 98, 99, 100, 98, 99, 100, 101, 99, 100, 101, 102, 100, 101, 102, 103, 101, 102, 103, 104, 102, 103, 104, 105, 103, 104, 105, 106, 104, 105, 106, 107, 105, 106, 107, 108, 106, 107, 108, 109, 107, 108, 109, 110, 108, 109, 110, 111, 109, 110, 111, 112, 110, 111, 112, 113]⟩] 9)).alloc (.cells #[.int .u8 227, .int .u8 176, .int .u8 196, .int .u8 66, .int .u8 152, .int .u8 252, .int .u8 28, .int .u8 20] 5)).alloc (.cells #[.int .u8 186, .int .u8 120, .int .u8 22, .int .u8 191, .int .u8 143, .int .u8 1, .int .u8 207, .int .u8 234] 5)).alloc (.cells #[.int .u8 36, .int .u8 141, .int .u8 106, .int .u8 97, .int .u8 210, .int .u8 6, .int .u8 56, .int .u8 184] 5)).alloc (.cells #[.slice (some ⟨w2.heap.size + 1, 0, none⟩) 8 8, .slice (some ⟨w2.heap.size + 1 + 1, 0, none⟩) 8 8, .slice (some ⟨w2.heap.size + 1 + 1 + 1, 0, none⟩) 8 8] 22)) (w2.heap.size + 1 + 1 + 1 + 1) 22 [.slice (some ⟨w2.heap.size + 1, 0, none⟩) 8 8, .slice (some ⟨w2.heap.size + 1 + 1, 0, none⟩) 8 8, .slice (some ⟨w2.heap.size + 1 + 1 + 1, 0, none⟩) 8 8] := (Has.new _ 22 [.slice (some ⟨w2.heap.size + 1, 0, none⟩) 8 8, .slice (some ⟨w2.heap.size + 1 + 1, 0, none⟩) 8 8, .slice (some ⟨w2.heap.size + 1 + 1 + 1, 0, none⟩) 8 8]).at_ (by simp)
  have HWk : Has (((((w2.alloc (.cells #[.string ⟨#[]⟩, .string ⟨#[97, 98, 99]⟩, .string ⟨#[97, 98, 99, 100, 98, 99, 100, 101, 99, 100, 101, 102, 100, 101, 102, 103, 101, 102, 103, 104, 102, 103, 104, 105, 103, 104, 105, 106, 104, 105, 106, 107, 105, 106, 107, 108, 106, 107, 108, 109, 107, 108, 109, 110, 108, 109, 110, 111, 109, 110, 111, 112, 110, 111, 112, 113]⟩] 9)).alloc (.cells #[.int .u8 227, .int .u8 176, .int .u8 196, .int .u8 66, .int .u8 152, .int .u8 252, .int .u8 28, .int .u8 20] 5)).alloc (.cells #[.int .u8 186, .int .u8 120, .int .u8 22, .int .u8 191, .int .u8 143, .int .u8 1, .int .u8 207, .int .u8 234] 5)).alloc (.cells #[.int .u8 36, .int .u8 141, .int .u8 106, .int .u8 97, .int .u8 210, .int .u8 6, .int .u8 56, .int .u8 184] 5)).alloc (.cells #[.slice (some ⟨w2.heap.size + 1, 0, none⟩) 8 8, .slice (some ⟨w2.heap.size + 1 + 1, 0, none⟩) 8 8, .slice (some ⟨w2.heap.size + 1 + 1 + 1, 0, none⟩) 8 8] 22)) (w2.heap.size + 1 + 1 + 1) 5 (wl.map bv) := by
    rw [HL.out.2.1]
    exact ((Has.new (((w2.alloc (.cells #[.string ⟨#[]⟩, .string ⟨#[97, 98, 99]⟩, .string ⟨#[97, 98, 99, 100, 98, 99, 100, 101, 99, 100, 101, 102, 100, 101, 102, 103, 101, 102, 103, 104, 102, 103, 104, 105, 103, 104, 105, 106, 104, 105, 106, 107, 105, 106, 107, 108, 106, 107, 108, 109, 107, 108, 109, 110, 108, 109, 110, 111, 109, 110, 111, 112, 110, 111, 112, 113]⟩] 9)).alloc (.cells #[.int .u8 227, .int .u8 176, .int .u8 196, .int .u8 66, .int .u8 152, .int .u8 252, .int .u8 28, .int .u8 20] 5)).alloc (.cells #[.int .u8 186, .int .u8 120, .int .u8 22, .int .u8 191, .int .u8 143, .int .u8 1, .int .u8 207, .int .u8 234] 5)) 5 [.int .u8 36, .int .u8 141, .int .u8 106, .int .u8 97, .int .u8 210, .int .u8 6, .int .u8 56, .int .u8 184]).at_ (by simp)).alloc _
  go_wp2_with fail
  have hB3' : Bytes w3 (some ⟨w2.heap.size + 1 + 1 + 1 + 1 + 1, 0, none⟩) 56 c l := by
    rw [HL.out.1]
    have e : (((((w2.alloc (.cells #[.string ⟨#[]⟩, .string ⟨#[97, 98, 99]⟩, .string ⟨#[97, 98, 99, 100, 98, 99, 100, 101, 99, 100, 101, 102, 100, 101, 102, 103, 101, 102, 103, 104, 102, 103, 104, 105, 103, 104, 105, 106, 104, 105, 106, 107, 105, 106, 107, 108, 106, 107, 108, 109, 107, 108, 109, 110, 108, 109, 110, 111, 109, 110, 111, 112, 110, 111, 112, 113]⟩] 9)).alloc (.cells #[.int .u8 227, .int .u8 176, .int .u8 196, .int .u8 66, .int .u8 152, .int .u8 252, .int .u8 28, .int .u8 20] 5)).alloc (.cells #[.int .u8 186, .int .u8 120, .int .u8 22, .int .u8 191, .int .u8 143, .int .u8 1, .int .u8 207, .int .u8 234] 5)).alloc (.cells #[.int .u8 36, .int .u8 141, .int .u8 106, .int .u8 97, .int .u8 210, .int .u8 6, .int .u8 56, .int .u8 184] 5)).alloc (.cells #[.slice (some ⟨w2.heap.size + 1, 0, none⟩) 8 8, .slice (some ⟨w2.heap.size + 1 + 1, 0, none⟩) 8 8, .slice (some ⟨w2.heap.size + 1 + 1 + 1, 0, none⟩) 8 8] 22)).heap.size = w2.heap.size + 1 + 1 + 1 + 1 + 1 := by simp
    rw [e] at hB3
    exact hB3
  have hbw3 := hbW.trans (hb3.mono hbW.size)
  have H43 := H4.keep hb3 H4.lt
  have HW3 := HWk.keep hb3 HWk.lt
  have K1 := sha.Sum _ _ c l w3 hB3' (hT.keep hbw3)
  rw [← HL.out.2.2.1] at K1
  clear hcv hB3 hb3 hbW H4 HWk hB3' K hb
  refine K1.mono ?_
  rintro e w4 ⟨rfl, hb4⟩
  have H44 := H43.keep hb4 H43.lt
  have HW4 := HW3.keep hb4 HW3.lt
  have hbw4 := hbw3.trans (hb4.mono hbw3.size)
  have H0 : Has (w4.alloc (.cells #[.int .u8 0, .int .u8 0, .int .u8 0, .int .u8 0, .int .u8 0, .int .u8 0, .int .u8 0, .int .u8 0, .int .u8 0, .int .u8 0, .int .u8 0, .int .u8 0, .int .u8 0, .int .u8 0, .int .u8 0, .int .u8 0, .int .u8 0, .int .u8 0, .int .u8 0, .int .u8 0, .int .u8 0, .int .u8 0, .int .u8 0, .int .u8 0, .int .u8 0, .int .u8 0, .int .u8 0, .int .u8 0, .int .u8 0, .int .u8 0, .int .u8 0, .int .u8 0] 26)) w4.heap.size 26 ((List.replicate 32 0 : List UInt8).map bv) := Has.new w4 26 ((List.replicate 32 0 : List UInt8).map bv)
  have hb5 := hbw4.alloc hbw4.size (.cells #[.int .u8 0, .int .u8 0, .int .u8 0, .int .u8 0, .int .u8 0, .int .u8 0, .int .u8 0, .int .u8 0, .int .u8 0, .int .u8 0, .int .u8 0, .int .u8 0, .int .u8 0, .int .u8 0, .int .u8 0, .int .u8 0, .int .u8 0, .int .u8 0, .int .u8 0, .int .u8 0, .int .u8 0, .int .u8 0, .int .u8 0, .int .u8 0, .int .u8 0, .int .u8 0, .int .u8 0, .int .u8 0, .int .u8 0, .int .u8 0, .int .u8 0, .int .u8 0] 26)
  have H45 := H44.alloc (.cells #[.int .u8 0, .int .u8 0, .int .u8 0, .int .u8 0, .int .u8 0, .int .u8 0, .int .u8 0, .int .u8 0, .int .u8 0, .int .u8 0, .int .u8 0, .int .u8 0, .int .u8 0, .int .u8 0, .int .u8 0, .int .u8 0, .int .u8 0, .int .u8 0, .int .u8 0, .int .u8 0, .int .u8 0, .int .u8 0, .int .u8 0, .int .u8 0, .int .u8 0, .int .u8 0, .int .u8 0, .int .u8 0, .int .u8 0, .int .u8 0, .int .u8 0, .int .u8 0] 26)
  have HW5 := HW4.alloc (.cells #[.int .u8 0, .int .u8 0, .int .u8 0, .int .u8 0, .int .u8 0, .int .u8 0, .int .u8 0, .int .u8 0, .int .u8 0, .int .u8 0, .int .u8 0, .int .u8 0, .int .u8 0, .int .u8 0, .int .u8 0, .int .u8 0, .int .u8 0, .int .u8 0, .int .u8 0, .int .u8 0, .int .u8 0, .int .u8 0, .int .u8 0, .int .u8 0, .int .u8 0, .int .u8 0, .int .u8 0, .int .u8 0, .int .u8 0, .int .u8 0, .int .u8 0, .int .u8 0] 26)
  have hl1 := H44.lt
  have hl2 := HW4.lt
  have hB4 := hbw4.size
  clear K1 hb4 hbw3 hbw4 H43 HW3 H44 HW4
  go_wp2_with ((with_reducible refine wpList_store_has rfl 26 (.tmp 6) (.tmp 32) rfl w4.heap.size rfl Ks rfl 26 _ H0 SZ.out LL.out OC.out ?_); intro w6 o6 H6)
  have H46 := H45.only o6 (by omega)
  have HW6 := HW5.only o6 (by omega)
  have hb6 := o6.below hb5 hB4
  clear H45 HW5 hb5 H0 o6
  go_loopw [7] (fun i wr => ∃ (j nq : Nat), j ≤ 8 ∧ i = .int .i64 j ∧ wr = w6.drewN nq) (fun i _ => 8 - (intOf i).toNat)
  case atStart => exact ⟨0, 0, by omega, rfl, rfl⟩
  case round =>
    obtain ⟨j, nq, hj, rfl, rfl⟩ := hrel
    by_cases hlt : j < 8
    · obtain ⟨y, hy⟩ : ∃ y, y = (wl.getD j 0).toNat := ⟨_, rfl⟩
      have hjl : j < wl.length := by rw [HL.out.2.2.2.2.1]; exact hlt
      have e : (wl.map bv)[j]? = some (.int .u8 (y : Int)) := by rw [hy]; simp [bv, hjl]
      have ch : w6.cell? ⟨w4.heap.size, j, none⟩ = some (.int .u8 (y : Int)) := ((H6.cell j).trans (HL.out.2.2.2.1 j hlt)).trans e
      have cw : w6.cell? ⟨w2.heap.size + 1 + 1 + 1, j, none⟩ = some (.int .u8 (y : Int)) := (HW6.cell j).trans e
      have c4 : w6.cell? ⟨w2.heap.size + 1 + 1 + 1 + 1, 2, none⟩ = some (.slice (some ⟨w2.heap.size + 1 + 1 + 1, 0, none⟩) 8 8) := (H46.cell 2)
      have hj8 : (j : Int) < 8 := by omega
      have hj32 : (j : Int) < 32 := by omega
      clear hy e
      go_wp2
      go_quiet (fail)
      go_wp2
      go_roundw
      case rel => exact ⟨j + 1, _, by omega, by go_num, rfl⟩
      case measure => simp [intOf]; omega
    · obtain rfl : j = 8 := by omega
      go_wp2
      go_ret
      exact ⟨rfl, below_drewN hb6 _⟩
theorem all (n : Int) (w : World) (hT : Tab w) : Calls Tryd.prog 5 #[.int .i64 n] w fun e w' => e = .returned (.bool true) ∧ Below w.heap.size w w' := by
  by_cases h : n < 0 ∨ 3 ≤ n
  · exact out n w hT h
  · have h' : n = 0 ∨ n = 1 ∨ n = 2 := by omega
    rcases h' with rfl | rfl | rfl
    · exact known0 w hT
    · exact known1 w hT
    · exact known2 w hT
end shaKnownLaw
end Go.Proofs.YtikmhhhnegdfoaaDoor
