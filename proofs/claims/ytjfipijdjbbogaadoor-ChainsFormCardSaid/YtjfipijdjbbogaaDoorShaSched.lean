/-
  Contract of sha.schedule.
-/
import Derived.Test.YtjfipijdjbbogaaDoorShaA
import Derived.Deep.RegionHeld
namespace Go.Proofs.YtjfipijdjbbogaaDoor
open Go.ChangeShapes Go.WideShapes Go.ChangeAt Go.RowKit
set_option linter.unusedVariables false
set_option linter.unusedSimpArgs false

/-- 64 words. -/
abbrev w64 (f : Nat → Nat) : List Value := wN 64 f
theorem w64_zero : w64 (fun _ => 0) = List.replicate 64 (.int .u32 0) := by rfl
theorem wordN_step (l : List UInt8) (i : Nat) (hi : i < l.length) : wordN l (i + 1) (i / 4) = wordN l i (i / 4) * 256 + (l.getD i 0).toNat := by
  unfold wordN
  rw [← be_snoc]
  congr 1
  have h1 : ((l.take i).drop (4 * (i / 4)) ++ [l[i]]).length ≤ 4 := by simp; omega
  have h2 : ((l.take i).drop (4 * (i / 4))).length ≤ 4 := by simp; omega
  rw [List.take_succ_eq_append_getElem hi, List.drop_append_of_le_length (by simp; omega), List.take_of_length_le h1, List.take_of_length_le h2]
  simp [hi]
theorem wordN_other (l : List UInt8) (i j : Nat) (hi : i < l.length) (h : j ≠ i / 4) : wordN l (i + 1) j = wordN l i j := by
  unfold wordN
  congr 1
  by_cases hj : j < i / 4
  · have h2 : 4 ≤ ((l.take i).drop (4 * j)).length := by simp; omega
    have h3 : 4 * j ≤ (l.take i).length := by simp; omega
    rw [List.take_succ_eq_append_getElem hi, List.drop_append_of_le_length h3, List.take_append_of_le_length h2]
  · rw [List.drop_eq_nil_of_le (by simp; omega), List.drop_eq_nil_of_le (by simp; omega)]
theorem wordN_lt (l : List UInt8) (i : Nat) : wordN l i (i / 4) < 16777216 := by
  have h := be_lt (((l.take i).drop (4 * (i / 4))).take 4)
  have hl : (((l.take i).drop (4 * (i / 4))).take 4).length ≤ 3 := by simp; omega
  exact Nat.lt_of_lt_of_le h (Nat.pow_le_pow_right (n := 256) (j := 3) (by omega) hl)
theorem or_join32 (x c : Nat) (hx : x < 16777216) (hc : c < 256) : bits .or .u32 ((x : Int) * 256 % 4294967296) (c : Int) = ((x * 256 + c : Nat) : Int) := by
  have h := u32_or_nat (x * 256) c (by omega) (by omega)
  rw [nat_join 8 (x * 256) c (by omega) (by omega)] at h
  rw [← h]
  congr 1
  omega

theorem wordN_len (l : List UInt8) (hl : l.length = 64) : (wordsN l).length = 16 := by simp [wordsN]
theorem schedN_len (ws : List Nat) (hl : ws.length = 16) (n : Nat) : (schedN ws n).length = 16 + n := by
  induction n with
  | zero => simpa [schedN] using hl
  | succ n ih => simp [schedN, ih]; omega
theorem wordN_lt32 (l : List UInt8) (i j : Nat) : wordN l i j < 4294967296 := by
  have h := be_lt (((l.take i).drop (4 * j)).take 4)
  have hl : (((l.take i).drop (4 * j)).take 4).length ≤ 4 := by simp; omega
  exact Nat.lt_of_lt_of_le h (Nat.pow_le_pow_right (n := 256) (j := 4) (by omega) hl)
theorem getD_lt (l : List Nat) (h : ∀ x ∈ l, x < 4294967296) (i : Nat) : l.getD i 0 < 4294967296 := by
  rw [List.getD_eq_getElem?_getD]
  cases e : l[i]? with
  | none => simp
  | some x => simpa using h x (List.mem_of_getElem? e)
theorem wordsN_lt (l : List UInt8) : ∀ x ∈ wordsN l, x < 4294967296 := by
  intro x hx
  obtain ⟨j, _, rfl⟩ := List.mem_map.1 hx
  exact wordN_lt32 l 64 j
theorem schedN_all (ws : List Nat) (h : ∀ x ∈ ws, x < 4294967296) (n : Nat) : ∀ x ∈ schedN ws n, x < 4294967296 := by
  induction n with
  | zero => exact h
  | succ n ih =>
    intro x hx
    rcases List.mem_append.1 hx with hx | hx
    · exact ih x hx
    · rw [List.mem_singleton.1 hx]
      exact Nat.mod_lt _ (by decide)
theorem schedN_lt (ws : List Nat) (h : ∀ x ∈ ws, x < 4294967296) (n i : Nat) : (schedN ws n).getD i 0 < 4294967296 := getD_lt _ (schedN_all ws h n) i
/-- The 64 cells when n words have been reckoned. -/
def schedA (ws : List Nat) (n : Nat) : List Value := (schedN ws n ++ List.replicate (48 - n) 0).map uv
theorem schedA_at (ws : List Nat) (hl : ws.length = 16) (n i : Nat) (hi : i < 16 + n) : (schedA ws n)[i]? = some (.int .u32 ((schedN ws n).getD i 0 : Nat)) := by
  have hlen := schedN_len ws hl n
  rw [schedA, List.getElem?_map, List.getElem?_append_left (by omega), List.getElem?_eq_getElem (by omega)]
  simp [uv, hlen, hi]
theorem schedA_zero (ws : List Nat) (hl : ws.length = 16) (n : Nat) (h : n < 48) : (schedA ws n)[n + 16]? = some (.int .u32 0) := by
  have hlen := schedN_len ws hl n
  have h1 : 0 < 48 - n := by omega
  rw [schedA, List.getElem?_map, List.getElem?_append_right (by omega), hlen, show n + 16 - (16 + n) = 0 by omega]
  simp [uv, h1]
theorem schedA_set (ws : List Nat) (hl : ws.length = 16) (n : Nat) (hn : n < 48) (v : Value) (hv : v = uv (nextN (schedN ws n) n)) : (schedA ws n).set (16 + n) v = schedA ws (n + 1) := by
  have hlen := schedN_len ws hl n
  subst hv
  rw [schedA, schedA, schedN, show 48 - n = (48 - (n + 1)) + 1 by omega, List.replicate_succ, List.map_append, List.map_cons, List.set_append_right _ _ (by simp [hlen]), List.length_map, hlen, Nat.sub_self, List.set_cons_zero]
  simp
theorem Has.sched {w : World} {g t : Nat} (l : List UInt8) (hl : l.length = 64) (H : Has w g t (w64 (wordN l 64))) : Has w g t (schedA (wordsN l) 0) := by
  have e : w64 (wordN l 64) = schedA (wordsN l) 0 := by
    have h1 : List.range 64 = List.range 16 ++ (List.range 48).map (16 + ·) := by decide
    have h2 : ∀ j, wordN l 64 (16 + j) = 0 := fun j => by
      unfold wordN
      rw [List.drop_eq_nil_of_le (by simp; omega)]
      rfl
    rw [w64, wN, schedA, schedN, h1, List.map_append, List.map_append, List.map_map, wordsN]
    have h3 : ((fun j => uv (wordN l 64 j)) ∘ fun x => 16 + x) = fun _ => uv 0 := by funext j; simp [h2]
    rw [h3]
    congr 1
  rw [← e]
  exact H

namespace sha
set_option maxHeartbeats 400000 in
theorem schedule (b off c : Nat) (l : List UInt8) (w : World) (hl : Bytes w (some ⟨b, off, none⟩) 64 c l) :
    Calls Tryd.prog 64 #[.slice (some ⟨b, off, none⟩) 64 c] w fun e w' => e = .returned (.agg ((schedN (wordsN l) 48).map uv).toArray) ∧ Below w.heap.size w w' := by
  have hlen := Lib.hid hl.len
  go_enter Tryd.func64, Tryd.ntmps64
  go_wp2
  go_loopw [9, 4, 5] (fun i x y wr => ∃ j : Nat, j ≤ 64 ∧ i = .int .i64 j ∧ Has wr (w.heap.size + 1) 101 (w64 (wordN l j)) ∧ Has wr w.heap.size 101 (w64 fun _ => 0) ∧ Below w.heap.size w wr) (fun i _ _ _ => 64 - (intOf i).toNat)
  case atStart => 
    refine ⟨0, by omega, rfl, ?_, (Has.new w 101 (w64 fun _ => 0)).alloc _, ((Below.refl _ _).alloc (Nat.le_refl _) _).alloc (by simp) _⟩
    exact (Has.new (w.alloc (.cells (w64 fun _ => 0).toArray 101)) 101 (w64 fun _ => 0)).at_ (by simp)
  case round => 
    obtain ⟨j, hj, rfl, H, HR, hb⟩ := hrel
    by_cases hlt : j < 64
    · have hl' := hl.keep hb
      obtain ⟨b', off', e, hb', hc⟩ := hl'.at_ (by omega)
      obtain ⟨rfl, rfl⟩ : b = b' ∧ off = off' := by cases e; exact ⟨rfl, rfl⟩
      have hcj := hc j hlt
      have hw := (H.cell (j / 4)).trans (wN_at _ _ (by omega))
      have hf := H.froz (j / 4)
      have HL := Lib.hid (wordN_lt l j)
      have hlj := (l[j]?.getD 0).toNat_lt
      clear hc e
      go_wp2
      go_roundw
      case rel =>
        refine ⟨j + 1, by omega, by go_num, ?_, HR.far _ (by simp) _, hb.setCell (Nat.le_succ _) _⟩
        have H' := H.set (j / 4) (Value.int IntKind.u32 (bits BinOp.or IntKind.u32 (((wordN l j (j / 4) : Nat) : Int) * 256 % 4294967296) (((l[j]?.getD 0).toNat : Int))))
        rw [wN_set (wordN l j) (wordN l (j + 1)) (j / 4) (fun i hi hne => (wordN_other l j i (by rw [hlen.out]; omega) hne).symm) _ (by
          rw [or_join32 _ _ HL.out hlj, wordN_step l j (by rw [hlen.out]; omega)]
          simp [uv])] at H'
        exact H'
      case measure => simp [intOf]; omega
    · obtain rfl : j = 64 := by omega
      have H2 := H.sched l hlen.out
      clear H hlt
      go_wp2
      go_loopw [6] (fun i wr => ∃ n : Nat, n ≤ 48 ∧ i = .int .i64 ((n + 16 : Nat) : Int) ∧ Has wr (w.heap.size + 1) 101 (schedA (wordsN l) n) ∧ Has wr w.heap.size 101 (w64 fun _ => 0) ∧ Below w.heap.size w wr) (fun i _ => 64 - (intOf i).toNat)
      case atStart => exact ⟨0, by omega, rfl, H2, HR, hb⟩
      case round =>
        clear hb H2 HR
        obtain ⟨n, hn, rfl, H, HR, hb⟩ := hrel
        by_cases hlt : n < 48
        · have hlen' := wordN_len l hlen.out
          obtain ⟨m14, h14⟩ : ∃ m, m = n + 14 := ⟨_, rfl⟩
          obtain ⟨m9, h9⟩ : ∃ m, m = n + 9 := ⟨_, rfl⟩
          obtain ⟨m1, h1⟩ : ∃ m, m = n + 1 := ⟨_, rfl⟩
          have c14 := (H.cell m14).trans (schedA_at _ hlen' n m14 (by omega))
          have c9 := (H.cell m9).trans (schedA_at _ hlen' n m9 (by omega))
          have c1 := (H.cell m1).trans (schedA_at _ hlen' n m1 (by omega))
          have c0 := (H.cell n).trans (schedA_at _ hlen' n n (by omega))
          have b14 : (m14 : Int) < 64 := by omega
          have b9 : (m9 : Int) < 64 := by omega
          have b1 : (m1 : Int) < 64 := by omega
          have b0 : (n : Int) < 64 := by omega
          have e2 : IntKind.i64.wrap ((n : Int) + 16 - 2) = (m14 : Int) := by rw [IntKind.wrap_i64]; omega
          have e7 : IntKind.i64.wrap ((n : Int) + 16 - 7) = (m9 : Int) := by rw [IntKind.wrap_i64]; omega
          have e15 : IntKind.i64.wrap ((n : Int) + 16 - 15) = (m1 : Int) := by rw [IntKind.wrap_i64]; omega
          have e16' : IntKind.i64.wrap (n : Int) = (n : Int) := by rw [IntKind.wrap_i64]; omega
          have e16 : IntKind.i64.wrap ((n : Int) + 16 - 16) = (n : Int) := by rw [IntKind.wrap_i64]; omega
          have hf := H.froz (n + 16)
          have c16 := (H.cell (n + 16)).trans (schedA_zero _ hlen' n hlt)
          have N14 := Lib.hid (show (⟨w.heap.size + 1, n + 16, none⟩ : Addr) ≠ ⟨w.heap.size + 1, m14, none⟩ by intro e; cases e; omega)
          have N9 := Lib.hid (show (⟨w.heap.size + 1, n + 16, none⟩ : Addr) ≠ ⟨w.heap.size + 1, m9, none⟩ by intro e; cases e; omega)
          have N1 := Lib.hid (show (⟨w.heap.size + 1, n + 16, none⟩ : Addr) ≠ ⟨w.heap.size + 1, m1, none⟩ by intro e; cases e; omega)
          have N0 := Lib.hid (show (⟨w.heap.size + 1, n + 16, none⟩ : Addr) ≠ ⟨w.heap.size + 1, n, none⟩ by intro e; cases e)
          have L14 := Lib.hid (schedN_lt _ (wordsN_lt l) n m14)
          have L1 := Lib.hid (schedN_lt _ (wordsN_lt l) n m1)
          generalize hg14 : (schedN (wordsN l) n).getD m14 0 = g14 at *
          generalize hg9 : (schedN (wordsN l) n).getD m9 0 = g9 at *
          generalize hg1 : (schedN (wordsN l) n).getD m1 0 = g1 at *
          generalize hg0 : (schedN (wordsN l) n).getD n 0 = g0 at *
          have HG := Lib.hid (And.intro h14 (And.intro h9 (And.intro h1 (And.intro hg14 (And.intro hg9 (And.intro hg1 hg0))))))
          clear h14 h9 h1 hg14 hg9 hg1 hg0
          go_wp2
          go_region_held (fun w' => w'.cell? ⟨w.heap.size + 1, m14, none⟩ = some (.int .u32 (g14 : Nat)) ∧ w'.cell? ⟨w.heap.size + 1, m9, none⟩ = some (.int .u32 (g9 : Nat)) ∧ w'.cell? ⟨w.heap.size + 1, m1, none⟩ = some (.int .u32 (g1 : Nat)) ∧ w'.cell? ⟨w.heap.size + 1, n, none⟩ = some (.int .u32 (g0 : Nat))) (first | exact ⟨c14, c9, c1, c0⟩ | exact ⟨(World.cell?_setCell_other _ _ _ _ N14.out).trans c14, (World.cell?_setCell_other _ _ _ _ N9.out).trans c9, (World.cell?_setCell_other _ _ _ _ N1.out).trans c1, (World.cell?_setCell_other _ _ _ _ N0.out).trans c0⟩)
            (first
            | (go_at_call 70; refine (smallSigma1 g14 _ L14.out).mono ?_; rintro e w' ⟨rfl, ⟨k1, rfl⟩⟩)
            | (go_at_call 71; refine (smallSigma0 g1 _ L1.out).mono ?_; rintro e w' ⟨rfl, ⟨k2, rfl⟩⟩))
          go_wp2
          refine ⟨?_, ?measure⟩
          iterate 28 (apply Exists.intro)
          refine ⟨?rel, rfl⟩
          case rel =>
            obtain ⟨rfl, rfl, rfl, rfl, rfl, rfl, rfl⟩ := HG.out
            refine ⟨n + 1, by omega, by go_num, ?_, (HR.far _ (by simp) _), ((below_drewN hb _).setCell (Nat.le_succ _) _)⟩
            rw [← schedA_set _ hlen' n hlt _ rfl, Nat.add_comm 16 n]
            have e : ∀ x y : Int, x = y → Has wr (w.heap.size + 1) 101 (schedA (wordsN l) n) → Has (wr.setCell ⟨w.heap.size + 1, n + 16, none⟩ (.int .u32 x)) (w.heap.size + 1) 101 ((schedA (wordsN l) n).set (n + 16) (.int .u32 y)) := fun x y h H => h ▸ H.set (n + 16) _
            refine e _ _ ?_ H
            simp only [nextN, Nat.add_comm 14 n, Nat.add_comm 9 n, Nat.add_comm 1 n]
            omega
          case measure => simp [intOf]; omega
        · obtain rfl : n = 48 := by omega
          have HS : Has wr (w.heap.size + 1) 101 ((schedN (wordsN l) 48).map uv) := by simpa [schedA] using H
          have hl48 := schedN_len _ (wordN_len l hlen.out) 48
          clear H hlt
          obtain ⟨L, hL⟩ : ∃ L, L = schedN (wordsN l) 48 := ⟨_, rfl⟩
          rw [← hL] at HS hl48
          have HL := Lib.hid hL
          clear hL
          have S64 := Lib.hid (show (Tryd.prog.info? 101).map (·.size) = some (L.map uv).length by rw [List.length_map, hl48]; kernel_rfl)
          have E64 := Lib.hid (show (w64 fun _ => 0).length = (L.map uv).length by rw [List.length_map, hl48, wN_len])
          go_wp2_with (first
            | ((with_reducible refine wpList_load_has rfl 101 (.tmp 3) rfl (w.heap.size + 1) rfl 101 (L.map uv) HS _ Tryd.underlying101 rfl S64.out ?_))
            | ((with_reducible refine wpList_store_has rfl 101 (.tmp 2) (.tmp 53) rfl w.heap.size rfl (L.map uv) rfl 101 (w64 fun _ => 0) HR S64.out E64.out (one_uv L) ?_); intro w2 ho2 H2))
          refine ret_has Tryd.results64 w.heap.size ?_ 101 (L.map uv) H2 _ Tryd.underlying101 rfl S64.out ?_ ⟨by rw [HL.out], ho2.below hb (Nat.le_refl _)⟩
          · rfl
          · rfl
end sha
end Go.Proofs.YtjfipijdjbbogaaDoor
