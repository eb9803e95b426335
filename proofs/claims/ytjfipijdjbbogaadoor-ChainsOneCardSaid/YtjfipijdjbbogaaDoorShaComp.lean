/-
  Contract of sha.compress.
-/
import Derived.Test.YtjfipijdjbbogaaDoorShaSched
namespace Go.Proofs.YtjfipijdjbbogaaDoor
open Go.ChangeShapes Go.WideShapes Go.ChangeAt Go.RowKit
set_option linter.unusedVariables false
set_option linter.unusedSimpArgs false

/-- The table of the round's words, as the program's text lays it. -/
def Tab (w : World) : Prop := ∀ i, i < 64 → w.cell? ⟨3, i, none⟩ = some (.int .u32 ((kN.getD i 0 : Nat) : Int))
theorem Tab.keep {w w' : World} (h : Tab w) (hb : Below w.heap.size w w') : Tab w' := fun i hi =>
  (hb.cell (p := ⟨3, i, none⟩) (World.block_lt_of_cell? w _ (h i hi))).trans (h i hi)

def S8.ok (s : S8) : Prop := s.a < 4294967296 ∧ s.b < 4294967296 ∧ s.c < 4294967296 ∧ s.d < 4294967296 ∧ s.e < 4294967296 ∧ s.f < 4294967296 ∧ s.g < 4294967296 ∧ s.h < 4294967296
theorem S8.rnd_ok {s : S8} (h : s.ok) (k w : Nat) : (s.rnd k w).ok := ⟨Nat.mod_lt _ (by decide), h.1, h.2.1, h.2.2.1, Nat.mod_lt _ (by decide), h.2.2.2.2.1, h.2.2.2.2.2.1, h.2.2.2.2.2.2.1⟩
theorem runN_ok (ws : List Nat) {s : S8} (h : s.ok) (n : Nat) : (runN ws s n).ok := by
  induction n with
  | zero => exact h
  | succ n ih => exact S8.rnd_ok ih _ _
theorem addN_ok (s t : S8) : (addN s t).ok := ⟨Nat.mod_lt _ (by decide), Nat.mod_lt _ (by decide), Nat.mod_lt _ (by decide), Nat.mod_lt _ (by decide), Nat.mod_lt _ (by decide), Nat.mod_lt _ (by decide), Nat.mod_lt _ (by decide), Nat.mod_lt _ (by decide)⟩
/-- The sum of two states as far as the first i numbers. -/
def addF (s t : S8) (i k : Nat) : Nat := if k < i then (s.list.getD k 0 + t.list.getD k 0) % 4294967296 else s.list.getD k 0
theorem addF_zero (s t : S8) : wN 8 (addF s t 0) = s.list.map uv := rfl
theorem addF_all (s t : S8) : wN 8 (addF s t 8) = (addN s t).list.map uv := rfl

theorem kN_lt (i : Nat) : kN.getD i 0 < 4294967296 := by
  by_cases h : i < 64
  · have := (by decide +kernel : ∀ i, i < 64 → kN.getD i 0 < 4294967296)
    exact this i h
  · rw [List.getD_eq_getElem?_getD, List.getElem?_eq_none (by show 64 ≤ i; omega)]
    simp
namespace sha
set_option maxHeartbeats 800000 in
theorem compress (s : S8) (b off c : Nat) (l : List UInt8) (w : World) (hs : s.ok) (hl : Bytes w (some ⟨b, off, none⟩) 64 c l) (hT : Tab w) :
    Calls Tryd.prog 61 #[.agg (s.list.map uv).toArray, .slice (some ⟨b, off, none⟩) 64 c] w fun e w' => e = .returned (.agg ((compN s l).list.map uv).toArray) ∧ Below w.heap.size w w' := by
  have hlen := Lib.hid hl.len
  go_enter Tryd.func61, Tryd.ntmps61
  go_wp2
  have H0 : Has ((w.alloc (.cells (s.list.map uv).toArray 90)).alloc (.cells (wN 8 fun _ => 0).toArray 90)) w.heap.size 90 (s.list.map uv) := (Has.new w _ _).alloc _
  have HR : Has ((w.alloc (.cells (s.list.map uv).toArray 90)).alloc (.cells (wN 8 fun _ => 0).toArray 90)) (w.heap.size + 1) 90 (wN 8 fun _ => 0) := (Has.new _ _ _).at_ (by simp)
  have hb : Below w.heap.size w ((w.alloc (.cells (s.list.map uv).toArray 90)).alloc (.cells (wN 8 fun _ => 0).toArray 90)) := ((Below.refl _ _).alloc (Nat.le_refl _) _).alloc (by simp) _
  change Code.wp _ _ _ _ ((w.alloc (.cells (s.list.map uv).toArray 90)).alloc (.cells (wN 8 fun _ => 0).toArray 90))
  generalize ((w.alloc (.cells (s.list.map uv).toArray 90)).alloc (.cells (wN 8 fun _ => 0).toArray 90)) = w2 at *
  have c0 : w2.cell? ⟨w.heap.size, 0, none⟩ = some (.int .u32 (s.a : Int)) := H0.cell 0
  have c1 : w2.cell? ⟨w.heap.size, 1, none⟩ = some (.int .u32 (s.b : Int)) := H0.cell 1
  have c2 : w2.cell? ⟨w.heap.size, 2, none⟩ = some (.int .u32 (s.c : Int)) := H0.cell 2
  have c3 : w2.cell? ⟨w.heap.size, 3, none⟩ = some (.int .u32 (s.d : Int)) := H0.cell 3
  have c4 : w2.cell? ⟨w.heap.size, 4, none⟩ = some (.int .u32 (s.e : Int)) := H0.cell 4
  have c5 : w2.cell? ⟨w.heap.size, 5, none⟩ = some (.int .u32 (s.f : Int)) := H0.cell 5
  have c6 : w2.cell? ⟨w.heap.size, 6, none⟩ = some (.int .u32 (s.g : Int)) := H0.cell 6
  have c7 : w2.cell? ⟨w.heap.size, 7, none⟩ = some (.int .u32 (s.h : Int)) := H0.cell 7
  go_quiet (fail)
  go_wp2
  go_quiet (fail)
  go_wp2_with fail
  refine (schedule b off c l _ (hl.keep (below_drewN hb _))).mono ?_
  rintro e w3 ⟨rfl, hb3⟩
  obtain ⟨L, hL⟩ : ∃ L, L = schedN (wordsN l) 48 := ⟨_, rfl⟩
  have hLlen := schedN_len _ (wordN_len l hlen.out) 48
  have hLlt := schedN_lt _ (wordsN_lt l) 48
  rw [← hL] at hLlen hLlt ⊢
  have HL := Lib.hid hL
  have HLlt := Lib.hid hLlt
  have ix := fun (j : Nat) (hj : j < 64) (u : World) => run_index_word (P := Tryd.prog) (T := 101) Tryd.underlying101 Tryd.underlying80 (by kernel_rfl) L hLlen j hj u
  have H0' := (H0.keep (below_drewN (Below.refl w2.heap.size w2) _) H0.lt).keep hb3 H0.lt
  have HR' := (HR.keep (below_drewN (Below.refl w2.heap.size w2) _) HR.lt).keep hb3 HR.lt
  have hb' := (below_drewN hb _).trans (hb3.mono hb.size)
  have HT := Lib.hid hT
  clear hL hLlt hb3 H0 HR hb hT c0 c1 c2 c3 c4 c5 c6 c7
  go_wp2
  go_loopw [37, 5, 6, 7, 8, 9, 10, 11, 12] (fun i a b c d e f g h wr => ∃ (j : Nat) (t : S8), j ≤ 64 ∧ i = .int .i64 j ∧ t = runN L s j ∧ a = .int .u32 (t.a : Int) ∧ b = .int .u32 (t.b : Int) ∧ c = .int .u32 (t.c : Int) ∧ d = .int .u32 (t.d : Int) ∧ e = .int .u32 (t.e : Int) ∧ f = .int .u32 (t.f : Int) ∧ g = .int .u32 (t.g : Int) ∧ h = .int .u32 (t.h : Int) ∧ Has wr w.heap.size 90 (s.list.map uv) ∧ Has wr (w.heap.size + 1) 90 (wN 8 fun _ => 0) ∧ Below w.heap.size w wr) (fun i _ _ _ _ _ _ _ _ _ => 64 - (intOf i).toNat)
  case atStart => exact ⟨0, s, by omega, rfl, rfl, rfl, rfl, rfl, rfl, rfl, rfl, rfl, rfl, H0', HR', hb'⟩
  case round =>
    clear H0' HR' hb'
    obtain ⟨j, t, hj, rfl, ht, rfl, rfl, rfl, rfl, rfl, rfl, rfl, rfl, H0, HR, hb⟩ := hrel
    by_cases hlt : j < 64
    · have hT' := (HT.out.keep hb) j hlt
      have ixj := ix j hlt
      have htok : t.ok := ht ▸ runN_ok L hs j
      have hK := kN_lt j
      have HO := Lib.hid htok
      have Ht := Lib.hid ht
      clear ix ht htok
      go_wp2
      go_quiet (first
        | (go_at_call 65; refine Calls.quiet_of (sha.bigSigma1 t.e _ HO.out.2.2.2.2.1))
        | (go_at_call 66; refine Calls.quiet_of_same ((sha.choose t.e t.f t.g _ HO.out.2.2.2.2.1 HO.out.2.2.2.2.2.1 HO.out.2.2.2.2.2.2.1).mono fun _ _ h => ⟨h.1, h.2.symm⟩)))
      go_wp2_with (first
        | (go_at_call 67; refine (sha.bigSigma0 t.a _ HO.out.1).mono ?_; rintro e w' ⟨rfl, ⟨k1, rfl⟩⟩)
        | (go_at_call 68; refine (sha.majority t.a t.b t.c _ HO.out.1 HO.out.2.1 HO.out.2.2.1).mono ?_; rintro e w' ⟨rfl, rfl⟩))
      go_roundw
      case rel =>
        have hjL : j < L.length := by omega
        refine ⟨j + 1, t.rnd (kN.getD j 0) (L.getD j 0), by omega, by go_num, by rw [runN, ← Ht.out], ?_, rfl, rfl, rfl, ?_, rfl, rfl, rfl, H0, HR, below_drewN hb _⟩
        · refine congrArg (Value.int .u32) ?_
          simp only [S8.rnd, t1N, t2N, List.getD_eq_getElem?_getD, List.getElem?_eq_getElem hjL, Option.getD_some]
          omega
        · refine congrArg (Value.int .u32) ?_
          simp only [S8.rnd, t1N, t2N, List.getD_eq_getElem?_getD, List.getElem?_eq_getElem hjL, Option.getD_some]
          omega
      case measure => simp [intOf]; omega
    · obtain rfl : j = 64 := by omega
      have htok : t.ok := ht ▸ runN_ok L hs 64
      have Ht := Lib.hid ht
      have ix8 := fun (j : Nat) (hj : j < 8) (u : World) => run_index_word (P := Tryd.prog) (T := 90) Tryd.underlying90 Tryd.underlying80 (by kernel_rfl) t.list rfl j hj u
      simp only [S8.list, List.map_cons, List.map_nil, uv] at ix8
      clear ht hlt ix
      go_wp2
      go_loopw [85] (fun i wr => ∃ k : Nat, k ≤ 8 ∧ i = .int .i64 k ∧ Has wr w.heap.size 90 (wN 8 (addF s t k)) ∧ Has wr (w.heap.size + 1) 90 (wN 8 fun _ => 0) ∧ Below w.heap.size w wr) (fun i _ => 8 - (intOf i).toNat)
      case atStart => exact ⟨0, by omega, rfl, H0, HR, hb⟩
      case round =>
        clear H0 HR hb
        obtain ⟨k, hk, rfl, H0, HR, hb⟩ := hrel
        by_cases hlt : k < 8
        · have hc := (H0.cell k).trans (wN_at _ _ hlt)
          have hf := H0.froz k
          have ixk := ix8 k hlt
          generalize hxk : [t.a, t.b, t.c, t.d, t.e, t.f, t.g, t.h].getD k 0 = xk at ixk
          generalize hyk : addF s t k k = yk at hc
          have Hx := Lib.hid (And.intro hxk hyk)
          clear ix8 hxk hyk
          go_wp2
          go_roundw
          case rel =>
            refine ⟨k + 1, by omega, by go_num, ?_, HR.far _ (by simp) _, hb.setCell (Nat.le_refl _) _⟩
            obtain ⟨hx, hy⟩ := Hx.out
            have e : ∀ x : Int, x = ((addF s t (k + 1) k : Nat) : Int) → Has (wr.setCell ⟨w.heap.size, k, none⟩ (.int .u32 x)) w.heap.size 90 (wN 8 (addF s t (k + 1))) := fun x h => by
              rw [← wN_set (addF s t k) (addF s t (k + 1)) k (fun i hi hne => by unfold addF; by_cases h1 : i < k <;> by_cases h2 : i < k + 1 <;> first | (simp [h1, h2]; done) | omega) (.int .u32 x) (by rw [h]; rfl)]
              exact H0.set k _
            refine e _ ?_
            subst hx hy
            simp only [addF, S8.list]
            simp
          case measure => simp [intOf]; omega
        · obtain rfl : k = 8 := by omega
          have S8x := Lib.hid (show (Tryd.prog.info? 90).map (·.size) = some (wN 8 (addF s t 8)).length by rw [wN_len]; kernel_rfl)
          have E8x := Lib.hid (show (wN 8 fun _ => 0).length = (wN 8 (addF s t 8)).length by rw [wN_len, wN_len])
          have O8x := Lib.hid (wN_one (n := 8) (addF s t 8))
          clear ix8 hlt
          go_wp2_with (first
            | ((with_reducible refine wpList_load_has rfl 90 (.tmp 2) rfl w.heap.size rfl 90 (wN 8 (addF s t 8)) H0 _ Tryd.underlying90 rfl S8x.out ?_))
            | ((with_reducible refine wpList_store_has rfl 90 (.tmp 4) (.tmp 96) rfl (w.heap.size + 1) rfl (wN 8 (addF s t 8)) rfl 90 (wN 8 fun _ => 0) HR S8x.out E8x.out O8x.out ?_); intro w2 ho2 H2))
          refine ret_has Tryd.results61 (w.heap.size + 1) ?_ 90 (wN 8 (addF s t 8)) H2 _ Tryd.underlying90 rfl S8x.out ?_ ⟨by rw [compN, ← HL.out, ← Ht.out, ← addF_all], ho2.below hb (Nat.le_succ _)⟩
          · rfl
          · rfl
end sha
end Go.Proofs.YtjfipijdjbbogaaDoor
