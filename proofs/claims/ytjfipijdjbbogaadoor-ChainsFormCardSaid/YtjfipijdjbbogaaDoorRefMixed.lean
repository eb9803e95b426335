/-
  Contracts of the reference's Written and mixed.
-/
import Derived.Test.YtjfipijdjbbogaaDoorShaComp
import Derived.Deep.RegionHeld
import Derived.BigQuiet
import Derived.Deep.QuietTactic
import Derived.BigRegion
namespace Go.Proofs.YtjfipijdjbbogaaDoor
open Go.ChangeShapes Go.WideShapes Go.ChangeAt Go.RowKit
set_option linter.unusedVariables false
set_option linter.unusedSimpArgs false

/-- The eight numbers when those behind k have been moved up. -/
def shF (t : S8) (k i : Nat) : Nat := if k < i then t.list.getD (i - 1) 0 else t.list.getD i 0
theorem shF_start (t : S8) : wN 8 (shF t 7) = t.list.map uv := rfl
theorem shF_end (t : S8) (k w : Nat) (x y : Int) (hx : x = (((t.d + t1N t k w) % 4294967296 : Nat) : Int)) (hy : y = (((t1N t k w + t2N t) % 4294967296 : Nat) : Int)) : ((wN 8 (shF t 0)).set 4 (.int .u32 x)).set 0 (.int .u32 y) = (t.rnd k w).list.map uv := by
  subst hx hy
  rfl

theorem addN_comm (s t : S8) : addN s t = addN t s := by simp only [addN, Nat.add_comm]

namespace refSha
set_option maxRecDepth 10000 in
set_option maxHeartbeats 1600000 in
theorem mixed (s : S8) (ws : List Nat) (A : Option Addr) (c : Nat) (w : World) (hs : s.ok) (hws : ws.length = 16) (hwlt : ∀ x ∈ ws, x < 4294967296) (hk : Row w A 64 c (kN.map uv)) :
    Calls Tryd.prog 60 #[.agg (s.list.map uv).toArray, .agg (schedA ws 0).toArray, .slice A 64 c] w fun e w' => e = .returned (.agg ((addN s (runN (schedN ws 48) s 64)).list.map uv).toArray) ∧ Below w.heap.size w w' := by
  obtain ⟨kb, koff, rfl, hkb, hkc⟩ := hk.2.2.2.2 (by omega)
  have hkc64 := hk.2.1
  obtain ⟨m0, hm0⟩ : ∃ m, m = schedA ws 0 := ⟨_, rfl⟩
  rw [← hm0]
  have Hm0 := Lib.hid hm0
  clear hm0
  go_enter Tryd.func60, Tryd.ntmps60
  go_wp2
  have H0 : Has (((w.alloc (.cells (s.list.map uv).toArray 90)).alloc (.cells m0.toArray 101)).alloc (.cells (wN 8 fun _ => 0).toArray 90)) w.heap.size 90 (s.list.map uv) := ((Has.new w _ _).alloc _).alloc _
  have H1 : Has (((w.alloc (.cells (s.list.map uv).toArray 90)).alloc (.cells m0.toArray 101)).alloc (.cells (wN 8 fun _ => 0).toArray 90)) (w.heap.size + 1) 101 m0 := ((Has.new _ _ _).at_ (by simp)).alloc _
  have H2 : Has (((w.alloc (.cells (s.list.map uv).toArray 90)).alloc (.cells m0.toArray 101)).alloc (.cells (wN 8 fun _ => 0).toArray 90)) (w.heap.size + 1 + 1) 90 (wN 8 fun _ => 0) := (Has.new _ _ _).at_ (by simp)
  have hb : Below w.heap.size w (((w.alloc (.cells (s.list.map uv).toArray 90)).alloc (.cells m0.toArray 101)).alloc (.cells (wN 8 fun _ => 0).toArray 90)) := (((Below.refl _ _).alloc (Nat.le_refl _) _).alloc (by simp) _).alloc (by simp; omega) _
  rw [Hm0.out] at H1
  have Hk := Lib.hid hk
  clear hk
  go_loopw [7] (fun i wr => ∃ n : Nat, n ≤ 48 ∧ i = .int .i64 ((n + 16 : Nat) : Int) ∧ Has wr w.heap.size 90 (s.list.map uv) ∧ Has wr (w.heap.size + 1) 101 (schedA ws n) ∧ Has wr (w.heap.size + 1 + 1) 90 (wN 8 fun _ => 0) ∧ Below w.heap.size w wr) (fun i _ => 64 - (intOf i).toNat)
  case atStart => exact ⟨0, by omega, rfl, H0, by rw [← Hm0.out] at H1 ⊢; exact H1, H2, hb⟩
  case round =>
    clear H0 H1 H2 hb
    obtain ⟨n, hn, rfl, HA, H, HR, hb⟩ := hrel
    by_cases hlt : n < 48
    · obtain ⟨m14, h14⟩ : ∃ m, m = n + 14 := ⟨_, rfl⟩
      obtain ⟨m9, h9⟩ : ∃ m, m = n + 9 := ⟨_, rfl⟩
      obtain ⟨m1, h1⟩ : ∃ m, m = n + 1 := ⟨_, rfl⟩
      have c14 := (H.cell m14).trans (schedA_at _ hws n m14 (by omega))
      have c9 := (H.cell m9).trans (schedA_at _ hws n m9 (by omega))
      have c1 := (H.cell m1).trans (schedA_at _ hws n m1 (by omega))
      have c0 := (H.cell n).trans (schedA_at _ hws n n (by omega))
      have c16 := (H.cell (n + 16)).trans (schedA_zero _ hws n hlt)
      have b14 : (m14 : Int) < 64 := by omega
      have b9 : (m9 : Int) < 64 := by omega
      have b1 : (m1 : Int) < 64 := by omega
      have b0 : (n : Int) < 64 := by omega
      have e2 : (n : Int) + 16 - 2 = (m14 : Int) := by omega
      have e15 : (n : Int) + 16 - 15 = (m1 : Int) := by omega
      have e7 : IntKind.i64.wrap ((n : Int) + 16 - 7) = (m9 : Int) := by rw [IntKind.wrap_i64]; omega
      have e16' : IntKind.i64.wrap (n : Int) = (n : Int) := by rw [IntKind.wrap_i64]; omega
      have e16 : IntKind.i64.wrap ((n : Int) + 16 - 16) = (n : Int) := by rw [IntKind.wrap_i64]; omega
      have hf := H.froz (n + 16)
      have N9 := Lib.hid (show (⟨w.heap.size + 1, n + 16, none⟩ : Addr) ≠ ⟨w.heap.size + 1, m9, none⟩ by intro e; cases e; omega)
      have N0 := Lib.hid (show (⟨w.heap.size + 1, n + 16, none⟩ : Addr) ≠ ⟨w.heap.size + 1, n, none⟩ by intro e; cases e)
      have L14 := Lib.hid (schedN_lt _ hwlt n m14)
      have L1 := Lib.hid (schedN_lt _ hwlt n m1)
      generalize hg14 : (schedN ws n).getD m14 0 = g14 at *
      generalize hg9 : (schedN ws n).getD m9 0 = g9 at *
      generalize hg1 : (schedN ws n).getD m1 0 = g1 at *
      generalize hg0 : (schedN ws n).getD n 0 = g0 at *
      have HG := Lib.hid (And.intro h14 (And.intro h9 (And.intro h1 (And.intro hg14 (And.intro hg9 (And.intro hg1 hg0))))))
      have x0 := ssig0_int g1 L1.out
      have x1 := ssig1_int g14 L14.out
      clear h14 h9 h1 hg14 hg9 hg1 hg0
      go_wp2
      go_region_held (fun w' => w'.cell? ⟨w.heap.size + 1, m9, none⟩ = some (.int .u32 (g9 : Nat)) ∧ w'.cell? ⟨w.heap.size + 1, n, none⟩ = some (.int .u32 (g0 : Nat)))
        (first | exact ⟨c9, c0⟩ | exact ⟨(World.cell?_setCell_other _ _ _ _ N9.out).trans c9, (World.cell?_setCell_other _ _ _ _ N0.out).trans c0⟩)
        (first | (go_at_call 63; refine (refTurn _ _ _ (by first | exact L1.out | exact L14.out)).mono ?_; rintro e w' ⟨rfl, rfl⟩))
      go_wp2
      go_roundw
      case rel =>
        obtain ⟨rfl, rfl, rfl, rfl, rfl, rfl, rfl⟩ := HG.out
        refine ⟨n + 1, by omega, by go_num, HA.far _ (by simp) _, ?_, HR.far _ (by simp) _, ((hb.setCell (Nat.le_succ _) _).drew)⟩
        rw [← schedA_set _ hws n hlt _ rfl, Nat.add_comm 16 n]
        have e : ∀ x y : Int, x = y → Has wr (w.heap.size + 1) 101 (schedA ws n) → Has (wr.setCell ⟨w.heap.size + 1, n + 16, none⟩ (.int .u32 x)) (w.heap.size + 1) 101 ((schedA ws n).set (n + 16) (.int .u32 y)) := fun x y h H => h ▸ H.set (n + 16) _
        refine e _ _ ?_ H
        simp only [nextN, Nat.add_comm 14 n, Nat.add_comm 9 n, Nat.add_comm 1 n]
        omega
      case measure => simp [intOf]; omega
    · obtain rfl : n = 48 := by omega
      have HM : Has wr (w.heap.size + 1) 101 ((schedN ws 48).map uv) := by simpa [schedA] using H
      have hLlen := schedN_len _ hws 48
      have hLlt := schedN_lt _ hwlt 48
      obtain ⟨L, hL⟩ : ∃ L, L = schedN ws 48 := ⟨_, rfl⟩
      rw [← hL] at HM hLlen hLlt
      have HL := Lib.hid hL
      have HLl := Lib.hid (And.intro hLlen hLlt)
      have S8x := Lib.hid (show (Tryd.prog.info? 90).map (·.size) = some (s.list.map uv).length by kernel_rfl)
      have E8x := Lib.hid (show (wN 8 fun _ => 0).length = (s.list.map uv).length by rfl)
      have O8x := Lib.hid (one_uv s.list)
      have HN : Has (wr.alloc (.cells #[.int .u32 0, .int .u32 0, .int .u32 0, .int .u32 0, .int .u32 0, .int .u32 0, .int .u32 0, .int .u32 0] 90)) wr.heap.size 90 (wN 8 fun _ => 0) := Has.new wr 90 (wN 8 fun _ => 0)
      have HA1 := HA.alloc (.cells #[.int .u32 0, .int .u32 0, .int .u32 0, .int .u32 0, .int .u32 0, .int .u32 0, .int .u32 0, .int .u32 0] 90)
      have HM1 := HM.alloc (.cells #[.int .u32 0, .int .u32 0, .int .u32 0, .int .u32 0, .int .u32 0, .int .u32 0, .int .u32 0, .int .u32 0] 90)
      have HR1 := HR.alloc (.cells #[.int .u32 0, .int .u32 0, .int .u32 0, .int .u32 0, .int .u32 0, .int .u32 0, .int .u32 0, .int .u32 0] 90)
      have hb1 := hb.alloc hb.size (.cells #[.int .u32 0, .int .u32 0, .int .u32 0, .int .u32 0, .int .u32 0, .int .u32 0, .int .u32 0, .int .u32 0] 90)
      have hgN := HR.lt
      have hgB := hb.size
      clear hL hLlen hLlt H HM HR hlt hn
      go_wp2_with (first
        | ((with_reducible refine wpList_load_has rfl 90 (.tmp 3) rfl w.heap.size rfl 90 (s.list.map uv) HA _ Tryd.underlying90 rfl S8x.out ?_))
        | ((with_reducible refine wpList_store_has rfl 90 (.tmp 10) (.tmp 59) rfl wr.heap.size rfl (s.list.map uv) rfl 90 (wN 8 fun _ => 0) HN S8x.out E8x.out O8x.out ?_); intro w2 o2 H2))
      have HA2 := HA1.only o2 (by omega)
      have HM2 := HM1.only o2 (by omega)
      have HR2 := HR1.only o2 (by omega)
      have hb2 := o2.below hb1 (by omega)
      clear HA1 HM1 HR1 hb1 o2 HN HA hb
      obtain ⟨gN, hgN'⟩ : ∃ g, g = wr.heap.size := ⟨_, rfl⟩
      rw [← hgN'] at H2 hgN ⊢
      clear hgN' hgB
      go_loopw [11] (fun i wr => ∃ (j : Nat) (t : S8), j ≤ 64 ∧ i = .int .i64 j ∧ t = runN L s j ∧ Has wr gN 90 (t.list.map uv) ∧ Has wr (w.heap.size + 1) 101 (L.map uv) ∧ Has wr w.heap.size 90 (s.list.map uv) ∧ Has wr (w.heap.size + 1 + 1) 90 (wN 8 fun _ => 0) ∧ Below w.heap.size w wr) (fun i _ => 64 - (intOf i).toNat)
      case atStart => exact ⟨0, s, by omega, rfl, rfl, H2, HM2, HA2, HR2, hb2⟩
      case round =>
        clear H2 HM2 HA2 HR2 hb2
        obtain ⟨j, t, hj, rfl, ht, HN, HM, HA, HR, hb⟩ := hrel
        by_cases hlt : j < 64
        · have htok : t.ok := ht ▸ runN_ok L hs j
          have HO := Lib.hid htok
          have Ht := Lib.hid ht
          have n0 : wr.cell? ⟨gN, 0, none⟩ = some (.int .u32 (t.a : Int)) := HN.cell 0
          have n1 : wr.cell? ⟨gN, 1, none⟩ = some (.int .u32 (t.b : Int)) := HN.cell 1
          have n2 : wr.cell? ⟨gN, 2, none⟩ = some (.int .u32 (t.c : Int)) := HN.cell 2
          have n4 : wr.cell? ⟨gN, 4, none⟩ = some (.int .u32 (t.e : Int)) := HN.cell 4
          have n5 : wr.cell? ⟨gN, 5, none⟩ = some (.int .u32 (t.f : Int)) := HN.cell 5
          have n6 : wr.cell? ⟨gN, 6, none⟩ = some (.int .u32 (t.g : Int)) := HN.cell 6
          have n7 : wr.cell? ⟨gN, 7, none⟩ = some (.int .u32 (t.h : Int)) := HN.cell 7
          obtain ⟨kj, hkj⟩ : ∃ x, x = kN.getD j 0 := ⟨_, rfl⟩
          obtain ⟨lj, hlj⟩ : ∃ x, x = L.getD j 0 := ⟨_, rfl⟩
          have ck : wr.cell? ⟨kb, koff + j, none⟩ = some (.int .u32 (kj : Int)) := by
            rw [hb.cell (p := ⟨kb, koff + j, none⟩) hkb, hkc j hlt, List.getElem?_map, List.getElem?_eq_getElem (show j < kN.length from hlt), hkj]
            simp [uv, show j < kN.length from hlt]
          have cl : wr.cell? ⟨w.heap.size + 1, j, none⟩ = some (.int .u32 (lj : Int)) := by
            rw [HM.cell j, List.getElem?_map, List.getElem?_eq_getElem (show j < L.length by rw [HLl.out.1]; omega), hlj]
            simp [uv, show j < L.length by rw [HLl.out.1]; omega]
          have hjI : (j : Int) < 64 := by omega
          have xc := ch_int t.e t.f t.g htok.2.2.2.2.1 htok.2.2.2.2.2.1 htok.2.2.2.2.2.2.1
          have xm := maj_int t.a t.b t.c htok.1 htok.2.1 htok.2.2.1
          have x1 := bsig1_int t.e htok.2.2.2.2.1
          have x0 := bsig0_int t.a htok.1
          have HK := Lib.hid (And.intro hkj hlj)
          clear htok ht hkj hlj
          go_wp2
          go_quiet (first | (go_at_call 63; refine (refTurn _ _ _ (by first | exact HO.out.2.2.2.2.1 | exact HO.out.1)).mono ?_; rintro e w' ⟨rfl, rfl⟩; exact ⟨rfl, _, rfl⟩))
          go_wp2
          go_quiet (first | (go_at_call 63; refine (refTurn _ _ _ (by first | exact HO.out.2.2.2.2.1 | exact HO.out.1)).mono ?_; rintro e w' ⟨rfl, rfl⟩; exact ⟨rfl, _, rfl⟩))
          go_wp2
          go_loopw [16] (fun x wq => ∃ k : Nat, k ≤ 7 ∧ x = .int .i64 k ∧ Has wq gN 90 (wN 8 (shF t k)) ∧ Has wq (w.heap.size + 1) 101 (L.map uv) ∧ Has wq w.heap.size 90 (s.list.map uv) ∧ Has wq (w.heap.size + 1 + 1) 90 (wN 8 fun _ => 0) ∧ Below w.heap.size w wq) (fun x _ => (intOf x).toNat)
          case atStart => exact ⟨7, by omega, rfl, HN, HM, HA, HR, below_drewN (below_drewN hb _) _⟩
          case round =>
            clear n0 n1 n2 n4 n5 n6 n7 ck cl xc xm x0 x1 HN HM HA HR hb
            obtain ⟨k, hk, rfl, HN, HM, HA, HR, hb⟩ := hrel
            by_cases hk0 : 0 < k
            · obtain ⟨p, rfl⟩ : ∃ p, k = p + 1 := ⟨k - 1, by omega⟩
              have cp := (HN.cell p).trans (wN_at _ _ (by omega))
              have cq := (HN.cell (p + 1)).trans (wN_at _ _ (by omega))
              have fq := HN.froz (p + 1)
              have hp7 : (p : Int) + 1 < 8 := by omega
              have hp8 : (p : Int) < 8 := by omega
              obtain ⟨v, hv⟩ : ∃ v, v = shF t (p + 1) p := ⟨_, rfl⟩
              rw [← hv] at cp
              have Hv := Lib.hid hv
              clear hv
              go_wp2
              go_roundw
              case rel =>
                refine ⟨p, by omega, by go_num, ?_, HM.far _ (by show w.heap.size + 1 ≠ gN; omega) _, HA.far _ (by show w.heap.size ≠ gN; omega) _, HR.far _ (by show w.heap.size + 1 + 1 ≠ gN; omega) _, hb.setCell (by show w.heap.size ≤ gN; omega) _⟩
                rw [← wN_set (shF t (p + 1)) (shF t p) (p + 1) (fun i hi hne => by unfold shF; by_cases h1 : p + 1 < i <;> by_cases h2 : p < i <;> first | (simp [h1, h2]; done) | omega) (.int .u32 (v : Int)) (by rw [Hv.out, shF, shF, if_neg (by omega), if_pos (by omega), Nat.add_sub_cancel]; rfl)]
                exact HN.set (p + 1) _
              case measure => simp [intOf]
            · obtain rfl : k = 0 := by omega
              have c4 : wr.cell? ⟨gN, 4, none⟩ = some (.int .u32 (t.d : Int)) := HN.cell 4
              have c0 : wr.cell? ⟨gN, 0, none⟩ = some (.int .u32 (t.a : Int)) := HN.cell 0
              have f4 := HN.froz 4
              have f0 := HN.froz 0
              go_wp2
              go_roundw
              case rel =>
                obtain ⟨rfl, rfl⟩ := HK.out
                refine ⟨j + 1, t.rnd (kN.getD j 0) (L.getD j 0), by omega, by go_num, by rw [runN, ← Ht.out], ?_, (HM.far _ (by show w.heap.size + 1 ≠ gN; omega) _).far _ (by show w.heap.size + 1 ≠ gN; omega) _, (HA.far _ (by show w.heap.size ≠ gN; omega) _).far _ (by show w.heap.size ≠ gN; omega) _, (HR.far _ (by show w.heap.size + 1 + 1 ≠ gN; omega) _).far _ (by show w.heap.size + 1 + 1 ≠ gN; omega) _, (hb.setCell (by show w.heap.size ≤ gN; omega) _).setCell (by show w.heap.size ≤ gN; omega) _⟩
                rw [← shF_end t (kN.getD j 0) (L.getD j 0) _ _ (by rw [t1N]) (by rw [t1N, t2N])]
                have e : ∀ x y x' y' : Int, x = x' → y = y' → Has ((wr.setCell ⟨gN, 4, none⟩ (.int .u32 x)).setCell ⟨gN, 0, none⟩ (.int .u32 y)) gN 90 (((wN 8 (shF t 0)).set 4 (.int .u32 x')).set 0 (.int .u32 y')) := fun x y x' y' h1 h2 => by
                  rw [← h1, ← h2]
                  exact (HN.set 4 _).set 0 _
                refine e _ _ _ _ ?_ ?_
                · omega
                · omega
              case measure => simp [intOf]; omega
        · obtain rfl : j = 64 := by omega
          have Ht := Lib.hid ht
          clear ht hlt
          go_wp2
          go_loopw [17] (fun i wr => ∃ k : Nat, k ≤ 8 ∧ i = .int .i64 k ∧ Has wr gN 90 (wN 8 (addF t s k)) ∧ Has wr w.heap.size 90 (s.list.map uv) ∧ Has wr (w.heap.size + 1 + 1) 90 (wN 8 fun _ => 0) ∧ Below w.heap.size w wr) (fun i _ => 8 - (intOf i).toNat)
          case atStart => exact ⟨0, by omega, rfl, HN, HA, HR, hb⟩
          case round =>
            clear HN HM HA HR hb
            obtain ⟨k, hk, rfl, HN, HA, HR, hb⟩ := hrel
            by_cases hlt : k < 8
            · have cn := (HN.cell k).trans (wN_at _ _ hlt)
              have ca : wr.cell? ⟨w.heap.size, k, none⟩ = some (.int .u32 ((s.list.getD k 0 : Nat) : Int)) := by
                rw [HA.cell k, List.getElem?_map, List.getElem?_eq_getElem (show k < s.list.length from hlt)]
                simp [uv, show k < s.list.length from hlt]
              have fn := HN.froz k
              have hk8 : (k : Int) < 8 := by omega
              obtain ⟨x, hx⟩ : ∃ x, x = addF t s k k := ⟨_, rfl⟩
              obtain ⟨y, hy⟩ : ∃ x, x = s.list.getD k 0 := ⟨_, rfl⟩
              rw [← hx] at cn
              rw [← hy] at ca
              have HX := Lib.hid (And.intro hx hy)
              clear hx hy
              go_wp2
              go_region
              go_wp2
              go_roundw
              case rel =>
                obtain ⟨rfl, rfl⟩ := HX.out
                refine ⟨k + 1, by omega, by go_num, ?_, HA.far _ (by show w.heap.size ≠ gN; omega) _, HR.far _ (by show w.heap.size + 1 + 1 ≠ gN; omega) _, (hb.setCell (by show w.heap.size ≤ gN; omega) _).drew⟩
                have e : ∀ x : Int, x = ((addF t s (k + 1) k : Nat) : Int) → Has (wr.setCell ⟨gN, k, none⟩ (.int .u32 x)) gN 90 (wN 8 (addF t s (k + 1))) := fun x h => by
                  rw [← wN_set (addF t s k) (addF t s (k + 1)) k (fun i hi hne => by unfold addF; by_cases h1 : i < k <;> by_cases h2 : i < k + 1 <;> first | (simp [h1, h2]; done) | omega) (.int .u32 x) (by rw [h]; rfl)]
                  exact HN.set k _
                refine e _ ?_
                simp only [addF]
                simp
              case measure => simp [intOf]; omega
            · obtain rfl : k = 8 := by omega
              have S8y := Lib.hid (show (Tryd.prog.info? 90).map (·.size) = some (wN 8 (addF t s 8)).length by rw [wN_len]; kernel_rfl)
              have E8y := Lib.hid (show (wN 8 fun _ => 0).length = (wN 8 (addF t s 8)).length by rw [wN_len, wN_len])
              have O8y := Lib.hid (wN_one (n := 8) (addF t s 8))
              clear hlt
              go_wp2_with (first
                | ((with_reducible refine wpList_load_has rfl 90 (.tmp 10) rfl gN rfl 90 (wN 8 (addF t s 8)) HN _ Tryd.underlying90 rfl S8y.out ?_))
                | ((with_reducible refine wpList_store_has rfl 90 (.tmp 6) (.tmp 163) rfl (w.heap.size + 1 + 1) rfl (wN 8 (addF t s 8)) rfl 90 (wN 8 fun _ => 0) HR S8y.out E8y.out O8y.out ?_); intro w2 o2 H2))
              refine ret_has Tryd.results60 (w.heap.size + 1 + 1) ?_ 90 (wN 8 (addF t s 8)) H2 _ Tryd.underlying90 rfl S8y.out ?_ ⟨by rw [← HL.out, ← Ht.out, addN_comm, ← addF_all], o2.below hb (by omega)⟩
              · rfl
              · rfl
end refSha
end Go.Proofs.YtjfipijdjbbogaaDoor
