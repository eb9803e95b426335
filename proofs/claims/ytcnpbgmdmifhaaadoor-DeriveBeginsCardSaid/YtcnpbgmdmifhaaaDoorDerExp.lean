/-
  Contract of derive.Expand.
-/
import Derived.Test.YtcnpbgmdmifhaaaDoorDer
import Derived.Test.YtcnpbgmdmifhaaaDoorMacOf
import Derived.Test.YtcnpbgmdmifhaaaDoorRefMac
namespace Go.Proofs.YtcnpbgmdmifhaaaDoor
open Go.ChangeShapes Go.WideShapes Go.ChangeAt Go.RowKit
set_option linter.unusedVariables false
set_option linter.unusedSimpArgs false

/-- The text of the next T, behind the room for a T. -/
def textN (key info : List UInt8) (j x : Nat) : List UInt8 := roomN key info j ++ info ++ [UInt8.ofNat x]
theorem textN_len {key info : List UInt8} (j x : Nat) : (textN key info j x).length = info.length + 33 := by
  simp [textN, roomN_len]; omega
theorem textN_last {key info : List UInt8} (j x m : Nat) (hm : info.length = m) (hx : x < 256) : ((textN key info j x).map bv)[m + 32]? = some (.int .u8 (x : Int)) := by
  have e : (roomN key info j ++ info).length = m + 32 := by rw [List.length_append, roomN_len]; omega
  rw [textN, List.map_append, List.getElem?_append_right (by rw [List.length_map, e]; exact Nat.le_refl _), List.length_map, e, Nat.sub_self, List.map_cons, List.getElem?_cons_zero, bv_ofNat x hx]
theorem textN_set {key info : List UInt8} (j x y m : Nat) (hm : info.length = m) (hy : y < 256) : ((textN key info j x).map bv).set (m + 32) (.int .u8 (y : Int)) = (textN key info j y).map bv := by
  have e : (roomN key info j ++ info).length = m + 32 := by rw [List.length_append, roomN_len]; omega
  rw [textN, textN, List.map_append, List.set_append_right _ _ (by rw [List.length_map, e]; exact Nat.le_refl _), List.length_map, e, Nat.sub_self, List.map_cons, List.set_cons_zero, List.map_append (l₁ := roomN key info j ++ info), List.map_cons, ← bv_ofNat y hy]
theorem textN_next {key info : List UInt8} (j x : Nat) : splice ((textN key info j x).map bv) 0 (((tN key info (j + 1)).map bv).take 32) = (textN key info (j + 1) x).map bv := by
  have h := tN_len (key := key) (info := info) (j + 1) (by omega)
  have h2 : ((tN key info (j + 1)).map bv).take 32 = (tN key info (j + 1)).map bv := List.take_of_length_le (by rw [List.length_map]; omega)
  rw [h2, splice, List.take_zero, List.nil_append, List.length_map, h, Nat.zero_add, ← List.map_drop, ← List.map_append, textN, textN, List.append_assoc, List.drop_append_of_le_length (by rw [roomN_len]; exact Nat.le_refl _), List.drop_of_length_le (by rw [roomN_len]; exact Nat.le_refl _), List.nil_append, text_next _ (by omega), List.append_assoc]
theorem textN_from {key info : List UInt8} (j x : Nat) : ∃ o L, (o = if j = 0 then 32 else 0) ∧ o + L = info.length + 33 ∧ ((textN key info j x).drop o).take L = tN key info j ++ info ++ [UInt8.ofNat x] := by
  by_cases h : j = 0
  · subst h
    refine ⟨32, info.length + 1, rfl, by omega, ?_⟩
    rw [textN, List.append_assoc, List.drop_append_of_le_length (by rw [roomN_len]; exact Nat.le_refl _), List.drop_of_length_le (by rw [roomN_len]; exact Nat.le_refl _), List.nil_append, List.take_of_length_le (by simp)]
    rfl
  · refine ⟨0, info.length + 33, by rw [if_neg h], by omega, ?_⟩
    rw [List.drop_zero, List.take_of_length_le (by rw [textN_len]; exact Nat.le_refl _), textN, text_next _ (by omega)]

theorem key_put {B g : Nat} {a u : World} {R : List UInt8} (hb : Below B a u) (H : Has u g 23 zkey) (hg : B ≤ g) (hR : R.length = 32) :
    B ≤ g ∧ Has (u.setCells g 0 (R.map bv)) g 23 (R.map bv) ∧ Below B a (u.setCells g 0 (R.map bv)) := by
  have H2 := Has.setCells (R.map bv) 0 u _ H (by rw [List.length_map, hR]; decide)
  rw [show splice zkey 0 (R.map bv) = R.map bv by rw [splice, List.length_map, hR, show List.drop (0 + 32) zkey = [] from rfl]; simp] at H2
  exact ⟨hg, H2, (Only.setCells g (R.map bv) 0 u).below hb hg⟩
theorem key_new {B : Nat} {a u : World} {R : List UInt8} (hb : Below B a u) (hB : B ≤ u.heap.size) (hR : R.length = 32) :
    B ≤ u.heap.size ∧ Has ((u.alloc (.cells #[.int .u8 0, .int .u8 0, .int .u8 0, .int .u8 0, .int .u8 0, .int .u8 0, .int .u8 0, .int .u8 0, .int .u8 0, .int .u8 0, .int .u8 0, .int .u8 0, .int .u8 0, .int .u8 0, .int .u8 0, .int .u8 0, .int .u8 0, .int .u8 0, .int .u8 0, .int .u8 0, .int .u8 0, .int .u8 0, .int .u8 0, .int .u8 0, .int .u8 0, .int .u8 0, .int .u8 0, .int .u8 0, .int .u8 0, .int .u8 0, .int .u8 0, .int .u8 0] 23)).setCells u.heap.size 0 (R.map bv)) u.heap.size 23 (R.map bv) ∧ Below B a ((u.alloc (.cells #[.int .u8 0, .int .u8 0, .int .u8 0, .int .u8 0, .int .u8 0, .int .u8 0, .int .u8 0, .int .u8 0, .int .u8 0, .int .u8 0, .int .u8 0, .int .u8 0, .int .u8 0, .int .u8 0, .int .u8 0, .int .u8 0, .int .u8 0, .int .u8 0, .int .u8 0, .int .u8 0, .int .u8 0, .int .u8 0, .int .u8 0, .int .u8 0, .int .u8 0, .int .u8 0, .int .u8 0, .int .u8 0, .int .u8 0, .int .u8 0, .int .u8 0, .int .u8 0] 23)).setCells u.heap.size 0 (R.map bv)) :=
  key_put (newKey_below hb hB) (newKey u) hB hR

namespace derive
set_option maxHeartbeats 400000 in
theorem ExpandNone (k : List UInt8) (hk : k.length = 32) (s : ByteArray) (z : Int) (hz : z < 1 ∨ 8160 < z) (w : World) :
    Calls Tryd.prog 7 #[.agg (k.map bv).toArray, .string s, .int .i64 z] w fun e w' => e = .returned (.slice none 0 0) ∧ Below w.heap.size w w' := by
  have hb0 := (Below.refl w.heap.size w).alloc (Nat.le_refl _) (.cells (k.map bv).toArray 23)
  by_cases h1 : z < 1
  · go_enter Tryd.func7, Tryd.ntmps7
    go_wp2_with fail
    go_ret
    exact ⟨rfl, hb0⟩
  · have h2 : 8160 < z := by omega
    go_enter Tryd.func7, Tryd.ntmps7
    go_wp2_with fail
    go_ret
    exact ⟨rfl, hb0⟩
set_option maxRecDepth 10000 in
set_option maxHeartbeats 1000000 in
theorem ExpandHas (k : List UInt8) (hk : k.length = 32) (l : List UInt8) (m : Nat) (hl : l.length = m) (hm : m ≤ 70368744177600) (n : Nat) (hn1 : 1 ≤ n) (hn2 : n ≤ 8160) (w : World) (hT : Tab w) :
    Calls Tryd.prog 7 #[.agg (k.map bv).toArray, .string (str l), .int .i64 (n : Int)] w fun e w' => e = .returned (.slice (some ⟨w.heap.size + 1, 0, none⟩) n n) ∧ Has w' (w.heap.size + 1) 5 ((expN k l n).map bv) ∧ Below w.heap.size w w' := by
  have h1 : ¬ (n : Int) < 1 := by omega
  have h2 : ¬ (8160 : Int) < (n : Int) := by omega
  have hmk := fun u => run_make8 n n (Nat.le_refl _) (by omega) u
  have hb0 := (Below.refl w.heap.size w).alloc (Nat.le_refl _) (.cells (k.map bv).toArray 23)
  have hb1 := hb0.alloc hb0.size (.cells (noughts n).toArray 5)
  have HQ1 := (Has.new w 23 (k.map bv)).alloc (.cells (noughts n).toArray 5)
  have HO1 := (Has.new (w.alloc (.cells (k.map bv).toArray 23)) 5 (noughts n)).at_ (show _ = w.heap.size + 1 by simp)
  have HKL := Lib.hid hk
  have HLM := Lib.hid hl
  go_enter Tryd.func7, Tryd.ntmps7
  go_wp2_with fail
  clear hmk
  change Calls _ _ _ ((w.alloc (.cells (k.map bv).toArray 23)).alloc (.cells (noughts n).toArray 5)) _
  generalize ((w.alloc (.cells (k.map bv).toArray 23)).alloc (.cells (noughts n).toArray 5)) = w1 at *
  refine (frame l m HLM.out (by omega) w1).mono ?_
  rintro e w2 ⟨rfl, HT2, hb2⟩
  have hbw2 := hb1.trans (hb2.mono hb1.size)
  have HQ2 := HQ1.keep hb2 HQ1.lt
  have HO2 := HO1.keep hb2 HO1.lt
  have hq1 := HQ1.lt
  have ho1 := HO1.lt
  generalize w1.heap.size = gt at *
  clear hb0 hb1 HQ1 HO1 hb2
  have HO2' : Has w2 (w.heap.size + 1) 5 ((headN k l n 0).map bv) := by
    rw [headN, show outN k l 0 = [] from rfl, List.take_nil, List.nil_append, Nat.mul_zero, Nat.sub_zero, ← noughts_bv']
    exact HO2
  have HT2' : Has w2 gt 5 ((textN k l 0 0).map bv) := HT2
  clear HO2 HT2
  go_wp2_with fail
  go_loopw [9, 10] (fun i _ wr => ∃ j p : Nat, Hid (p = 32 * j) ∧ p ≤ n + 31 ∧ i = .int .i64 (p : Int) ∧ Has wr (w.heap.size + 1) 5 ((headN k l n j).map bv) ∧ Has wr gt 5 ((textN k l j j).map bv) ∧ Has wr w.heap.size 23 (k.map bv) ∧ Below w.heap.size w wr) (fun i _ _ => n + 31 - (intOf i).toNat)
  case atStart => exact ⟨0, 0, Lib.hid rfl, by omega, rfl, HO2', HT2', HQ2, hbw2⟩
  case round =>
    clear HO2' HT2' HQ2 hbw2
    obtain ⟨j, p, HP, hp, rfl, HO, HX, HQ, hb⟩ := hrel
    by_cases hlt : p < n
    · have hj : j ≤ 254 := by have := HP.out; omega
      have hgt := HX.lt
      have ct : wr.cell? ⟨gt, m + 32, none⟩ = some (.int .u8 (j : Int)) := (HX.cell (m + 32)).trans (textN_last j j m HLM.out (by omega))
      have ft := HX.froz (m + 32)
      obtain ⟨o, L, ho, hoL, htx⟩ := textN_from (key := k) (info := l) j (j + 1)
      rw [HLM.out] at hoL
      have HX8 := HX.set (m + 32) (.int .u8 ((j + 1 : Nat) : Int))
      rw [textN_set j j (j + 1) m HLM.out (by omega)] at HX8
      have HO8 := HO.far ⟨gt, m + 32, none⟩ (by show w.heap.size + 1 ≠ gt; omega) (.int .u8 ((j + 1 : Nat) : Int))
      have HQ8 := HQ.far ⟨gt, m + 32, none⟩ (by show w.heap.size ≠ gt; omega) (.int .u8 ((j + 1 : Nat) : Int))
      have hb8 := hb.setCell (p := ⟨gt, m + 32, none⟩) (by show w.heap.size ≤ gt; omega) (.int .u8 ((j + 1 : Nat) : Int))
      clear HX HO HQ hb
      go_wp2_with fail
      change Code.wp _ _ _ _ (wr.setCell ⟨gt, m + 32, none⟩ (.int .u8 ((j + 1 : Nat) : Int)))
      generalize (wr.setCell ⟨gt, m + 32, none⟩ (.int .u8 ((j + 1 : Nat) : Int))) = w8 at *
      clear ct ft hgt
      have KF := Lib.hid (show ∀ u, Calls Tryd.prog 13 #[.slice (some ⟨gt, 0, none⟩) (m + 33) (m + 33), .int .i64 (p : Int)] u fun e w' => e = .returned (.slice (some ⟨gt, o, none⟩) L L) ∧ w' = u from fun u => by
        have hP := HP.out
        by_cases hj0 : j = 0
        · obtain rfl : p = 0 := by omega
          obtain rfl : o = 32 := by rw [ho, if_pos hj0]
          obtain rfl : L = m + 1 := by omega
          exact fromHead gt m (by omega) u
        · obtain rfl : o = 0 := by rw [ho, if_neg hj0]
          obtain rfl : L = m + 33 := by omega
          exact fromAll gt m (by omega) p (by omega) u)
      have hTx : Bytes w8 (some ⟨gt, o, none⟩) L L (tN k l j ++ l ++ [UInt8.ofNat (j + 1)]) := by
        have h := HX8.row o L L (by rw [List.length_map, textN_len, HLM.out]; omega) (Nat.le_refl _) (by unfold maxLen; omega)
        rw [← List.map_drop, ← List.map_take, htx] at h
        exact h
      obtain ⟨R, hR⟩ : ∃ R, R = tN k l (j + 1) := ⟨_, rfl⟩
      have hRl : R.length = 32 := by rw [hR, tN_len _ (by omega)]
      have KM := Lib.hid (fun (u : World) (hu : Below w8.heap.size w8 u) => show Calls Tryd.prog 11 #[.slice (some ⟨w.heap.size, 0, none⟩) 32 32, .slice (some ⟨gt, o, none⟩) L L] u fun e w' => e = .returned (.agg (R.map bv).toArray) ∧ Below u.heap.size u w' by
        rw [hR, tN_succ]
        exact mac.Of _ 32 32 k _ L L _ u ((HQ8.bytes 32 HKL.out (by simp [maxLen])).keep hu) (hTx.keep hu) (by omega) (hT.keep (hb8.trans (hu.mono hb8.size))))
      have HB0 := Lib.hid ((Below.refl w8.heap.size w8).drew)
      have HB1 := Lib.hid (((Below.refl w8.heap.size w8).alloc (Nat.le_refl _) (.cells #[.int .u8 0, .int .u8 0, .int .u8 0, .int .u8 0, .int .u8 0, .int .u8 0, .int .u8 0, .int .u8 0, .int .u8 0, .int .u8 0, .int .u8 0, .int .u8 0, .int .u8 0, .int .u8 0, .int .u8 0, .int .u8 0, .int .u8 0, .int .u8 0, .int .u8 0, .int .u8 0, .int .u8 0, .int .u8 0, .int .u8 0, .int .u8 0, .int .u8 0, .int .u8 0, .int .u8 0, .int .u8 0, .int .u8 0, .int .u8 0, .int .u8 0, .int .u8 0] 23)).drew)
      have HNK := Lib.hid (show Has (w8.alloc (.cells #[.int .u8 0, .int .u8 0, .int .u8 0, .int .u8 0, .int .u8 0, .int .u8 0, .int .u8 0, .int .u8 0, .int .u8 0, .int .u8 0, .int .u8 0, .int .u8 0, .int .u8 0, .int .u8 0, .int .u8 0, .int .u8 0, .int .u8 0, .int .u8 0, .int .u8 0, .int .u8 0, .int .u8 0, .int .u8 0, .int .u8 0, .int .u8 0, .int .u8 0, .int .u8 0, .int .u8 0, .int .u8 0, .int .u8 0, .int .u8 0, .int .u8 0, .int .u8 0] 23)).drew w8.heap.size 23 zkey from newKey w8)
      have HCT := Lib.hid (fun (u : World) (h : Has u w8.heap.size 23 zkey) => Has.there h 0 (R.map bv).length (by rw [List.length_map, hRl]; decide))
      have hal : ∀ u : World, (u.alloc (.cells #[.int .u8 0, .int .u8 0, .int .u8 0, .int .u8 0, .int .u8 0, .int .u8 0, .int .u8 0, .int .u8 0, .int .u8 0, .int .u8 0, .int .u8 0, .int .u8 0, .int .u8 0, .int .u8 0, .int .u8 0, .int .u8 0, .int .u8 0, .int .u8 0, .int .u8 0, .int .u8 0, .int .u8 0, .int .u8 0, .int .u8 0, .int .u8 0, .int .u8 0, .int .u8 0, .int .u8 0, .int .u8 0, .int .u8 0, .int .u8 0, .int .u8 0, .int .u8 0] 23)).there u.heap.size 0 (R.map bv).length := fun u => Has.there (newKey u) 0 (R.map bv).length (by rw [List.length_map, hRl]; decide)
      have hu2 := Tryd.underlying23
      have hi2 : (Tryd.prog.info? 23).map (·.size) = some (R.map bv).length := by rw [List.length_map, hRl]; exact size_key
      have hone2 := one_bv R
      have HR := Lib.hid (And.intro hR hRl)
      have HX8' := Lib.hid HX8
      have HO8' := Lib.hid HO8
      have HQ8' := Lib.hid HQ8
      have hb8' := Lib.hid hb8
      clear hR hRl hTx HX8 HO8 HQ8 hb8 ho hoL htx
      go_region_held (fun _ => True) (trivial)
        (first
        | (go_at_call 13; with_reducible refine (KF.out _).mono ?_; rintro e w' ⟨rfl, rfl⟩)
        | (go_at_call 11; with_reducible refine (KM.out w8.drew HB0.out).mono ?_; rintro e w9 ⟨rfl, hb9⟩)
        | (go_at_call 11; with_reducible refine (KM.out _ HB1.out).mono ?_; rintro e w9 ⟨rfl, hb9⟩; have hth := HCT.out w9 (Has.keep HNK.out hb9 HNK.out.lt)))
      all_goals go_wp2_with fail
      all_goals (
        have hgt8 := HX8'.out.lt
        have hgo8 := HO8'.out.lt
        first
        | (change Code.wp _ _ _ _ ((w9.alloc (.cells #[.int .u8 0, .int .u8 0, .int .u8 0, .int .u8 0, .int .u8 0, .int .u8 0, .int .u8 0, .int .u8 0, .int .u8 0, .int .u8 0, .int .u8 0, .int .u8 0, .int .u8 0, .int .u8 0, .int .u8 0, .int .u8 0, .int .u8 0, .int .u8 0, .int .u8 0, .int .u8 0, .int .u8 0, .int .u8 0, .int .u8 0, .int .u8 0, .int .u8 0, .int .u8 0, .int .u8 0, .int .u8 0, .int .u8 0, .int .u8 0, .int .u8 0, .int .u8 0] 23)).setCells w9.heap.size 0 (R.map bv))
           have F := key_new (B := w8.heap.size) (a := w8) (HB0.out.trans (hb9.mono HB0.out.size)) (by have := hb9.size; exact this) HR.out.2
           have F2 := Lib.hid (And.intro (show gt < w9.heap.size from Nat.lt_of_lt_of_le hgt8 F.1) (And.intro F.2.1 (And.intro (HX8'.out.keep F.2.2 HX8'.out.lt) (And.intro (HO8'.out.keep F.2.2 HO8'.out.lt) (And.intro (HQ8'.out.keep F.2.2 HQ8'.out.lt) (hb8'.out.trans (F.2.2.mono hb8'.out.size)))))))
           clear F hb9 HB0 HCT HX8' HO8' HQ8' hb8'
           generalize ((w9.alloc (.cells #[.int .u8 0, .int .u8 0, .int .u8 0, .int .u8 0, .int .u8 0, .int .u8 0, .int .u8 0, .int .u8 0, .int .u8 0, .int .u8 0, .int .u8 0, .int .u8 0, .int .u8 0, .int .u8 0, .int .u8 0, .int .u8 0, .int .u8 0, .int .u8 0, .int .u8 0, .int .u8 0, .int .u8 0, .int .u8 0, .int .u8 0, .int .u8 0, .int .u8 0, .int .u8 0, .int .u8 0, .int .u8 0, .int .u8 0, .int .u8 0, .int .u8 0, .int .u8 0] 23)).setCells w9.heap.size 0 (R.map bv)) = wx at *
           generalize w9.heap.size = g9 at *)
        | (change Code.wp _ _ _ _ (w9.setCells w8.heap.size 0 (R.map bv))
           have F := key_put (B := w8.heap.size) (a := w8) (HB1.out.trans (hb9.mono HB1.out.size)) (HNK.out.keep hb9 HNK.out.lt) (Nat.le_refl _) HR.out.2
           have F2 := Lib.hid (And.intro (show gt < w8.heap.size from hgt8) (And.intro F.2.1 (And.intro (HX8'.out.keep F.2.2 HX8'.out.lt) (And.intro (HO8'.out.keep F.2.2 HO8'.out.lt) (And.intro (HQ8'.out.keep F.2.2 HQ8'.out.lt) (hb8'.out.trans (F.2.2.mono hb8'.out.size)))))))
           clear F hb9 HB0 HB1 HNK HCT HX8' HO8' HQ8' hb8' hth
           generalize (w9.setCells w8.heap.size 0 (R.map bv)) = wx at *
           generalize w8.heap.size = g9 at *)
        obtain ⟨hg9, H9, HX9, HO9, HQ9, hb9⟩ := F2.out
        clear F2 hgt8 hgo8 hal hi2 hone2 hu2
        have hS9 : Bytes wx.drew (some ⟨g9, 0, none⟩) 32 32 R := H9.bytes 32 HR.out.2 (by simp [maxLen])
        obtain ⟨kk, hkk⟩ : ∃ kk, kk = Nat.min 32 (n - p) := ⟨_, rfl⟩
        have HKK := Lib.hid hkk
        have hk2 : kk ≤ n - p := by rw [hkk]; exact Nat.min_le_right _ _
        have HFF := Lib.hid (show p + kk ≤ ((headN k l n j).map bv).length by rw [List.length_map, headN_len]; omega)
        have hp1 : (p : Int) ≤ (n : Int) := by omega
        have hnp : ¬ n = p := by omega
        clear hk2
        clear hkk
        go_region_law ((refine step_copy_has (by rfl) (.tmp 41) (.tmp 42) 25 25 (by rfl) 5 Tryd.underlying25 (by kernel_rfl) (w.heap.size + 1) p (n - p) (n - p) (by rfl) (some ⟨g9, 0, none⟩) 32 32 (by rfl) (R.map bv) hS9 5 _ (show Has wx.drew _ _ _ from HO9) kk HKK.out HFF.out (one_bv R) ?_; intro w11 o11 H11))
        have HE := Lib.hid (show splice ((headN k l n j).map bv) p ((R.map bv).take kk) = (headN k l n (j + 1)).map bv by
          rw [HR.out.1, HP.out]
          exact headN_next n j kk (by have := HP.out; omega) (by rw [HKK.out, HP.out]))
        rw [HE.out] at H11
        have HX11 : Has w11 gt 5 ((textN k l j (j + 1)).map bv) := Has.only (w := wx.drew) HX9 o11 (by omega)
        have HQ11 : Has w11 w.heap.size 23 (k.map bv) := Has.only (w := wx.drew) HQ9 o11 (by omega)
        have HK11 : Has w11 g9 23 (R.map bv) := Has.only (w := wx.drew) H9 o11 (by omega)
        have hb11 := o11.below hb9.drew (by omega)
        have hS11 := HK11.bytes 32 HR.out.2 (by simp [maxLen])
        have HRW := Lib.hid (show Row w11 (some ⟨g9, 0, none⟩) 32 32 (R.map bv) from hS11)
        have C1 := Lib.hid (show 32 = Nat.min 32 (m + 33) from (Nat.min_eq_left (by omega)).symm)
        have C2 := Lib.hid (show 0 + 32 ≤ ((textN k l j (j + 1)).map bv).length by rw [List.length_map, textN_len, HLM.out]; omega)
        have OB := Lib.hid (one_bv R)
        clear HE HKK HFF hp1 hnp hS9 hS11 H9 HX9 HO9 HQ9 hb9 HK11
        go_wp2_with ((with_reducible refine wpList_copy_has rfl (.tmp 44) (.tmp 45) 25 25 rfl 5 Tryd.underlying25 size_u8 gt 0 (m + 33) (m + 33) rfl (some ⟨g9, 0, none⟩) 32 32 rfl (R.map bv) HRW.out 5 _ HX11 32 C1.out C2.out OB.out ?_); intro w12 o12 H12)
        rw [show splice ((textN k l j (j + 1)).map bv) 0 ((R.map bv).take 32) = (textN k l (j + 1) (j + 1)).map bv by rw [HR.out.1]; exact textN_next j (j + 1)] at H12
        have HO12 := H11.only o12 (by omega)
        have HQ12 := HQ11.only o12 (by omega)
        have hb12 := o12.below hb11 (by omega)
        clear H11 HX11 HQ11 hb11 HRW C1 C2 OB
        go_roundw
        case rel => exact ⟨j + 1, p + 32, Lib.hid (by have := HP.out; omega), by omega, by go_num, HO12, H12, HQ12, hb12⟩
        case measure => simp [intOf]; omega)
    · have hend := headN_end (key := k) (info := l) n j (by have := HP.out; omega)
      rw [hend] at HO
      clear hend
      go_wp2_with fail
      go_ret
      exact ⟨rfl, HO, hb⟩
theorem ExpandIn (k : List UInt8) (hk : k.length = 32) (l : List UInt8) (m : Nat) (hl : l.length = m) (hm : m ≤ 70368744177600) (n : Nat) (hn1 : 1 ≤ n) (hn2 : n ≤ 8160) (w : World) (hT : Tab w) :
    Calls Tryd.prog 7 #[.agg (k.map bv).toArray, .string (str l), .int .i64 (n : Int)] w fun e w' => ∃ v, e = .returned v ∧ w'.ownsRow w.heap.size 5 1 v n ((expN k l n).map bv) ∧ Below w.heap.size w w' :=
  (ExpandHas k hk l m hl hm n hn1 hn2 w hT).mono fun e w' ⟨he, H, hb⟩ => ⟨_, he, own_has H (by omega) (expN_len n) (by unfold maxLen; omega), hb⟩
end derive
end Go.Proofs.YtcnpbgmdmifhaaaDoor
