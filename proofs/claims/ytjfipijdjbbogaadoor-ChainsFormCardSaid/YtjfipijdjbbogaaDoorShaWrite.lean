/-
  Contract of the method write of sha's digest.
-/
import Derived.Test.YtjfipijdjbbogaaDoorShaComp
import Derived.Deep.RegionHeldLaw
import Derived.Deep.RegionWith
namespace Go.Proofs.YtjfipijdjbbogaaDoor
open Go.ChangeShapes Go.WideShapes Go.ChangeAt Go.RowKit
set_option linter.unusedVariables false
set_option linter.unusedSimpArgs false

/-- What a digest's block holds. -/
def dcells (s : S8) (rest : List UInt8) (held len : Nat) : List Value := s.list.map uv ++ (rest.map bv ++ [.int .i64 (held : Int), .int .u64 (len : Int)])
section
variable {s s' : S8} {rest : List UInt8} {held len : Nat}
theorem dcells_len (h : rest.length = 64) : (dcells s rest held len).length = 74 := by simp [dcells, S8.list, h]
theorem dcells_72 (h : rest.length = 64) : (dcells s rest held len)[72]? = some (.int .i64 (held : Int)) := by
  rw [dcells, List.getElem?_append_right (by simp [S8.list]), List.getElem?_append_right (by simp [S8.list, h])]
  simp [S8.list, h]
theorem dcells_73 (h : rest.length = 64) : (dcells s rest held len)[73]? = some (.int .u64 (len : Int)) := by
  rw [dcells, List.getElem?_append_right (by simp [S8.list]), List.getElem?_append_right (by simp [S8.list, h])]
  simp [S8.list, h]
theorem dcells_set72 (h : rest.length = 64) (held' : Nat) : (dcells s rest held len).set 72 (.int .i64 (held' : Int)) = dcells s rest held' len := by
  rw [dcells, List.set_append_right _ _ (by simp [S8.list]), List.set_append_right _ _ (by simp [S8.list, h])]
  simp [S8.list, h, dcells]
theorem dcells_set73 (h : rest.length = 64) (len' : Nat) : (dcells s rest held len).set 73 (.int .u64 (len' : Int)) = dcells s rest held len' := by
  rw [dcells, List.set_append_right _ _ (by simp [S8.list]), List.set_append_right _ _ (by simp [S8.list, h])]
  simp [S8.list, h, dcells]
theorem dcells_hash : splice (dcells s rest held len) 0 (s'.list.map uv) = dcells s' rest held len := by
  simp [splice, dcells, S8.list]
theorem dcells_rest (h : rest.length = 64) (o : Nat) (xs : List UInt8) (hx : o + xs.length ≤ 64) : splice (dcells s rest held len) (8 + o) (xs.map bv) = dcells s (splice rest o xs) held len := by
  have e8 : (s.list.map uv).length = 8 := rfl
  simp only [splice, dcells, List.map_append, List.map_take, List.map_drop, List.length_map]
  rw [List.take_append, List.take_of_length_le (by rw [e8]; omega), e8, show 8 + o - 8 = o by omega, List.take_append_of_le_length (by simp [h]; omega)]
  rw [List.drop_append, List.drop_eq_nil_of_le (by rw [e8]; omega), e8, List.nil_append, show 8 + o + xs.length - 8 = o + xs.length by omega, List.drop_append_of_le_length (by simp [h]; omega)]
  simp
theorem dcells_at_rest (h : rest.length = 64) (o k : Nat) (hk : o + k ≤ 64) : ((dcells s rest held len).drop (8 + o)).take k = ((rest.drop o).take k).map bv := by
  have e8 : (s.list.map uv).length = 8 := rfl
  rw [dcells, List.drop_append, List.drop_eq_nil_of_le (by rw [e8]; omega), e8, List.nil_append, show 8 + o - 8 = o by omega, List.drop_append_of_le_length (by simp [h]; omega), List.take_append_of_le_length (by simp [h]; omega)]
  simp
theorem dcells_at : (dcells s rest held len)[0]? = some (.int .u32 (s.a : Int)) ∧ (dcells s rest held len)[1]? = some (.int .u32 (s.b : Int)) ∧ (dcells s rest held len)[2]? = some (.int .u32 (s.c : Int)) ∧ (dcells s rest held len)[3]? = some (.int .u32 (s.d : Int)) ∧
    (dcells s rest held len)[4]? = some (.int .u32 (s.e : Int)) ∧ (dcells s rest held len)[5]? = some (.int .u32 (s.f : Int)) ∧ (dcells s rest held len)[6]? = some (.int .u32 (s.g : Int)) ∧ (dcells s rest held len)[7]? = some (.int .u32 (s.h : Int)) := ⟨rfl, rfl, rfl, rfl, rfl, rfl, rfl, rfl⟩
theorem dcells_at_hash : ((dcells s rest held len).drop 0).take (s.list.map uv).length = s.list.map uv := by
  simp [dcells, S8.list]
end

/-- The state behind n blocks of l, from the state s on. -/
def blocksN (s : S8) (l : List UInt8) : Nat → S8
  | 0 => s
  | n + 1 => compN (blocksN s l n) ((l.drop (64 * n)).take 64)
theorem blocksN_ok {s : S8} (h : s.ok) (l : List UInt8) (n : Nat) : (blocksN s l n).ok := by
  cases n with
  | zero => exact h
  | succ n => exact addN_ok _ _
def sliceLen : Value → Nat
  | .slice _ n _ => n
  | _ => 0
theorem Row.rest {w : World} {b off n c : Nat} {xs : List Value} (h : Row w (some ⟨b, off, none⟩) n c xs) (k : Nat) (hk : k ≤ n) (A : Option Addr) (hA : A = some ⟨b, off + k, none⟩ ∨ (c = k ∧ A = some ⟨b, off, none⟩)) : Row w A (n - k) (c - k) (xs.drop k) := by
  rcases hA with rfl | ⟨rfl, rfl⟩
  · exact h.tail k hk
  · have h' := h.tail c hk
    have hn := h.2.1
    obtain ⟨h1, h2, h3, h0, h4⟩ := h'
    exact ⟨h1, h2, h3, fun h => (by cases h), fun h => absurd h (by omega)⟩
theorem Tab.save {g : Nat} {w w' : World} (h : Tab w) (ho : Save g w w') (hg : 3 ≠ g) : Tab w' := fun i hi => by
  have hb := World.block_lt_of_cell? w _ (h i hi)
  rw [← h i hi]
  simp only [World.cell?, ho.block _ hb hg]

namespace sha
set_option maxHeartbeats 800000 in
theorem write_short (g : Nat) (s : S8) (rest : List UInt8) (r len : Nat) (A : Option Addr) (n c : Nat) (l : List UInt8) (w : World) (hrest : rest.length = 64) (hr0 : 0 < r) (hrn : r + n < 64) (hlen : len < 18446744073709551616)
    (H : Has w g 93 (dcells s rest r len)) (hl : Bytes w A n c l) (hA : Off g A n) :
    Calls Tryd.prog 55 #[.pointer (some ⟨g, 0, none⟩), .slice A n c] w fun e w' => e = .returned (.tuple #[]) ∧ Has w' g 93 (dcells s (splice rest r l) (r + n) ((len + n) % 18446744073709551616)) ∧ Save g w w' := by
  have c73 := (H.cell 73).trans (dcells_73 hrest)
  have c72 := (H.cell 72).trans (dcells_72 hrest)
  have f73 := H.froz 73
  have hr0' : (0 : Int) < (r : Int) := by omega
  have hrr : (r : Int) ≤ 64 := by omega
  have h64 : ¬ 64 = r := by omega
  obtain ⟨len', hlen'⟩ : ∃ x, x = (len + n) % 18446744073709551616 := ⟨_, rfl⟩
  have e64 : IntKind.u64.wrap ((len : Int) + (n : Int)) = (len' : Int) := by simp only [IntKind.wrap_u64]; omega
  rw [← hlen']
  clear hlen' hlen
  go_enter Tryd.func55, Tryd.ntmps55
  go_wp2
  have H1 := H.set 73 (.int .u64 (len' : Int))
  rw [dcells_set73 hrest] at H1
  have o1 := Only.setCell w g 73 (.int .u64 (len' : Int))
  generalize w.setCell ⟨g, 73, none⟩ (.int .u64 (len' : Int)) = w1 at *
  have hl1 : Bytes w1 A n c l := Row.only hl o1 hA
  clear c73 c72 f73 e64
  have c72 := (H1.cell 72).trans (dcells_72 hrest)
  have C1 := Lib.hid (show n = Nat.min n (64 - r) by simp only [Nat.min_def]; split <;> omega)
  have C2 := Lib.hid (show 8 + r + n ≤ (dcells s rest r len').length by rw [dcells_len hrest]; omega)
  have E := Lib.hid (show splice (dcells s rest r len') (8 + r) ((l.map bv).take n) = dcells s (splice rest r l) r len' by
    rw [List.take_of_length_le (Nat.le_of_eq hl.1), dcells_rest hrest r l (by rw [hl.len]; omega)])
  have R := Lib.hid (show (splice rest r l).length = 64 by rw [length_splice _ _ _ (by rw [hl.len]; omega), hrest])
  go_region_held_law (fun w' => w'.cell? ⟨g, 72, none⟩ = some (.int .i64 (r : Int))) (first | exact c72 | exact c72')
    ((refine step_copy_has (by rfl) (.tmp 27) (.tmp 28) 52 52 (by rfl) 5 Tryd.underlying52 (by kernel_rfl) g (8 + r) (64 - r) (64 - r) (by rfl) A n c (by rfl) (l.map bv) hl1 93 _ H1 n C1.out C2.out (one_bv l) ?_; intro w2 o2 H2; rw [E.out] at H2; have c72' := (H2.cell 72).trans (dcells_72 R.out)))
  clear c72
  have f72 := H2.froz 72
  have hn64 : (n : Int) ≤ 64 := by omega
  have HF : Has (w2.setCell ⟨g, 72, none⟩ (.int .i64 ((r : Int) + (n : Int)))) g 93 (dcells s (splice rest r l) (r + n) len') := by
    rw [← dcells_set72 R.out (r + n)]
    exact H2.set 72 _
  have HG := Lib.hid HF
  have HS := Lib.hid ((o1.drew.trans o2).trans (Only.setCell w2 g 72 (.int .i64 ((r : Int) + (n : Int))))).save
  clear HF o1 o2
  go_wp2
  all_goals exact bodyPost_ret (v := .tuple #[]) (by simp [results, Tryd.results55, go_sem]) rfl ⟨rfl, HG.out, HS.out⟩
set_option maxHeartbeats 1000000 in
theorem write_zero (g : Nat) (s : S8) (rest : List UInt8) (len : Nat) (A : Option Addr) (n c : Nat) (l : List UInt8) (w : World) (hs : s.ok) (hrest : rest.length = 64) (hlen : len < 18446744073709551616)
    (H : Has w g 93 (dcells s rest 0 len)) (hl : Bytes w A n c l) (hA : Off g A n) (hT : Tab w) (hG : 3 ≠ g) :
    Calls Tryd.prog 55 #[.pointer (some ⟨g, 0, none⟩), .slice A n c] w fun e w' => e = .returned (.tuple #[]) ∧
      Has w' g 93 (dcells (blocksN s l (n / 64)) (splice rest 0 (l.drop (64 * (n / 64)))) (n % 64) ((len + n) % 18446744073709551616)) ∧ Save g w w' := by
  have hnl := hl.le
  have c73 := (H.cell 73).trans (dcells_73 hrest)
  have c72 := (H.cell 72).trans (dcells_72 hrest)
  have f73 := H.froz 73
  obtain ⟨len', hlen'⟩ : ∃ x, x = (len + n) % 18446744073709551616 := ⟨_, rfl⟩
  have e64 : IntKind.u64.wrap ((len : Int) + (n : Int)) = (len' : Int) := by simp only [IntKind.wrap_u64]; omega
  rw [← hlen']
  clear hlen' hlen
  go_enter Tryd.func55, Tryd.ntmps55
  go_wp2
  have H1 := H.set 73 (.int .u64 (len' : Int))
  rw [dcells_set73 hrest] at H1
  have o1 := Only.setCell w g 73 (.int .u64 (len' : Int))
  generalize w.setCell ⟨g, 73, none⟩ (.int .u64 (len' : Int)) = w1 at *
  have hl1 : Bytes w1 A n c l := Row.only hl o1 hA
  have hT1 : Tab w1 := hT.save o1.save hG
  have hS1 := o1.save
  clear c73 c72 f73 e64 o1
  go_loopw [1] (fun b wr => ∃ (j : Nat) (A' : Option Addr) (c' : Nat), 64 * j ≤ n ∧ b = .slice A' (n - 64 * j) c' ∧ Bytes wr A' (n - 64 * j) c' (l.drop (64 * j)) ∧ Off g A' (n - 64 * j) ∧ Has wr g 93 (dcells (blocksN s l j) rest 0 len') ∧ Save g w wr) (fun b _ => sliceLen b)
  case atStart => exact ⟨0, A, c, by omega, rfl, hl1, hA, H1, hS1⟩
  case round =>
    clear H1 hl1 hT1 hS1
    obtain ⟨j, A', c', hj, rfl, hl', hA', H, hS⟩ := hrel
    have hT' := hT.save hS hG
    obtain ⟨m, hm⟩ : ∃ m, m = n - 64 * j := ⟨_, rfl⟩
    rw [← hm] at hl' hA' ⊢
    by_cases h64 : 64 ≤ m
    · obtain ⟨b, off, rfl, hb, _⟩ := hl'.at_ (by omega)
      have hmc := hl'.2.1
      have h64' : (64 : Int) ≤ (m : Int) := by omega
      have h64c : (64 : Int) ≤ (c' : Int) := by omega
      have h64n : 64 ≤ c' := by omega
      have hok := blocksN_ok hs l j
      obtain ⟨t, ht⟩ : ∃ t, t = blocksN s l j := ⟨_, rfl⟩
      rw [← ht] at H hok
      have Ht := Lib.hid ht
      have Hm := Lib.hid hm
      clear ht hm
      obtain ⟨t1, ht1⟩ : ∃ t1, t1 = compN t ((l.drop (64 * j)).take 64) := ⟨_, rfl⟩
      have K0 := compress t b off c' _ wr.drew hok ((hl'.head 64 h64).keep (Below.refl _ _).drew) (hT'.keep (Below.refl _ _).drew)
      rw [← ht1] at K0
      have K := Lib.hid K0
      have Ht1 := Lib.hid ht1
      clear K0 ht1
      go_wp2
      have HS8 := Lib.hid (fun (w3 : World) (hb3 : Below wr.drew.heap.size wr.drew w3) => run_cells_has (P := Tryd.prog) (Has.keep (w := wr.drew) H hb3 H.lt) 0 (t1.list.map uv) (by rw [dcells_len hrest]; simp [S8.list]) (one_uv _))
      have D := dcells_at (s := t) (rest := rest) (held := 0) (len := len')
      have c0 := (H.cell 0).trans D.1
      have c1 := (H.cell 1).trans D.2.1
      have c2 := (H.cell 2).trans D.2.2.1
      have c3 := (H.cell 3).trans D.2.2.2.1
      have c4 := (H.cell 4).trans D.2.2.2.2.1
      have c5 := (H.cell 5).trans D.2.2.2.2.2.1
      have c6 := (H.cell 6).trans D.2.2.2.2.2.2.1
      have c7 := (H.cell 7).trans D.2.2.2.2.2.2.2
      clear D
      go_region_with (first | (go_at_call 61; refine (K.out).mono ?_; rintro e w3 ⟨rfl, hb3⟩; obtain ⟨w4, o4, H4, hst⟩ := HS8.out w3 hb3))
      rw [dcells_hash] at H4
      have hSV : Save g wr w4 := ((Save.refl g wr).drew.trans (Save.of_below hb3)).trans o4.save
      have hB : Bytes w4 (some ⟨b, off, none⟩) m c' (l.drop (64 * j)) := Row.save hl' hSV hA'
      have hSW := hS.trans hSV
      have hB' := Lib.hid (Row.rest hB 64 h64)
      clear c0 c1 c2 c3 c4 c5 c6 c7 hb3 o4 hst hT' hl' H hS hSV hB
      have fin : ∀ A'' : Option Addr, Row w4 A'' (m - 64) (c' - 64) (((l.drop (64 * j)).map bv).drop 64) → Bytes w4 A'' (n - 64 * (j + 1)) (c' - 64) (l.drop (64 * (j + 1))) := fun A'' h => by
        have e := Hm.out
        rw [← List.map_drop, List.drop_drop] at h
        rw [show n - 64 * (j + 1) = m - 64 by omega, show 64 * (j + 1) = 64 * j + 64 by omega]
        exact h
      have em : m - 64 = n - 64 * (j + 1) := by have := Hm.out; omega
      have hj1 : 64 * (j + 1) ≤ n := by have := Hm.out; omega
      have Em := Lib.hid em
      have Fin := Lib.hid fin
      clear em fin
      by_cases hc64 : c' = 64
      · go_wp2
        go_roundw
        case rel => exact ⟨j + 1, some ⟨b, off, none⟩, c' - 64, hj1, by rw [Em.out, hc64], Fin.out _ (hB'.out _ (.inr ⟨hc64, rfl⟩)), fun _ => hA' (by omega), by rw [blocksN, ← Ht.out, ← Ht1.out]; exact H4, hSW⟩
        case measure => simp [sliceLen]; omega
      · go_wp2
        go_roundw
        case rel => exact ⟨j + 1, some ⟨b, off + 64, none⟩, c' - 64, hj1, by rw [Em.out], Fin.out _ (hB'.out _ (.inl rfl)), fun _ p hp => by cases hp; exact hA' (by omega) ⟨b, off, none⟩ rfl, by rw [blocksN, ← Ht.out, ← Ht1.out]; exact H4, hSW⟩
        case measure => simp [sliceLen]; omega
    · have hm64 : (m : Int) < 64 := by omega
      have ej : j = n / 64 := by omega
      have emod : m = n % 64 := by omega
      subst ej
      have hxlen : (l.drop (64 * (n / 64))).length = m := hl'.len
      have C1 := Lib.hid (show m = Nat.min m 64 by simp only [Nat.min_def]; split <;> omega)
      have C2 := Lib.hid (show 8 + m ≤ (dcells (blocksN s l (n / 64)) rest 0 len').length by rw [dcells_len hrest]; omega)
      have E := Lib.hid (show splice (dcells (blocksN s l (n / 64)) rest 0 len') 8 (((l.drop (64 * (n / 64))).map bv).take m) = dcells (blocksN s l (n / 64)) (splice rest 0 (l.drop (64 * (n / 64)))) 0 len' by
        rw [List.take_of_length_le (by rw [List.length_map, hxlen]; omega)]
        exact dcells_rest hrest 0 _ (by rw [hxlen]; omega))
      have R := Lib.hid (show (splice rest 0 (l.drop (64 * (n / 64)))).length = 64 by rw [length_splice _ _ _ (by rw [hxlen]; omega), hrest])
      have Em := Lib.hid emod
      have Hm := Lib.hid hm
      have RW := Lib.hid (show Row wr A' m c' ((l.drop (64 * (n / 64))).map bv) from hl')
      clear hm emod hxlen
      go_wp2_with ((with_reducible refine wpList_copy_has rfl (.tmp 77) (.tmp 78) 52 52 rfl 5 Tryd.underlying52 (by kernel_rfl) g 8 64 64 rfl A' m c' rfl ((l.drop (64 * (n / 64))).map bv) RW.out 93 _ H m C1.out C2.out (one_bv _) ?_); intro w5 o5 H5; rw [E.out] at H5; have c72 := (H5.cell 72).trans (dcells_72 R.out); have f72 := H5.froz 72)
      have HF : Has (w5.setCell ⟨g, 72, none⟩ (.int .i64 (m : Int))) g 93 (dcells (blocksN s l (n / 64)) (splice rest 0 (l.drop (64 * (n / 64)))) m len') := by
        rw [← dcells_set72 R.out m]
        exact H5.set 72 _
      rw [Em.out] at HF
      have HS := (hS.trans o5.save).trans (Only.setCell w5 g 72 (.int .i64 (m : Int))).save
      rw [Em.out] at HS ⊢
      exact bodyPost_end (v := .tuple #[]) (by simp [results, Tryd.results55, go_sem]) rfl ⟨rfl, HF, HS⟩
set_option maxHeartbeats 1600000 in
theorem write_join (g : Nat) (s s1 : S8) (rest rest1 : List UInt8) (r k len : Nat) (A : Option Addr) (n n1 c : Nat) (l l1 : List UInt8) (w : World) (hs : s.ok) (hrest : rest.length = 64) (hr0 : 0 < r) (hr64 : r < 64) (hk : k = 64 - r) (hrn : 64 ≤ r + n) (hlen : len < 18446744073709551616)
    (hrest1 : rest1 = splice rest r (l.take k)) (hs1 : s1 = compN s rest1) (hl1 : l1 = l.drop k) (hn1 : n1 = n - k)
    (H : Has w g 93 (dcells s rest r len)) (hl : Bytes w A n c l) (hA : Off g A n) (hT : Tab w) (hG : 3 ≠ g) :
    Calls Tryd.prog 55 #[.pointer (some ⟨g, 0, none⟩), .slice A n c] w fun e w' => e = .returned (.tuple #[]) ∧
      Has w' g 93 (dcells (blocksN s1 l1 (n1 / 64)) (splice rest1 0 (l1.drop (64 * (n1 / 64)))) (n1 % 64) ((len + n) % 18446744073709551616)) ∧ Save g w w' := by
  obtain ⟨b, off, rfl, _, _⟩ := hl.at_ (by omega)
  have hnl := hl.le
  have hnc := hl.2.1
  have c73 := (H.cell 73).trans (dcells_73 hrest)
  have c72 := (H.cell 72).trans (dcells_72 hrest)
  have f73 := H.froz 73
  have hr0' : (0 : Int) < (r : Int) := by omega
  have hrr : (r : Int) ≤ 64 := by omega
  have h64 : ¬ 64 = r := by omega
  have hltl : (l.take k).length = k := by rw [List.length_take, hl.len]; omega
  have R1 : rest1.length = 64 := by rw [hrest1, length_splice _ _ _ (by rw [hltl]; omega), hrest]
  have hs1ok : s1.ok := hs1 ▸ addN_ok _ _
  obtain ⟨len', hlen'⟩ : ∃ x, x = (len + n) % 18446744073709551616 := ⟨_, rfl⟩
  have e64 : IntKind.u64.wrap ((len : Int) + (n : Int)) = (len' : Int) := by simp only [IntKind.wrap_u64]; omega
  have C1 := Lib.hid (show k = Nat.min n (64 - r) by simp only [Nat.min_def]; split <;> omega)
  have C2 := Lib.hid (show 8 + r + k ≤ (dcells s rest r len').length by rw [dcells_len hrest]; omega)
  have E := Lib.hid (show splice (dcells s rest r len') (8 + r) ((l.map bv).take k) = dcells s rest1 r len' by
    rw [← List.map_take, dcells_rest hrest r _ (by rw [hltl]; omega), hrest1])
  have hkn : (k : Int) ≤ (n : Int) := by omega
  have hkc : (k : Int) ≤ (c : Int) := by omega
  have hrk : (r : Int) + (k : Int) = 64 := by omega
  have hkn' : k ≤ n := by omega
  have Hn1 := Lib.hid hn1
  have Hl1 := Lib.hid hl1
  have Hs1 := Lib.hid hs1
  rw [← hlen']
  clear hlen' hlen hn1 hl1 hs1 hrest1 hk hltl
  go_enter Tryd.func55, Tryd.ntmps55
  go_wp2
  have H1 := H.set 73 (.int .u64 (len' : Int))
  rw [dcells_set73 hrest] at H1
  have o1 := Only.setCell w g 73 (.int .u64 (len' : Int))
  generalize w.setCell ⟨g, 73, none⟩ (.int .u64 (len' : Int)) = w1 at *
  have hl1 : Bytes w1 (some ⟨b, off, none⟩) n c l := Row.only hl o1 hA
  clear c73 c72 f73 e64
  have c72 := (H1.cell 72).trans (dcells_72 hrest)
  go_region_held_law (fun w' => w'.cell? ⟨g, 72, none⟩ = some (.int .i64 (r : Int))) (first | exact c72 | exact c72')
    ((refine step_copy_has (by rfl) (.tmp 27) (.tmp 28) 52 52 (by rfl) 5 Tryd.underlying52 (by kernel_rfl) g (8 + r) (64 - r) (64 - r) (by rfl) (some ⟨b, off, none⟩) n c (by rfl) (l.map bv) hl1 93 _ H1 k C1.out C2.out (one_bv l) ?_; intro w2 o2 H2; rw [E.out] at H2; have c72' := (H2.cell 72).trans (dcells_72 R1)))
  clear c72
  have f72 := H2.froz 72
  have H3 : Has (w2.setCell ⟨g, 72, none⟩ (.int .i64 64)) g 93 (dcells s rest1 64 len') := by
    rw [← dcells_set72 R1 64]
    exact H2.set 72 _
  have hS3 : Save g w (w2.setCell ⟨g, 72, none⟩ (.int .i64 64)) := ((o1.drew.trans o2).trans (Only.setCell w2 g 72 _)).save
  have HX := Lib.hid (And.intro H3 hS3)
  have HB := Lib.hid (fun (w5 : World) (hS : Save g w w5) => Row.rest (Row.save hl hS hA) k hkn')
  have HR1 := Lib.hid R1
  have HT := Lib.hid hT
  have HA := Lib.hid (hA (by omega) ⟨b, off, none⟩ rfl)
  have HC := Lib.hid (show n1 ≤ 9223372036854775807 by have := Hn1.out; omega)
  clear H3 hS3 o1 o2 H1 hl1 H hl C1 C2 E R1 hT hA
  have HN := Lib.hid (And.intro hnc hkn')
  by_cases hck : c = k
  · subst hck
    go_wp2
    obtain ⟨H3, hS3⟩ := HX.out
    generalize w2.setCell ⟨g, 72, none⟩ (.int .i64 64) = w3 at *
    have D := dcells_at (s := s) (rest := rest1) (held := 64) (len := len')
    have c0 := (H3.cell 0).trans D.1
    have c1 := (H3.cell 1).trans D.2.1
    have c2 := (H3.cell 2).trans D.2.2.1
    have c3 := (H3.cell 3).trans D.2.2.2.1
    have c4 := (H3.cell 4).trans D.2.2.2.2.1
    have c5 := (H3.cell 5).trans D.2.2.2.2.2.1
    have c6 := (H3.cell 6).trans D.2.2.2.2.2.2.1
    have c7 := (H3.cell 7).trans D.2.2.2.2.2.2.2
    have hRB : Bytes w3 (some ⟨g, 8, none⟩) 64 64 rest1 := by
      have h := Has.row H3 (8 + 0) 64 64 (by rw [dcells_len HR1.out]; omega) (Nat.le_refl _) (by simp [maxLen])
      rw [dcells_at_rest HR1.out 0 64 (by omega), List.drop_zero, List.take_of_length_le (by rw [HR1.out]; omega)] at h
      exact h
    have K0 := compress s g 8 64 rest1 w3.drew hs (hRB.keep (Below.refl _ _).drew) ((HT.out.save hS3 hG).keep (Below.refl _ _).drew)
    rw [← Hs1.out] at K0
    have K := Lib.hid K0
    have HS8 := Lib.hid (fun (w4 : World) (hb4 : Below w3.drew.heap.size w3.drew w4) => run_cells_has (P := Tryd.prog) (Has.keep (w := w3.drew) H3 hb4 H3.lt) 0 (s1.list.map uv) (by rw [dcells_len HR1.out]; simp [S8.list]) (one_uv _))
    clear D hRB K0
    go_region_with (first | (go_at_call 61; refine (K.out).mono ?_; rintro e w4 ⟨rfl, hb4⟩; obtain ⟨w5, o5, H5, hst⟩ := HS8.out w4 hb4))
    rw [dcells_hash] at H5
    have hS5 : Save g w w5 := ((hS3.drew).trans (Save.of_below hb4)).trans o5.save
    have hB1 := HB.out w5 hS5 (some ⟨b, off, none⟩) (.inr (by simp))
    have hA1 : Off g (some ⟨b, off, none⟩) n1 := fun _ p hp => by cases hp; exact HA.out
    have hrest1 := HR1.out
    have hnl1 := HC.out
    clear HX HB K HS8 c0 c1 c2 c3 c4 c5 c6 c7 hb4 o5 hst H3 hS3 H2
    have hs1 := hs1ok
    clear hs1ok hr0' hrr h64 hkn hkc hrk hkn' hnl hnc f72 hr0 hr64 hrn hrest hs
    go_wp2
    go_loopw [1] (fun b wr => ∃ (j : Nat) (A' : Option Addr) (c' : Nat), 64 * j ≤ n1 ∧ b = .slice A' (n1 - 64 * j) c' ∧ Bytes wr A' (n1 - 64 * j) c' (l1.drop (64 * j)) ∧ Off g A' (n1 - 64 * j) ∧ Has wr g 93 (dcells (blocksN s1 l1 j) rest1 64 len') ∧ Save g w wr) (fun b _ => sliceLen b)
    case atStart => exact ⟨0, some ⟨b, off, none⟩, c - c, by omega, by rw [Nat.mul_zero, Nat.sub_zero, Nat.sub_self, show n1 = 0 by have := Hn1.out; have := HN.out; omega], by rw [Nat.mul_zero, Nat.sub_zero, List.drop_zero, Hn1.out, Hl1.out]; rw [← List.map_drop] at hB1; exact hB1, hA1, H5, hS5⟩
    case round =>
      clear H5 hB1 hA1 hS5
      obtain ⟨j, A', c', hj, rfl, hl', hA', H, hS⟩ := hrel
      have hT' := HT.out.save hS hG
      obtain ⟨m, hm⟩ : ∃ m, m = n1 - 64 * j := ⟨_, rfl⟩
      rw [← hm] at hl' hA' ⊢
      by_cases h64 : 64 ≤ m
      · obtain ⟨b, off, rfl, hb, _⟩ := hl'.at_ (by omega)
        have hmc := hl'.2.1
        have h64' : (64 : Int) ≤ (m : Int) := by omega
        have h64c : (64 : Int) ≤ (c' : Int) := by omega
        have h64n : 64 ≤ c' := by omega
        have hok := blocksN_ok hs1 l1 j
        obtain ⟨t, ht⟩ : ∃ t, t = blocksN s1 l1 j := ⟨_, rfl⟩
        rw [← ht] at H hok
        have Ht := Lib.hid ht
        have Hm := Lib.hid hm
        clear ht hm
        obtain ⟨t1, ht1⟩ : ∃ t1, t1 = compN t ((l1.drop (64 * j)).take 64) := ⟨_, rfl⟩
        have K0 := compress t b off c' _ wr.drew hok ((hl'.head 64 h64).keep (Below.refl _ _).drew) (hT'.keep (Below.refl _ _).drew)
        rw [← ht1] at K0
        have K := Lib.hid K0
        have Ht1 := Lib.hid ht1
        clear K0 ht1
        go_wp2
        have HS8 := Lib.hid (fun (w3 : World) (hb3 : Below wr.drew.heap.size wr.drew w3) => run_cells_has (P := Tryd.prog) (Has.keep (w := wr.drew) H hb3 H.lt) 0 (t1.list.map uv) (by rw [dcells_len hrest1]; simp [S8.list]) (one_uv _))
        have D := dcells_at (s := t) (rest := rest1) (held := 64) (len := len')
        have c0 := (H.cell 0).trans D.1
        have c1 := (H.cell 1).trans D.2.1
        have c2 := (H.cell 2).trans D.2.2.1
        have c3 := (H.cell 3).trans D.2.2.2.1
        have c4 := (H.cell 4).trans D.2.2.2.2.1
        have c5 := (H.cell 5).trans D.2.2.2.2.2.1
        have c6 := (H.cell 6).trans D.2.2.2.2.2.2.1
        have c7 := (H.cell 7).trans D.2.2.2.2.2.2.2
        clear D
        go_region_with (first | (go_at_call 61; refine (K.out).mono ?_; rintro e w3 ⟨rfl, hb3⟩; obtain ⟨w4, o4, H4, hst⟩ := HS8.out w3 hb3))
        rw [dcells_hash] at H4
        have hSV : Save g wr w4 := ((Save.refl g wr).drew.trans (Save.of_below hb3)).trans o4.save
        have hB : Bytes w4 (some ⟨b, off, none⟩) m c' (l1.drop (64 * j)) := Row.save hl' hSV hA'
        have hSW := hS.trans hSV
        have hB' := Lib.hid (Row.rest hB 64 h64)
        clear c0 c1 c2 c3 c4 c5 c6 c7 hb3 o4 hst hT' hl' H hS hSV hB
        have fin : ∀ A'' : Option Addr, Row w4 A'' (m - 64) (c' - 64) (((l1.drop (64 * j)).map bv).drop 64) → Bytes w4 A'' (n1 - 64 * (j + 1)) (c' - 64) (l1.drop (64 * (j + 1))) := fun A'' h => by
          have e := Hm.out
          rw [← List.map_drop, List.drop_drop] at h
          rw [show n1 - 64 * (j + 1) = m - 64 by omega, show 64 * (j + 1) = 64 * j + 64 by omega]
          exact h
        have em : m - 64 = n1 - 64 * (j + 1) := by have := Hm.out; omega
        have hj1 : 64 * (j + 1) ≤ n1 := by have := Hm.out; omega
        have Em := Lib.hid em
        have Fin := Lib.hid fin
        clear em fin
        by_cases hc64 : c' = 64
        · go_wp2
          go_roundw
          case rel => exact ⟨j + 1, some ⟨b, off, none⟩, c' - 64, hj1, by rw [Em.out, hc64], Fin.out _ (hB'.out _ (.inr ⟨hc64, rfl⟩)), fun _ => hA' (by omega), by rw [blocksN, ← Ht.out, ← Ht1.out]; exact H4, hSW⟩
          case measure => simp [sliceLen]; omega
        · go_wp2
          go_roundw
          case rel => exact ⟨j + 1, some ⟨b, off + 64, none⟩, c' - 64, hj1, by rw [Em.out], Fin.out _ (hB'.out _ (.inl rfl)), fun _ p hp => by cases hp; exact hA' (by omega) ⟨b, off, none⟩ rfl, by rw [blocksN, ← Ht.out, ← Ht1.out]; exact H4, hSW⟩
          case measure => simp [sliceLen]; omega
      · have hm64 : (m : Int) < 64 := by omega
        have ej : j = n1 / 64 := by omega
        have emod : m = n1 % 64 := by omega
        subst ej
        have hxlen : (l1.drop (64 * (n1 / 64))).length = m := hl'.len
        have C1 := Lib.hid (show m = Nat.min m 64 by simp only [Nat.min_def]; split <;> omega)
        have C2 := Lib.hid (show 8 + m ≤ (dcells (blocksN s1 l1 (n1 / 64)) rest1 64 len').length by rw [dcells_len hrest1]; omega)
        have E := Lib.hid (show splice (dcells (blocksN s1 l1 (n1 / 64)) rest1 64 len') 8 (((l1.drop (64 * (n1 / 64))).map bv).take m) = dcells (blocksN s1 l1 (n1 / 64)) (splice rest1 0 (l1.drop (64 * (n1 / 64)))) 64 len' by
          rw [List.take_of_length_le (by rw [List.length_map, hxlen]; omega)]
          exact dcells_rest hrest1 0 _ (by rw [hxlen]; omega))
        have R := Lib.hid (show (splice rest1 0 (l1.drop (64 * (n1 / 64)))).length = 64 by rw [length_splice _ _ _ (by rw [hxlen]; omega), hrest1])
        have Em := Lib.hid emod
        have Hm := Lib.hid hm
        have RW := Lib.hid (show Row wr A' m c' ((l1.drop (64 * (n1 / 64))).map bv) from hl')
        clear hm emod hxlen
        go_wp2_with ((with_reducible refine wpList_copy_has rfl (.tmp 77) (.tmp 78) 52 52 rfl 5 Tryd.underlying52 (by kernel_rfl) g 8 64 64 rfl A' m c' rfl ((l1.drop (64 * (n1 / 64))).map bv) RW.out 93 _ H m C1.out C2.out (one_bv _) ?_); intro w5 o5 H5; rw [E.out] at H5; have c72 := (H5.cell 72).trans (dcells_72 R.out); have f72 := H5.froz 72)
        have HF : Has (w5.setCell ⟨g, 72, none⟩ (.int .i64 (m : Int))) g 93 (dcells (blocksN s1 l1 (n1 / 64)) (splice rest1 0 (l1.drop (64 * (n1 / 64)))) m len') := by
          rw [← dcells_set72 R.out m]
          exact H5.set 72 _
        rw [Em.out] at HF
        have HS := (hS.trans o5.save).trans (Only.setCell w5 g 72 (.int .i64 (m : Int))).save
        rw [Em.out] at HS ⊢
        exact bodyPost_end (v := .tuple #[]) (by simp [results, Tryd.results55, go_sem]) rfl ⟨rfl, HF, HS⟩
  · have hck' : ¬ c = k := hck
    go_wp2
    obtain ⟨H3, hS3⟩ := HX.out
    generalize w2.setCell ⟨g, 72, none⟩ (.int .i64 64) = w3 at *
    have D := dcells_at (s := s) (rest := rest1) (held := 64) (len := len')
    have c0 := (H3.cell 0).trans D.1
    have c1 := (H3.cell 1).trans D.2.1
    have c2 := (H3.cell 2).trans D.2.2.1
    have c3 := (H3.cell 3).trans D.2.2.2.1
    have c4 := (H3.cell 4).trans D.2.2.2.2.1
    have c5 := (H3.cell 5).trans D.2.2.2.2.2.1
    have c6 := (H3.cell 6).trans D.2.2.2.2.2.2.1
    have c7 := (H3.cell 7).trans D.2.2.2.2.2.2.2
    have hRB : Bytes w3 (some ⟨g, 8, none⟩) 64 64 rest1 := by
      have h := Has.row H3 (8 + 0) 64 64 (by rw [dcells_len HR1.out]; omega) (Nat.le_refl _) (by simp [maxLen])
      rw [dcells_at_rest HR1.out 0 64 (by omega), List.drop_zero, List.take_of_length_le (by rw [HR1.out]; omega)] at h
      exact h
    have K0 := compress s g 8 64 rest1 w3.drew hs (hRB.keep (Below.refl _ _).drew) ((HT.out.save hS3 hG).keep (Below.refl _ _).drew)
    rw [← Hs1.out] at K0
    have K := Lib.hid K0
    have HS8 := Lib.hid (fun (w4 : World) (hb4 : Below w3.drew.heap.size w3.drew w4) => run_cells_has (P := Tryd.prog) (Has.keep (w := w3.drew) H3 hb4 H3.lt) 0 (s1.list.map uv) (by rw [dcells_len HR1.out]; simp [S8.list]) (one_uv _))
    clear D hRB K0
    go_region_with (first | (go_at_call 61; refine (K.out).mono ?_; rintro e w4 ⟨rfl, hb4⟩; obtain ⟨w5, o5, H5, hst⟩ := HS8.out w4 hb4))
    rw [dcells_hash] at H5
    have hS5 : Save g w w5 := ((hS3.drew).trans (Save.of_below hb4)).trans o5.save
    have hB1 := HB.out w5 hS5 (some ⟨b, off + k, none⟩) (.inl rfl)
    have hA1 : Off g (some ⟨b, off + k, none⟩) n1 := fun _ p hp => by cases hp; exact HA.out
    have hrest1 := HR1.out
    have hnl1 := HC.out
    clear HX HB K HS8 c0 c1 c2 c3 c4 c5 c6 c7 hb4 o5 hst H3 hS3 H2
    have hs1 := hs1ok
    clear hs1ok hr0' hrr h64 hkn hkc hrk hkn' hnl hnc f72 hr0 hr64 hrn hrest hs
    go_wp2
    go_loopw [1] (fun b wr => ∃ (j : Nat) (A' : Option Addr) (c' : Nat), 64 * j ≤ n1 ∧ b = .slice A' (n1 - 64 * j) c' ∧ Bytes wr A' (n1 - 64 * j) c' (l1.drop (64 * j)) ∧ Off g A' (n1 - 64 * j) ∧ Has wr g 93 (dcells (blocksN s1 l1 j) rest1 64 len') ∧ Save g w wr) (fun b _ => sliceLen b)
    case atStart => exact ⟨0, some ⟨b, off + k, none⟩, c - k, by omega, by rw [Nat.mul_zero, Nat.sub_zero, Hn1.out], by rw [Nat.mul_zero, Nat.sub_zero, List.drop_zero, Hn1.out, Hl1.out]; rw [← List.map_drop] at hB1; exact hB1, hA1, H5, hS5⟩
    case round =>
      clear H5 hB1 hA1 hS5
      obtain ⟨j, A', c', hj, rfl, hl', hA', H, hS⟩ := hrel
      have hT' := HT.out.save hS hG
      obtain ⟨m, hm⟩ : ∃ m, m = n1 - 64 * j := ⟨_, rfl⟩
      rw [← hm] at hl' hA' ⊢
      by_cases h64 : 64 ≤ m
      · obtain ⟨b, off, rfl, hb, _⟩ := hl'.at_ (by omega)
        have hmc := hl'.2.1
        have h64' : (64 : Int) ≤ (m : Int) := by omega
        have h64c : (64 : Int) ≤ (c' : Int) := by omega
        have h64n : 64 ≤ c' := by omega
        have hok := blocksN_ok hs1 l1 j
        obtain ⟨t, ht⟩ : ∃ t, t = blocksN s1 l1 j := ⟨_, rfl⟩
        rw [← ht] at H hok
        have Ht := Lib.hid ht
        have Hm := Lib.hid hm
        clear ht hm
        obtain ⟨t1, ht1⟩ : ∃ t1, t1 = compN t ((l1.drop (64 * j)).take 64) := ⟨_, rfl⟩
        have K0 := compress t b off c' _ wr.drew hok ((hl'.head 64 h64).keep (Below.refl _ _).drew) (hT'.keep (Below.refl _ _).drew)
        rw [← ht1] at K0
        have K := Lib.hid K0
        have Ht1 := Lib.hid ht1
        clear K0 ht1
        go_wp2
        have HS8 := Lib.hid (fun (w3 : World) (hb3 : Below wr.drew.heap.size wr.drew w3) => run_cells_has (P := Tryd.prog) (Has.keep (w := wr.drew) H hb3 H.lt) 0 (t1.list.map uv) (by rw [dcells_len hrest1]; simp [S8.list]) (one_uv _))
        have D := dcells_at (s := t) (rest := rest1) (held := 64) (len := len')
        have c0 := (H.cell 0).trans D.1
        have c1 := (H.cell 1).trans D.2.1
        have c2 := (H.cell 2).trans D.2.2.1
        have c3 := (H.cell 3).trans D.2.2.2.1
        have c4 := (H.cell 4).trans D.2.2.2.2.1
        have c5 := (H.cell 5).trans D.2.2.2.2.2.1
        have c6 := (H.cell 6).trans D.2.2.2.2.2.2.1
        have c7 := (H.cell 7).trans D.2.2.2.2.2.2.2
        clear D
        go_region_with (first | (go_at_call 61; refine (K.out).mono ?_; rintro e w3 ⟨rfl, hb3⟩; obtain ⟨w4, o4, H4, hst⟩ := HS8.out w3 hb3))
        rw [dcells_hash] at H4
        have hSV : Save g wr w4 := ((Save.refl g wr).drew.trans (Save.of_below hb3)).trans o4.save
        have hB : Bytes w4 (some ⟨b, off, none⟩) m c' (l1.drop (64 * j)) := Row.save hl' hSV hA'
        have hSW := hS.trans hSV
        have hB' := Lib.hid (Row.rest hB 64 h64)
        clear c0 c1 c2 c3 c4 c5 c6 c7 hb3 o4 hst hT' hl' H hS hSV hB
        have fin : ∀ A'' : Option Addr, Row w4 A'' (m - 64) (c' - 64) (((l1.drop (64 * j)).map bv).drop 64) → Bytes w4 A'' (n1 - 64 * (j + 1)) (c' - 64) (l1.drop (64 * (j + 1))) := fun A'' h => by
          have e := Hm.out
          rw [← List.map_drop, List.drop_drop] at h
          rw [show n1 - 64 * (j + 1) = m - 64 by omega, show 64 * (j + 1) = 64 * j + 64 by omega]
          exact h
        have em : m - 64 = n1 - 64 * (j + 1) := by have := Hm.out; omega
        have hj1 : 64 * (j + 1) ≤ n1 := by have := Hm.out; omega
        have Em := Lib.hid em
        have Fin := Lib.hid fin
        clear em fin
        by_cases hc64 : c' = 64
        · go_wp2
          go_roundw
          case rel => exact ⟨j + 1, some ⟨b, off, none⟩, c' - 64, hj1, by rw [Em.out, hc64], Fin.out _ (hB'.out _ (.inr ⟨hc64, rfl⟩)), fun _ => hA' (by omega), by rw [blocksN, ← Ht.out, ← Ht1.out]; exact H4, hSW⟩
          case measure => simp [sliceLen]; omega
        · go_wp2
          go_roundw
          case rel => exact ⟨j + 1, some ⟨b, off + 64, none⟩, c' - 64, hj1, by rw [Em.out], Fin.out _ (hB'.out _ (.inl rfl)), fun _ p hp => by cases hp; exact hA' (by omega) ⟨b, off, none⟩ rfl, by rw [blocksN, ← Ht.out, ← Ht1.out]; exact H4, hSW⟩
          case measure => simp [sliceLen]; omega
      · have hm64 : (m : Int) < 64 := by omega
        have ej : j = n1 / 64 := by omega
        have emod : m = n1 % 64 := by omega
        subst ej
        have hxlen : (l1.drop (64 * (n1 / 64))).length = m := hl'.len
        have C1 := Lib.hid (show m = Nat.min m 64 by simp only [Nat.min_def]; split <;> omega)
        have C2 := Lib.hid (show 8 + m ≤ (dcells (blocksN s1 l1 (n1 / 64)) rest1 64 len').length by rw [dcells_len hrest1]; omega)
        have E := Lib.hid (show splice (dcells (blocksN s1 l1 (n1 / 64)) rest1 64 len') 8 (((l1.drop (64 * (n1 / 64))).map bv).take m) = dcells (blocksN s1 l1 (n1 / 64)) (splice rest1 0 (l1.drop (64 * (n1 / 64)))) 64 len' by
          rw [List.take_of_length_le (by rw [List.length_map, hxlen]; omega)]
          exact dcells_rest hrest1 0 _ (by rw [hxlen]; omega))
        have R := Lib.hid (show (splice rest1 0 (l1.drop (64 * (n1 / 64)))).length = 64 by rw [length_splice _ _ _ (by rw [hxlen]; omega), hrest1])
        have Em := Lib.hid emod
        have Hm := Lib.hid hm
        have RW := Lib.hid (show Row wr A' m c' ((l1.drop (64 * (n1 / 64))).map bv) from hl')
        clear hm emod hxlen
        go_wp2_with ((with_reducible refine wpList_copy_has rfl (.tmp 77) (.tmp 78) 52 52 rfl 5 Tryd.underlying52 (by kernel_rfl) g 8 64 64 rfl A' m c' rfl ((l1.drop (64 * (n1 / 64))).map bv) RW.out 93 _ H m C1.out C2.out (one_bv _) ?_); intro w5 o5 H5; rw [E.out] at H5; have c72 := (H5.cell 72).trans (dcells_72 R.out); have f72 := H5.froz 72)
        have HF : Has (w5.setCell ⟨g, 72, none⟩ (.int .i64 (m : Int))) g 93 (dcells (blocksN s1 l1 (n1 / 64)) (splice rest1 0 (l1.drop (64 * (n1 / 64)))) m len') := by
          rw [← dcells_set72 R.out m]
          exact H5.set 72 _
        rw [Em.out] at HF
        have HS := (hS.trans o5.save).trans (Only.setCell w5 g 72 (.int .i64 (m : Int))).save
        rw [Em.out] at HS ⊢
        exact bodyPost_end (v := .tuple #[]) (by simp [results, Tryd.results55, go_sem]) rfl ⟨rfl, HF, HS⟩
end sha
end Go.Proofs.YtjfipijdjbbogaaDoor
