/-
  bytes.Join with no separator, of two parts or more.
-/
import Derived.Test.YtiilgkajijnbcaaLow
import Derived.Shelf.Bytes.SlJoin
namespace Go.Proofs.Ytiilgkajijnbcaa
open Go.ChangeShapes Go.WideShapes Go.ChangeAt Go.RowKit
set_option linter.unusedVariables false
set_option linter.unusedSimpArgs false

/-- How this program numbers what bytes.Join reaches. -/
def joinRen : Go.Shelf.Ren := ⟨fun | 14 => 37 | 15 => 68 | n => n, fun | 0 => 0 | 3 => 3 | 4 => 4 | 9 => 9 | 20 => 20 | 22 => 25 | 26 => 77 | 5 => 5 | n => n, fun n => n⟩
theorem joinLays : SlLaysJ.n14 Try.prog joinRen := {
  mixed := by kernel_rfl,
  f14 := Try.func37.trans (congrArg some (by kernel_rfl)),
  f15 := Try.func68.trans (congrArg some (by kernel_rfl)),
  t0 := Try.underlying0, a0 := Try.isAgg0, z0 := Try.sizeOf0, v0 := Try.zeroValue0,
  t3 := Try.underlying3, a3 := Try.isAgg3, z3 := Try.sizeOf3, v3 := Try.zeroValue3,
  t4 := Try.underlying4, a4 := Try.isAgg4, z4 := Try.sizeOf4, v4 := Try.zeroValue4,
  t9 := Try.underlying9, a9 := Try.isAgg9, z9 := Try.sizeOf9, v9 := Try.zeroValue9,
  t20 := Try.underlying20, a20 := Try.isAgg20, z20 := Try.sizeOf20, v20 := Try.zeroValue20,
  t22 := Try.underlying25, a22 := Try.isAgg25, z22 := Try.sizeOf25, v22 := Try.zeroValue25,
  t26 := Try.underlying77, a26 := Try.isAgg77, z26 := Try.sizeOf77, v26 := Try.zeroValue77,
  t5 := Try.underlying5, z5 := Try.sizeOf5,
  i5 := by kernel_rfl }

/-! ### Parts -/
structure Pc where
  A : Option Addr
  n : Nat
  c : Nat
  l : List UInt8
instance : Inhabited Pc := ⟨⟨none, 0, 0, []⟩⟩
def Pc.val (p : Pc) : Value := .slice p.A p.n p.c
def PcsAt (w : World) (A : Option Addr) (n c : Nat) (ps : List Pc) : Prop := Row w A n c (ps.map Pc.val) ∧ ∀ p ∈ ps, Bytes w p.A p.n p.c p.l
def catP (ps : List Pc) : List UInt8 := ps.flatMap Pc.l
theorem join_cat (ls : List (List UInt8)) : Lib.join ls [] = ls.flatten := by
  cases ls with
  | nil => rfl
  | cons x r =>
    rw [Lib.join_cons, Lib.joinTail, List.flatten_cons]
    congr 2
    simp
theorem catP_flat (ps : List Pc) : (ps.map Pc.l).flatten = catP ps := by rw [catP, List.flatMap]
theorem lens_cat (ls : List (List UInt8)) : Lib.lens ls = ls.flatten.length := by rw [Lib.lens, List.length_flatten]
theorem cell_lt {w : World} {g i : Nat} {v : Value} (h : w.cell? ⟨g, i, none⟩ = some v) : g < w.heap.size := by
  rcases Nat.lt_or_ge g w.heap.size with h1 | h1
  · exact h1
  · exfalso
    have e : w.heap[g]? = none := Array.getElem?_eq_none h1
    simp [World.cell?, e] at h
theorem fresh_bytes {B : Nat} {w : World} {v : Value} {l : List UInt8} (h : Lib.FreshBytes B w v l) : ∃ A c, v = .slice A l.length c ∧ Bytes w A l.length c l := by
  obtain ⟨g, cap, zs, rfl, hB, hle, hcm, hz, hr, hb, hc, hf⟩ := h
  refine ⟨_, _, rfl, by simp, hle, hcm, fun h => (by cases h), fun hn => ⟨g, 0, rfl, cell_lt (hc 0 (by omega)), fun j hj => ?_⟩⟩
  rw [Nat.zero_add, hc j (by omega)]
  have hjz : j < zs.length := by omega
  have hl : l[j]? = some (UInt8.ofNat (zs.getD j 0).toNat) := by
    rw [← hb]
    simp [Lib.bytesOf, hj, hjz]
  have h0 := hr (zs.getD j 0) (by simp [hjz])
  rw [List.getElem?_map, hl]
  simp only [Option.map_some, bv]
  congr 2
  have h1 : (zs.getD j 0).toNat < 256 := by omega
  rw [UInt8.toNat_ofNat_of_lt' h1]
  omega
theorem joinNil (A : Option Addr) (n c : Nat) (ps : List Pc) (w : World) (h2 : 2 ≤ n) (hn : n ≤ 1048576) (h : PcsAt w A n c ps) (hs : (catP ps).length ≤ 140737488355328) :
    Calls Try.prog 37 #[.slice A n c, .slice none 0 0] w fun e w' => ∃ A' c', e = .returned (.slice A' (catP ps).length c') ∧ Bytes w' A' (catP ps).length c' (catP ps) ∧ Below w.heap.size w w' := by
  obtain ⟨hrow, hps⟩ := h
  have hl : ps.length = n := by simpa using hrow.1
  obtain ⟨b, off, rfl, hlt, hc⟩ := hrow.2.2.2.2 (by omega)
  have hP : Lib.PartsAt w ⟨b, off, none⟩ (ps.map Pc.val) (ps.map Pc.l) := by
    refine ⟨by simp, fun i v hi => ?_, fun i v l hv hi => ?_⟩
    · have hi' : i < n := by have := (List.getElem?_eq_some_iff.1 hi).1; simpa [hl] using this
      rw [add_plain, hc i hi', hi]
    · have hi' : i < ps.length := by have := (List.getElem?_eq_some_iff.1 hi).1; simpa using this
      rw [List.getElem?_map, List.getElem?_eq_getElem hi'] at hv hi
      cases hv
      cases hi
      have hp := hps _ (List.getElem_mem hi')
      refine ⟨_, _, by rw [hp.len]; rfl, fun h0 => ?_, fun a ha j x hx => ?_⟩
      · have := hp.2.2.2.1 h0
        have := hp.2.1
        exact List.eq_nil_of_length_eq_zero (by have := hp.len; omega)
      · have hj : j < ps[i].l.length := (List.getElem?_eq_some_iff.1 hx).1
        obtain ⟨b', o', e', _, hc'⟩ := hp.2.2.2.2 (by rw [← hp.len]; omega)
        obtain rfl : a = ⟨b', o', none⟩ := Option.some.inj (ha.symm.trans e')
        rw [add_plain, hc' j (by rw [← hp.len]; exact hj), List.getElem?_map, hx]
        rfl
  have hS : Lib.HoldsBytes w (.slice none 0 0) [] := ⟨none, 0, rfl, fun _ => rfl, fun a ha => by cases ha⟩
  have hJ : Lib.join (ps.map Pc.l) [] = catP ps := by rw [join_cat, catP_flat]
  have hk := Any.bytes_Join_many joinLays b off n c (ps.map Pc.val) (ps.map Pc.l) (.slice none 0 0) [] w (by simpa using hl) h2 hP hrow.2.1 hS (by omega) (by rw [lens_cat, catP_flat, List.length_nil, Nat.zero_mul]; exact hs)
  rw [hJ] at hk
  refine Calls.mono (show Calls Try.prog 37 #[.slice (some ⟨b, off, none⟩) n c, .slice none 0 0] w _ from hk) ?_
  rintro e w' ⟨v, rfl, hf, hb⟩
  obtain ⟨A', c', rfl, hr⟩ := fresh_bytes hf
  exact ⟨A', c', rfl, hr, hb⟩
end Go.Proofs.Ytiilgkajijnbcaa
