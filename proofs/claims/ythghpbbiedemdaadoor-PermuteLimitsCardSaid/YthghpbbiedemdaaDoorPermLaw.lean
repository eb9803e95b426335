/-
  What the laws of chapter 13 share: num, alive.
-/
import Derived.Test.YthghpbbiedemdaaDoorPermuteOf
import Derived.Test.YthghpbbiedemdaaDoorPermute
import Derived.Test.YthghpbbiedemdaaDoorProgNew
namespace Go.Proofs.YthghpbbiedemdaaDoor
open Go.ChangeShapes Go.WideShapes Go.ChangeAt Go.RowKit
set_option linter.unusedVariables false
set_option linter.unusedSimpArgs false

theorem num13 (k : Int) (w : World) (hk : 0 ≤ k ∧ k < 100) :
    Calls Tryd.prog 14 #[.int .i64 k] w fun e w' => e = .returned (.int .i64 k) ∧ w = w' := by
  have h1 : 0 ≤ k := hk.1
  have h2 : k ≤ 9223372036854775807 := by omega
  go_enter Tryd.func14, Tryd.ntmps14
  go_wp2_with fail
  go_ret
  exact ⟨rfl, rfl⟩
set_option maxHeartbeats 1000000 in
set_option maxRecDepth 10000 in
theorem alive13 (w : World) (hT : Tab w) :
    Calls Tryd.prog 8 #[] w fun e w' => e = .returned (.bool true) ∧ Below w.heap.size w w' := by
  obtain ⟨z, hz⟩ : ∃ z : List UInt8, List.replicate 32 0 = z := ⟨_, rfl⟩
  have hzl : z.length = 32 := by rw [← hz, List.length_replicate]
  have K1 := Lib.hid (show Calls Tryd.prog 10 #[.agg #[.int .u8 0, .int .u8 0, .int .u8 0, .int .u8 0, .int .u8 0, .int .u8 0, .int .u8 0, .int .u8 0, .int .u8 0, .int .u8 0, .int .u8 0, .int .u8 0, .int .u8 0, .int .u8 0, .int .u8 0, .int .u8 0, .int .u8 0, .int .u8 0, .int .u8 0, .int .u8 0, .int .u8 0, .int .u8 0, .int .u8 0, .int .u8 0, .int .u8 0, .int .u8 0, .int .u8 0, .int .u8 0, .int .u8 0, .int .u8 0, .int .u8 0, .int .u8 0], .string ⟨#[97]⟩] w fun e w' => ∃ g, e = .returned (.pointer (some ⟨g, 0, none⟩)) ∧ StrmP w' g z [97] 0 ∧ w.heap.size ≤ g ∧ Below w.heap.size w w' by
    rw [← hz]
    exact progNew' (List.replicate 32 0) [97] rfl (by simp) w)
  have K2 := Lib.hid (fun (g : Nat) (u : World) (H : StrmP u g z [97] 0) (h : Tab u) => show Calls Tryd.prog 9 #[.int .i64 1, .pointer (some ⟨g, 0, none⟩)] u _ from permOf g z [97] 1 0 [0] 0 0 (orderB_one 0) (by omega) hzl (by simp) u H h)
  have K3 := Lib.hid (fun (A : Option Addr) (c : Nat) (u : World) (h : Ints u A 1 c [0]) => show Calls Tryd.prog 15 #[.slice A 1 c] u fun e w' => e = .returned (.bool true) ∧ Below u.heap.size u w' from permRight A 1 c [0] u h (by omega))
  have KN := Lib.hid (fun u => num13 0 u (by omega))
  have HT := Lib.hid hT
  clear hz hzl hT
  go_enter Tryd.func8, Tryd.ntmps8
  go_wp2_with fail
  refine (K1.out).mono ?_
  rintro e w2 ⟨g, rfl, H2, hg, hb2⟩
  have hT2 := HT.out.keep hb2
  have hs2 := hb2.size
  go_wp2_with fail
  refine (K2.out g w2 H2 hT2).mono ?_
  rintro e w3 ⟨A, m, c, rfl, H3, P3, S3⟩
  obtain rfl : m = 1 := H3.len.symm
  have HB := Lib.hid (Save.below hb2 S3 hg hs2)
  obtain ⟨b, off, rfl, hbl, hc⟩ := H3.at_ (by omega)
  have c0 : w3.cell? ⟨b, off, none⟩ = some (.int .i64 0) := hc 0 (by omega)
  have KR := Lib.hid (K3.out _ c w3 H3)
  clear hc H3 P3 S3 hbl H2 hT2 hb2
  go_wp2_with (go_at_call 14; with_reducible refine (KN.out _).mono ?_; rintro e w' ⟨rfl, rfl⟩)
  refine (KR.out).mono ?_
  rintro e w4 ⟨rfl, hb4⟩
  go_wp2_with fail
  go_ret
  exact ⟨rfl, HB.out.trans (hb4.mono HB.out.size)⟩
end Go.Proofs.YthghpbbiedemdaaDoor
