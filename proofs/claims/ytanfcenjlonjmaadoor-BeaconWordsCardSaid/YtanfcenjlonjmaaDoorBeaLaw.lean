/-
  What the laws of chapter 12 share: num, alive.
-/
import Derived.Test.YtanfcenjlonjmaaDoorProgNext
import Derived.Test.YtanfcenjlonjmaaDoorProgNew
namespace Go.Proofs.YtanfcenjlonjmaaDoor
open Go.ChangeShapes Go.WideShapes Go.ChangeAt Go.RowKit
set_option linter.unusedVariables false
set_option linter.unusedSimpArgs false

theorem num12 (k : Int) (w : World) (hk : 0 ≤ k ∧ k < 100) :
    Calls Tryd.prog 14 #[.int .i64 k] w fun e w' => e = .returned (.int .i64 k) ∧ w = w' := by
  have h1 : 0 ≤ k := hk.1
  have h2 : k ≤ 9223372036854775807 := by omega
  go_enter Tryd.func14, Tryd.ntmps14
  go_wp2_with fail
  go_ret
  exact ⟨rfl, rfl⟩
theorem nextB_one (seed name : List UInt8) (i : Nat) : nextB seed name 1 i = (0, 0, i + 1) := by
  have h := nextB_pow seed name i 0 (by omega)
  rw [show (2 : Nat) ^ 0 = 1 from rfl, Nat.mod_one] at h
  exact h
set_option maxHeartbeats 1000000 in
set_option maxRecDepth 10000 in
theorem alive12 (w : World) (hT : Tab w) :
    Calls Tryd.prog 7 #[] w fun e w' => e = .returned (.bool true) ∧ Below w.heap.size w w' := by
  obtain ⟨z, hz⟩ : ∃ z : List UInt8, List.replicate 32 0 = z := ⟨_, rfl⟩
  have hzl : z.length = 32 := by rw [← hz, List.length_replicate]
  obtain ⟨y1, hy1⟩ : ∃ y, wordB z [97] 1 = y := ⟨_, rfl⟩
  obtain ⟨y2, hy2⟩ : ∃ y, wordB z [97] 2 = y := ⟨_, rfl⟩
  have hne : y1 ≠ y2 := by rw [← hy1, ← hy2, ← hz]; exact wordB_ex.2
  have hneI : ((y1 : Int) != (y2 : Int)) = true := by simp; omega
  have K1 := Lib.hid (show Calls Tryd.prog 8 #[.agg #[.int .u8 0, .int .u8 0, .int .u8 0, .int .u8 0, .int .u8 0, .int .u8 0, .int .u8 0, .int .u8 0, .int .u8 0, .int .u8 0, .int .u8 0, .int .u8 0, .int .u8 0, .int .u8 0, .int .u8 0, .int .u8 0, .int .u8 0, .int .u8 0, .int .u8 0, .int .u8 0, .int .u8 0, .int .u8 0, .int .u8 0, .int .u8 0, .int .u8 0, .int .u8 0, .int .u8 0, .int .u8 0, .int .u8 0, .int .u8 0, .int .u8 0, .int .u8 0], .string ⟨#[97]⟩] w fun e w' => ∃ g, e = .returned (.pointer (some ⟨g, 0, none⟩)) ∧ StrmP w' g z [97] 0 ∧ w.heap.size ≤ g ∧ Below w.heap.size w w' by
    rw [← hz]
    exact progNew' (List.replicate 32 0) [97] rfl (by simp) w)
  have K2 := Lib.hid (fun (g : Nat) (u : World) (H : StrmP u g z [97] 0) (h : Tab u) => show Calls Tryd.prog 12 #[.pointer (some ⟨g, 0, none⟩), .int .u64 1] u _ from progNext' g z [97] 1 0 0 0 1 (nextB_one z [97] 0) (by omega) (by omega) hzl (by simp) u H h)
  have K3 := Lib.hid (fun (g : Nat) (u : World) (H : StrmP u g z [97] 1) (h : Tab u) => hy1 ▸ progWord' g z [97] 1 (by omega) hzl (by simp) u H h)
  have K4 := Lib.hid (fun (g : Nat) (u : World) (H : StrmP u g z [97] 2) (h : Tab u) => hy2 ▸ progWord' g z [97] 2 (by omega) hzl (by simp) u H h)
  have KN := Lib.hid (fun u => num12 0 u (by omega))
  have HZ := Lib.hid hzl
  have HT := Lib.hid hT
  clear hz hy1 hy2 hne hzl hT
  go_enter Tryd.func7, Tryd.ntmps7
  go_wp2_with fail
  refine (K1.out).mono ?_
  rintro e w2 ⟨g, rfl, H2, hg, hb2⟩
  have hT2 := HT.out.keep hb2
  have hs2 := hb2.size
  go_wp2_with fail
  refine (K2.out g w2 H2 hT2).mono ?_
  rintro e w3 ⟨rfl, H3, S3⟩
  have hT3 := hT2.save S3 (strm_off HZ.out hT2 H2)
  go_wp2_with (go_at_call 14; with_reducible refine (KN.out _).mono ?_; rintro e w' ⟨rfl, rfl⟩)
  refine (K3.out g w3 H3 hT3).mono ?_
  rintro e w4 ⟨rfl, H4, S4⟩
  have hT4 := hT3.save S4 (strm_off HZ.out hT3 H3)
  go_wp2_with fail
  refine (K4.out g w4 H4 hT4).mono ?_
  rintro e w5 ⟨rfl, H5, S5⟩
  go_wp2_with fail
  go_ret
  exact ⟨rfl, Save.below hb2 ((S3.trans S4).trans S5) hg hs2⟩
end Go.Proofs.YtanfcenjlonjmaaDoor
