/-
  What the laws of chapter 11 share: num, alive.
-/
import Derived.Test.YtiilgkajijnbcaaPut
import Derived.Test.YtiilgkajijnbcaaRpNote
import Derived.Test.YtiilgkajijnbcaaCodecRt
import Derived.Test.YtiilgkajijnbcaaNoteEq
import Derived.Test.YtiilgkajijnbcaaApiOpen
namespace Go.Proofs.Ytiilgkajijnbcaa
open Go.ChangeShapes Go.WideShapes Go.ChangeAt Go.RowKit
set_option linter.unusedVariables false
set_option linter.unusedSimpArgs false

theorem num11 (k : Int) (w : World) (hk : 0 ≤ k ∧ k < 100) :
    Calls Try.prog 14 #[.int .i64 k] w fun e w' => e = .returned (.int .i64 k) ∧ w = w' := by
  have h1 : 0 ≤ k := hk.1
  have h2 : k ≤ 9223372036854775807 := by omega
  go_enter Try.func14, Try.ntmps14
  go_wp2_with fail
  go_ret
  exact ⟨rfl, rfl⟩
def zeros32 : List UInt8 := List.replicate 32 0
set_option maxHeartbeats 2000000 in
set_option maxRecDepth 100000 in
theorem alive11 (w : World) :
    Calls Try.prog 10 #[] w fun e w' => e = .returned (.bool true) ∧ Below w.heap.size w w' := by
  have K1 := Lib.hid (show Calls Try.prog 31 #[(.agg #[.int .u64 0, .int .u64 0, .int .u8 0, .int .u8 0, .int .u8 0, .int .u8 0, .int .u8 0, .int .u8 0, .int .u8 0, .int .u8 0, .int .u8 0, .int .u8 0, .int .u8 0, .int .u8 0, .int .u8 0, .int .u8 0, .int .u8 0, .int .u8 0, .int .u8 0, .int .u8 0, .int .u8 0, .int .u8 0, .int .u8 0, .int .u8 0, .int .u8 0, .int .u8 0, .int .u8 0, .int .u8 0, .int .u8 0, .int .u8 0, .int .u8 0, .int .u8 0, .int .u8 0, .int .u8 0])] w _ from progNote' 0 0 zeros32 (by omega) (by omega) rfl w)
  have K2 := Lib.hid (fun (A : Option Addr) (c : Nat) (u : World) (h : Bytes u A 48 c (wNote 0 0 zeros32)) => progReadNote' A 48 c _ 0 0 zeros32 0 (note_rt 0 0 zeros32 (by omega) (by omega) rfl) u h)
  have K3 := Lib.hid (fun u => num11 0 u (by omega))
  have heq := fun u => show (Op.equalIn 10000 67 (.agg (ncells 0 0 zeros32).toArray) (.agg #[.int .u64 0, .int .u64 0, .int .u8 0, .int .u8 0, .int .u8 0, .int .u8 0, .int .u8 0, .int .u8 0, .int .u8 0, .int .u8 0, .int .u8 0, .int .u8 0, .int .u8 0, .int .u8 0, .int .u8 0, .int .u8 0, .int .u8 0, .int .u8 0, .int .u8 0, .int .u8 0, .int .u8 0, .int .u8 0, .int .u8 0, .int .u8 0, .int .u8 0, .int .u8 0, .int .u8 0, .int .u8 0, .int .u8 0, .int .u8 0, .int .u8 0, .int .u8 0, .int .u8 0, .int .u8 0])).run Try.prog u = .ok true u from eq_note 0 0 zeros32 rfl u
  go_enter Try.func10, Try.ntmps10
  go_wp2_with fail
  refine (K1.out).mono ?_
  rintro e w2 ⟨v2, rfl, hown2, hb2⟩
  obtain ⟨A2, c2, rfl, hr2⟩ := id hown2
  have KR := Lib.hid (K2.out A2 c2 w2 hr2)
  clear K1 K2 hown2 hr2
  go_wp2_with fail
  refine (KR.out).mono ?_
  rintro e w3 ⟨rfl, hb30⟩
  have hb3 := hb2.trans (hb30.mono hb2.size)
  have H3 := newNote w3
  have hb4 := hb3.alloc hb3.size (.cells #[.int .u64 0, .int .u64 0, .int .u8 0, .int .u8 0, .int .u8 0, .int .u8 0, .int .u8 0, .int .u8 0, .int .u8 0, .int .u8 0, .int .u8 0, .int .u8 0, .int .u8 0, .int .u8 0, .int .u8 0, .int .u8 0, .int .u8 0, .int .u8 0, .int .u8 0, .int .u8 0, .int .u8 0, .int .u8 0, .int .u8 0, .int .u8 0, .int .u8 0, .int .u8 0, .int .u8 0, .int .u8 0, .int .u8 0, .int .u8 0, .int .u8 0, .int .u8 0, .int .u8 0, .int .u8 0] 67)
  have hs3 := hb3.size
  clear KR hb30
  go_wp2_with (first
    | ((with_reducible refine wpList_store_note rfl (.tmp 2) (.tmp 9) rfl w3.heap.size rfl 0 0 zeros32 rfl rfl (ncells 0 0 (List.replicate 32 0)) H3 rfl ?_); intro w5 o5 H5; have hb5 := o5.below hb4 hs3)
    | (go_at_call 14; with_reducible refine (K3.out _).mono ?_; rintro e w' ⟨rfl, rfl⟩)
    | ((refine wpList_load_hasG (by rfl) 67 (.tmp 2) (by rfl) w3.heap.size (by rfl) 67 (ncells 0 0 zeros32) H5 _ Try.underlying67 (by rfl) (by kernel_rfl) ?_)))
  go_ret
  exact ⟨rfl, hb5⟩
end Go.Proofs.Ytiilgkajijnbcaa
