/-
  What the laws of chapter 4 share: alive.
-/
import Derived.Test.YtcnpbgmdmifhaaaDoorDerKey
namespace Go.Proofs.YtcnpbgmdmifhaaaDoor
open Go.ChangeShapes Go.WideShapes Go.ChangeAt Go.RowKit
set_option linter.unusedVariables false
set_option linter.unusedSimpArgs false

set_option maxRecDepth 100000 in
theorem evDer : (dkN [] [97]).take 1 ≠ (dkN [] [98]).take 1 := by decide +kernel
theorem ne_key (l l' : List UInt8) (hl : l.length = 32) (hl' : l'.length = 32) (hne : l ≠ l') (w : World) : (Op.equalIn 10000 23 (.agg (l.map bv).toArray) (.agg (l'.map bv).toArray)).run Tryd.prog w = .ok false w := by
  have h := run_equalIn_bytes (P := Tryd.prog) w 9998 23 5 32 Tryd.underlying23 Tryd.underlying5 (fun u => by kernel_rfl) l l' hl hl'
  have e : (l == l') = false := by simp [hne]
  rw [e] at h
  exact h

namespace derLaw
set_option maxRecDepth 10000 in
set_option maxHeartbeats 400000 in
theorem alive (w : World) (hT : Tab w) : Calls Tryd.prog 6 #[] w fun e w' => e = .returned (.bool true) ∧ Below w.heap.size w w' := by
  obtain ⟨Ka, hKa⟩ : ∃ K, K = dkN [] [97] := ⟨_, rfl⟩
  obtain ⟨Kb, hKb⟩ : ∃ K, K = dkN [] [98] := ⟨_, rfl⟩
  have hne : Ka ≠ Kb := fun e => evDer (by rw [← hKa, ← hKb, e])
  have heq := ne_key Ka Kb (by rw [hKa]; exact dkN_len _ _) (by rw [hKb]; exact dkN_len _ _) hne
  have KA := Lib.hid (fun u (h : Tab u) => show Calls Tryd.prog 9 #[.slice none 0 0, .string ⟨#[97]⟩] u fun e w' => e = .returned (.agg (Ka.map bv).toArray) ∧ Below u.heap.size u w' by
    rw [hKa]
    exact derive.Key none 0 0 [] (by omega) [97] 1 rfl (by omega) u (Row.nil u) h)
  have KB := Lib.hid (fun u (h : Tab u) => show Calls Tryd.prog 9 #[.slice none 0 0, .string ⟨#[98]⟩] u fun e w' => e = .returned (.agg (Kb.map bv).toArray) ∧ Below u.heap.size u w' by
    rw [hKb]
    exact derive.Key none 0 0 [] (by omega) [98] 1 rfl (by omega) u (Row.nil u) h)
  have K1 := Lib.hid (show Calls Tryd.prog 7 #[.agg #[.int .u8 0, .int .u8 0, .int .u8 0, .int .u8 0, .int .u8 0, .int .u8 0, .int .u8 0, .int .u8 0, .int .u8 0, .int .u8 0, .int .u8 0, .int .u8 0, .int .u8 0, .int .u8 0, .int .u8 0, .int .u8 0, .int .u8 0, .int .u8 0, .int .u8 0, .int .u8 0, .int .u8 0, .int .u8 0, .int .u8 0, .int .u8 0, .int .u8 0, .int .u8 0, .int .u8 0, .int .u8 0, .int .u8 0, .int .u8 0, .int .u8 0, .int .u8 0], .string ⟨#[]⟩, .int .i64 0] w fun e w' => e = .returned (.slice none 0 0) ∧ Below w.heap.size w w' from
    derive.ExpandNone (List.replicate 32 0) rfl ⟨#[]⟩ 0 (by omega) w)
  have K2 := Lib.hid (fun u (h : Tab u) => show Calls Tryd.prog 7 #[.agg #[.int .u8 1, .int .u8 0, .int .u8 0, .int .u8 0, .int .u8 0, .int .u8 0, .int .u8 0, .int .u8 0, .int .u8 0, .int .u8 0, .int .u8 0, .int .u8 0, .int .u8 0, .int .u8 0, .int .u8 0, .int .u8 0, .int .u8 0, .int .u8 0, .int .u8 0, .int .u8 0, .int .u8 0, .int .u8 0, .int .u8 0, .int .u8 0, .int .u8 0, .int .u8 0, .int .u8 0, .int .u8 0, .int .u8 0, .int .u8 0, .int .u8 0, .int .u8 0], .string ⟨#[97]⟩, .int .i64 40] u fun e w' => ∃ A c, e = .returned (.slice A 40 c) ∧ Below u.heap.size u w' from
    (derive.ExpandIn (1 :: List.replicate 31 0) rfl [97] 1 rfl (by omega) 40 (by omega) (by omega) u h).mono fun e w' ⟨v, he, hown, hb⟩ => by
      obtain ⟨A, c, rfl, _⟩ := Row.own hown
      exact ⟨A, c, he, hb⟩)
  clear hKa hKb hne
  go_enter Tryd.func6, Tryd.ntmps6
  go_wp2_with fail
  refine (K1.out).mono ?_
  rintro e w2 ⟨rfl, hb2⟩
  go_wp2_with fail
  refine (K2.out w2 (hT.keep hb2)).mono ?_
  rintro e w3 ⟨A3, c3, rfl, hb3⟩
  have hbw3 := hb2.trans (hb3.mono hb2.size)
  go_wp2_with fail
  refine (KA.out w3 (hT.keep hbw3)).mono ?_
  rintro e w4 ⟨rfl, hb4⟩
  have hbw4 := hbw3.trans (hb4.mono hbw3.size)
  go_wp2_with fail
  refine (KB.out w4 (hT.keep hbw4)).mono ?_
  rintro e w5 ⟨rfl, hb5⟩
  have hbw5 := hbw4.trans (hb5.mono hbw4.size)
  go_wp2_with fail
  go_ret
  exact ⟨rfl, hbw5⟩
end derLaw
end Go.Proofs.YtcnpbgmdmifhaaaDoor
