/-
  The laws of chapter 6, modp: the walks.
-/
import Derived.Test.YtdmmddndepgoaaaRefModp
namespace Go.Proofs.Ytdmmddndepgoaaa
open Go.ChangeShapes Go.WideShapes Go.ChangeAt Go.RowKit
set_option linter.unusedVariables false
set_option linter.unusedSimpArgs false

theorem u64_wf {a : Int} (h : (Lit.int .u64 a).wf = true) : ∃ n : Nat, a = (n : Int) ∧ n < 18446744073709551616 := by
  have h0 : 0 ≤ a ∧ a ≤ 18446744073709551615 := by simpa [Lit.wf, IntKind.min, IntKind.max, IntKind.signed, IntKind.bits] using h
  exact ⟨a.toNat, by omega, by omega⟩
theorem i64_wf {a : Int} (h : (Lit.int .i64 a).wf = true) : -9223372036854775808 ≤ a ∧ a ≤ 9223372036854775807 := by
  simpa [Lit.wf, IntKind.min, IntKind.max, IntKind.signed, IntKind.bits] using h

theorem alive6 (w : World) :
    Calls Try.prog 8 #[] w fun e w' => e = .returned (.bool true) ∧ w = w' := by
  have C1 := Lib.hid (fun w => modpMul' (a := 1152921504606846976) (b := 2) (c := 1) (by decide) (by decide) (by decide) (x := 1152921504606846976) (y := 2) rfl rfl w)
  have C2 := Lib.hid (fun w => modpAdd' (a := 2305843009213693951) (b := 5) (c := 5) (by decide) (by decide) (by decide) (x := 2305843009213693951) (y := 5) rfl rfl w)
  go_enter Try.func8, Try.ntmps8
  go_wp2_with fail
  refine (C1.out _).mono ?_
  rintro e w' ⟨rfl, rfl⟩
  go_wp2_with fail
  refine (C2.out _).mono ?_
  rintro e w' ⟨rfl, rfl⟩
  go_wp2_with fail
  go_ret
  exact ⟨rfl, rfl⟩

namespace modpReckonsLaw
theorem walk (a b : Nat) (w : World) (ha : a < 18446744073709551616) (hb : b < 18446744073709551616) :
    Calls Try.prog 3 #[.int .u64 (a : Int), .int .u64 (b : Int)] w fun e w' => e = .returned (.bool true) ∧ Below w.heap.size w w' := by
  obtain ⟨r, hr⟩ : ∃ t, a % 2305843009213693951 = t := ⟨_, rfl⟩
  have t1 := tmodP hr
  have u1 : (a : Int) % 2305843009213693951 = (r : Int) := by omega
  have CR := Lib.hid (fun w => modpReduce' hr ha rfl w)
  obtain ⟨s, hs⟩ : ∃ t, addN a b = t := ⟨_, rfl⟩
  have CA := Lib.hid (fun w => modpAdd' hs ha hb rfl rfl w)
  have DA := Lib.hid (fun w => hs ▸ refAddP a b w ha hb)
  obtain ⟨d, hd⟩ : ∃ t, subN a b = t := ⟨_, rfl⟩
  have CS := Lib.hid (fun w => modpSub' hd ha hb rfl rfl w)
  have DS := Lib.hid (fun w => hd ▸ refSubP a b w ha hb)
  obtain ⟨m, hm⟩ : ∃ t, mulN a b = t := ⟨_, rfl⟩
  have CM := Lib.hid (fun w => modpMul' hm ha hb rfl rfl w)
  have DM := Lib.hid (fun w => refMulP' hm ha hb w)
  obtain ⟨p, hp⟩ : ∃ t, powN a b = t := ⟨_, rfl⟩
  have CP := Lib.hid (fun w => modpPow' hp ha hb rfl w)
  have DP := Lib.hid (fun w => refPowP' hp ha hb rfl w)
  obtain ⟨i, hi⟩ : ∃ t, powN a 2305843009213693949 = t := ⟨_, rfl⟩
  have CI := Lib.hid (fun w => modpInv hi ha w)
  have DI := Lib.hid (fun w => refInvP hi ha w)
  clear hr hs hd hm hp hi
  go_enter Try.func3, Try.ntmps3
  go_wp2_with fail
  refine (alive6 _).mono ?_
  rintro e w' ⟨rfl, rfl⟩
  go_wp2_with fail
  refine (CR.out _).mono ?_
  rintro e w' ⟨rfl, rfl⟩
  go_wp2_with fail
  refine (CA.out _).mono ?_
  rintro e w' ⟨rfl, rfl⟩
  go_wp2_with fail
  refine (DA.out _).mono ?_
  rintro e w' ⟨rfl, rfl⟩
  go_wp2_with fail
  refine (CS.out _).mono ?_
  rintro e w' ⟨rfl, rfl⟩
  go_wp2_with fail
  refine (DS.out _).mono ?_
  rintro e w' ⟨rfl, rfl⟩
  go_wp2_with fail
  refine (CM.out _).mono ?_
  rintro e w' ⟨rfl, rfl⟩
  go_wp2_with fail
  refine (DM.out _).mono ?_
  rintro e w' ⟨rfl, rfl⟩
  go_wp2_with fail
  refine (CP.out _).mono ?_
  rintro e w' ⟨rfl, rfl⟩
  go_wp2_with fail
  refine (DP.out _).mono ?_
  rintro e w' ⟨rfl, rfl⟩
  go_wp2_with fail
  refine (CI.out _).mono ?_
  rintro e w' ⟨rfl, rfl⟩
  go_wp2_with fail
  refine (DI.out _).mono ?_
  rintro e w' ⟨rfl, rfl⟩
  go_wp2_with fail
  go_ret
  exact ⟨rfl, Below.refl _ _⟩
theorem all (a b : Int) (w : World) (w0 : (Lit.int .u64 a).wf = true) (w1 : (Lit.int .u64 b).wf = true) :
    Calls Try.prog 3 #[.int .u64 a, .int .u64 b] w fun e w' => e = .returned (.bool true) ∧ Below w.heap.size w w' := by
  obtain ⟨a, rfl, ha⟩ := u64_wf w0
  obtain ⟨b, rfl, hb⟩ := u64_wf w1
  exact walk a b w ha hb
end modpReckonsLaw
end Go.Proofs.Ytdmmddndepgoaaa
