/-
  The laws of chapter 6, modp: the walks.
-/
import Derived.Test.YtdmmddndepgoaaaRefModp
namespace Go.Proofs.Ytdmmddndepgoaaa
open Go.ChangeShapes Go.WideShapes Go.ChangeAt Go.RowKit
set_option linter.unusedVariables false
set_option linter.unusedSimpArgs false

theorem u64_wf {a : Int} (h : (Lit.int .u64 a).wf = true) : ∃ n : Nat, a = (n : Int) ∧ n < 18446744073709551616 := by
  have h0 : 0 ≤ a ∧ a ≤ 18446744073709551615 := by simpa [Lit.wf, IntKind.min, IntKind.max, IntKind.signed, IntKind.bits] using h
  exact ⟨a.toNat, by omega, by omega⟩
theorem i64_wf {a : Int} (h : (Lit.int .i64 a).wf = true) : -9223372036854775808 ≤ a ∧ a ≤ 9223372036854775807 := by
  simpa [Lit.wf, IntKind.min, IntKind.max, IntKind.signed, IntKind.bits] using h

theorem alive6 (w : World) :
    Calls Try.prog 8 #[] w fun e w' => e = .returned (.bool true) ∧ w = w' := by
  have C1 := Lib.hid (fun w => modpMul' (a := 1152921504606846976) (b := 2) (c := 1) (by decide) (by decide) (by decide) (x := 1152921504606846976) (y := 2) rfl rfl w)
  have C2 := Lib.hid (fun w => modpAdd' (a := 2305843009213693951) (b := 5) (c := 5) (by decide) (by decide) (by decide) (x := 2305843009213693951) (y := 5) rfl rfl w)
  go_enter Try.func8, Try.ntmps8
  go_wp2_with fail
  refine (C1.out _).mono ?_
  rintro e w' ⟨rfl, rfl⟩
  go_wp2_with fail
  refine (C2.out _).mono ?_
  rintro e w' ⟨rfl, rfl⟩
  go_wp2_with fail
  go_ret
  exact ⟨rfl, rfl⟩

namespace modpReckonsLaw
theorem walk (a b : Nat) (w : World) (ha : a < 18446744073709551616) (hb : b < 18446744073709551616) :
    Calls Try.prog 3 #[.int .u64 (a : Int), .int .u64 (b : Int)] w fun e w' => e = .returned (.bool true) ∧ Below w.heap.size w w' := by
  obtain ⟨r, hr⟩ : ∃ t, a % 2305843009213693951 = t := ⟨_, rfl⟩
  have t1 := tmodP hr
  have u1 : (a : Int) % 2305843009213693951 = (r : Int) := by omega
  have CR := Lib.hid (fun w => modpReduce' hr ha rfl w)
  obtain ⟨s, hs⟩ : ∃ t, addN a b = t := ⟨_, rfl⟩
  have CA := Lib.hid (fun w => modpAdd' hs ha hb rfl rfl w)
  have DA := Lib.hid (fun w => hs ▸ refAddP a b w ha hb)
  obtain ⟨d, hd⟩ : ∃ t, subN a b = t := ⟨_, rfl⟩
  have CS := Lib.hid (fun w => modpSub' hd ha hb rfl rfl w)
  have DS := Lib.hid (fun w => hd ▸ refSubP a b w ha hb)
  obtain ⟨m, hm⟩ : ∃ t, mulN a b = t := ⟨_, rfl⟩
  have CM := Lib.hid (fun w => modpMul' hm ha hb rfl rfl w)
  have DM := Lib.hid (fun w => refMulP' hm ha hb w)
  obtain ⟨p, hp⟩ : ∃ t, powN a b = t := ⟨_, rfl⟩
  have CP := Lib.hid (fun w => modpPow' hp ha hb rfl w)
  have DP := Lib.hid (fun w => refPowP' hp ha hb rfl w)
  obtain ⟨i, hi⟩ : ∃ t, powN a 2305843009213693949 = t := ⟨_, rfl⟩
  have CI := Lib.hid (fun w => modpInv hi ha w)
  have DI := Lib.hid (fun w => refInvP hi ha w)
  clear hr hs hd hm hp hi
  go_enter Try.func3, Try.ntmps3
  go_wp2_with fail
  refine (alive6 _).mono ?_
  rintro e w' ⟨rfl, rfl⟩
  go_wp2_with fail
  refine (CR.out _).mono ?_
  rintro e w' ⟨rfl, rfl⟩
  go_wp2_with fail
  refine (CA.out _).mono ?_
  rintro e w' ⟨rfl, rfl⟩
  go_wp2_with fail
  refine (DA.out _).mono ?_
  rintro e w' ⟨rfl, rfl⟩
  go_wp2_with fail
  refine (CS.out _).mono ?_
  rintro e w' ⟨rfl, rfl⟩
  go_wp2_with fail
  refine (DS.out _).mono ?_
  rintro e w' ⟨rfl, rfl⟩
  go_wp2_with fail
  refine (CM.out _).mono ?_
  rintro e w' ⟨rfl, rfl⟩
  go_wp2_with fail
  refine (DM.out _).mono ?_
  rintro e w' ⟨rfl, rfl⟩
  go_wp2_with fail
  refine (CP.out _).mono ?_
  rintro e w' ⟨rfl, rfl⟩
  go_wp2_with fail
  refine (DP.out _).mono ?_
  rintro e w' ⟨rfl, rfl⟩
  go_wp2_with fail
  refine (CI.out _).mono ?_
  rintro e w' ⟨rfl, rfl⟩
  go_wp2_with fail
  refine (DI.out _).mono ?_
  rintro e w' ⟨rfl, rfl⟩
  go_wp2_with fail
  go_ret
  exact ⟨rfl, Below.refl _ _⟩
theorem all (a b : Int) (w : World) (w0 : (Lit.int .u64 a).wf = true) (w1 : (Lit.int .u64 b).wf = true) :
    Calls Try.prog 3 #[.int .u64 a, .int .u64 b] w fun e w' => e = .returned (.bool true) ∧ Below w.heap.size w w' := by
  obtain ⟨a, rfl, ha⟩ := u64_wf w0
  obtain ⟨b, rfl, hb⟩ := u64_wf w1
  exact walk a b w ha hb
end modpReckonsLaw
theorem mulN_comm (a b : Nat) : mulN b a = mulN a b := by rw [mulN, mulN, Nat.mul_comm]
theorem addN_comm (a b : Nat) : addN b a = addN a b := by rw [addN, addN, Nat.add_comm]
theorem addN_assoc (a b c : Nat) : addN a (addN b c) = addN (addN a b) c := by unfold addN; omega
theorem mulN_assoc (a b c : Nat) : mulN a (mulN b c) = mulN (mulN a b) c := by unfold mulN; rw [Nat.mul_mod_mod, Nat.mod_mul_mod, Nat.mul_assoc]
theorem mulN_addN (a b c : Nat) : addN (mulN a b) (mulN a c) = mulN a (addN b c) := by unfold addN mulN; rw [← Nat.add_mod, Nat.mul_mod_mod, Nat.mul_add]
theorem subN_addN (a b : Nat) : subN (addN a b) b = a % 2305843009213693951 := by unfold subN addN; omega
theorem addN_subN (a b : Nat) : addN (subN a b) b = a % 2305843009213693951 := by unfold subN addN; omega
namespace modpLawsLaw
theorem walk (a b c : Nat) (w : World) (ha : a < 18446744073709551616) (hb : b < 18446744073709551616) (hc : c < 18446744073709551616) :
    Calls Try.prog 4 #[.int .u64 (a : Int), .int .u64 (b : Int), .int .u64 (c : Int)] w fun e w' => e = .returned (.bool true) ∧ Below w.heap.size w w' := by
  obtain ⟨s, hs⟩ : ∃ t, addN a b = t := ⟨_, rfl⟩
  obtain ⟨m, hm⟩ : ∃ t, mulN a b = t := ⟨_, rfl⟩
  obtain ⟨t, ht⟩ : ∃ t, addN s c = t := ⟨_, rfl⟩
  obtain ⟨v, hv⟩ : ∃ t, addN b c = t := ⟨_, rfl⟩
  obtain ⟨x, hx⟩ : ∃ t, mulN m c = t := ⟨_, rfl⟩
  obtain ⟨y, hy⟩ : ∃ t, mulN b c = t := ⟨_, rfl⟩
  obtain ⟨z, hz⟩ : ∃ t, mulN a v = t := ⟨_, rfl⟩
  obtain ⟨k, hk⟩ : ∃ t, mulN a c = t := ⟨_, rfl⟩
  obtain ⟨d, hd⟩ : ∃ t, subN a b = t := ⟨_, rfl⟩
  obtain ⟨r, hr⟩ : ∃ t, a % 2305843009213693951 = t := ⟨_, rfl⟩
  have gs : s < 2305843009213693951 := by rw [← hs]; exact addN_lt _ _
  have gm : m < 2305843009213693951 := by rw [← hm]; exact mulN_lt _ _
  have gt : t < 2305843009213693951 := by rw [← ht]; exact addN_lt _ _
  have gv : v < 2305843009213693951 := by rw [← hv]; exact addN_lt _ _
  have gx : x < 2305843009213693951 := by rw [← hx]; exact mulN_lt _ _
  have gy : y < 2305843009213693951 := by rw [← hy]; exact mulN_lt _ _
  have gz : z < 2305843009213693951 := by rw [← hz]; exact mulN_lt _ _
  have gk : k < 2305843009213693951 := by rw [← hk]; exact mulN_lt _ _
  have gd : d < 2305843009213693951 := by rw [← hd]; exact subN_lt _ _
  have A1 := Lib.hid (fun w => modpAdd' hs (by omega) (by omega) rfl rfl w)
  have A2 := Lib.hid (fun w => modpAdd' ((addN_comm a b).trans hs) (by omega) (by omega) rfl rfl w)
  have M1 := Lib.hid (fun w => modpMul' hm (by omega) (by omega) rfl rfl w)
  have M2 := Lib.hid (fun w => modpMul' ((mulN_comm a b).trans hm) (by omega) (by omega) rfl rfl w)
  have A3 := Lib.hid (fun w => modpAdd' ht (by omega) (by omega) rfl rfl w)
  have A4 := Lib.hid (fun w => modpAdd' hv (by omega) (by omega) rfl rfl w)
  have A5 := Lib.hid (fun w => modpAdd' (show addN a v = t by rw [← hv, ← ht, ← hs]; exact addN_assoc a b c) (by omega) (by omega) rfl rfl w)
  have M3 := Lib.hid (fun w => modpMul' hx (by omega) (by omega) rfl rfl w)
  have M4 := Lib.hid (fun w => modpMul' hy (by omega) (by omega) rfl rfl w)
  have M5 := Lib.hid (fun w => modpMul' (show mulN a y = x by rw [← hy, ← hx, ← hm]; exact mulN_assoc a b c) (by omega) (by omega) rfl rfl w)
  have M6 := Lib.hid (fun w => modpMul' hz (by omega) (by omega) rfl rfl w)
  have M7 := Lib.hid (fun w => modpMul' hk (by omega) (by omega) rfl rfl w)
  have A6 := Lib.hid (fun w => modpAdd' (show addN m k = z by rw [← hm, ← hk, ← hz, ← hv]; exact mulN_addN a b c) (by omega) (by omega) rfl rfl w)
  have S1 := Lib.hid (fun w => modpSub' (show subN s b = r by rw [← hs, ← hr]; exact subN_addN a b) (by omega) (by omega) rfl rfl w)
  have S2 := Lib.hid (fun w => modpSub' hd (by omega) (by omega) rfl rfl w)
  have A7 := Lib.hid (fun w => modpAdd' (show addN d b = r by rw [← hd, ← hr]; exact addN_subN a b) (by omega) (by omega) rfl rfl w)
  have R1 := Lib.hid (fun w => modpReduce' hr ha rfl w)
  clear hs hm ht hv hx hy hz hk hd hr
  go_enter Try.func4, Try.ntmps4
  go_wp2_with fail
  refine (alive6 _).mono ?_
  rintro e w' ⟨rfl, rfl⟩
  go_wp2_with fail
  refine (A1.out _).mono ?_
  rintro e w' ⟨rfl, rfl⟩
  go_wp2_with fail
  refine (A2.out _).mono ?_
  rintro e w' ⟨rfl, rfl⟩
  go_wp2_with fail
  refine (M1.out _).mono ?_
  rintro e w' ⟨rfl, rfl⟩
  go_wp2_with fail
  refine (M2.out _).mono ?_
  rintro e w' ⟨rfl, rfl⟩
  go_wp2_with fail
  refine (A1.out _).mono ?_
  rintro e w' ⟨rfl, rfl⟩
  go_wp2_with fail
  refine (A3.out _).mono ?_
  rintro e w' ⟨rfl, rfl⟩
  go_wp2_with fail
  refine (A4.out _).mono ?_
  rintro e w' ⟨rfl, rfl⟩
  go_wp2_with fail
  refine (A5.out _).mono ?_
  rintro e w' ⟨rfl, rfl⟩
  go_wp2_with fail
  refine (M1.out _).mono ?_
  rintro e w' ⟨rfl, rfl⟩
  go_wp2_with fail
  refine (M3.out _).mono ?_
  rintro e w' ⟨rfl, rfl⟩
  go_wp2_with fail
  refine (M4.out _).mono ?_
  rintro e w' ⟨rfl, rfl⟩
  go_wp2_with fail
  refine (M5.out _).mono ?_
  rintro e w' ⟨rfl, rfl⟩
  go_wp2_with fail
  refine (A4.out _).mono ?_
  rintro e w' ⟨rfl, rfl⟩
  go_wp2_with fail
  refine (M6.out _).mono ?_
  rintro e w' ⟨rfl, rfl⟩
  go_wp2_with fail
  refine (M1.out _).mono ?_
  rintro e w' ⟨rfl, rfl⟩
  go_wp2_with fail
  refine (M7.out _).mono ?_
  rintro e w' ⟨rfl, rfl⟩
  go_wp2_with fail
  refine (A6.out _).mono ?_
  rintro e w' ⟨rfl, rfl⟩
  go_wp2_with fail
  refine (A1.out _).mono ?_
  rintro e w' ⟨rfl, rfl⟩
  go_wp2_with fail
  refine (S1.out _).mono ?_
  rintro e w' ⟨rfl, rfl⟩
  go_wp2_with fail
  refine (R1.out _).mono ?_
  rintro e w' ⟨rfl, rfl⟩
  go_wp2_with fail
  refine (S2.out _).mono ?_
  rintro e w' ⟨rfl, rfl⟩
  go_wp2_with fail
  refine (A7.out _).mono ?_
  rintro e w' ⟨rfl, rfl⟩
  go_wp2_with fail
  refine (R1.out _).mono ?_
  rintro e w' ⟨rfl, rfl⟩
  go_wp2_with fail
  go_ret
  exact ⟨rfl, Below.refl _ _⟩
theorem all (a b c : Int) (w : World) (w0 : (Lit.int .u64 a).wf = true) (w1 : (Lit.int .u64 b).wf = true) (w2 : (Lit.int .u64 c).wf = true) :
    Calls Try.prog 4 #[.int .u64 a, .int .u64 b, .int .u64 c] w fun e w' => e = .returned (.bool true) ∧ Below w.heap.size w w' := by
  obtain ⟨a, rfl, ha⟩ := u64_wf w0
  obtain ⟨b, rfl, hb⟩ := u64_wf w1
  obtain ⟨c, rfl, hc⟩ := u64_wf w2
  exact walk a b c w ha hb hc
end modpLawsLaw
theorem powN_add (a e f : Nat) : mulN (powN a e) (powN a f) = powN a (e + f) := by rw [mulN, powN_eq, powN_eq, powN_eq, ← Nat.mul_mod, ← Nat.pow_add]
theorem powN_zero (a : Nat) : powN a 0 = 1 := by rw [powN]; simp
theorem powN_one (a : Nat) : powN a 1 = a % 2305843009213693951 := by rw [powN_eq, Nat.pow_one]
theorem powN_nought (a n : Nat) (h : a % 2305843009213693951 = 0) (hn : 0 < n) : powN a n = 0 := by rw [powN_eq, Nat.pow_mod, h, Nat.zero_pow hn]
theorem powN_inv (a n : Nat) (hn : n = pP - 2) (h : a % pP ≠ 0) : mulN a (powN a n) = 1 := by
  rw [mulN, powN_eq, Nat.mul_mod_mod, hn]
  exact gen37.inv a h
theorem powN_ne (a n : Nat) (h : a % pP ≠ 0) : powN a n % pP ≠ 0 := by
  rw [powN_eq]
  show a ^ n % pP % pP ≠ 0
  rw [Nat.mod_mod]
  exact gen37.pow_ne a n h
theorem powN_inv_inv (a n : Nat) (hn : n = pP - 2) (h : a % pP ≠ 0) : powN (powN a n) n = a % 2305843009213693951 := by
  have h1 := powN_inv a n hn h
  have h2 := powN_inv (powN a n) n hn (powN_ne a n h)
  have h3 := inv_one (P := 2305843009213693951) (a := powN a n) (x := a) (y := powN (powN a n) n) h1 (by rw [Nat.mul_comm]; exact h2)
  rw [h3, Nat.mod_eq_of_lt (powN_lt _ _)]
theorem powN_full (a n : Nat) (hn : n = pP - 1) (h : a % pP ≠ 0) : powN a n = 1 := by
  rw [powN_eq, hn]
  exact gen37.fermat a h
namespace modpPowersLaw
theorem big1 (a e f : Nat) (w : World) (ha : a < 18446744073709551616) (he : e < 18446744073709551616) (hf : f < 18446744073709551616) (h : 4611686018427387904 < e) :
    Calls Try.prog 5 #[.int .u64 (a : Int), .int .u64 (e : Int), .int .u64 (f : Int)] w fun e w' => e = .returned (.bool true) ∧ Below w.heap.size w w' := by
  have h1 : decide ((4611686018427387904 : Int) < (e : Int)) = true := decide_eq_true (by omega)
  clear h
  go_enter Try.func5, Try.ntmps5
  go_wp2_with fail
  refine (alive6 _).mono ?_
  rintro e w' ⟨rfl, rfl⟩
  go_wp2_with fail
  go_ret
  exact ⟨rfl, Below.refl _ _⟩
theorem big2 (a e f : Nat) (w : World) (ha : a < 18446744073709551616) (he : e < 18446744073709551616) (hf : f < 18446744073709551616) (h : ¬ 4611686018427387904 < e) (h' : 4611686018427387904 < f) :
    Calls Try.prog 5 #[.int .u64 (a : Int), .int .u64 (e : Int), .int .u64 (f : Int)] w fun e w' => e = .returned (.bool true) ∧ Below w.heap.size w w' := by
  have h1 : decide ((4611686018427387904 : Int) < (e : Int)) = false := decide_eq_false (by omega)
  have h2 : decide ((4611686018427387904 : Int) < (f : Int)) = true := decide_eq_true (by omega)
  clear h h'
  go_enter Try.func5, Try.ntmps5
  go_wp2_with fail
  refine (alive6 _).mono ?_
  rintro e w' ⟨rfl, rfl⟩
  go_wp2_with fail
  go_ret
  exact ⟨rfl, Below.refl _ _⟩
set_option maxHeartbeats 400000 in
theorem small (a e f : Nat) (w : World) (ha : a < 18446744073709551616) (he : e < 18446744073709551616) (hf : f < 18446744073709551616) (h : e ≤ 4611686018427387904) (h' : f ≤ 4611686018427387904) :
    Calls Try.prog 5 #[.int .u64 (a : Int), .int .u64 (e : Int), .int .u64 (f : Int)] w fun e w' => e = .returned (.bool true) ∧ Below w.heap.size w w' := by
  have h1 : decide ((4611686018427387904 : Int) < (e : Int)) = false := decide_eq_false (by omega)
  have h2 : decide ((4611686018427387904 : Int) < (f : Int)) = false := decide_eq_false (by omega)
  obtain ⟨x, hx⟩ : ∃ t, powN a e = t := ⟨_, rfl⟩
  obtain ⟨y, hy⟩ : ∃ t, powN a f = t := ⟨_, rfl⟩
  obtain ⟨z, hz⟩ : ∃ t, powN a (e + f) = t := ⟨_, rfl⟩
  obtain ⟨r, hr⟩ : ∃ t, a % 2305843009213693951 = t := ⟨_, rfl⟩
  have gx : x < 2305843009213693951 := by rw [← hx]; exact powN_lt _ _
  have gy : y < 2305843009213693951 := by rw [← hy]; exact powN_lt _ _
  have gz : z < 2305843009213693951 := by rw [← hz]; exact powN_lt _ _
  have P1 := Lib.hid (fun w => modpPow' hx ha he rfl w)
  have P2 := Lib.hid (fun w => modpPow' hy ha hf rfl w)
  have P3 := Lib.hid (fun w => modpPow' hz ha (by omega) (Int.natCast_add e f) w)
  have M1 := Lib.hid (fun w => modpMul' (show mulN x y = z by rw [← hx, ← hy, ← hz]; exact powN_add a e f) (by omega) (by omega) rfl rfl w)
  have P4 := Lib.hid (fun w => modpPow' (c := 1) (powN_zero a) ha (by omega) (y := 0) rfl w)
  have P5 := Lib.hid (fun w => modpPow' ((powN_one a).trans hr) ha (by omega) (y := 1) rfl w)
  have R1 := Lib.hid (fun w => modpReduce' hr ha rfl w)
  have HE := Lib.hid h
  have HF := Lib.hid h'
  have qw : IntKind.u64.wrap ((e : Int) + (f : Int)) = (e : Int) + (f : Int) := by simp only [IntKind.wrap_u64]; omega
  by_cases h0 : r = 0
  · have hr0 : (r : Int) = 0 := by omega
    have I0 := Lib.hid (fun w => modpInv (c := 0) (powN_nought a 2305843009213693949 (by omega) (by decide)) ha w)
    clear hx hy hz hr h h' h0
    go_enter Try.func5, Try.ntmps5
    go_wp2_with fail
    refine (alive6 _).mono ?_
    rintro e w' ⟨rfl, rfl⟩
    go_wp2_with fail
    refine (P1.out _).mono ?_
    rintro e w' ⟨rfl, rfl⟩
    go_wp2_with fail
    refine (P2.out _).mono ?_
    rintro e w' ⟨rfl, rfl⟩
    go_wp2_with fail
    refine (M1.out _).mono ?_
    rintro e w' ⟨rfl, rfl⟩
    go_wp2_with fail
    refine (P3.out _).mono ?_
    rintro e w' ⟨rfl, rfl⟩
    go_wp2_with fail
    refine (P4.out _).mono ?_
    rintro e w' ⟨rfl, rfl⟩
    go_wp2_with fail
    refine (P5.out _).mono ?_
    rintro e w' ⟨rfl, rfl⟩
    go_wp2_with fail
    refine (R1.out _).mono ?_
    rintro e w' ⟨rfl, rfl⟩
    go_wp2_with fail
    refine (R1.out _).mono ?_
    rintro e w' ⟨rfl, rfl⟩
    go_wp2_with fail
    refine (I0.out _).mono ?_
    rintro e w' ⟨rfl, rfl⟩
    go_wp2_with fail
    go_ret
    exact ⟨rfl, Below.refl _ _⟩
  · have hr0 : ¬ (r : Int) = 0 := by omega
    have hp : a % pP ≠ 0 := fun e => h0 (hr.symm.trans e)
    obtain ⟨i, hi⟩ : ∃ t, powN a 2305843009213693949 = t := ⟨_, rfl⟩
    have gi : i < 2305843009213693951 := by rw [← hi]; exact powN_lt _ _
    have I1 := Lib.hid (fun w => modpInv hi ha w)
    have M2 := Lib.hid (fun w => modpMul' (c := 1) (show mulN a i = 1 by rw [← hi]; exact powN_inv a _ (by decide +kernel) hp) ha (by omega) rfl rfl w)
    have I2 := Lib.hid (fun w => modpInv (a := i) (c := r) (by rw [← hi, ← hr]; exact powN_inv_inv a _ (by decide +kernel) hp) (by omega) w)
    have P6 := Lib.hid (fun w => modpPow' (b := 2305843009213693950) (c := 1) (powN_full a _ (by decide +kernel) hp) ha (by omega) (y := 2305843009213693950) rfl w)
    clear hx hy hz hr h h' h0 hi hp
    go_enter Try.func5, Try.ntmps5
    go_wp2_with fail
    refine (alive6 _).mono ?_
    rintro e w' ⟨rfl, rfl⟩
    go_wp2_with fail
    refine (P1.out _).mono ?_
    rintro e w' ⟨rfl, rfl⟩
    go_wp2_with fail
    refine (P2.out _).mono ?_
    rintro e w' ⟨rfl, rfl⟩
    go_wp2_with fail
    refine (M1.out _).mono ?_
    rintro e w' ⟨rfl, rfl⟩
    go_wp2_with fail
    refine (P3.out _).mono ?_
    rintro e w' ⟨rfl, rfl⟩
    go_wp2_with fail
    refine (P4.out _).mono ?_
    rintro e w' ⟨rfl, rfl⟩
    go_wp2_with fail
    refine (P5.out _).mono ?_
    rintro e w' ⟨rfl, rfl⟩
    go_wp2_with fail
    refine (R1.out _).mono ?_
    rintro e w' ⟨rfl, rfl⟩
    go_wp2_with fail
    refine (R1.out _).mono ?_
    rintro e w' ⟨rfl, rfl⟩
    go_wp2_with fail
    refine (I1.out _).mono ?_
    rintro e w' ⟨rfl, rfl⟩
    go_wp2_with fail
    refine (M2.out _).mono ?_
    rintro e w' ⟨rfl, rfl⟩
    go_wp2_with fail
    refine (I1.out _).mono ?_
    rintro e w' ⟨rfl, rfl⟩
    go_wp2_with fail
    refine (I2.out _).mono ?_
    rintro e w' ⟨rfl, rfl⟩
    go_wp2_with fail
    refine (R1.out _).mono ?_
    rintro e w' ⟨rfl, rfl⟩
    go_wp2_with fail
    refine (P6.out _).mono ?_
    rintro e w' ⟨rfl, rfl⟩
    go_wp2_with fail
    go_ret
    exact ⟨rfl, Below.refl _ _⟩
theorem walk (a e f : Nat) (w : World) (ha : a < 18446744073709551616) (he : e < 18446744073709551616) (hf : f < 18446744073709551616) :
    Calls Try.prog 5 #[.int .u64 (a : Int), .int .u64 (e : Int), .int .u64 (f : Int)] w fun e w' => e = .returned (.bool true) ∧ Below w.heap.size w w' := by
  by_cases h : 4611686018427387904 < e
  · exact big1 a e f w ha he hf h
  by_cases h' : 4611686018427387904 < f
  · exact big2 a e f w ha he hf h h'
  exact small a e f w ha he hf (by omega) (by omega)
theorem all (a e f : Int) (w : World) (w0 : (Lit.int .u64 a).wf = true) (w1 : (Lit.int .u64 e).wf = true) (w2 : (Lit.int .u64 f).wf = true) :
    Calls Try.prog 5 #[.int .u64 a, .int .u64 e, .int .u64 f] w fun e w' => e = .returned (.bool true) ∧ Below w.heap.size w w' := by
  obtain ⟨a, rfl, ha⟩ := u64_wf w0
  obtain ⟨e, rfl, he⟩ := u64_wf w1
  obtain ⟨f, rfl, hf⟩ := u64_wf w2
  exact walk a e f w ha he hf
end modpPowersLaw
namespace modpShiftsLaw
theorem low (a : Nat) (n : Int) (w : World) (h : n < 0) :
    Calls Try.prog 6 #[.int .u64 (a : Int), .int .i64 n] w fun e w' => e = .returned (.bool true) ∧ Below w.heap.size w w' := by
  go_enter Try.func6, Try.ntmps6
  go_wp2_with fail
  refine (alive6 _).mono ?_
  rintro e w' ⟨rfl, rfl⟩
  go_wp2_with fail
  go_ret
  exact ⟨rfl, Below.refl _ _⟩
theorem high (a : Nat) (n : Int) (w : World) (h0 : 0 ≤ n) (h : 60 < n) :
    Calls Try.prog 6 #[.int .u64 (a : Int), .int .i64 n] w fun e w' => e = .returned (.bool true) ∧ Below w.heap.size w w' := by
  go_enter Try.func6, Try.ntmps6
  go_wp2_with fail
  refine (alive6 _).mono ?_
  rintro e w' ⟨rfl, rfl⟩
  go_wp2_with fail
  go_ret
  exact ⟨rfl, Below.refl _ _⟩
theorem mid (a k : Nat) (w : World) (ha : a < 18446744073709551616) (hk : k ≤ 60) :
    Calls Try.prog 6 #[.int .u64 (a : Int), .int .i64 (k : Int)] w fun e w' => e = .returned (.bool true) ∧ Below w.heap.size w w' := by
  obtain ⟨r, hr⟩ : ∃ t, a % 2305843009213693951 = t := ⟨_, rfl⟩
  have t1 := tmodP hr
  have u1 : (a : Int) % 2305843009213693951 = (r : Int) := by omega
  have br : r < 2305843009213693951 := by omega
  obtain ⟨A, hA⟩ : ∃ t, r * 2 ^ k % 18446744073709551616 = t := ⟨_, rfl⟩
  have wA : IntKind.u64.wrap ((r : Int) * 2 ^ k) = (A : Int) := by
    rw [IntKind.wrap_u64, ← hA]
    simp
  have bA : A < 18446744073709551616 := by rw [← hA]; exact Nat.mod_lt _ (by decide)
  have mA := mask61 A bA
  obtain ⟨L, hL⟩ : ∃ t, A % 2305843009213693952 = t := ⟨_, rfl⟩
  rw [hL] at mA
  obtain ⟨D, hD⟩ : ∃ t, r / 2 ^ (61 - k) = t := ⟨_, rfl⟩
  have dD : (r : Int) / 2 ^ (61 - k) = (D : Int) := by rw [← hD]; simp
  have bD : D ≤ r := by rw [← hD]; exact Nat.div_le_self _ _
  have bL : L < 2305843009213693952 := by omega
  obtain ⟨T, hT⟩ : ∃ t, L ||| D = t := ⟨_, rfl⟩
  have oT := u64_or_nat L D (by omega) (by omega)
  rw [hT] at oT
  have eL : L = r * 2 ^ k % 2 ^ 61 := by omega
  have eT : T = L + D := by rw [← hT, eL, ← hD]; exact shift_or r k hk (by omega)
  have eD : D = r * 2 ^ k / 2 ^ 61 := by rw [← hD]; exact (shift_div r k hk).symm
  have e1 : T % 2305843009213693951 = mulN r (2 ^ k) := by rw [mulN]; omega
  have hk2 : 2 ^ k ≤ 2 ^ 60 := Nat.pow_le_pow_right (by decide) hk
  have hEr : mulN r (2 ^ k) = mulN a (2 ^ k) := by rw [mulN, mulN, ← hr, Nat.mod_mul_mod]
  obtain ⟨m, hm⟩ : ∃ t, mulN r (2 ^ k) = t := ⟨_, rfl⟩
  have HY := Lib.hid (show ((2 ^ k : Nat) : Int) = IntKind.u64.wrap ((2 : Int) ^ k) by
    rw [IntKind.wrap_u64, show ((2 : Int) ^ k) = ((2 ^ k : Nat) : Int) by simp]
    generalize 2 ^ k = E at hk2
    omega)
  have M1 := Lib.hid (fun y hy w => modpMul' hm (by omega) (by omega) rfl (y := y) hy w)
  rw [hm] at e1
  have tT := tmodP e1
  have uT : (T : Int) % 2305843009213693951 = (m : Int) := by omega
  have bT : T < 18446744073709551616 := by omega
  clear hr hA hL hD hT eL eT eD e1 hEr
  by_cases h0 : k = 0
  · have hk0 : ((k : Int) == 0) = true := by simp [h0]
    have hmr : m = r := by rw [← hm, h0, mulN, Nat.pow_zero, Nat.mul_one, Nat.mod_eq_of_lt br]
    rw [hmr] at M1
    have tr := tmodP (Nat.mod_eq_of_lt br)
    have ur : (r : Int) % 2305843009213693951 = (r : Int) := by omega
    clear h0 hmr hm hk2
    go_enter Try.func6, Try.ntmps6
    go_wp2_with fail
    refine (alive6 _).mono ?_
    rintro e w' ⟨rfl, rfl⟩
    go_wp2_with fail
    refine (M1.out _ HY.out _).mono ?_
    rintro e w' ⟨rfl, rfl⟩
    go_wp2_with fail
    go_ret
    exact ⟨rfl, Below.refl _ _⟩
  · have hk0 : ¬ (k : Int) = 0 := by omega
    clear h0 hm hk2
    go_enter Try.func6, Try.ntmps6
    go_wp2_with fail
    refine (alive6 _).mono ?_
    rintro e w' ⟨rfl, rfl⟩
    go_wp2_with fail
    refine (M1.out _ HY.out _).mono ?_
    rintro e w' ⟨rfl, rfl⟩
    go_wp2_with fail
    go_ret
    exact ⟨rfl, Below.refl _ _⟩
theorem walk (a : Nat) (n : Int) (w : World) (ha : a < 18446744073709551616) (hn : -9223372036854775808 ≤ n ∧ n ≤ 9223372036854775807) :
    Calls Try.prog 6 #[.int .u64 (a : Int), .int .i64 n] w fun e w' => e = .returned (.bool true) ∧ Below w.heap.size w w' := by
  by_cases h : n < 0
  · exact low a n w h
  by_cases h' : 60 < n
  · exact high a n w (by omega) h'
  obtain ⟨k, rfl⟩ := Int.eq_ofNat_of_zero_le (show 0 ≤ n by omega)
  exact mid a k w ha (by omega)
theorem all (a n : Int) (w : World) (w0 : (Lit.int .u64 a).wf = true) (w1 : (Lit.int .i64 n).wf = true) :
    Calls Try.prog 6 #[.int .u64 a, .int .i64 n] w fun e w' => e = .returned (.bool true) ∧ Below w.heap.size w w' := by
  obtain ⟨a, rfl, ha⟩ := u64_wf w0
  have hn := i64_wf w1
  exact walk a n w ha hn
end modpShiftsLaw
theorem neg_square (a : Nat) : mulN (subN 0 a) (subN 0 a) = mulN a a := by
  obtain ⟨r, hr⟩ : ∃ t, a % 2305843009213693951 = t := ⟨_, rfl⟩
  obtain ⟨d, hd⟩ : ∃ t, subN 0 a = t := ⟨_, rfl⟩
  have e0 : mulN a a = r * r % 2305843009213693951 := by rw [mulN, Nat.mul_mod, hr]
  rw [hd, e0, mulN]
  have h1 : d + r = 0 ∨ d + r = 2305843009213693951 := by rw [← hd, subN, hr]; omega
  have h2 : d * (d + r) = d * d + d * r := Nat.mul_add _ _ _
  have h3 : r * (d + r) = d * r + r * r := by rw [Nat.mul_add, Nat.mul_comm r d]
  rcases h1 with h1 | h1
  · rw [h1] at h2 h3
    omega
  · rw [h1] at h2 h3
    generalize d * d = x at *
    generalize d * r = y at *
    generalize r * r = z at *
    omega
/-- One step of a product by doubling, from the highest bit on. -/
theorem mul_step (r i s : Nat) (h : s % 2305843009213693951 = (r / 2 ^ (i + 1)) * r % 2305843009213693951) :
    (r / 2 ^ i % 2 = 1 → ((s + s) % 2305843009213693951 + r) % 2305843009213693951 = (r / 2 ^ i) * r % 2305843009213693951) ∧ (r / 2 ^ i % 2 = 0 → (s + s) % 2305843009213693951 = (r / 2 ^ i) * r % 2305843009213693951) := by
  have hs := half_step r i
  generalize r / 2 ^ (i + 1) = q at *
  generalize r / 2 ^ i = p at *
  refine ⟨fun h1 => ?_, fun h1 => ?_⟩
  · have e : p * r = q * r + q * r + r := by rw [show p = q + q + 1 by omega, Nat.add_mul, Nat.add_mul, Nat.one_mul]
    rw [e]
    generalize q * r = Q at *
    omega
  · have e : p * r = q * r + q * r := by rw [show p = q + q by omega, Nat.add_mul]
    rw [e]
    generalize q * r = Q at *
    omega
namespace modpSquaresLaw
set_option maxHeartbeats 400000 in
theorem walk (a : Nat) (w : World) (ha : a < 18446744073709551616) :
    Calls Try.prog 7 #[.int .u64 (a : Int)] w fun e w' => e = .returned (.bool true) ∧ Below w.heap.size w w' := by
  obtain ⟨r, hr⟩ : ∃ t, a % 2305843009213693951 = t := ⟨_, rfl⟩
  obtain ⟨m, hm⟩ : ∃ t, mulN a a = t := ⟨_, rfl⟩
  obtain ⟨d, hd⟩ : ∃ t, subN 0 a = t := ⟨_, rfl⟩
  have t1 := tmodP hr
  have u1 : (a : Int) % 2305843009213693951 = (r : Int) := by omega
  have br : r < 2305843009213693951 := by omega
  have bd : d < 2305843009213693951 := by rw [← hd]; exact subN_lt _ _
  have M1 := Lib.hid (fun w => modpMul' hm ha ha rfl rfl w)
  have P1 := Lib.hid (fun w => modpPow' (b := 2) (c := m) (by rw [powN_eq, Nat.pow_two]; exact hm) ha (by omega) (y := 2) rfl w)
  have S1 := Lib.hid (fun w => modpSub' (a := 0) hd (by omega) ha (x := 0) rfl rfl w)
  have M2 := Lib.hid (fun w => modpMul' (show mulN d d = m by rw [← hd, ← hm]; exact neg_square a) (by omega) (by omega) rfl rfl w)
  have HM := Lib.hid (show r * r % 2305843009213693951 = m by rw [← hr, ← Nat.mul_mod]; exact hm)
  clear hr hm hd
  go_enter Try.func7, Try.ntmps7
  go_wp2_with fail
  refine (alive6 _).mono ?_
  rintro e w' ⟨rfl, rfl⟩
  go_wp2_with fail
  go_loop [5, 6] (fun p i => ∃ s j : Nat, p = .int .u64 s ∧ i = .int .i64 ((j : Int) - 1) ∧ j ≤ 61 ∧ s < 2305843009213693951 ∧ Hid (s % 2305843009213693951 = (r / 2 ^ j) * r % 2305843009213693951)) (fun _ i => (intOf i + 1).toNat)
  case atStart => exact ⟨0, 61, rfl, rfl, by decide, by decide, Lib.hid (by rw [Nat.div_eq_of_lt (by omega), Nat.zero_mul])⟩
  case round =>
    obtain ⟨s, j, rfl, rfl, hj, hs, HI⟩ := hrel
    by_cases h0 : j = 0
    · have h1 : (j : Int) - 1 < 0 := by omega
      have hsm : s = m := by
        have h2 := HI.out
        rw [h0, Nat.pow_zero, Nat.div_one, HM.out, Nat.mod_eq_of_lt hs] at h2
        exact h2
      subst hsm
      clear h0
      go_wp2_with fail
      refine (M1.out _).mono ?_
      rintro e w' ⟨rfl, rfl⟩
      go_wp2_with fail
      refine (P1.out _).mono ?_
      rintro e w' ⟨rfl, rfl⟩
      go_wp2_with fail
      refine (S1.out _).mono ?_
      rintro e w' ⟨rfl, rfl⟩
      go_wp2_with fail
      refine (S1.out _).mono ?_
      rintro e w' ⟨rfl, rfl⟩
      go_wp2_with fail
      refine (M2.out _).mono ?_
      rintro e w' ⟨rfl, rfl⟩
      go_wp2_with fail
      go_ret
      exact ⟨rfl, Below.refl _ _⟩
    · obtain ⟨i, rfl⟩ : ∃ i, j = i + 1 := ⟨j - 1, by omega⟩
      have hi : i < 61 := by omega
      have HP := Lib.hid (mul_step r i s HI.out)
      clear h0 hj
      rw [show (((i + 1 : Nat) : Int) - 1) = (i : Int) by omega]
      obtain ⟨q, hq⟩ : ∃ t, r / 2 ^ i = t := ⟨_, rfl⟩
      have qm : (r : Int) / 2 ^ i = (q : Int) := by rw [← hq]; simp
      have bq : q < 18446744073709551616 := by rw [← hq]; exact Nat.lt_of_le_of_lt (Nat.div_le_self _ _) (by omega)
      have m1 := and1 q bq
      obtain ⟨v, hv⟩ : ∃ t, (s + s) % 2305843009213693951 = t := ⟨_, rfl⟩
      have bv : v < 2305843009213693951 := by omega
      have tv := tmodP hv
      rw [Int.natCast_add] at tv
      have uv : ((s : Int) + (s : Int)) % 2305843009213693951 = (v : Int) := by omega
      by_cases hodd : q % 2 = 1
      · rw [hodd] at m1
        obtain ⟨z, hz⟩ : ∃ t, (v + r) % 2305843009213693951 = t := ⟨_, rfl⟩
        have bz : z < 2305843009213693951 := by omega
        have tz := tmodP hz
        rw [Int.natCast_add] at tz
        have uz : ((v : Int) + (r : Int)) % 2305843009213693951 = (z : Int) := by omega
        have HN := Lib.hid (show z % 2305843009213693951 = (r / 2 ^ i) * r % 2305843009213693951 by
          rw [← hz, Nat.mod_mod, ← hv]; exact HP.out.1 (by rw [hq]; exact hodd))
        clear hv hz hq hodd
        go_wp2_with fail
        exact ⟨⟨z, i, rfl, rfl, by omega, bz, HN⟩, by simp [intOf]⟩
      · have h2 : q % 2 = 0 := by omega
        have HN := Lib.hid (show v % 2305843009213693951 = (r / 2 ^ i) * r % 2305843009213693951 by
          rw [← hv, Nat.mod_mod]; exact HP.out.2 (by rw [hq]; exact h2))
        rw [h2] at m1
        clear hv hq hodd h2
        go_wp2_with fail
        exact ⟨⟨v, i, rfl, rfl, by omega, bv, HN⟩, by simp [intOf]⟩
theorem all (a : Int) (w : World) (w0 : (Lit.int .u64 a).wf = true) :
    Calls Try.prog 7 #[.int .u64 a] w fun e w' => e = .returned (.bool true) ∧ Below w.heap.size w w' := by
  obtain ⟨a, rfl, ha⟩ := u64_wf w0
  exact walk a w ha
end modpSquaresLaw
end Go.Proofs.Ytdmmddndepgoaaa
