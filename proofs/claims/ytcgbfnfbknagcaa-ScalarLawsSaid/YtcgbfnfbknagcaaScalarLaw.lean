/-
  The laws of chapter 7, scalar: the walks (numbers alone).
-/
import Derived.Test.YtcgbfnfbknagcaaScalarOf
namespace Go.Proofs.Ytcgbfnfbknagcaa
open Go.ChangeShapes Go.WideShapes Go.ChangeAt Go.RowKit
set_option linter.unusedVariables false
set_option linter.unusedSimpArgs false

theorem alive7 (w : World) :
    Calls Try.prog 7 #[] w fun e w' => e = .returned (.bool true) ∧ w = w' := by
  have C1 := Lib.hid (fun w => scalarAdd' (a := 2305843009213693949) (b := 1) (c := 0) (by decide) (by decide) (by decide) (x := 2305843009213693949) (y := 1) rfl rfl w)
  have C2 := Lib.hid (fun w => scalarMul' (a := 2) (b := 3) (c := 6) (by decide) (by decide) (by decide) (x := 2) (y := 3) rfl rfl w)
  go_enter Try.func7, Try.ntmps7
  go_wp2_with fail
  refine (C1.out _).mono ?_
  rintro e w' ⟨rfl, rfl⟩
  go_wp2_with fail
  refine (C2.out _).mono ?_
  rintro e w' ⟨rfl, rfl⟩
  go_wp2_with fail
  go_ret
  exact ⟨rfl, rfl⟩

namespace scalarReckonsLaw
theorem walk (a b : Nat) (w : World) (ha : a < 18446744073709551616) (hb : b < 18446744073709551616) :
    Calls Try.prog 3 #[.int .u64 (a : Int), .int .u64 (b : Int)] w fun e w' => e = .returned (.bool true) ∧ Below w.heap.size w w' := by
  obtain ⟨r, hr⟩ : ∃ t, a % 2305843009213693950 = t := ⟨_, rfl⟩
  have t1 := tmodS hr
  have u1 : (a : Int) % 2305843009213693950 = (r : Int) := by omega
  have CR := Lib.hid (fun w => scalarReduce' hr ha rfl w)
  obtain ⟨s, hs⟩ : ∃ t, addS a b = t := ⟨_, rfl⟩
  have CA := Lib.hid (fun w => scalarAdd' hs ha hb rfl rfl w)
  have DA := Lib.hid (fun w => hs ▸ refAddN a b w ha hb)
  obtain ⟨d, hd⟩ : ∃ t, subS a b = t := ⟨_, rfl⟩
  have CS := Lib.hid (fun w => scalarSub' hd ha hb rfl rfl w)
  have DS := Lib.hid (fun w => hd ▸ refSubN a b w ha hb)
  obtain ⟨m, hm⟩ : ∃ t, mulS a b = t := ⟨_, rfl⟩
  have CM := Lib.hid (fun w => scalarMul' hm ha hb rfl rfl w)
  have DM := Lib.hid (fun w => refMulN' hm ha hb rfl rfl w)
  clear hr hs hd hm
  go_enter Try.func3, Try.ntmps3
  go_wp2_with fail
  refine (alive7 _).mono ?_
  rintro e w' ⟨rfl, rfl⟩
  go_wp2_with fail
  refine (CR.out _).mono ?_
  rintro e w' ⟨rfl, rfl⟩
  go_wp2_with fail
  refine (CA.out _).mono ?_
  rintro e w' ⟨rfl, rfl⟩
  go_wp2_with fail
  refine (DA.out _).mono ?_
  rintro e w' ⟨rfl, rfl⟩
  go_wp2_with fail
  refine (CS.out _).mono ?_
  rintro e w' ⟨rfl, rfl⟩
  go_wp2_with fail
  refine (DS.out _).mono ?_
  rintro e w' ⟨rfl, rfl⟩
  go_wp2_with fail
  refine (CM.out _).mono ?_
  rintro e w' ⟨rfl, rfl⟩
  go_wp2_with fail
  refine (DM.out _).mono ?_
  rintro e w' ⟨rfl, rfl⟩
  go_wp2_with fail
  go_ret
  exact ⟨rfl, Below.refl _ _⟩
theorem all (a b : Int) (w : World) (w0 : (Lit.int .u64 a).wf = true) (w1 : (Lit.int .u64 b).wf = true) :
    Calls Try.prog 3 #[.int .u64 a, .int .u64 b] w fun e w' => e = .returned (.bool true) ∧ Below w.heap.size w w' := by
  obtain ⟨a, rfl, ha⟩ := u64_wf w0
  obtain ⟨b, rfl, hb⟩ := u64_wf w1
  exact walk a b w ha hb
end scalarReckonsLaw
namespace scalarLawsLaw
theorem walk (a b c : Nat) (w : World) (ha : a < 18446744073709551616) (hb : b < 18446744073709551616) (hc : c < 18446744073709551616) :
    Calls Try.prog 4 #[.int .u64 (a : Int), .int .u64 (b : Int), .int .u64 (c : Int)] w fun e w' => e = .returned (.bool true) ∧ Below w.heap.size w w' := by
  obtain ⟨s, hs⟩ : ∃ t, addS a b = t := ⟨_, rfl⟩
  obtain ⟨m, hm⟩ : ∃ t, mulS a b = t := ⟨_, rfl⟩
  obtain ⟨t, ht⟩ : ∃ t, addS s c = t := ⟨_, rfl⟩
  obtain ⟨v, hv⟩ : ∃ t, addS b c = t := ⟨_, rfl⟩
  obtain ⟨x, hx⟩ : ∃ t, mulS m c = t := ⟨_, rfl⟩
  obtain ⟨y, hy⟩ : ∃ t, mulS b c = t := ⟨_, rfl⟩
  obtain ⟨z, hz⟩ : ∃ t, mulS a v = t := ⟨_, rfl⟩
  obtain ⟨k, hk⟩ : ∃ t, mulS a c = t := ⟨_, rfl⟩
  obtain ⟨d, hd⟩ : ∃ t, subS a b = t := ⟨_, rfl⟩
  obtain ⟨r, hr⟩ : ∃ t, a % 2305843009213693950 = t := ⟨_, rfl⟩
  have gs : s < 2305843009213693950 := by rw [← hs]; exact addS_lt _ _
  have gm : m < 2305843009213693950 := by rw [← hm]; exact mulS_lt _ _
  have gt : t < 2305843009213693950 := by rw [← ht]; exact addS_lt _ _
  have gv : v < 2305843009213693950 := by rw [← hv]; exact addS_lt _ _
  have gx : x < 2305843009213693950 := by rw [← hx]; exact mulS_lt _ _
  have gy : y < 2305843009213693950 := by rw [← hy]; exact mulS_lt _ _
  have gz : z < 2305843009213693950 := by rw [← hz]; exact mulS_lt _ _
  have gk : k < 2305843009213693950 := by rw [← hk]; exact mulS_lt _ _
  have gd : d < 2305843009213693950 := by rw [← hd]; exact subS_lt _ _
  have A1 := Lib.hid (fun w => scalarAdd' hs (by omega) (by omega) rfl rfl w)
  have M1 := Lib.hid (fun w => scalarMul' hm (by omega) (by omega) rfl rfl w)
  have M2 := Lib.hid (fun w => scalarMul' ((mulS_comm a b).trans hm) (by omega) (by omega) rfl rfl w)
  have A3 := Lib.hid (fun w => scalarAdd' ht (by omega) (by omega) rfl rfl w)
  have A4 := Lib.hid (fun w => scalarAdd' hv (by omega) (by omega) rfl rfl w)
  have A5 := Lib.hid (fun w => scalarAdd' (show addS a v = t by rw [← hv, ← ht, ← hs]; exact addS_assoc a b c) (by omega) (by omega) rfl rfl w)
  have M3 := Lib.hid (fun w => scalarMul' hx (by omega) (by omega) rfl rfl w)
  have M4 := Lib.hid (fun w => scalarMul' hy (by omega) (by omega) rfl rfl w)
  have M5 := Lib.hid (fun w => scalarMul' (show mulS a y = x by rw [← hy, ← hx, ← hm]; exact mulS_assoc a b c) (by omega) (by omega) rfl rfl w)
  have M6 := Lib.hid (fun w => scalarMul' hz (by omega) (by omega) rfl rfl w)
  have M7 := Lib.hid (fun w => scalarMul' hk (by omega) (by omega) rfl rfl w)
  have A6 := Lib.hid (fun w => scalarAdd' (show addS m k = z by rw [← hm, ← hk, ← hz, ← hv]; exact mulS_addS a b c) (by omega) (by omega) rfl rfl w)
  have S1 := Lib.hid (fun w => scalarSub' hd (by omega) (by omega) rfl rfl w)
  have A7 := Lib.hid (fun w => scalarAdd' (show addS d b = r by rw [← hd, ← hr]; exact addS_subS a b) (by omega) (by omega) rfl rfl w)
  have R1 := Lib.hid (fun w => scalarReduce' hr (by omega) rfl w)
  clear hs hm ht hv hx hy hz hk hd hr
  go_enter Try.func4, Try.ntmps4
  go_wp2_with fail
  refine (alive7 _).mono ?_
  rintro e w' ⟨rfl, rfl⟩
  go_wp2_with fail
  refine (M1.out _).mono ?_
  rintro e w' ⟨rfl, rfl⟩
  go_wp2_with fail
  refine (M2.out _).mono ?_
  rintro e w' ⟨rfl, rfl⟩
  go_wp2_with fail
  refine (M1.out _).mono ?_
  rintro e w' ⟨rfl, rfl⟩
  go_wp2_with fail
  refine (M3.out _).mono ?_
  rintro e w' ⟨rfl, rfl⟩
  go_wp2_with fail
  refine (M4.out _).mono ?_
  rintro e w' ⟨rfl, rfl⟩
  go_wp2_with fail
  refine (M5.out _).mono ?_
  rintro e w' ⟨rfl, rfl⟩
  go_wp2_with fail
  refine (A1.out _).mono ?_
  rintro e w' ⟨rfl, rfl⟩
  go_wp2_with fail
  refine (A3.out _).mono ?_
  rintro e w' ⟨rfl, rfl⟩
  go_wp2_with fail
  refine (A4.out _).mono ?_
  rintro e w' ⟨rfl, rfl⟩
  go_wp2_with fail
  refine (A5.out _).mono ?_
  rintro e w' ⟨rfl, rfl⟩
  go_wp2_with fail
  refine (A4.out _).mono ?_
  rintro e w' ⟨rfl, rfl⟩
  go_wp2_with fail
  refine (M6.out _).mono ?_
  rintro e w' ⟨rfl, rfl⟩
  go_wp2_with fail
  refine (M1.out _).mono ?_
  rintro e w' ⟨rfl, rfl⟩
  go_wp2_with fail
  refine (M7.out _).mono ?_
  rintro e w' ⟨rfl, rfl⟩
  go_wp2_with fail
  refine (A6.out _).mono ?_
  rintro e w' ⟨rfl, rfl⟩
  go_wp2_with fail
  refine (S1.out _).mono ?_
  rintro e w' ⟨rfl, rfl⟩
  go_wp2_with fail
  refine (A7.out _).mono ?_
  rintro e w' ⟨rfl, rfl⟩
  go_wp2_with fail
  refine (R1.out _).mono ?_
  rintro e w' ⟨rfl, rfl⟩
  go_wp2_with fail
  go_ret
  exact ⟨rfl, Below.refl _ _⟩
theorem all (a b c : Int) (w : World) (w0 : (Lit.int .u64 a).wf = true) (w1 : (Lit.int .u64 b).wf = true) (w2 : (Lit.int .u64 c).wf = true) :
    Calls Try.prog 4 #[.int .u64 a, .int .u64 b, .int .u64 c] w fun e w' => e = .returned (.bool true) ∧ Below w.heap.size w w' := by
  obtain ⟨a, rfl, ha⟩ := u64_wf w0
  obtain ⟨b, rfl, hb⟩ := u64_wf w1
  obtain ⟨c, rfl, hc⟩ := u64_wf w2
  exact walk a b c w ha hb hc
end scalarLawsLaw
namespace scalarTimesLaw
set_option maxHeartbeats 400000 in
theorem walk (a b : Nat) (w : World) (ha : a < 18446744073709551616) (hb : b < 18446744073709551616) :
    Calls Try.prog 6 #[.int .u64 (a : Int), .int .u64 (b : Int)] w fun e w' => e = .returned (.bool true) ∧ Below w.heap.size w w' := by
  obtain ⟨x, hx⟩ : ∃ t, a % 2305843009213693950 = t := ⟨_, rfl⟩
  obtain ⟨r, hr⟩ : ∃ t, b % 2305843009213693950 = t := ⟨_, rfl⟩
  obtain ⟨m, hm⟩ : ∃ t, mulS a b = t := ⟨_, rfl⟩
  obtain ⟨d, hd⟩ : ∃ t, subS 0 a = t := ⟨_, rfl⟩
  have t0 := tmodS hx
  have u0 : (a : Int) % 2305843009213693950 = (x : Int) := by omega
  have t1 := tmodS hr
  have u1 : (b : Int) % 2305843009213693950 = (r : Int) := by omega
  have bx : x < 2305843009213693950 := by omega
  have br : r < 2305843009213693950 := by omega
  have bd : d < 2305843009213693950 := by rw [← hd]; exact subS_lt _ _
  have M1 := Lib.hid (fun w => scalarMul' hm ha hb rfl rfl w)
  have S1 := Lib.hid (fun w => scalarSub' (a := 0) hd (by omega) ha (x := 0) rfl rfl w)
  have S2 := Lib.hid (fun w => scalarSub' (a := 0) (b := d) (c := x) (by rw [← hd, ← hx]; exact subS_subS a) (by omega) (by omega) (x := 0) rfl rfl w)
  have HM := Lib.hid (show r * x % 2305843009213693950 = m by rw [← hr, ← hx, ← Nat.mul_mod, Nat.mul_comm]; exact hm)
  clear hx hr hm hd
  go_enter Try.func6, Try.ntmps6
  go_wp2_with fail
  refine (alive7 _).mono ?_
  rintro e w' ⟨rfl, rfl⟩
  go_wp2_with fail
  go_loop [8, 9] (fun p i => ∃ s j : Nat, p = .int .u64 s ∧ i = .int .i64 ((j : Int) - 1) ∧ j ≤ 61 ∧ s < 2305843009213693950 ∧ Hid (s % 2305843009213693950 = (r / 2 ^ j) * x % 2305843009213693950)) (fun _ i => (intOf i + 1).toNat)
  case atStart => exact ⟨0, 61, rfl, rfl, by decide, by decide, Lib.hid (by rw [Nat.div_eq_of_lt (by omega), Nat.zero_mul])⟩
  case round =>
    obtain ⟨s, j, rfl, rfl, hj, hs, HI⟩ := hrel
    by_cases h0 : j = 0
    · have h1 : (j : Int) - 1 < 0 := by omega
      have hsm : s = m := by
        have h2 := HI.out
        rw [h0, Nat.pow_zero, Nat.div_one, HM.out, Nat.mod_eq_of_lt hs] at h2
        exact h2
      subst hsm
      clear h0
      go_wp2_with fail
      refine (M1.out _).mono ?_
      rintro e w' ⟨rfl, rfl⟩
      go_wp2_with fail
      refine (S1.out _).mono ?_
      rintro e w' ⟨rfl, rfl⟩
      go_wp2_with fail
      refine (S2.out _).mono ?_
      rintro e w' ⟨rfl, rfl⟩
      go_wp2_with fail
      go_ret
      exact ⟨rfl, Below.refl _ _⟩
    · obtain ⟨i, rfl⟩ : ∃ i, j = i + 1 := ⟨j - 1, by omega⟩
      have hi : i < 61 := by omega
      have HP := Lib.hid (mul_stepS r x i s HI.out)
      clear h0 hj
      rw [show (((i + 1 : Nat) : Int) - 1) = (i : Int) by omega]
      obtain ⟨q, hq⟩ : ∃ t, r / 2 ^ i = t := ⟨_, rfl⟩
      have qm : (r : Int) / 2 ^ i = (q : Int) := by rw [← hq]; simp
      have bq : q < 18446744073709551616 := by rw [← hq]; exact Nat.lt_of_le_of_lt (Nat.div_le_self _ _) (by omega)
      have m1 := and1 q bq
      obtain ⟨v, hv⟩ : ∃ t, (s + s) % 2305843009213693950 = t := ⟨_, rfl⟩
      have bv : v < 2305843009213693950 := by omega
      have tv := tmodS hv
      rw [Int.natCast_add] at tv
      have uv : ((s : Int) + (s : Int)) % 2305843009213693950 = (v : Int) := by omega
      by_cases hodd : q % 2 = 1
      · rw [hodd] at m1
        obtain ⟨z, hz⟩ : ∃ t, (v + x) % 2305843009213693950 = t := ⟨_, rfl⟩
        have bz : z < 2305843009213693950 := by omega
        have tz := tmodS hz
        rw [Int.natCast_add] at tz
        have uz : ((v : Int) + (x : Int)) % 2305843009213693950 = (z : Int) := by omega
        have HN := Lib.hid (show z % 2305843009213693950 = (r / 2 ^ i) * x % 2305843009213693950 by
          rw [← hz, Nat.mod_mod, ← hv]; exact HP.out.1 (by rw [hq]; exact hodd))
        clear hv hz hq hodd
        go_wp2_with fail
        exact ⟨⟨z, i, rfl, rfl, by omega, bz, HN⟩, by simp [intOf]⟩
      · have h2 : q % 2 = 0 := by omega
        have HN := Lib.hid (show v % 2305843009213693950 = (r / 2 ^ i) * x % 2305843009213693950 by
          rw [← hv, Nat.mod_mod]; exact HP.out.2 (by rw [hq]; exact h2))
        rw [h2] at m1
        clear hv hq hodd h2
        go_wp2_with fail
        exact ⟨⟨v, i, rfl, rfl, by omega, bv, HN⟩, by simp [intOf]⟩
theorem all (a b : Int) (w : World) (w0 : (Lit.int .u64 a).wf = true) (w1 : (Lit.int .u64 b).wf = true) :
    Calls Try.prog 6 #[.int .u64 a, .int .u64 b] w fun e w' => e = .returned (.bool true) ∧ Below w.heap.size w w' := by
  obtain ⟨a, rfl, ha⟩ := u64_wf w0
  obtain ⟨b, rfl, hb⟩ := u64_wf w1
  exact walk a b w ha hb
end scalarTimesLaw
end Go.Proofs.Ytcgbfnfbknagcaa
