/-
  Contracts of the methods sizes, element, proof, end of the package's reader.
-/
import Derived.Test.YtiilgkajijnbcaaRp
namespace Go.Proofs.Ytiilgkajijnbcaa
open Go.ChangeShapes Go.WideShapes Go.ChangeAt Go.RowKit
set_option linter.unusedVariables false
set_option linter.unusedSimpArgs false

theorem sizeS_none {b : List UInt8} {s s' : St} {z : Nat} (h : sizeS b 0 s = (z, s')) : mostS b 0 s = (0, s') := by
  have h2 : (sizeS b 0 s).2 = s' := congrArg Prod.snd h
  rw [← h2]
  unfold mostS sizeS mostS
  obtain ⟨x, s1⟩ := numS b s
  by_cases h0 : x = 0
  · subst h0
    simp
  · rw [if_pos (by show 0 < x; omega)]
    by_cases h1 : 1048576 < x
    · simp [h1]
    · simp [h1, h0]
set_option maxHeartbeats 1000000 in
theorem rpSizes' (B g : Nat) (b : List UInt8) (s s1 s2 : St) (N z : Nat) (h1 : mostS b 1000 s = (N, s1)) (h2 : sizeS b N s1 = (z, s2)) (hs : s.ok b) (w : World) (H : Rdp B w g b s) :
    Calls Try.prog 40 #[.pointer (some ⟨g, 0, none⟩)] w fun e w' => ∃ y : Nat, e = .returned (.tuple #[.int .i64 (N : Int), .int .i64 (y : Int)]) ∧ (N ≠ 0 → y = z) ∧ y ≤ 1048576 ∧ Rdp B w' g b s2 ∧ Save g w w' := by
  have o1 : s1.ok b := by have := mostS_ok 1000 hs; rw [h1] at this; exact this
  have KM := Lib.hid (show Calls Try.prog 48 #[.pointer (some ⟨g, 0, none⟩), .int .i64 1000] w _ from rpCount' B g b s s1 1000 N h1 (by omega) hs w H)
  by_cases h0 : N = 0
  · subst h0
    have KZ := Lib.hid (fun (u : World) (H : Rdp B u g b s1) => show Calls Try.prog 48 #[.pointer (some ⟨g, 0, none⟩), .int .i64 0] u _ from rpCount' B g b s1 s2 0 0 (sizeS_none h2) (by omega) o1 u H)
    clear h1 h2 o1 hs H
    go_enter Try.func40, Try.ntmps40
    go_wp2_with fail
    refine (KM.out).mono ?_
    rintro e w2 ⟨rfl, H2, S2⟩
    have HX := Lib.hid H2
    clear H2 KM
    go_wp2_with fail
    refine (KZ.out _ HX.out).mono ?_
    rintro e w3 ⟨rfl, H3, S3⟩
    go_wp2_with fail
    go_ret2
    exact ⟨0, rfl, fun h => absurd rfl h, by omega, H3, S2.trans S3⟩
  · have hz : mostS b 1048576 s1 = (z, s2) := by
      unfold sizeS at h2
      rw [if_neg (fun h => h0 h.1)] at h2
      exact h2
    have hzl : z ≤ 1048576 := by have := mostS_le b 1048576 s1; rw [hz] at this; exact this
    have KZ := Lib.hid (fun (u : World) (H : Rdp B u g b s1) => show Calls Try.prog 48 #[.pointer (some ⟨g, 0, none⟩), .int .i64 1048576] u _ from rpCount' B g b s1 s2 1048576 z hz (by omega) o1 u H)
    have hN : ((N : Int) == 0) = false := by simp; exact h0
    have HZ := Lib.hid hzl
    clear h1 h2 o1 hs H hz h0 hzl
    go_enter Try.func40, Try.ntmps40
    go_wp2_with fail
    refine (KM.out).mono ?_
    rintro e w2 ⟨rfl, H2, S2⟩
    have HX := Lib.hid H2
    clear H2 KM
    go_wp2_with fail
    refine (KZ.out _ HX.out).mono ?_
    rintro e w3 ⟨rfl, H3, S3⟩
    go_wp2_with fail
    go_ret2
    exact ⟨z, rfl, fun _ => rfl, HZ.out, H3, S2.trans S3⟩
set_option maxHeartbeats 1000000 in
theorem rpElem' (B g : Nat) (b : List UInt8) (s s' : St) (x : Nat) (h : elemS b s = (x, s')) (hs : s.ok b) (w : World) (H : Rdp B w g b s) :
    Calls Try.prog 41 #[.pointer (some ⟨g, 0, none⟩)] w fun e w' => e = .returned (.int .u64 (x : Int)) ∧ Rdp B w' g b s' ∧ Save g w w' := by
  obtain ⟨y, s1, ht⟩ : ∃ l s1, numS b s = (l, s1) := ⟨_, _, rfl⟩
  have KN := Lib.hid (rpAny' B g b s s1 y ht hs w H)
  have hy : y < 18446744073709551616 := by have := numS_lt b s; rw [ht] at this; exact this
  unfold elemS at h
  rw [ht] at h
  obtain ⟨rfl, hf⟩ := Prod.mk.inj h
  have hf' : (if s1.e = 0 ∧ ¬ rightN y then failS 2 s1 else s1) = s' := hf
  clear h hf ht H hs
  by_cases hr : rightN y
  · rw [if_neg (fun h => h.2 hr)] at hf'
    subst hf'
    have A1 := Lib.hid (fun w => groupRight' (decide_eq_true hr) hy rfl w)
    clear hr
    go_enter Try.func41, Try.ntmps41
    go_wp2_with fail
    refine (KN.out).mono ?_
    rintro e w2 ⟨rfl, H2, S2⟩
    have HX := Lib.hid H2
    clear H2
    go_wp2_with fail
    refine (A1.out _).mono ?_
    rintro e w' ⟨rfl, rfl⟩
    go_wp2_with fail
    go_ret
    exact ⟨rfl, HX.out, S2⟩
  · have hff : failS 2 s1 = s' := by
      by_cases h0 : s1.e = 0
      · rw [if_pos ⟨h0, hr⟩] at hf'
        exact hf'
      · rw [if_neg (fun h => h0 h.1)] at hf'
        rw [failS_same _ _ h0]
        exact hf'
    have KF := Lib.hid (fun (w : World) (H : Rdp B w g b s1) => rpFail2 B g b s1 s' hff w H)
    have A1 := Lib.hid (fun w => groupRight' (decide_eq_false hr) hy rfl w)
    clear hr hf' hff
    go_enter Try.func41, Try.ntmps41
    go_wp2_with fail
    refine (KN.out).mono ?_
    rintro e w2 ⟨rfl, H2, S2⟩
    have HX := Lib.hid H2
    clear H2
    go_wp2_with fail
    refine (A1.out _).mono ?_
    rintro e w' ⟨rfl, rfl⟩
    go_wp2_with fail
    refine (KF.out _ HX.out).mono ?_
    rintro e w3 ⟨rfl, H3, o3⟩
    go_wp2_with fail
    go_ret
    exact ⟨rfl, H3, S2.trans o3.save⟩
theorem rpEnd' (B g : Nat) (b : List UInt8) (s : St) (k : Nat) (h : endS b s = k) (hs : s.ok b) (w : World) (H : Rdp B w g b s) :
    Calls Try.prog 43 #[.pointer (some ⟨g, 0, none⟩)] w fun e' w' => e' = .returned (.int .i64 (k : Int)) ∧ Save g w w' := by
  obtain ⟨A, n, c, g1, g2, g3, g4⟩ := id H
  have hl := g2.len
  rw [List.length_drop] at hl
  have c0 : w.cell? ⟨g, 0, none⟩ = some (.slice A n c) := g1.cell 0
  have c1 : w.cell? ⟨g, 1, none⟩ = some (.int .i64 (s.e : Int)) := g1.cell 1
  have hle := g2.le
  by_cases hn : n = 0
  · subst hn
    have hk : s.e = k := by
      rw [← h, endS, if_neg (fun h => h.2 (by have := hs.1; omega))]
    rw [hk] at c1
    clear h hs H g1 g2 g3 hl hk hle
    go_enter Try.func43, Try.ntmps43
    go_wp2_with fail
    go_ret
    exact ⟨rfl, Save.refl _ _⟩
  · have hn0 : (0 : Int) < (n : Int) := by omega
    have KF := Lib.hid (rpFail2 B g b s (failS 2 s) rfl w H)
    have hk : (failS 2 s).e = k := by
      rw [← h, endS]
      by_cases h0 : s.e = 0
      · rw [if_pos ⟨h0, by omega⟩, failS, if_pos h0]
      · rw [if_neg (fun h => h0 h.1), failS, if_neg h0]
    obtain ⟨s2, hs2⟩ : ∃ t, failS 2 s = t := ⟨_, rfl⟩
    rw [hs2] at KF hk
    clear h hs H g1 g2 g3 hl hn hs2 c1
    go_enter Try.func43, Try.ntmps43
    go_wp2_with fail
    refine (KF.out).mono ?_
    rintro e w2 ⟨rfl, H2, o2⟩
    obtain ⟨A2, n2, c2, g1, g2, g3, g4⟩ := H2
    have d1 : w2.cell? ⟨g, 1, none⟩ = some (.int .i64 (s2.e : Int)) := g1.cell 1
    rw [hk] at d1
    clear g1 g2 g3 KF hk
    go_wp2_with fail
    go_ret
    exact ⟨rfl, o2.save⟩
/-! ### A pair of numbers -/
theorem size_prf : (Try.prog.info? 41).map (·.size) = some 2 := by kernel_rfl
theorem newPrf (w : World) : Has (w.alloc (.cells #[.int .u64 0, .int .u64 0] 41)) w.heap.size 41 [.int .u64 0, .int .u64 0] := Has.new w 41 [.int .u64 0, .int .u64 0]
theorem one_two (x y : Nat) : ∀ u ∈ [Value.int .u64 (x : Int), Value.int .u64 (y : Int)], u.oneCell' = true := by
  intro u hu
  simp only [List.mem_cons, List.not_mem_nil, or_false] at hu
  rcases hu with rfl | rfl <;> rfl
set_option maxHeartbeats 1000000 in
theorem rpProof' (B g : Nat) (b : List UInt8) (s s1 s2 : St) (x y : Nat) (h1 : numS b s = (x, s1)) (h2 : numS b s1 = (y, s2)) (hs : s.ok b) (w : World) (H : Rdp B w g b s) :
    Calls Try.prog 49 #[.pointer (some ⟨g, 0, none⟩)] w fun e w' => e = .returned (.agg #[.int .u64 (x : Int), .int .u64 (y : Int)]) ∧ Rdp B w' g b s2 ∧ Save g w w' := by
  have o1 : s1.ok b := by have := numS_ok hs; rw [h1] at this; exact this
  have HP1 := newPrf w
  have hb1 := (Below.refl w.heap.size w).alloc (Nat.le_refl _) (.cells #[.int .u64 0, .int .u64 0] 41)
  have hgl := H.lt
  have H1 := H.keep hb1
  have hz1 : (w.alloc (.cells #[.int .u64 0, .int .u64 0] 41)).heap.size = w.heap.size + 1 := by simp
  have K1 := Lib.hid (rpAny' B g b s s1 x h1 hs _ H1)
  have K2 := Lib.hid (fun (u : World) (H : Rdp B u g b s1) => rpAny' B g b s1 s2 y h2 o1 u H)
  have SB := Lib.hid (Save.of_below (g := g) hb1)
  clear h1 h2 hs o1 H H1
  go_enter Try.func49, Try.ntmps49
  go_wp2_with fail
  change Calls _ _ _ (w.alloc (.cells #[.int .u64 0, .int .u64 0] 41)) _
  generalize (w.alloc (.cells #[.int .u64 0, .int .u64 0] 41)) = w1 at *
  refine (K1.out).mono ?_
  rintro e w2 ⟨rfl, H2, S2⟩
  have HP2 := HP1.save S2 (by omega)
  have HX := Lib.hid H2
  have hz2 := S2.size
  clear H2 HP1 K1
  go_wp2_with fail
  refine (K2.out _ HX.out).mono ?_
  rintro e w3 ⟨rfl, H3, S3⟩
  have HP3 := HP2.save S3 (by omega)
  have HX3 := Lib.hid H3
  clear H3 HP2 HX K2
  go_wp2_with (first
    | ((refine wpList_store_has rfl 41 (.tmp 2) (.tmp 7) rfl w.heap.size rfl [.int .u64 (x : Int), .int .u64 (y : Int)] rfl 41 [.int .u64 0, .int .u64 0] HP3 size_prf rfl (one_two x y) ?_); intro w4 o4 H4))
  exact ret_has Try.results49 w.heap.size rfl 41 _ H4 _ Try.underlying41 rfl size_prf rfl ⟨rfl, HX3.out.only o4 (by omega) (by have := HX3.out.ge; omega), ((SB.out.trans S2).trans S3).new o4 (by omega)⟩
end Go.Proofs.Ytiilgkajijnbcaa
