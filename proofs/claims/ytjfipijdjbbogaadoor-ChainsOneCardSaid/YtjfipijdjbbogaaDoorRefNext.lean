/-
  Contracts of the reference's NewStream and Stream.Next.
-/
import Derived.Test.YtjfipijdjbbogaaDoorRefWord
namespace Go.Proofs.YtjfipijdjbbogaaDoor
open Go.ChangeShapes Go.WideShapes Go.ChangeAt Go.RowKit
set_option linter.unusedVariables false
set_option linter.unusedSimpArgs false

set_option maxHeartbeats 1000000 in
theorem refNext' (g : Nat) (seed name : List UInt8) (n i x k j : Nat) (h : nextB seed name n i = (x, k, j)) (hn64 : n < 18446744073709551616) (hi : i ≤ 4611686018427387000) (hs : seed.length = 32) (hn : name.length ≤ 1099511627776) (w : World) (H : StrmR w g seed name i) :
    Calls Tryd.prog 27 #[.pointer (some ⟨g, 0, none⟩), .int .u64 (n : Int)] w fun e w' => e = .returned (.tuple #[.int .u64 (x : Int), .int .i64 (k : Int)]) ∧ StrmR w' g seed name j ∧ Save g w w' := by
  by_cases h0 : n = 0
  · subst h0
    rw [nextB, if_pos rfl] at h
    cases h
    go_enter Tryd.func27, Tryd.ntmps27
    go_wp2_with fail
    go_ret2
    exact ⟨rfl, H, Save.refl _ _⟩
  · rw [nextB, if_neg h0] at h
    have h1 : ((n : Int) == 0) = false := by simp; exact h0
    obtain ⟨q, hq⟩ : ∃ q, 18446744073709551615 % n = q := ⟨_, rfl⟩
    have hqn : q < n := by rw [← hq]; exact Nat.mod_lt _ (by omega)
    have hm1 : (18446744073709551615 : Int) % (n : Int) = (q : Int) := by rw [← hq]; rfl
    have hm1t : Int.tmod 18446744073709551615 (n : Int) = (q : Int) := by rw [Int.tmod_eq_emod_of_nonneg (by omega)]; exact hm1
    obtain ⟨r, hr⟩ : ∃ r, restB n = r := ⟨_, rfl⟩
    have hrq : (q + 1) % n = r := by
      rw [← hr, restB, ← hq, Nat.mod_add_mod]
    have hm2 : ((q : Int) + 1) % (n : Int) = (r : Int) := by rw [← hrq]; rfl
    have hm2t : Int.tmod ((q : Int) + 1) (n : Int) = (r : Int) := by rw [Int.tmod_eq_emod_of_nonneg (by omega)]; exact hm2
    have hwq : IntKind.u64.wrap ((q : Int) + 1) = (q : Int) + 1 := by rw [IntKind.wrap_u64]; omega
    have hrn : r < n := by rw [← hrq]; exact Nat.mod_lt _ (by omega)
    have hwr : IntKind.u64.wrap (18446744073709551615 - (r : Int)) = 18446744073709551615 - (r : Int) := by rw [IntKind.wrap_u64]; omega
    have HR := Lib.hid hr
    have HH := Lib.hid H
    have HD := Lib.hid h
    have HI := Lib.hid hi
    have HS := Lib.hid (And.intro hs hn)
    have hn0 := Lib.hid (show 0 < n by omega)
    clear h H hi hs hn hq hr hrq h0
    go_enter Tryd.func27, Tryd.ntmps27
    go_wp2_with fail
    go_loopw [8] (fun v wr => ∃ t : Nat, t ≤ 64 ∧ v = .int .i64 t ∧ Hid (StrmR wr g seed name (i + t)) ∧ Hid (drawB seed name n (64 - t) (i + t) = (x, k, j)) ∧ Hid (Save g w wr)) (fun v _ => 64 - (intOf v).toNat)
    case atStart => exact ⟨0, by omega, rfl, HH, HD, Lib.hid (Save.refl _ _)⟩
    case round =>
      obtain ⟨t, ht, rfl, HT, HE, HV⟩ := hrel
      by_cases hlt : t < 64
      · have htj : (t : Int) < 64 := by omega
        obtain ⟨y, hy⟩ : ∃ y, wordB seed name (i + t) = y := ⟨_, rfl⟩
        have hy64 : y < 18446744073709551616 := by rw [← hy]; exact wordB_lt _ _ _
        have KW0 := refWord' g seed name (i + t) (by have := HI.out; omega) HS.out.1 HS.out.2 wr HT.out
        rw [hy] at KW0
        have KW := Lib.hid KW0
        have HY := Lib.hid hy
        clear KW0 hy
        go_wp2_with fail
        refine (KW.out).mono ?_
        rintro e w2 ⟨rfl, H2, S2⟩
        have HH2 := Lib.hid H2
        have SS := Lib.hid (HV.out.trans S2)
        clear H2 S2 KW
        by_cases hle : y + r ≤ 18446744073709551615
        · have hle1 : (y : Int) ≤ 18446744073709551615 - (r : Int) := by omega
          have hdr := HE.out
          rw [show 64 - t = (63 - t) + 1 by omega, drawB_hit (by rw [HY.out, HR.out]; exact hle), HY.out] at hdr
          obtain ⟨e1, hdr⟩ := Prod.mk.inj hdr
          obtain ⟨e2, e3⟩ := Prod.mk.inj hdr
          have hm3 : (y : Int) % (n : Int) = (x : Int) := by rw [← e1]; rfl
          have hm3t : Int.tmod (y : Int) (n : Int) = (x : Int) := by rw [Int.tmod_eq_emod_of_nonneg (by omega)]; exact hm3
          have HE2 := Lib.hid (And.intro e2 e3)
          clear e1 e2 e3 hdr hle
          go_wp2_with fail
          go_ret2
          exact ⟨by rw [← HE2.out.1]; rfl, by rw [← HE2.out.2]; exact HH2.out, SS.out⟩
        · have hle1 : ¬ (y : Int) ≤ 18446744073709551615 - (r : Int) := by omega
          have HE2 := Lib.hid (show drawB seed name n (64 - (t + 1)) (i + (t + 1)) = (x, k, j) by
            have hdr := HE.out
            rw [show 64 - t = (64 - (t + 1)) + 1 by omega, drawB_miss (by rw [HY.out, HR.out]; exact hle)] at hdr
            exact hdr)
          clear hle
          go_wp2_with fail
          go_roundw
          case rel => exact ⟨t + 1, by omega, by go_num, HH2, HE2, SS⟩
          case measure => simp [intOf]; omega
      · obtain rfl : t = 64 := by omega
        have HE2 := Lib.hid (show x = 0 ∧ k = 9 ∧ j = i + 64 by
          have hdr := HE.out
          rw [Nat.sub_self, drawB] at hdr
          obtain ⟨e1, hdr⟩ := Prod.mk.inj hdr
          obtain ⟨e2, e3⟩ := Prod.mk.inj hdr
          exact ⟨e1.symm, e2.symm, e3.symm⟩)
        go_wp2_with fail
        go_ret2
        exact ⟨by rw [HE2.out.1, HE2.out.2.1]; rfl, by rw [HE2.out.2.2]; exact HT.out, HV.out⟩
end Go.Proofs.YtjfipijdjbbogaaDoor
