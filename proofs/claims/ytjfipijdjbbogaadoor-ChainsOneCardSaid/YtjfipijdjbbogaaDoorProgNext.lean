/-
  Contracts of the package's below, handed the stream's Word as a method value, and of Stream.Next.
-/
import Derived.Test.YtjfipijdjbbogaaDoorProgWord
import Derived.Shelf.Abstract
namespace Go.Proofs.YtjfipijdjbbogaaDoor
open Go.ChangeShapes Go.WideShapes Go.ChangeAt Go.RowKit
set_option linter.unusedVariables false
set_option linter.unusedSimpArgs false

theorem fn_word : ∀ args w, (callFunc 30 args).run Tryd.prog w = .ok (.enter 30 args) w := enters_of Tryd.func30 (by kernel_rfl) rfl
set_option maxHeartbeats 1000000 in
theorem progBelow' (g : Nat) (seed name : List UInt8) (n i x k j : Nat) (h : nextB seed name n i = (x, k, j)) (hn64 : n < 18446744073709551616) (hi : i ≤ 4611686018427387000) (hs : seed.length = 32) (hn : name.length ≤ 1099511627776) (w : World) (H : StrmP w g seed name i) (hT : Tab w) :
    Calls Tryd.prog 29 #[.int .u64 (n : Int), .func (.func 30) #[.pointer (some ⟨g, 0, none⟩)] #[]] w fun e w' => e = .returned (.tuple #[.int .u64 (x : Int), .int .i64 (k : Int)]) ∧ StrmP w' g seed name j ∧ Save g w w' := by
  by_cases h0 : n = 0
  · subst h0
    rw [nextB, if_pos rfl] at h
    cases h
    go_enter Tryd.func29, Tryd.ntmps29
    go_wp2_with fail
    go_ret2
    exact ⟨rfl, H, Save.refl _ _⟩
  · rw [nextB, if_neg h0] at h
    have h1 : ((n : Int) == 0) = false := by simp; exact h0
    obtain ⟨r, hr⟩ : ∃ r, restB n = r := ⟨_, rfl⟩
    have hrn : r < n := by rw [← hr, restB]; exact Nat.mod_lt _ (by omega)
    have hwn : IntKind.u64.wrap (-(n : Int)) = 18446744073709551616 - (n : Int) := by rw [IntKind.wrap_u64]; omega
    have hrq : (18446744073709551616 - n) % n = r := by
      rw [← hr, restB]
      conv => rhs; rw [show 18446744073709551616 = (18446744073709551616 - n) + n by omega, Nat.add_mod_right]
    have hm2 : (18446744073709551616 - (n : Int)) % (n : Int) = (r : Int) := by rw [← hrq, Int.natCast_emod, Int.natCast_sub (by omega)]; rfl
    have hm2t : Int.tmod (18446744073709551616 - (n : Int)) (n : Int) = (r : Int) := by rw [Int.tmod_eq_emod_of_nonneg (by omega)]; exact hm2
    have hwr : IntKind.u64.wrap (18446744073709551615 - (r : Int)) = 18446744073709551615 - (r : Int) := by rw [IntKind.wrap_u64]; omega
    have HR := Lib.hid hr
    have HH := Lib.hid H
    have HTB := Lib.hid hT
    have eg := fn_word
    have HD := Lib.hid h
    have HI := Lib.hid hi
    have HS := Lib.hid (And.intro hs hn)
    have hn0 := Lib.hid (show 0 < n by omega)
    clear h H hi hs hn hr hrq h0 hT
    go_enter Tryd.func29, Tryd.ntmps29
    go_wp2_with fail
    go_loopw [14] (fun v wr => ∃ t : Nat, t ≤ 64 ∧ v = .int .i64 t ∧ Hid (StrmP wr g seed name (i + t)) ∧ Hid (drawB seed name n (64 - t) (i + t) = (x, k, j)) ∧ Hid (Save g w wr) ∧ Hid (Tab wr)) (fun v _ => 64 - (intOf v).toNat)
    case atStart => exact ⟨0, by omega, rfl, HH, HD, Lib.hid (Save.refl _ _), HTB⟩
    case round =>
      obtain ⟨t, ht, rfl, HT, HE, HV, HTT⟩ := hrel
      by_cases hlt : t < 64
      · have htj : (t : Int) < 64 := by omega
        obtain ⟨y, hy⟩ : ∃ y, wordB seed name (i + t) = y := ⟨_, rfl⟩
        have hy64 : y < 18446744073709551616 := by rw [← hy]; exact wordB_lt _ _ _
        have KW0 := progWord' g seed name (i + t) (by have := HI.out; omega) HS.out.1 HS.out.2 wr HT.out HTT.out
        rw [hy] at KW0
        have KW := Lib.hid KW0
        have HY := Lib.hid hy
        clear KW0 hy
        go_wp2_with fail
        refine (KW.out).mono ?_
        rintro e w2 ⟨rfl, H2, S2⟩
        have HH2 := Lib.hid H2
        have SS := Lib.hid (HV.out.trans S2)
        have TT := Lib.hid (HTT.out.save S2 (strm_off HS.out.1 HTT.out HT.out))
        clear H2 S2 KW
        by_cases hle : y + r ≤ 18446744073709551615
        · have hle1 : (y : Int) ≤ 18446744073709551615 - (r : Int) := by omega
          have hdr := HE.out
          rw [show 64 - t = (63 - t) + 1 by omega, drawB_hit (by rw [HY.out, HR.out]; exact hle), HY.out] at hdr
          obtain ⟨e1, hdr⟩ := Prod.mk.inj hdr
          obtain ⟨e2, e3⟩ := Prod.mk.inj hdr
          have hm3 : (y : Int) % (n : Int) = (x : Int) := by rw [← e1]; rfl
          have hm3t : Int.tmod (y : Int) (n : Int) = (x : Int) := by rw [Int.tmod_eq_emod_of_nonneg (by omega)]; exact hm3
          have HE2 := Lib.hid (And.intro e2 e3)
          clear e1 e2 e3 hdr hle
          go_wp2_with fail
          go_ret2
          exact ⟨by rw [← HE2.out.1]; rfl, by rw [← HE2.out.2]; exact HH2.out, SS.out⟩
        · have hle1 : ¬ (y : Int) ≤ 18446744073709551615 - (r : Int) := by omega
          have HE2 := Lib.hid (show drawB seed name n (64 - (t + 1)) (i + (t + 1)) = (x, k, j) by
            have hdr := HE.out
            rw [show 64 - t = (64 - (t + 1)) + 1 by omega, drawB_miss (by rw [HY.out, HR.out]; exact hle)] at hdr
            exact hdr)
          clear hle
          go_wp2_with fail
          go_roundw
          case rel => exact ⟨t + 1, by omega, by go_num, HH2, HE2, SS, TT⟩
          case measure => simp [intOf]; omega
      · obtain rfl : t = 64 := by omega
        have HE2 := Lib.hid (show x = 0 ∧ k = 9 ∧ j = i + 64 by
          have hdr := HE.out
          rw [Nat.sub_self, drawB] at hdr
          obtain ⟨e1, hdr⟩ := Prod.mk.inj hdr
          obtain ⟨e2, e3⟩ := Prod.mk.inj hdr
          exact ⟨e1.symm, e2.symm, e3.symm⟩)
        go_wp2_with fail
        go_ret2
        exact ⟨by rw [HE2.out.1, HE2.out.2.1]; rfl, by rw [HE2.out.2.2]; exact HT.out, HV.out⟩
theorem progNext' (g : Nat) (seed name : List UInt8) (n i x k j : Nat) (h : nextB seed name n i = (x, k, j)) (hn64 : n < 18446744073709551616) (hi : i ≤ 4611686018427387000) (hs : seed.length = 32) (hn : name.length ≤ 1099511627776) (w : World) (H : StrmP w g seed name i) (hT : Tab w) :
    Calls Tryd.prog 26 #[.pointer (some ⟨g, 0, none⟩), .int .u64 (n : Int)] w fun e w' => e = .returned (.tuple #[.int .u64 (x : Int), .int .i64 (k : Int)]) ∧ StrmP w' g seed name j ∧ Save g w w' := by
  have K := Lib.hid (progBelow' g seed name n i x k j h hn64 hi hs hn w H hT)
  have hmf : ∀ (fn : Fn) (first cap : Array Value) (w : World), (Instr.makeFunc fn first cap).run Tryd.prog w = .ok (.func fn first cap) w := fun _ _ _ _ => rfl
  clear h hi hs hn H hT
  go_enter Tryd.func26, Tryd.ntmps26
  go_wp2_with fail
  refine (K.out).mono ?_
  rintro e w2 ⟨rfl, H2, S2⟩
  go_wp2_with fail
  go_ret2
  exact ⟨rfl, H2, S2⟩
end Go.Proofs.YtjfipijdjbbogaaDoor
