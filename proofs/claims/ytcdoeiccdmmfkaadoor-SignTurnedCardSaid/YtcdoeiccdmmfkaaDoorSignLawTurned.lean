/-
  The law SignTurned of chapter 10.
-/
import Derived.Test.YtcdoeiccdmmfkaaDoorSignLaw
namespace Go.Proofs.YtcdoeiccdmmfkaaDoor
open Go.ChangeShapes Go.WideShapes Go.ChangeAt Go.RowKit
set_option linter.unusedVariables false
set_option linter.unusedSimpArgs false

namespace signTurnedLaw
theorem out1 (s o : Nat) (A : Option Addr) (n c : Nat) (B : Option Addr) (m d : Nat) (hn : 200 < n) (w : World) (hT : Tab w) :
    Calls Tryd.prog 5 #[.int .u64 (s : Int), .int .u64 (o : Int), .slice A n c, .slice B m d] w fun e w' => e = .returned (.bool true) ∧ Below w.heap.size w w' := by
  have h1 : (200 : Int) < (n : Int) := by omega
  go_enter Tryd.func5, Tryd.ntmps5
  go_wp2_with fail
  refine (alive10 _ hT).mono ?_
  rintro e w2 ⟨rfl, hb2⟩
  go_wp2_with fail
  go_ret
  exact ⟨rfl, hb2⟩
theorem out2 (s o : Nat) (A : Option Addr) (n c : Nat) (B : Option Addr) (m d : Nat) (hn : n ≤ 200) (hm : 200 < m) (w : World) (hT : Tab w) :
    Calls Tryd.prog 5 #[.int .u64 (s : Int), .int .u64 (o : Int), .slice A n c, .slice B m d] w fun e w' => e = .returned (.bool true) ∧ Below w.heap.size w w' := by
  have h1 : ¬ (200 : Int) < (n : Int) := by omega
  have h2 : (200 : Int) < (m : Int) := by omega
  go_enter Tryd.func5, Tryd.ntmps5
  go_wp2_with fail
  refine (alive10 _ hT).mono ?_
  rintro e w2 ⟨rfl, hb2⟩
  go_wp2_with fail
  go_ret
  exact ⟨rfl, hb2⟩
set_option maxHeartbeats 4000000 in
theorem inn {s o : Nat} {a b : List UInt8} (A : Option Addr) (n c : Nat) (B : Option Addr) (m d : Nat) (hn : n ≤ 200) (hm : m ≤ 200) (bs : s < 18446744073709551616) (bo : o < 18446744073709551616) (w : World) (hA : Bytes w A n c a) (hB : Bytes w B m d b) (hT : Tab w) :
    Calls Tryd.prog 5 #[.int .u64 (s : Int), .int .u64 (o : Int), .slice A n c, .slice B m d] w fun e w' => e = .returned (.bool true) ∧ Below w.heap.size w w' := by
  have h1 : ¬ (200 : Int) < (n : Int) := by omega
  have h2 : ¬ (200 : Int) < (m : Int) := by omega
  obtain ⟨k, hk⟩ : ∃ t, drawS s a = t := ⟨_, rfl⟩
  obtain ⟨x, hx⟩ : ∃ t, timesN 37 s = t := ⟨_, rfl⟩
  obtain ⟨y, hy⟩ : ∃ t, timesN 37 o = t := ⟨_, rfl⟩
  obtain ⟨t, ht⟩ : ∃ t, timesN 37 k = t := ⟨_, rfl⟩
  obtain ⟨q, hq⟩ : ∃ u, signC x t a = u := ⟨_, rfl⟩
  obtain ⟨r, hr⟩ : ∃ u, answerS q s k = u := ⟨_, rfl⟩
  have bx : x < 18446744073709551616 := by have := timesN_lt 37 s; omega
  have bY : y < 18446744073709551616 := by have := timesN_lt 37 o; omega
  obtain ⟨v1, hv1⟩ : ∃ t, decide (okSign x b q r) = t := ⟨_, rfl⟩
  obtain ⟨v2, hv2⟩ : ∃ t, decide (okSign y a q r) = t := ⟨_, rfl⟩
  have ev1 : (v1 == v1) = true := by simp
  have ev2 : (v2 == v2) = true := by simp
  have HA := Lib.hid hA
  have HB := Lib.hid hB
  have K1 := Lib.hid (fun w (hA : Bytes w A n c a) (h : Tab w) => sign' hk hx ht hq hr bs A n c w hA (by omega) h)
  have A1 := Lib.hid (fun w => signPublic' hx bs w)
  have A2 := Lib.hid (fun w (hB : Bytes w B m d b) (h : Tab w) => signCheck' hv1 bx B m d w hB h)
  have A3 := Lib.hid (fun w => refBase' hx bs rfl w)
  have A4 := Lib.hid (fun w (hB : Bytes w B m d b) => refCheck' hv1 bx B m d w hB (by omega))
  have A5 := Lib.hid (fun w => signPublic' hy bo w)
  have A6 := Lib.hid (fun w (hA : Bytes w A n c a) (h : Tab w) => signCheck' hv2 bY A n c w hA h)
  have A7 := Lib.hid (fun w => refBase' hy bo rfl w)
  have A8 := Lib.hid (fun w (hA : Bytes w A n c a) => refCheck' hv2 bY A n c w hA (by omega))
  clear hk hx hy ht hq hr hv1 hv2 hA hB
  go_enter Tryd.func5, Tryd.ntmps5
  go_wp2_with fail
  refine (alive10 _ hT).mono ?_
  rintro e w1 ⟨rfl, hb1⟩
  go_wp2_with fail
  refine (K1.out _ (HA.out.keep hb1) (hT.keep hb1)).mono ?_
  rintro e w3 ⟨rfl, hb30⟩
  have hb3 := hb1.trans (hb30.mono hb1.size)
  have H3 := newProof0 w3
  have hb4 := hb3.alloc hb3.size (.cells #[.int .u64 0, .int .u64 0] 26)
  have hs3 := hb3.size
  clear hb30 hb1 K1
  go_wp2_with ((with_reducible refine wpList_store_proof rfl (.tmp 10) (.tmp 27) rfl w3.heap.size rfl q r rfl 0 0 H3 ?_); intro w5 o5 H5; have hb5 := o5.below hb4 hs3)
  have HC := Lib.hid (fun (u : World) (h : Below w5.drew.heap.size w5.drew u) => (Has.keep (w := w5.drew) H5 h H5.lt).proof)
  have HT := Lib.hid (fun (u : World) (h : Below w5.drew.heap.size w5.drew u) => (hT.keep hb5.drew).keep h)
  have HA' := Lib.hid (fun (u : World) (h : Below w5.drew.heap.size w5.drew u) => (HA.out.keep hb5.drew).keep h)
  have HB' := Lib.hid (fun (u : World) (h : Below w5.drew.heap.size w5.drew u) => (HB.out.keep hb5.drew).keep h)
  clear H3 H5 hb3 hb4 o5
  go_region_held (fun w' => w'.cell? ⟨w3.heap.size, 0, none⟩ = some (.int .u64 (q : Int)) ∧ w'.cell? ⟨w3.heap.size, 1, none⟩ = some (.int .u64 (r : Int)))
    (first | exact HC.out _ (by assumption) | exact HC.out _ (Below.refl _ _))
    (first
    | (go_at_call 9; with_reducible refine (A1.out _).mono ?_; rintro e w' ⟨rfl, rfl⟩)
    | (go_at_call 14; with_reducible refine (A2.out _ (HB'.out _ (Below.refl _ _)) (HT.out _ (Below.refl _ _))).mono ?_; rintro e w6 ⟨rfl, hb6⟩)
    | (go_at_call 11; with_reducible refine (A3.out _).mono ?_; rintro e w' ⟨rfl, rfl⟩)
    | (go_at_call 15; with_reducible refine (A4.out _ (HB'.out _ hb6)).mono ?_; rintro e w7 ⟨rfl, hb70⟩; have hb7 := hb6.trans (hb70.mono hb6.size))
    | (go_at_call 9; with_reducible refine (A5.out _).mono ?_; rintro e w' ⟨rfl, rfl⟩)
    | (go_at_call 14; with_reducible refine (A6.out _ (HA'.out _ hb7) (HT.out _ hb7)).mono ?_; rintro e w8 ⟨rfl, hb80⟩; have hb8 := hb7.trans (hb80.mono hb7.size))
    | (go_at_call 11; with_reducible refine (A7.out _).mono ?_; rintro e w' ⟨rfl, rfl⟩)
    | (go_at_call 15; with_reducible refine (A8.out _ (HA'.out _ hb8)).mono ?_; rintro e w9 ⟨rfl, hb90⟩; have hb9 := hb8.trans (hb90.mono hb8.size)))
  all_goals (go_wp2; go_ret; exact ⟨rfl, hb5.drew.trans (hb9.mono hb5.drew.size)⟩)
theorem all (s o : Int) (A : Option Addr) (n c : Nat) (a : List UInt8) (B : Option Addr) (m d : Nat) (b : List UInt8) (w : World) (hT : Tab w) (w0 : (Lit.int .u64 s).wf = true) (w1 : (Lit.int .u64 o).wf = true) (hA : Bytes w A n c a) (hB : Bytes w B m d b) :
    Calls Tryd.prog 5 #[.int .u64 s, .int .u64 o, .slice A n c, .slice B m d] w fun e w' => e = .returned (.bool true) ∧ Below w.heap.size w w' := by
  obtain ⟨s, rfl, hs⟩ := u64_wf w0
  obtain ⟨o, rfl, ho⟩ := u64_wf w1
  by_cases h1 : 200 < n
  · exact out1 s o A n c B m d h1 w hT
  · by_cases h2 : 200 < m
    · exact out2 s o A n c B m d (by omega) h2 w hT
    · exact inn A n c B m d (by omega) (by omega) hs ho w hA hB hT
end signTurnedLaw
end Go.Proofs.YtcdoeiccdmmfkaaDoor
