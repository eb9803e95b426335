/-
  The laws of chapter 10, sign: alive, and the law SignAgain.
-/
import Derived.Test.YtcdoeiccdmmfkaaDoorSignCheck
import Derived.Test.YtcdoeiccdmmfkaaDoorRefCheck
namespace Go.Proofs.YtcdoeiccdmmfkaaDoor
open Go.ChangeShapes Go.WideShapes Go.ChangeAt Go.RowKit
set_option linter.unusedVariables false
set_option linter.unusedSimpArgs false

theorem sign_litA (w : World) : Bytes (w.alloc (.cells #[.int .u8 97] 5 (1, 2))) (some ⟨w.heap.size, 0, none⟩) 1 1 [97] := Bytes.marked w [97] (by simp [maxLen]) (1, 2)
set_option maxHeartbeats 2000000 in
theorem alive10 (w : World) (hT : Tab w) :
    Calls Tryd.prog 7 #[] w fun e w' => e = .returned (.bool true) ∧ Below w.heap.size w w' := by
  obtain ⟨d, hd⟩ : ∃ t, drawS 5 [97] = t := ⟨_, rfl⟩
  obtain ⟨x, hx⟩ : ∃ t, timesN 37 5 = t := ⟨_, rfl⟩
  obtain ⟨t, ht⟩ : ∃ t, timesN 37 d = t := ⟨_, rfl⟩
  obtain ⟨q, hq⟩ : ∃ u, signC x t [97] = u := ⟨_, rfl⟩
  obtain ⟨r, hr⟩ : ∃ u, answerS q 5 d = u := ⟨_, rfl⟩
  have bx : x < 18446744073709551616 := by have := timesN_lt 37 5; omega
  have ok := sign_ok hx ht hq hr
  have hconv := fun w => Lib.run_convert_bytes_const (P := Tryd.prog) w 23 5 #[.int .u8 97] 1 1 Tryd.underlying23 Tryd.underlying5
  simp only [List.size_toArray, List.length_cons, List.length_nil, Nat.reduceAdd] at hconv
  have hb1 := (Below.refl w.heap.size w).alloc (Nat.le_refl _) (.cells #[.int .u8 97] 5 (1, 2))
  have K1 := Lib.hid (show Calls Tryd.prog 8 #[.int .u64 5, .slice (some ⟨w.heap.size, 0, none⟩) 1 1] (w.alloc (.cells #[.int .u8 97] 5 (1, 2))) (fun e w' => e = .returned (.agg #[.int .u64 (q : Int), .int .u64 (r : Int)]) ∧ Below w.heap.size w w') from
    (sign' (s := 5) hd hx ht hq hr (by omega) _ 1 1 _ (sign_litA w) (by omega) (hT.keep hb1)).mono fun e w' h => ⟨h.1, hb1.trans (h.2.mono hb1.size)⟩)
  have K2 := Lib.hid (fun (w : World) (h : Tab w) => show Calls Tryd.prog 14 #[.int .u64 0, .slice none 0 0, .agg #[.int .u64 0, .int .u64 0]] w (fun e w' => e = .returned (.bool false) ∧ Below w.heap.size w w') from
    signCheck' (x := 0) (c := 0) (s := 0) (b := []) (decide_eq_false (fun h => absurd h.1.1 (by decide))) (by omega) none 0 0 w (Row.nil w) h)
  have K3 := Lib.hid (fun (w : World) => show Calls Tryd.prog 9 #[.int .u64 5] w (fun e w' => e = .returned (.int .u64 (x : Int)) ∧ w = w') from
    signPublic' (s := 5) hx (by omega) w)
  have K4 := Lib.hid (fun (w : World) (h : Tab w) => show Calls Tryd.prog 14 #[.int .u64 (x : Int), .slice (some ⟨w.heap.size, 0, none⟩) 1 1, .agg #[.int .u64 (q : Int), .int .u64 (r : Int)]] (w.alloc (.cells #[.int .u8 97] 5 (1, 2))) (fun e w' => e = .returned (.bool true) ∧ Below w.heap.size w w') from
    have hb := (Below.refl w.heap.size w).alloc (Nat.le_refl _) (.cells #[.int .u8 97] 5 (1, 2))
    (signCheck' (decide_eq_true ok) bx _ 1 1 _ (sign_litA w) (h.keep hb)).mono fun e w' h => ⟨h.1, hb.trans (h.2.mono hb.size)⟩)
  clear ok hd hx ht hq hr hb1
  go_enter Tryd.func7, Tryd.ntmps7
  go_wp2_with fail
  refine (K1.out).mono ?_
  rintro e w2 ⟨rfl, hb2⟩
  have H2 := newProof0 w2
  have hb3 := hb2.alloc hb2.size (.cells #[.int .u64 0, .int .u64 0] 26)
  have hs2 := hb2.size
  clear K1
  go_wp2_with ((with_reducible refine wpList_store_proof rfl (.tmp 1) (.tmp 4) rfl w2.heap.size rfl q r rfl 0 0 H2 ?_); intro w3 o3 H3; have hb4 := o3.below hb3 hs2)
  have HC := Lib.hid (fun (u : World) (h : Below w3.drew.heap.size w3.drew u) => (Has.keep (w := w3.drew) H3 h H3.lt).proof)
  have HT := Lib.hid (fun (u : World) (h : Below w3.drew.heap.size w3.drew u) => (hT.keep hb4.drew).keep h)
  clear H2 H3 hb2 hb3 o3
  go_region_held (fun w' => w'.cell? ⟨w2.heap.size, 0, none⟩ = some (.int .u64 (q : Int)) ∧ w'.cell? ⟨w2.heap.size, 1, none⟩ = some (.int .u64 (r : Int)))
    (first | exact HC.out _ (by assumption) | exact HC.out _ (Below.refl _ _) | exact HC.out _ (Below.alloc (by assumption) (Below.size (by assumption)) _))
    (first
    | (go_at_call 14; with_reducible refine (K2.out _ (HT.out _ (Below.refl _ _))).mono ?_; rintro e w5 ⟨rfl, hb5⟩)
    | (go_at_call 9; with_reducible refine (K3.out _).mono ?_; rintro e w' ⟨rfl, rfl⟩)
    | (go_at_call 14; with_reducible refine (K4.out w5 (HT.out _ hb5)).mono ?_; rintro e w6 ⟨rfl, hb60⟩; have hb6 := hb5.trans (hb60.mono hb5.size)))
  all_goals (go_wp2; go_ret; exact ⟨rfl, hb4.drew.trans (hb6.mono hb4.drew.size)⟩)

namespace signAgainLaw
theorem out1 (s : Nat) (A : Option Addr) (n c : Nat) (B : Option Addr) (m d : Nat) (hn : 200 < n) (w : World) (hT : Tab w) :
    Calls Tryd.prog 6 #[.int .u64 (s : Int), .slice A n c, .slice B m d] w fun e w' => e = .returned (.bool true) ∧ Below w.heap.size w w' := by
  have h1 : (200 : Int) < (n : Int) := by omega
  go_enter Tryd.func6, Tryd.ntmps6
  go_wp2_with fail
  refine (alive10 _ hT).mono ?_
  rintro e w1 ⟨rfl, hb1⟩
  go_wp2_with fail
  go_ret
  exact ⟨rfl, hb1⟩
theorem out2 (s : Nat) (A : Option Addr) (n c : Nat) (B : Option Addr) (m d : Nat) (hn : n ≤ 200) (hm : 200 < m) (w : World) (hT : Tab w) :
    Calls Tryd.prog 6 #[.int .u64 (s : Int), .slice A n c, .slice B m d] w fun e w' => e = .returned (.bool true) ∧ Below w.heap.size w w' := by
  have h1 : ¬ (200 : Int) < (n : Int) := by omega
  have h2 : (200 : Int) < (m : Int) := by omega
  go_enter Tryd.func6, Tryd.ntmps6
  go_wp2_with fail
  refine (alive10 _ hT).mono ?_
  rintro e w1 ⟨rfl, hb1⟩
  go_wp2_with fail
  go_ret
  exact ⟨rfl, hb1⟩
set_option maxHeartbeats 1000000 in
theorem inn {s : Nat} {a b : List UInt8} (A : Option Addr) (n c : Nat) (B : Option Addr) (m d : Nat) (hn : n ≤ 200) (hm : m ≤ 200) (bs : s < 18446744073709551616) (w : World) (hA : Bytes w A n c a) (hB : Bytes w B m d b) (hT : Tab w) :
    Calls Tryd.prog 6 #[.int .u64 (s : Int), .slice A n c, .slice B m d] w fun e w' => e = .returned (.bool true) ∧ Below w.heap.size w w' := by
  have h1 : ¬ (200 : Int) < (n : Int) := by omega
  have h2 : ¬ (200 : Int) < (m : Int) := by omega
  obtain ⟨k, hk⟩ : ∃ t, drawS s a = t := ⟨_, rfl⟩
  obtain ⟨x, hx⟩ : ∃ t, timesN 37 s = t := ⟨_, rfl⟩
  obtain ⟨t, ht⟩ : ∃ u, timesN 37 k = u := ⟨_, rfl⟩
  obtain ⟨q, hq⟩ : ∃ u, signC x t a = u := ⟨_, rfl⟩
  obtain ⟨r, hr⟩ : ∃ u, answerS q s k = u := ⟨_, rfl⟩
  have bq : q < 2305843009213693950 := by rw [← hq]; exact signC_lt _ _ _
  have br : r < 2305843009213693950 := by rw [← hr]; exact answerS_lt _ _ _
  obtain ⟨z, hz⟩ : ∃ q, (s + 1) % 18446744073709551616 = q := ⟨_, rfl⟩
  have bz : z < 18446744073709551616 := by omega
  have ez : IntKind.u64.wrap ((s : Int) + 1) = (z : Int) := by
    simp only [IntKind.wrap_u64]
    omega
  have HA := Lib.hid hA
  have HB := Lib.hid hB
  have K1 := Lib.hid (fun w (hA : Bytes w A n c a) (hT : Tab w) => sign' hk hx ht hq hr bs A n c w hA (by omega) hT)
  have K2 := Lib.hid (fun w (hB : Bytes w B m d b) (hT : Tab w) => (sign' (s := z) rfl rfl rfl rfl rfl bz B m d w hB (by omega) hT).mono (R' := fun e w' => ∃ q r : Nat, e = .returned (.agg #[.int .u64 (q : Int), .int .u64 (r : Int)]) ∧ Below w.heap.size w w') fun e w' h => ⟨_, _, h⟩)
  have HQ := Lib.hid bq
  have HR := Lib.hid br
  clear hk hx ht hq hr hz hA hB bq br
  go_enter Tryd.func6, Tryd.ntmps6
  go_wp2_with fail
  refine (alive10 _ hT).mono ?_
  rintro e w1 ⟨rfl, hb1⟩
  go_wp2_with fail
  refine (K1.out _ (HA.out.keep hb1) (hT.keep hb1)).mono ?_
  rintro e w2 ⟨rfl, hb20⟩
  have hb2 := hb1.trans (hb20.mono hb1.size)
  have H2 := newProof0 w2
  have hb3 := hb2.alloc hb2.size (.cells #[.int .u64 0, .int .u64 0] 26)
  have hs2 := hb2.size
  clear hb20 hb1
  go_wp2_with ((with_reducible refine wpList_store_proof rfl (.tmp 8) (.tmp 26) rfl w2.heap.size rfl q r rfl 0 0 H2 ?_); intro w3 o3 H3; have hb4 := o3.below hb3 hs2)
  clear H2 o3 hb3 hb2
  refine (K2.out _ (HB.out.keep hb4) (hT.keep hb4)).mono ?_
  rintro e w5 ⟨q5, r5, rfl, hb50⟩
  have hb5 := hb4.trans (hb50.mono hb4.size)
  have H5 := H3.keep hb50 H3.lt
  clear hb50 H3 hb4
  go_wp2_with fail
  refine (K1.out _ (HA.out.keep hb5) (hT.keep hb5)).mono ?_
  rintro e w6 ⟨rfl, hb60⟩
  have hb6 := hb5.trans (hb60.mono hb5.size)
  have H6 := H5.keep hb60 H5.lt
  have J6 := newProof0 w6
  have H7 := H6.alloc (.cells #[.int .u64 0, .int .u64 0] 26)
  have hb7 := hb6.alloc hb6.size (.cells #[.int .u64 0, .int .u64 0] 26)
  have hs6 := hb6.size
  have hg := H6.lt
  clear hb60 H5 hb5
  go_wp2_with ((with_reducible refine wpList_store_proof rfl (.tmp 9) (.tmp 33) rfl w6.heap.size rfl q r rfl 0 0 J6 ?_); intro w8 o8 J8; have hb8 := o8.below hb7 hs6; have H8 := H7.only o8 (by omega); obtain ⟨c0, c1⟩ := H8.proof; obtain ⟨e0, e1⟩ := J8.proof; have g1 : (q : Int) < 2305843009213693950 := by (have := HQ.out; omega))
  go_ret
  exact ⟨ret_bool (decide_eq_true (show (r : Int) < 2305843009213693950 by have := HR.out; omega)), hb8⟩
theorem all (s : Int) (A : Option Addr) (n c : Nat) (a : List UInt8) (B : Option Addr) (m d : Nat) (b : List UInt8) (w : World) (hT : Tab w) (w0 : (Lit.int .u64 s).wf = true) (hA : Bytes w A n c a) (hB : Bytes w B m d b) :
    Calls Tryd.prog 6 #[.int .u64 s, .slice A n c, .slice B m d] w fun e w' => e = .returned (.bool true) ∧ Below w.heap.size w w' := by
  obtain ⟨s, rfl, hs⟩ := u64_wf w0
  by_cases h1 : 200 < n
  · exact out1 s A n c B m d h1 w hT
  · by_cases h2 : 200 < m
    · exact out2 s A n c B m d (by omega) h2 w hT
    · exact inn A n c B m d (by omega) (by omega) hs w hA hB hT
end signAgainLaw
end Go.Proofs.YtcdoeiccdmmfkaaDoor
