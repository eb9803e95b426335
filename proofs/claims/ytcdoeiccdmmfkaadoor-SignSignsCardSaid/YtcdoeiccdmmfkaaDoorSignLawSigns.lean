/-
  The law SignSigns of chapter 10.
-/
import Derived.Test.YtcdoeiccdmmfkaaDoorSignLaw
namespace Go.Proofs.YtcdoeiccdmmfkaaDoor
open Go.ChangeShapes Go.WideShapes Go.ChangeAt Go.RowKit
set_option linter.unusedVariables false
set_option linter.unusedSimpArgs false

namespace signSignsLaw
theorem out (s : Nat) (A : Option Addr) (n cap : Nat) (hn : 300 < n) (w : World) (hT : Tab w) :
    Calls Tryd.prog 3 #[.int .u64 (s : Int), .slice A n cap] w fun e w' => e = .returned (.bool true) ∧ Below w.heap.size w w' := by
  have h1 : (300 : Int) < (n : Int) := by omega
  go_enter Tryd.func3, Tryd.ntmps3
  go_wp2_with fail
  refine (alive10 _ hT).mono ?_
  rintro e w2 ⟨rfl, hb2⟩
  go_wp2_with fail
  go_ret
  exact ⟨rfl, hb2⟩
set_option maxHeartbeats 2000000 in
theorem inn {s : Nat} {b : List UInt8} (A : Option Addr) (n cap : Nat) (hn : n ≤ 300) (bs : s < 18446744073709551616) (w : World) (hA : Bytes w A n cap b) (hT : Tab w) :
    Calls Tryd.prog 3 #[.int .u64 (s : Int), .slice A n cap] w fun e w' => e = .returned (.bool true) ∧ Below w.heap.size w w' := by
  have h1 : ¬ (300 : Int) < (n : Int) := by omega
  obtain ⟨d, hd⟩ : ∃ t, drawS s b = t := ⟨_, rfl⟩
  obtain ⟨x, hx⟩ : ∃ t, timesN 37 s = t := ⟨_, rfl⟩
  obtain ⟨t, ht⟩ : ∃ t, timesN 37 d = t := ⟨_, rfl⟩
  obtain ⟨q, hq⟩ : ∃ u, signC x t b = u := ⟨_, rfl⟩
  obtain ⟨r, hr⟩ : ∃ u, answerS q s d = u := ⟨_, rfl⟩
  have ok := sign_ok hx ht hq hr
  have bx : x < 18446744073709551616 := by have := timesN_lt 37 s; omega
  have heq1 := eq_key (nameN x) (nameN_len x)
  obtain ⟨X, hX⟩ : ∃ X, ((nameN x).map bv).toArray = X := ⟨_, rfl⟩
  rw [hX] at heq1
  have HA := Lib.hid hA
  have HN := Lib.hid (show 0 + n ≤ 140737488355328 by omega)
  have K1 := Lib.hid (fun A cap w (hA : Bytes w A n cap b) (h : Tab w) => sign' hd hx ht hq hr bs A n cap w hA (by omega) h)
  have K2 := Lib.hid (fun w => signPublic' hx bs w)
  have A1 := Lib.hid (fun w (hA : Bytes w A n cap b) => refSign' hd hx ht hq hr bs A n cap w hA (by omega))
  have A2 := Lib.hid (fun w => refBase' hx bs rfl w)
  have A3 := Lib.hid (fun w (h : Tab w) => hX ▸ signName x w bx h)
  have A4 := Lib.hid (fun w => hX ▸ refName x w bx)
  have A5 := Lib.hid (fun w (hA : Bytes w A n cap b) (h : Tab w) => signCheck' (decide_eq_true ok) bx A n cap w hA h)
  clear ok hd hx ht hq hr hX hA
  go_enter Tryd.func3, Tryd.ntmps3
  go_wp2_with fail
  refine (alive10 _ hT).mono ?_
  rintro e w1 ⟨rfl, hb1⟩
  have hA1 := Lib.hid (HA.out.keep hb1)
  go_wp2_with (at_builtin; (refine app8 rfl (.const (.slice none 0 0)) (.tmp 18) rfl w1.heap.size (.slice none 0 0) 0 [] rfl (World.ownsRow_nil _ _ _ _) A n cap b rfl hA1.out HN.out (Nat.le_refl _) ?_); intro v2 w2 hown2 hg2; have hb20 : Below w1.heap.size w1 w2 := (Below.refl _ _).grown hg2 (Nat.le_refl _) (fun k hk => by cases hk))
  rw [Nat.zero_add, List.nil_append] at hown2
  obtain ⟨A2', c2, rfl, hr2⟩ := Row.own hown2
  have hb2 := hb1.trans (hb20.mono hb1.size)
  clear hown2 hg2 hb20 hA1 hb1
  refine (K1.out _ _ _ hr2 (hT.keep hb2)).mono ?_
  rintro e w3 ⟨rfl, hb30⟩
  have hb3 := hb2.trans (hb30.mono hb2.size)
  have H3 := newProof0 w3
  have hb4 := hb3.alloc hb3.size (.cells #[.int .u64 0, .int .u64 0] 26)
  have hs3 := hb3.size
  clear hb30 hb2 hr2 K1
  go_wp2_with ((with_reducible refine wpList_store_proof rfl (.tmp 6) (.tmp 20) rfl w3.heap.size rfl q r rfl 0 0 H3 ?_); intro w5 o5 H5; have hb5 := o5.below hb4 hs3)
  refine (K2.out _).mono ?_
  rintro e w' ⟨rfl, rfl⟩
  have HC := Lib.hid (fun (u : World) (h : Below w5.drew.heap.size w5.drew u) => (Has.keep (w := w5.drew) H5 h H5.lt).proof)
  have HT := Lib.hid (fun (u : World) (h : Below w5.drew.heap.size w5.drew u) => (hT.keep hb5.drew).keep h)
  have HB := Lib.hid (fun (u : World) (h : Below w5.drew.heap.size w5.drew u) => (HA.out.keep hb5.drew).keep h)
  clear H3 H5 hb3 hb4 o5 K2
  go_wp2_with fail
  go_region_held (fun w' => w'.cell? ⟨w3.heap.size, 0, none⟩ = some (.int .u64 (q : Int)) ∧ w'.cell? ⟨w3.heap.size, 1, none⟩ = some (.int .u64 (r : Int)))
    (first | exact HC.out _ (by assumption) | exact HC.out _ (Below.refl _ _))
    (first
    | (go_at_call 10; with_reducible refine (A1.out _ (HB.out _ (Below.refl _ _))).mono ?_; rintro e w6 ⟨rfl, hb6⟩)
    | (go_at_call 11; with_reducible refine (A2.out _).mono ?_; rintro e w' ⟨rfl, rfl⟩)
    | (go_at_call 12; with_reducible refine (A3.out _ (HT.out _ hb6)).mono ?_; rintro e w7 ⟨rfl, hb70⟩; have hb7 := hb6.trans (hb70.mono hb6.size))
    | (go_at_call 13; with_reducible refine (A4.out _).mono ?_; rintro e w8 ⟨rfl, hb80⟩; have hb8 := hb7.trans (hb80.mono hb7.size))
    | (go_at_call 14; with_reducible refine (A5.out _ (HB.out _ hb8) (HT.out _ hb8)).mono ?_; rintro e w9 ⟨rfl, hb90⟩; have hb9 := hb8.trans (hb90.mono hb8.size)))
  all_goals (go_wp2; go_ret; exact ⟨rfl, hb5.drew.trans (hb9.mono hb5.drew.size)⟩)
theorem all (s : Int) (A : Option Addr) (n cap : Nat) (b : List UInt8) (w : World) (hT : Tab w) (w0 : (Lit.int .u64 s).wf = true) (hA : Bytes w A n cap b) :
    Calls Tryd.prog 3 #[.int .u64 s, .slice A n cap] w fun e w' => e = .returned (.bool true) ∧ Below w.heap.size w w' := by
  obtain ⟨s, rfl, hs⟩ := u64_wf w0
  by_cases h1 : 300 < n
  · exact out s A n cap h1 w hT
  · exact inn A n cap (by omega) hs w hA hT
end signSignsLaw
end Go.Proofs.YtcdoeiccdmmfkaaDoor
