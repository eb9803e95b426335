/-
  The law ProofTells of chapter 9.
-/
import Derived.Test.YtgjepiblhpmaiaaDoorProofLaw
namespace Go.Proofs.YtgjepiblhpmaiaaDoor
open Go.ChangeShapes Go.WideShapes Go.ChangeAt Go.RowKit
set_option linter.unusedVariables false
set_option linter.unusedSimpArgs false

namespace proofTellsLaw
theorem outl (l : List UInt8) (A : Option Addr) (n cap : Nat) (g x h y s d : Nat) (hn : 20 < n) (w : World) (hT : Tab w) :
    Calls Tryd.prog 3 #[.string (str l), .slice A n cap, .int .u64 (g : Int), .int .u64 (x : Int), .int .u64 (h : Int), .int .u64 (y : Int), .int .u64 (s : Int), .int .u64 (d : Int)] w fun e w' => e = .returned (.bool true) ∧ Below w.heap.size w w' := by
  have h1 : (20 : Int) < (n : Int) := by omega
  go_enter Tryd.func3, Tryd.ntmps3
  go_wp2_with fail
  refine (alive9 _ hT).mono ?_
  rintro e w1 ⟨rfl, hb1⟩
  go_wp2_with fail
  go_ret
  exact ⟨rfl, hb1⟩
theorem outs (l : List UInt8) (A : Option Addr) (n cap : Nat) (g x h y s d : Nat) (hn : n ≤ 20) (m : Nat) (hm : (str l).size = m) (hm5 : 50 < m) (w : World) (hT : Tab w) :
    Calls Tryd.prog 3 #[.string (str l), .slice A n cap, .int .u64 (g : Int), .int .u64 (x : Int), .int .u64 (h : Int), .int .u64 (y : Int), .int .u64 (s : Int), .int .u64 (d : Int)] w fun e w' => e = .returned (.bool true) ∧ Below w.heap.size w w' := by
  have h1 : ¬ (20 : Int) < (n : Int) := by omega
  have h2 : (50 : Int) < (m : Int) := by omega
  go_enter Tryd.func3, Tryd.ntmps3
  go_wp2_with fail
  refine (alive9 _ hT).mono ?_
  rintro e w1 ⟨rfl, hb1⟩
  go_wp2_with fail
  go_ret
  exact ⟨rfl, hb1⟩
set_option maxHeartbeats 1000000 in
theorem inn (l : List UInt8) (A : Option Addr) (n cap : Nat) (ls : List Nat) (g x h y s d : Nat) (hn : n ≤ 20) (m : Nat) (hm : (str l).size = m) (hm5 : m ≤ 50) (w : World) (hT : Tab w) (hl : Nums w A n cap ls)
    (bg : g < 18446744073709551616) (bx : x < 18446744073709551616) (bh : h < 18446744073709551616) (bY : y < 18446744073709551616) (bs : s < 18446744073709551616) (bd : d < 18446744073709551616) :
    Calls Tryd.prog 3 #[.string (str l), .slice A n cap, .int .u64 (g : Int), .int .u64 (x : Int), .int .u64 (h : Int), .int .u64 (y : Int), .int .u64 (s : Int), .int .u64 (d : Int)] w fun e w' => e = .returned (.bool true) ∧ Below w.heap.size w w' := by
  have h1 : ¬ (20 : Int) < (n : Int) := by omega
  have h2 : ¬ (50 : Int) < (m : Int) := by omega
  have hsl : l.length ≤ 1099511627776 := by have : (str l).size = l.length := by simp [str, ByteArray.size]
                                            omega
  obtain ⟨t, ht⟩ : ∃ u, timesN g d = u := ⟨_, rfl⟩
  obtain ⟨u, hu⟩ : ∃ u, timesN h d = u := ⟨_, rfl⟩
  obtain ⟨q, hq⟩ : ∃ t, chalN l ls = t := ⟨_, rfl⟩
  obtain ⟨c1, hc1⟩ : ∃ z, chalN kKnow [g, x, t] = z := ⟨_, rfl⟩
  obtain ⟨c2, hc2⟩ : ∃ z, chalN kEqual [g, x, h, y, t, u] = z := ⟨_, rfl⟩
  obtain ⟨r1, hr1⟩ : ∃ t, answerS c1 s d = t := ⟨_, rfl⟩
  obtain ⟨r2, hr2⟩ : ∃ t, answerS c2 s d = t := ⟨_, rfl⟩
  have A1 := Lib.hid (fun w (h' : Tab w) (hl : Nums w A n cap ls) => hq ▸ challenge l A n cap ls w hsl hl (by omega) h')
  have A2 := Lib.hid (fun w (hl : Nums w A n cap ls) => hq ▸ refChallenge l A n cap ls w hsl hl (by omega))
  have A3 := Lib.hid (fun w (h' : Tab w) => know' ht hc1 hr1 bg bx bs bd w h')
  have A4 := Lib.hid (fun w => refKnow' ht hc1 hr1 bg bx bs bd w)
  have A5 := Lib.hid (fun w (h' : Tab w) => equal' ht hu hc2 hr2 bg bx bh bY bs bd w h')
  have A6 := Lib.hid (fun w => refEqual' ht hu hc2 hr2 bg bx bh bY bs bd w)
  have HL := Lib.hid hl
  clear ht hu hq hc1 hc2 hr1 hr2 hsl hl
  go_enter Tryd.func3, Tryd.ntmps3
  go_wp2_with fail
  refine (alive9 _ hT).mono ?_
  rintro e w1 ⟨rfl, hb1⟩
  go_wp2_with fail
  refine (A1.out _ (hT.keep hb1) (HL.out.keep hb1)).mono ?_
  rintro e w2 ⟨rfl, hb20⟩
  have hb2 := hb1.trans (hb20.mono hb1.size)
  go_wp2_with fail
  refine (A2.out _ (HL.out.keep hb2)).mono ?_
  rintro e w3 ⟨rfl, hb30⟩
  have hb3 := hb2.trans (hb30.mono hb2.size)
  go_wp2_with fail
  refine (A3.out _ (hT.keep hb3)).mono ?_
  rintro e w4 ⟨rfl, hb40⟩
  have hb4 := hb3.trans (hb40.mono hb3.size)
  go_wp2_with fail
  refine (A4.out _).mono ?_
  rintro e w5 ⟨rfl, hb50⟩
  have hb5 := hb4.trans (hb50.mono hb4.size)
  go_wp2_with fail
  refine (A5.out _ (hT.keep hb5)).mono ?_
  rintro e w6 ⟨rfl, hb60⟩
  have hb6 := hb5.trans (hb60.mono hb5.size)
  go_wp2_with fail
  refine (A6.out _).mono ?_
  rintro e w7 ⟨rfl, hb70⟩
  have hb7 := hb6.trans (hb70.mono hb6.size)
  go_wp2_with fail
  go_ret
  exact ⟨rfl, hb7⟩
theorem all (b : ByteArray) (A : Option Addr) (n cap : Nat) (ls : List Nat) (g x h y s d : Int) (w : World) (hT : Tab w) (w0 : b.size ≤ maxLen) (hl : Nums w A n cap ls) (w2 : (Lit.int .u64 g).wf = true) (w3 : (Lit.int .u64 x).wf = true) (w4 : (Lit.int .u64 h).wf = true) (w5 : (Lit.int .u64 y).wf = true) (w6 : (Lit.int .u64 s).wf = true) (w7 : (Lit.int .u64 d).wf = true) :
    Calls Tryd.prog 3 #[.string b, .slice A n cap, .int .u64 g, .int .u64 x, .int .u64 h, .int .u64 y, .int .u64 s, .int .u64 d] w fun e w' => e = .returned (.bool true) ∧ Below w.heap.size w w' := by
  obtain ⟨g, rfl, hg⟩ := u64_wf w2
  obtain ⟨x, rfl, hx⟩ := u64_wf w3
  obtain ⟨h, rfl, hh⟩ := u64_wf w4
  obtain ⟨y, rfl, hy⟩ := u64_wf w5
  obtain ⟨s, rfl, hs⟩ := u64_wf w6
  obtain ⟨d, rfl, hd⟩ := u64_wf w7
  obtain ⟨l, rfl⟩ : ∃ l, b = str l := ⟨b.data.toList, by simp [str]⟩
  by_cases h1 : 20 < n
  · exact outl l A n cap g x h y s d h1 w hT
  · by_cases h2 : 50 < (str l).size
    · exact outs l A n cap g x h y s d (by omega) _ rfl h2 w hT
    · exact inn l A n cap ls g x h y s d (by omega) _ rfl (by omega) w hT hl hg hx hh hy hs hd
end proofTellsLaw
end Go.Proofs.YtgjepiblhpmaiaaDoor
