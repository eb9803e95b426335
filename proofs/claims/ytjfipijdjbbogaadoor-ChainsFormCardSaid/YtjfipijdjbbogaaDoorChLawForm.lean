/-
  The law ChainsForm of chapter 14.
-/
import Derived.Test.YtjfipijdjbbogaaDoorChLaw
import Derived.Test.YtjfipijdjbbogaaDoorRefForm
import Derived.Test.YtjfipijdjbbogaaDoorSameLists
namespace Go.Proofs.YtjfipijdjbbogaaDoor
open Go.ChangeShapes Go.WideShapes Go.ChangeAt Go.RowKit
set_option linter.unusedVariables false
set_option linter.unusedSimpArgs false

namespace chFormLaw
set_option maxHeartbeats 2000000 in
set_option maxRecDepth 10000 in
theorem all (z : List UInt8) (hz : z.length = 32) (servers n k : Int) (w : World) (hT : TabC w) :
    Calls Tryd.prog 3 #[.agg (z.map bv).toArray, .int .i64 servers, .int .i64 n, .int .i64 k] w fun e w' => e = .returned (.bool true) ∧ Below w.heap.size w w' := by
  have hb0 := (Below.refl w.heap.size w).alloc (Nat.le_refl _) (.cells (z.map bv).toArray 23)
  have K := Lib.hid (alive14 _ (hT.keep hb0))
  by_cases hm : 60 < servers ∧ servers ≤ 1000
  · have f0 : 60 < servers := hm.1
    have f1 : servers ≤ 1000 := hm.2
    clear hm hT
    go_enter Tryd.func3, Tryd.ntmps3
    go_wp2_with fail
    refine (K.out).mono ?_
    rintro e w2 ⟨rfl, hb⟩
    go_wp2_with fail
    go_ret
    exact ⟨rfl, hb0.trans (hb.mono hb0.size)⟩
  have hq1 : (¬ 60 < servers ∧ ¬ 60 < servers) ∨ (60 < servers ∧ ¬ servers ≤ 1000) := by omega
  by_cases hm2 : 20 < n ∧ n ≤ 1000
  · have g0 : 20 < n := hm2.1
    have g1 : n ≤ 1000 := hm2.2
    clear hm hT hm2
    rcases hq1 with ⟨f0, f1⟩ | ⟨f0, f1⟩
    all_goals
      go_enter Tryd.func3, Tryd.ntmps3
      go_wp2_with fail
      refine (K.out).mono ?_
      rintro e w2 ⟨rfl, hb⟩
      go_wp2_with fail
      go_ret
      exact ⟨rfl, hb0.trans (hb.mono hb0.size)⟩
  have hq2 : (¬ 20 < n ∧ ¬ 20 < n) ∨ (20 < n ∧ ¬ n ≤ 1000) := by omega
  have H0 := Has.new w 23 (z.map bv)
  have HZ := Lib.hid hz
  obtain ⟨⟨ls, ef⟩, hf⟩ : ∃ r : List (List Int) × Nat, formB z servers n k = r := ⟨_, rfl⟩
  have hef : ef < 10 := by
    have := formB_err (seed := z) (servers := servers) (n := n) (k := k)
    rw [hf] at this
    exact this
  have KA := Lib.hid (fun (u : World) (h : TabC u) => chForm z hz servers n k ls ef hf u h)
  have KB := Lib.hid (fun (u : World) => refForm z hz servers n k ls ef hf u)
  have KN := Lib.hid (fun u => num14 (ef : Int) u (by omega))
  have HT := Lib.hid (fun (u : World) (h : Below w.heap.size w u) => hT.keep h)
  have hee : ((ef : Int) == (ef : Int)) = true := by simp
  have HB0 := Lib.hid hb0
  clear hm hm2 hT hz hf hef hb0
  rcases hq1 with ⟨f0, f1⟩ | ⟨f0, f1⟩ <;> rcases hq2 with ⟨g0, g1⟩ | ⟨g0, g1⟩
  all_goals
    go_enter Tryd.func3, Tryd.ntmps3
    go_wp2_with fail
    refine (K.out).mono ?_
    rintro e w2 ⟨rfl, hb20⟩
    have HS2 := H0.keep hb20 (by simp)
    have hb2 := HB0.out.trans (hb20.mono HB0.out.size)
    clear hb20
    go_wp2_with ((with_reducible refine wpList_load_key rfl (.tmp 4) rfl w.heap.size rfl z HZ.out HS2 ?_))
    refine (KA.out w2 (HT.out w2 hb2)).mono ?_
    rintro e w3 ⟨A, m, c, rfl, L3, hb30⟩
    have HS3 := HS2.keep hb30 HS2.lt
    have hb3 := hb2.trans (hb30.mono hb2.size)
    clear HS2 hb2 hb30
    go_wp2_with ((with_reducible refine wpList_load_key rfl (.tmp 4) rfl w.heap.size rfl z HZ.out HS3 ?_))
    refine (KB.out w3).mono ?_
    rintro e w4 ⟨B, m2, d, rfl, L4, hb40⟩
    have L3' := L3.keep hb40
    obtain rfl : m2 = m := by rw [← L4.len, ← L3.len]
    have hb4 := hb3.trans (hb40.mono hb3.size)
    have KS := Lib.hid (sameLists A B m2 c d ls w4 L3' L4)
    have HB4 := Lib.hid hb4
    clear HS3 hb3 hb40 L3 L3' L4 hb4
    go_wp2_with fail
    refine (KS.out).mono ?_
    rintro e w5 ⟨rfl, hb5⟩
    have HE := Lib.hid (HB4.out.trans (hb5.mono HB4.out.size))
    clear hb5
    go_wp2_with (go_at_call 10; with_reducible refine (KN.out _).mono ?_; rintro e w' ⟨rfl, rfl⟩)
    go_ret
    exact ⟨rfl, HE.out⟩
end chFormLaw
end Go.Proofs.YtjfipijdjbbogaaDoor
