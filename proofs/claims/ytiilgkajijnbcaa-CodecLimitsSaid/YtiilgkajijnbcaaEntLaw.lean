/-
  BigEntries of the laws of chapter 11.
-/
import Derived.Test.YtiilgkajijnbcaaApi
namespace Go.Proofs.Ytiilgkajijnbcaa
open Go.ChangeShapes Go.WideShapes Go.ChangeAt Go.RowKit
set_option linter.unusedVariables false
set_option linter.unusedSimpArgs false

/-- Are entries too many, or too great? -/
def bigE (es : List Ent) : Bool := decide (30 < es.length) || es.any fun e => decide (300 < e.l.length)
theorem bigE_false {es : List Ent} (h : bigE es = false) : es.length ≤ 30 ∧ ∀ e ∈ es, e.l.length ≤ 300 := by
  rw [bigE, Bool.or_eq_false_iff] at h
  refine ⟨by have := of_decide_eq_false h.1; omega, fun e he => ?_⟩
  have := List.any_eq_false.1 h.2 e he
  simpa using this
theorem bigE_true {es : List Ent} {j : Nat} (hj : j < es.length) (h : 300 < (es.getD j default).l.length) : bigE es = true := by
  rw [bigE, Bool.or_eq_true]
  refine .inr (List.any_eq_true.2 ⟨es.getD j default, ?_, by simpa using h⟩)
  rw [List.getD_eq_getElem?_getD, List.getElem?_eq_getElem hj]
  exact List.getElem_mem hj
theorem bigE_end {es : List Ent} (h : ∀ k, k < es.length → (es.getD k default).l.length ≤ 300) : bigE es = decide (30 < es.length) := by
  rw [bigE, List.any_eq_false.2, Bool.or_false]
  intro e he
  obtain ⟨k, hk, rfl⟩ := List.mem_iff_getElem.1 he
  have := h k hk
  simpa [hk] using this
theorem bigEntries (A : Option Addr) (n c : Nat) (es : List Ent) (v : Bool) (hv : bigE es = v) (w : World) (h : Entries w A n c es) :
    Calls Try.prog 11 #[.slice A n c] w fun e w' => e = .returned (.bool v) ∧ w = w' := by
  have HL := Lib.hid h.2.1
  have hle := h.le
  have HOK := Lib.hid h.2.2
  have HH := Lib.hid h
  have HV := Lib.hid hv
  clear h hv
  go_enter Try.func11, Try.ntmps11
  go_wp2_with fail
  go_loop [3] (fun i => ∃ j : Nat, j ≤ n ∧ i = .int .i64 j ∧ Hid (∀ k, k < j → (es.getD k default).l.length ≤ 300)) (fun i => n - (intOf i).toNat)
  case atStart => exact ⟨0, Nat.zero_le _, rfl, Lib.hid (fun k hk => absurd hk (by omega))⟩
  case round =>
    obtain ⟨j, hj, rfl, HP⟩ := hrel
    by_cases hlt : j < n
    · obtain ⟨b, off, rfl, hbl, hc⟩ := HH.out.at_ (by omega)
      obtain ⟨c0, c1⟩ := hc j hlt
      obtain ⟨e, he⟩ : ∃ e, es.getD j default = e := ⟨_, rfl⟩
      have hel : e.l.length = e.n := by
        have hj' : j < es.length := by rw [HL.out]; exact hlt
        have hm : e ∈ es := by
          rw [← he, List.getD_eq_getElem?_getD, List.getElem?_eq_getElem hj']
          exact List.getElem_mem hj'
        exact (HOK.out e hm).1.len
      rw [he] at c0 c1
      have hjn : (j : Int) < (n : Int) := by omega
      have HE := Lib.hid (And.intro he hel)
      clear he hel hc
      by_cases hb : 300 < e.n
      · have h1 : (300 : Int) < (e.n : Int) := by omega
        go_wp2_with fail
        go_ret
        exact ⟨ret_bool (by rw [← HV.out, bigE_true (by rw [HL.out]; exact hlt) (by rw [HE.out.1, HE.out.2]; exact hb)]), rfl⟩
      · have h1 : ¬ (300 : Int) < (e.n : Int) := by omega
        go_wp2_with fail
        go_roundw
        case rel => exact ⟨j + 1, by omega, by go_num, Lib.hid (fun k hk => by
          rcases Nat.lt_or_eq_of_le (Nat.le_of_lt_succ hk) with h | rfl
          · exact HP.out k h
          · rw [HE.out.1, HE.out.2]; omega)⟩
        case measure => simp [intOf]; omega
    · obtain rfl : j = n := by omega
      go_wp2_with fail
      go_ret
      exact ⟨ret_bool (by
        rw [← HV.out, bigE_end (fun k hk => HP.out k (by rw [← HL.out]; exact hk)), HL.out]
        exact decide_eq_decide.2 ⟨fun h => by omega, fun h => by omega⟩), rfl⟩
end Go.Proofs.Ytiilgkajijnbcaa
