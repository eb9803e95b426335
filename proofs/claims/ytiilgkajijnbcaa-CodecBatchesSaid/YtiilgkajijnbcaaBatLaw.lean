/-
  BigBatch of the laws of chapter 11.
-/
import Derived.Test.YtiilgkajijnbcaaApiBat
namespace Go.Proofs.Ytiilgkajijnbcaa
open Go.ChangeShapes Go.WideShapes Go.ChangeAt Go.RowKit
set_option linter.unusedVariables false
set_option linter.unusedSimpArgs false

/-- Is a batch too great? -/
def bigB (ni : Nat) (es : List Let) : Bool := es.any (fun e => decide (300 < e.l.length)) || (decide (30 < es.length) || decide (30 < ni))
theorem bigB_true {ni : Nat} {es : List Let} {j : Nat} (hj : j < es.length) (h : 300 < (es.getD j default).l.length) : bigB ni es = true := by
  rw [bigB, Bool.or_eq_true]
  refine .inl (List.any_eq_true.2 ⟨es.getD j default, ?_, by simpa using h⟩)
  rw [List.getD_eq_getElem?_getD, List.getElem?_eq_getElem hj]
  exact List.getElem_mem hj
theorem bigB_end {ni : Nat} {es : List Let} (h : ∀ k, k < es.length → (es.getD k default).l.length ≤ 300) : bigB ni es = (decide (30 < es.length) || decide (30 < ni)) := by
  rw [bigB, List.any_eq_false.2, Bool.false_or]
  intro e he
  obtain ⟨k, hk, rfl⟩ := List.mem_iff_getElem.1 he
  have := h k hk
  simpa [hk] using this
set_option maxHeartbeats 1000000 in
theorem bigBatch (r ch : Int) (Ai : Option Addr) (ni ci : Nat) (inner : List Nat) (Al : Option Addr) (nl cl : Nat) (es : List Let) (v : Bool) (hv : bigB ni es = v) (w : World) (hi : Nums w Ai ni ci inner) (h : Letters w Al nl cl es) :
    Calls Try.prog 21 #[.agg (bcells r ch Ai ni ci Al nl cl).toArray] w fun e w' => e = .returned (.bool v) ∧ Below w.heap.size w w' := by
  have hle := h.le
  have hle2 := hi.le
  have H1 := Has.new w 53 (bcells r ch Ai ni ci Al nl cl)
  have hb1 := (Below.refl w.heap.size w).alloc (Nat.le_refl _) (.cells (bcells r ch Ai ni ci Al nl cl).toArray 53)
  have c2 : (w.alloc (.cells (bcells r ch Ai ni ci Al nl cl).toArray 53)).cell? ⟨w.heap.size, 2, none⟩ = some (.slice Ai ni ci) := H1.cell 2
  have c3 : (w.alloc (.cells (bcells r ch Ai ni ci Al nl cl).toArray 53)).cell? ⟨w.heap.size, 3, none⟩ = some (.slice Al nl cl) := H1.cell 3
  have HH := Lib.hid (h.keep hb1)
  have HL := Lib.hid h.2.1
  have HV := Lib.hid hv
  clear h hi hv H1
  go_enter Try.func21, Try.ntmps21
  go_wp2_with fail
  change Code.wp _ _ _ _ (w.alloc (.cells (bcells r ch Ai ni ci Al nl cl).toArray 53))
  generalize w.alloc (.cells (bcells r ch Ai ni ci Al nl cl).toArray 53) = w1 at *
  go_loop [3] (fun i => ∃ j : Nat, j ≤ nl ∧ i = .int .i64 j ∧ Hid (∀ k, k < j → (es.getD k default).l.length ≤ 300)) (fun i => nl - (intOf i).toNat)
  case atStart => exact ⟨0, Nat.zero_le _, rfl, Lib.hid (fun k hk => absurd hk (by omega))⟩
  case round =>
    obtain ⟨j, hj, rfl, HP⟩ := hrel
    by_cases hlt : j < nl
    · obtain ⟨b, off, rfl, hbl, hc⟩ := HH.out.at_ (by omega)
      have d1 := (hc j hlt).2
      have hel := (HH.out.get j hlt).2.len
      obtain ⟨e, he⟩ : ∃ e, es.getD j default = e := ⟨_, rfl⟩
      rw [he] at d1 hel
      have hjn : (j : Int) < (nl : Int) := by omega
      have HE := Lib.hid (And.intro he hel)
      clear he hel hc c2
      by_cases hb : 300 < e.n
      · have h1 : (300 : Int) < (e.n : Int) := by omega
        go_wp2_with fail
        go_ret
        exact ⟨ret_bool (by rw [← HV.out, bigB_true (by rw [HL.out]; exact hlt) (by rw [HE.out.1, HE.out.2]; exact hb)]), hb1⟩
      · have h1 : ¬ (300 : Int) < (e.n : Int) := by omega
        go_wp2_with fail
        go_roundw
        case rel => exact ⟨j + 1, by omega, by go_num, Lib.hid (fun k hk => by
          rcases Nat.lt_or_eq_of_le (Nat.le_of_lt_succ hk) with h | rfl
          · exact HP.out k h
          · rw [HE.out.1, HE.out.2]; omega)⟩
        case measure => simp [intOf]; omega
    · obtain rfl : j = nl := by omega
      have HEND := Lib.hid (show v = (decide (30 < j) || decide (30 < ni)) by rw [← HV.out, bigB_end (fun k hk => HP.out k (by rw [← HL.out]; exact hk)), HL.out])
      clear HP hlt
      by_cases h30 : 30 < j
      · have h1 : (30 : Int) < (j : Int) := by omega
        go_wp2_with fail
        go_ret
        exact ⟨ret_bool (by rw [HEND.out]; simp [h30]), hb1⟩
      · have h1 : ¬ (30 : Int) < (j : Int) := by omega
        by_cases h31 : 30 < ni
        · have h2 : (30 : Int) < (ni : Int) := by omega
          go_wp2_with fail
          go_ret
          exact ⟨ret_bool (by rw [HEND.out]; simp [h31]), hb1⟩
        · have h2 : ¬ (30 : Int) < (ni : Int) := by omega
          go_wp2_with fail
          go_ret
          exact ⟨ret_bool (by rw [HEND.out]; simp [h30, h31]), hb1⟩
end Go.Proofs.Ytiilgkajijnbcaa
