/-
  A submission that came in; reading a written submission.
-/
import Derived.Test.YtiilgkajijnbcaaApiSub
import Derived.Test.YtiilgkajijnbcaaWrSub
import Derived.Test.YtiilgkajijnbcaaCodecRt
namespace Go.Proofs.Ytiilgkajijnbcaa
open Go.ChangeShapes Go.WideShapes Go.ChangeAt Go.RowKit
set_option linter.unusedVariables false
set_option linter.unusedSimpArgs false
set_option maxRecDepth 100000

section
variable {H : Type} {enc : TypeId × Value → H} {w : World} {base : Nat} {held : Bool} {fuel : Nat} {cs : List Value} {x : DataW H × List MemPlace}
theorem cells_proof (h : DataW.trod enc Try.prog w base (fun _ => true) held fuel 41 cs = some x) : ∃ a b : Nat, cs = [nv a, nv b] ∧ a < 18446744073709551616 ∧ b < 18446744073709551616 := by
  obtain ⟨hl, hf⟩ := cells_struct Try.underlying41 h
  obtain ⟨m0, y0, h0⟩ := (show ∃ m y, DataW.trod enc Try.prog w base (fun _ => true) held m 37 ((cs.drop 0).take (Try.prog.cellsOf 37)) = some y from hf 0 _ rfl)
  obtain ⟨m1, y1, h1⟩ := (show ∃ m y, DataW.trod enc Try.prog w base (fun _ => true) held m 37 ((cs.drop 1).take (Try.prog.cellsOf 37)) = some y from hf 1 _ rfl)
  obtain ⟨a, e0, ha⟩ := cells_u64 Try.underlying37 h0
  obtain ⟨b, e1, hb⟩ := cells_u64 Try.underlying37 h1
  rw [k_u64] at e0 e1
  exact ⟨a, b, cut2 1 1 (by rw [hl]; kernel_rfl) e0 e1, ha, hb⟩
theorem k_key : Try.prog.cellsOf 36 = 32 := by kernel_rfl
theorem k_entry : Try.prog.cellsOf 39 = 2 := by kernel_rfl
theorem k_proof : Try.prog.cellsOf 41 = 2 := by kernel_rfl
theorem cells_sub (h : DataW.trod enc Try.prog w base (fun _ => true) held fuel 43 cs = some x) : ∃ (d : SubD) (A : Option Addr) (n c : Nat), cs = scells d.u d.x A n c d.pc d.ps d.sc d.ss ∧ d.ok ∧ Bytes w A n c d.l := by
  obtain ⟨hl, hf⟩ := cells_struct Try.underlying43 h
  obtain ⟨m0, y0, h0⟩ := (show ∃ m y, DataW.trod enc Try.prog w base (fun _ => true) held m 36 ((cs.drop 0).take (Try.prog.cellsOf 36)) = some y from hf 0 _ rfl)
  obtain ⟨m1, y1, h1⟩ := (show ∃ m y, DataW.trod enc Try.prog w base (fun _ => true) held m 39 ((cs.drop 32).take (Try.prog.cellsOf 39)) = some y from hf 1 _ rfl)
  obtain ⟨m2, y2, h2⟩ := (show ∃ m y, DataW.trod enc Try.prog w base (fun _ => true) held m 41 ((cs.drop 34).take (Try.prog.cellsOf 41)) = some y from hf 2 _ rfl)
  obtain ⟨m3, y3, h3⟩ := (show ∃ m y, DataW.trod enc Try.prog w base (fun _ => true) held m 41 ((cs.drop 36).take (Try.prog.cellsOf 41)) = some y from hf 3 _ rfl)
  obtain ⟨u, hu, e0⟩ := cells_arr Try.underlying36 Try.underlying5 k_u8 k_key h0
  obtain ⟨⟨ex, eA, en, ec, el⟩, e1, hok⟩ := cells_entry h1
  obtain ⟨pc, ps, e2, hp1, hp2⟩ := cells_proof h2
  obtain ⟨sc, ss, e3, hs1, hs2⟩ := cells_proof h3
  rw [k_key] at e0
  rw [k_entry] at e1
  rw [k_proof] at e2 e3
  refine ⟨⟨u, ex, el, pc, ps, sc, ss⟩, eA, en, ec, ?_, ⟨hu, hok.2, hp1, hp2, hs1, hs2⟩, hok.1⟩
  exact cut4 32 2 2 2 (by rw [hl]; kernel_rfl) e0 e1 e2 e3
theorem open_sub {r : Reach} {b0 : Nat} {v : Value} {dd : DataW H} {ps : List MemPlace} (hval : Value.okWide Try.prog w r b0 43 v) (h : DataW.Trod enc Try.prog w base (fun _ => true) held 43 v dd ps) :
    ∃ (d : SubD) (A : Option Addr) (n c : Nat), v = .agg (scells d.u d.x A n c d.pc d.ps d.sc d.ss).toArray ∧ d.ok ∧ Bytes w A n c d.l := by
  obtain ⟨cs, rfl, _⟩ := okWide_struct Try.underlying43 hval
  obtain ⟨fuel, hf⟩ := h
  obtain ⟨d, A, n, c, e, h1, h2⟩ := cells_sub hf
  exact ⟨d, A, n, c, by rw [← (show cs.toList = scells d.u d.x A n c d.pc d.ps d.sc d.ss from e)], h1, h2⟩
end
/-- A submission is read as it was written. -/
theorem sub_rt (d : SubD) (hd : d.ok) (l : List UInt8) (h : wSub d = (l, 0)) : submissionS l = (d, 0) := by
  unfold wSub at h
  by_cases h1 : 1048576 < d.l.length
  · rw [if_pos h1] at h
    cases h
  rw [if_neg h1] at h
  by_cases h2 : rightN d.x
  case neg =>
    rw [if_neg h2] at h
    cases h
  rw [if_pos h2] at h
  obtain ⟨rfl, _⟩ := Prod.mk.inj h
  obtain ⟨hu, hx, hpc, hps, hsc, hss⟩ := hd
  have a0 : At (bodySub d) 0 (d.u ++ (be64 d.x ++ (be64 d.l.length ++ (d.l ++ (be64 d.pc ++ (be64 d.ps ++ (be64 d.sc ++ (be64 d.ss ++ [])))))))) := ⟨Nat.zero_le _, by simp [bodySub]⟩
  obtain ⟨g1, a1⟩ := a0.take hu
  obtain ⟨g2, a2⟩ := a1.elem h2
  obtain ⟨g3, a3⟩ := a2.most (m := 1048576) (by omega) (by omega)
  obtain ⟨g4, a4⟩ := a3.take rfl
  obtain ⟨g5, a5⟩ := a4.num hpc
  obtain ⟨g6, a6⟩ := a5.num hps
  obtain ⟨g7, a7⟩ := a6.num hsc
  obtain ⟨g8, a8⟩ := a7.num hss
  have k1 : keyS (bodySub d) ⟨0, 0⟩ = (d.u, ⟨0 + 32, 0⟩) := by rw [keyS, g1, padL_full 32 d.u hu]
  have := submissionS_eq (⟨d.u, d.x, d.l.length, d.l, d.pc, d.ps, d.sc, d.ss, _, _, _, _, _, _, _, _, k1, g2, g3, g4, g5, g6, g7, g8⟩ : SubR (bodySub d)) a8.done
  rw [this, if_pos rfl]
theorem wSub_err (d : SubD) : (wSub d).2 < 5 := by
  unfold wSub
  split
  · show 3 < 5; omega
  · split
    · show 0 < 5; omega
    · show 1 < 5; omega
end Go.Proofs.Ytiilgkajijnbcaa
