/-
  Contracts of the reference's SameNums, SameLetters, SameBatch, of what is the same.
-/
import Derived.Test.YtiilgkajijnbcaaApiBat
import Derived.Test.YtiilgkajijnbcaaSameSub
import Derived.Deep.RegionHeld
import Derived.Deep.MidRow
namespace Go.Proofs.Ytiilgkajijnbcaa
open Go.ChangeShapes Go.WideShapes Go.ChangeAt Go.RowKit
set_option linter.unusedVariables false
set_option linter.unusedSimpArgs false

set_option maxHeartbeats 1000000 in
theorem sameNums (A : Option Addr) (n c : Nat) (B : Option Addr) (m d : Nat) (l : List Nat) (w : World) (hA : Nums w A n c l) (hB : Nums w B m d l) :
    Calls Try.prog 53 #[.slice A n c, .slice B m d] w fun e w' => e = .returned (.bool true) ∧ Below w.heap.size w w' := by
  have hmn : m = n := by rw [← hA.len, ← hB.len]
  subst hmn
  have hle := hA.le
  have HA := Lib.hid hA
  have HB := Lib.hid hB
  clear hA hB
  go_enter Try.func53, Try.ntmps53
  go_wp2_with fail
  go_loopw [5] (fun i wr => ∃ j : Nat, j ≤ m ∧ i = .int .i64 j ∧ Below w.heap.size w wr) (fun i _ => m - (intOf i).toNat)
  case atStart => exact ⟨0, Nat.zero_le _, rfl, Below.refl _ _⟩
  case round =>
    obtain ⟨j, hj, rfl, hb⟩ := hrel
    by_cases hlt : j < m
    · obtain ⟨b, off, rfl, hbl, hc⟩ := HA.out.at_ (by omega)
      obtain ⟨b', off', rfl, hbl', hc'⟩ := HB.out.at_ (by omega)
      have c0 := (hb.cell (p := ⟨b, off + j, none⟩) hbl).trans (hc j hlt)
      have d0 := (hb.cell (p := ⟨b', off' + j, none⟩) hbl').trans (hc' j hlt)
      obtain ⟨x, hx⟩ : ∃ x, l.getD j 0 = x := ⟨_, rfl⟩
      rw [hx] at c0 d0
      have hjn : (j : Int) < (m : Int) := by omega
      clear hc hc' hx
      go_wp2_with fail
      go_quiet (fail)
      go_wp2_with fail
      go_roundw
      case rel => exact ⟨j + 1, by omega, by go_num, below_drewN hb _⟩
      case measure => simp [intOf]; omega
    · obtain rfl : j = m := by omega
      go_wp2_with fail
      go_ret
      exact ⟨rfl, hb⟩
set_option maxRecDepth 10000 in
set_option maxHeartbeats 4000000 in
theorem sameLetters (A : Option Addr) (n c : Nat) (es : List Let) (B : Option Addr) (m d : Nat) (fs : List Let) (w : World) (hA : Letters w A n c es) (hB : Letters w B m d fs) (h : es.map Let.data = fs.map Let.data) :
    Calls Try.prog 54 #[.slice A n c, .slice B m d] w fun e w' => e = .returned (.bool true) ∧ Below w.heap.size w w' := by
  have hmn : m = n := by
    have := congrArg List.length h
    rw [List.length_map, List.length_map, hA.2.1, hB.2.1] at this
    exact this.symm
  subst hmn
  have hle := hA.le
  have HA := Lib.hid hA
  have HB := Lib.hid hB
  have HD := Lib.hid (show ∀ j, j < m → (es.getD j default).data = (fs.getD j default).data from fun j hj => by
    have h1 : j < es.length := by rw [hA.2.1]; exact hj
    have h2 : j < fs.length := by rw [hB.2.1]; exact hj
    have h3 : (es.map Let.data)[j]'(by simpa using h1) = (fs.map Let.data)[j]'(by simpa using h2) := by simp [h]
    simpa [h1, h2] using h3)
  clear hA hB h
  go_enter Try.func54, Try.ntmps54
  go_wp2_with fail
  go_loopw [5] (fun i wr => ∃ j : Nat, j ≤ m ∧ i = .int .i64 j ∧ Below w.heap.size w wr) (fun i _ => m - (intOf i).toNat)
  case atStart => exact ⟨0, Nat.zero_le _, rfl, Below.refl _ _⟩
  case round =>
    obtain ⟨j, hj, rfl, hb⟩ := hrel
    by_cases hlt : j < m
    · obtain ⟨b, off, rfl, hbl, hc⟩ := HA.out.at_ (by omega)
      obtain ⟨b', off', rfl, hbl', hc'⟩ := HB.out.at_ (by omega)
      obtain ⟨c0, c1⟩ := hc j hlt
      obtain ⟨d0, d1⟩ := hc' j hlt
      have hx := HD.out j hlt
      have hl1 := HA.out.get j hlt
      have hl2 := HB.out.get j hlt
      obtain ⟨e, he⟩ : ∃ e, es.getD j default = e := ⟨_, rfl⟩
      obtain ⟨f, hf⟩ : ∃ e, fs.getD j default = e := ⟨_, rfl⟩
      rw [he] at c0 c1 hl1 hx
      rw [hf] at d0 d1 hl2 hx
      obtain ⟨hx1, hx2⟩ := Prod.mk.inj hx
      rw [← hx1] at d0
      have hl2' := hl2.2
      rw [← hx2] at hl2'
      have hjn : (j : Int) < (m : Int) := by omega
      have heq := eq_key e.to hl1.1
      have hu := Try.underlying36
      have hi : (Try.prog.info? 36).map (·.size) = some (e.to.map bv).length := by rw [List.length_map, hl1.1]; exact size_key
      have HC0 := Lib.hid (show (wr.drew.rangeAt b (off + j * 33) (e.to.map bv) ∧ wr.drew.rangeAt b' (off' + j * 33) (e.to.map bv)) ∧ (wr.drew.cell? ⟨b, off + j * 33 + 32, none⟩ = some (.slice e.A e.n e.c) ∧ wr.drew.cell? ⟨b', off' + j * 33 + 32, none⟩ = some (.slice f.A f.n f.c)) ∧ (convert 25 9 (.slice e.A e.n e.c)).run Try.prog wr.drew = .ok (.string (str e.l)) wr.drew ∧ (convert 25 9 (.slice f.A f.n f.c)).run Try.prog wr.drew = .ok (.string (str e.l)) wr.drew from
        have hbd := hb.drew
        ⟨⟨fun i v hv => (hbd.cell (p := ⟨b, off + j * 33 + i, none⟩) hbl).trans (c0 i v hv), fun i v hv => (hbd.cell (p := ⟨b', off' + j * 33 + i, none⟩) hbl').trans (d0 i v hv)⟩, ⟨(hbd.cell (p := ⟨b, off + j * 33 + 32, none⟩) hbl).trans c1, (hbd.cell (p := ⟨b', off' + j * 33 + 32, none⟩) hbl').trans d1⟩,
          run_str (P := Try.prog) Try.underlying25 Try.underlying5 Try.underlying9 (hl1.2.keep hbd), run_str (P := Try.prog) Try.underlying25 Try.underlying5 Try.underlying9 (hl2'.keep hbd)⟩)
      clear hc hc' c0 c1 d0 d1 hl1 hl2 hl2' hx hx1 hx2 he hf
      go_wp2_with fail
      refine wp_region_held_drew (S := fun w' => (w'.rangeAt b (off + j * 33) (e.to.map bv) ∧ w'.rangeAt b' (off' + j * 33) (e.to.map bv)) ∧ (w'.cell? ⟨b, off + j * 33 + 32, none⟩ = some (.slice e.A e.n e.c) ∧ w'.cell? ⟨b', off' + j * 33 + 32, none⟩ = some (.slice f.A f.n f.c)) ∧ (convert 25 9 (.slice e.A e.n e.c)).run Try.prog w' = .ok (.string (str e.l)) w' ∧ (convert 25 9 (.slice f.A f.n f.c)).run Try.prog w' = .ok (.string (str e.l)) w') (by kernel_rfl) HC0.out (fun hHeld => ?_)
      refine wpAnyH_take (i := 0) (v := ?vz0) rfl (by kernel_rfl) (by kernel_rfl) (by kernel_rfl) (fun _ _ _ h => h) (Or.inl ⟨by rfl, ?yz0⟩) (by assumption) ?rz0
      case yz0 => (intro u hSu; (try dsimp only at hSu); go_simp; try with_reducible rfl)
      try simp only [List.getElem_toArray, List.getElem_cons_succ, List.getElem_cons_zero, Act.put, List.setIfInBounds_toArray, List.set_cons_zero, List.set_cons_succ]
      refine wpAnyH_take (i := 1) (v := ?vz1) rfl (by kernel_rfl) (by kernel_rfl) (by kernel_rfl) (fun _ _ _ h => h) (Or.inl ⟨by rfl, ?yz1⟩) (by assumption) ?rz1
      case yz1 => (intro u hSu; (try dsimp only at hSu); go_simp; try with_reducible rfl)
      try simp only [List.getElem_toArray, List.getElem_cons_succ, List.getElem_cons_zero, Act.put, List.setIfInBounds_toArray, List.set_cons_zero, List.set_cons_succ]
      refine wpAnyH_take (i := 2) (v := ?vz2) rfl (by kernel_rfl) (by kernel_rfl) (by kernel_rfl) (fun _ _ _ h => h) (Or.inl ⟨by rfl, ?yz2⟩) (by assumption) ?rz2
      case yz2 => (intro u hSu; (try dsimp only at hSu); go_simp; try with_reducible rfl)
      try simp only [List.getElem_toArray, List.getElem_cons_succ, List.getElem_cons_zero, Act.put, List.setIfInBounds_toArray, List.set_cons_zero, List.set_cons_succ]
      refine wpAnyH_take (i := 3) (v := ?vz3) rfl (by kernel_rfl) (by kernel_rfl) (by kernel_rfl) (fun _ _ _ h => h) (Or.inl ⟨by rfl, ?yz3⟩) (by assumption) ?rz3
      case yz3 => (intro u hSu; (try dsimp only at hSu); go_simp; try with_reducible rfl)
      try simp only [List.getElem_toArray, List.getElem_cons_succ, List.getElem_cons_zero, Act.put, List.setIfInBounds_toArray, List.set_cons_zero, List.set_cons_succ]
      refine' wpAnyH_take (i := 4) (v := _) rfl (by kernel_rfl) (by kernel_rfl) (by kernel_rfl) (fun _ _ _ h => h) (yieldsIf_load_mid (by rfl) _ _ rfl _ _ rfl _ _ (fun _ h => h.1.1) hu rfl hi) (by assumption) ?rz4
      try simp only [List.getElem_toArray, List.getElem_cons_succ, List.getElem_cons_zero, Act.put, List.setIfInBounds_toArray, List.set_cons_zero, List.set_cons_succ]
      refine wpAnyH_take (i := 5) (v := ?vz5) rfl (by kernel_rfl) (by kernel_rfl) (by kernel_rfl) (fun _ _ _ h => h) (Or.inl ⟨by rfl, ?yz5⟩) (by assumption) ?rz5
      case yz5 => (intro u hSu; (try dsimp only at hSu); go_simp; try with_reducible rfl)
      try simp only [List.getElem_toArray, List.getElem_cons_succ, List.getElem_cons_zero, Act.put, List.setIfInBounds_toArray, List.set_cons_zero, List.set_cons_succ]
      refine wpAnyH_take (i := 6) (v := ?vz6) rfl (by kernel_rfl) (by kernel_rfl) (by kernel_rfl) (fun _ _ _ h => h) (Or.inl ⟨by rfl, ?yz6⟩) (by assumption) ?rz6
      case yz6 => (intro u hSu; (try dsimp only at hSu); go_simp; try with_reducible rfl)
      try simp only [List.getElem_toArray, List.getElem_cons_succ, List.getElem_cons_zero, Act.put, List.setIfInBounds_toArray, List.set_cons_zero, List.set_cons_succ]
      refine wpAnyH_take (i := 7) (v := ?vz7) rfl (by kernel_rfl) (by kernel_rfl) (by kernel_rfl) (fun _ _ _ h => h) (Or.inl ⟨by rfl, ?yz7⟩) (by assumption) ?rz7
      case yz7 => (intro u hSu; (try dsimp only at hSu); go_simp; try with_reducible rfl)
      try simp only [List.getElem_toArray, List.getElem_cons_succ, List.getElem_cons_zero, Act.put, List.setIfInBounds_toArray, List.set_cons_zero, List.set_cons_succ]
      refine wpAnyH_take (i := 8) (v := ?vz8) rfl (by kernel_rfl) (by kernel_rfl) (by kernel_rfl) (fun _ _ _ h => h) (Or.inl ⟨by rfl, ?yz8⟩) (by assumption) ?rz8
      case yz8 => (intro u hSu; (try dsimp only at hSu); go_simp; try with_reducible rfl)
      try simp only [List.getElem_toArray, List.getElem_cons_succ, List.getElem_cons_zero, Act.put, List.setIfInBounds_toArray, List.set_cons_zero, List.set_cons_succ]
      refine' wpAnyH_take (i := 9) (v := _) rfl (by kernel_rfl) (by kernel_rfl) (by kernel_rfl) (fun _ _ _ h => h) (yieldsIf_load_mid (by rfl) _ _ rfl _ _ rfl _ _ (fun _ h => h.1.2) hu rfl hi) (by assumption) ?rz9
      try simp only [List.getElem_toArray, List.getElem_cons_succ, List.getElem_cons_zero, Act.put, List.setIfInBounds_toArray, List.set_cons_zero, List.set_cons_succ]
      refine wpAnyH_take (i := 10) (v := ?vz10) rfl (by kernel_rfl) (by kernel_rfl) (by kernel_rfl) (fun _ _ _ h => h) (Or.inl ⟨by rfl, ?yz10⟩) (by assumption) ?rz10
      case yz10 => (intro u hSu; (try dsimp only at hSu); go_simp; try with_reducible rfl)
      try simp only [List.getElem_toArray, List.getElem_cons_succ, List.getElem_cons_zero, Act.put, List.setIfInBounds_toArray, List.set_cons_zero, List.set_cons_succ]
      refine wpAnyH_take (i := 11) (v := ?vz11) rfl (by kernel_rfl) (by kernel_rfl) (by kernel_rfl) (fun _ _ _ h => h) (Or.inl ⟨by rfl, ?yz11⟩) (by assumption) ?rz11
      case yz11 => (intro u hSu; (try dsimp only at hSu); go_simp; try with_reducible rfl)
      try simp only [List.getElem_toArray, List.getElem_cons_succ, List.getElem_cons_zero, Act.put, List.setIfInBounds_toArray, List.set_cons_zero, List.set_cons_succ]
      refine wpAnyH_take (i := 12) (v := ?vz12) rfl (by kernel_rfl) (by kernel_rfl) (by kernel_rfl) (fun _ _ _ h => h) (Or.inl ⟨by rfl, ?yz12⟩) (by assumption) ?rz12
      case yz12 => (intro u hSu; (try dsimp only at hSu); go_simp; try with_reducible rfl)
      try simp only [List.getElem_toArray, List.getElem_cons_succ, List.getElem_cons_zero, Act.put, List.setIfInBounds_toArray, List.set_cons_zero, List.set_cons_succ]
      refine wpAnyH_take (i := 13) (v := ?vz13) rfl (by kernel_rfl) (by kernel_rfl) (by kernel_rfl) (fun _ _ _ h => h) (Or.inl ⟨by rfl, ?yz13⟩) (by assumption) ?rz13
      case yz13 => (intro u hSu; (try dsimp only at hSu); go_simp; try with_reducible rfl)
      try simp only [List.getElem_toArray, List.getElem_cons_succ, List.getElem_cons_zero, Act.put, List.setIfInBounds_toArray, List.set_cons_zero, List.set_cons_succ]
      refine wpAnyH_take (i := 14) (v := ?vz14) rfl (by kernel_rfl) (by kernel_rfl) (by kernel_rfl) (fun _ _ _ h => h) (Or.inl ⟨by rfl, ?yz14⟩) (by assumption) ?rz14
      case yz14 => (intro u hSu; (try dsimp only at hSu); go_simp; try with_reducible rfl)
      try simp only [List.getElem_toArray, List.getElem_cons_succ, List.getElem_cons_zero, Act.put, List.setIfInBounds_toArray, List.set_cons_zero, List.set_cons_succ]
      refine wpAnyH_take (i := 15) (v := ?vz15) rfl (by kernel_rfl) (by kernel_rfl) (by kernel_rfl) (fun _ _ _ h => h) (Or.inl ⟨by rfl, ?yz15⟩) (by assumption) ?rz15
      case yz15 => (intro u hSu; (try dsimp only at hSu); go_simp; try with_reducible rfl)
      try simp only [List.getElem_toArray, List.getElem_cons_succ, List.getElem_cons_zero, Act.put, List.setIfInBounds_toArray, List.set_cons_zero, List.set_cons_succ]
      refine wpAnyH_take (i := 16) (v := ?vz16) rfl (by kernel_rfl) (by kernel_rfl) (by kernel_rfl) (fun _ _ _ h => h) (Or.inl ⟨by rfl, ?yz16⟩) (by assumption) ?rz16
      case yz16 => (intro u hSu; (try dsimp only at hSu); go_simp; try with_reducible rfl)
      try simp only [List.getElem_toArray, List.getElem_cons_succ, List.getElem_cons_zero, Act.put, List.setIfInBounds_toArray, List.set_cons_zero, List.set_cons_succ]
      refine wpAnyH_take (i := 17) (v := ?vz17) rfl (by kernel_rfl) (by kernel_rfl) (by kernel_rfl) (fun _ _ _ h => h) (Or.inl ⟨by rfl, ?yz17⟩) (by assumption) ?rz17
      case yz17 => (intro u hSu; (try dsimp only at hSu); go_simp; try with_reducible rfl)
      try simp only [List.getElem_toArray, List.getElem_cons_succ, List.getElem_cons_zero, Act.put, List.setIfInBounds_toArray, List.set_cons_zero, List.set_cons_succ]
      refine wpAnyH_take (i := 18) (v := ?vz18) rfl (by kernel_rfl) (by kernel_rfl) (by kernel_rfl) (fun _ _ _ h => h) (Or.inl ⟨by rfl, ?yz18⟩) (by assumption) ?rz18
      case yz18 => (intro u hSu; (try dsimp only at hSu); go_simp; try with_reducible rfl)
      try simp only [List.getElem_toArray, List.getElem_cons_succ, List.getElem_cons_zero, Act.put, List.setIfInBounds_toArray, List.set_cons_zero, List.set_cons_succ]
      refine wpAnyH_take (i := 19) (v := ?vz19) rfl (by kernel_rfl) (by kernel_rfl) (by kernel_rfl) (fun _ _ _ h => h) (Or.inl ⟨by rfl, ?yz19⟩) (by assumption) ?rz19
      case yz19 => (intro u hSu; (try dsimp only at hSu); go_simp; try with_reducible rfl)
      try simp only [List.getElem_toArray, List.getElem_cons_succ, List.getElem_cons_zero, Act.put, List.setIfInBounds_toArray, List.set_cons_zero, List.set_cons_succ]
      refine wpAnyH_take (i := 20) (v := ?vz20) rfl (by kernel_rfl) (by kernel_rfl) (by kernel_rfl) (fun _ _ _ h => h) (Or.inl ⟨by rfl, ?yz20⟩) (by assumption) ?rz20
      case yz20 => (intro u hSu; (try dsimp only at hSu); go_simp; try with_reducible rfl)
      try simp only [List.getElem_toArray, List.getElem_cons_succ, List.getElem_cons_zero, Act.put, List.setIfInBounds_toArray, List.set_cons_zero, List.set_cons_succ]
      refine wpAnyH_take (i := 21) (v := ?vz21) rfl (by kernel_rfl) (by kernel_rfl) (by kernel_rfl) (fun _ _ _ h => h) (Or.inl ⟨by rfl, ?yz21⟩) (by assumption) ?rz21
      case yz21 => (intro u hSu; (try dsimp only at hSu); go_simp; try with_reducible rfl)
      try simp only [List.getElem_toArray, List.getElem_cons_succ, List.getElem_cons_zero, Act.put, List.setIfInBounds_toArray, List.set_cons_zero, List.set_cons_succ]
      refine wpAnyH_take (i := 22) (v := ?vz22) rfl (by kernel_rfl) (by kernel_rfl) (by kernel_rfl) (fun _ _ _ h => h) (Or.inl ⟨by rfl, ?yz22⟩) (by assumption) ?rz22
      case yz22 => (intro u hSu; (try dsimp only at hSu); go_simp; try with_reducible rfl)
      try simp only [List.getElem_toArray, List.getElem_cons_succ, List.getElem_cons_zero, Act.put, List.setIfInBounds_toArray, List.set_cons_zero, List.set_cons_succ]
      refine wpAnyH_take (i := 23) (v := ?vz23) rfl (by kernel_rfl) (by kernel_rfl) (by kernel_rfl) (fun _ _ _ h => h) (Or.inl ⟨by rfl, ?yz23⟩) (by assumption) ?rz23
      case yz23 => (intro u hSu; (try dsimp only at hSu); go_simp; try with_reducible rfl)
      try simp only [List.getElem_toArray, List.getElem_cons_succ, List.getElem_cons_zero, Act.put, List.setIfInBounds_toArray, List.set_cons_zero, List.set_cons_succ]
      refine wpAnyH_take (i := 24) (v := ?vz24) rfl (by kernel_rfl) (by kernel_rfl) (by kernel_rfl) (fun _ _ _ h => h) (Or.inl ⟨by rfl, ?yz24⟩) (by assumption) ?rz24
      case yz24 => (intro u hSu; (try dsimp only at hSu); go_simp; try with_reducible rfl)
      try simp only [List.getElem_toArray, List.getElem_cons_succ, List.getElem_cons_zero, Act.put, List.setIfInBounds_toArray, List.set_cons_zero, List.set_cons_succ]
      refine wpAnyH_take (i := 25) (v := ?vz25) rfl (by kernel_rfl) (by kernel_rfl) (by kernel_rfl) (fun _ _ _ h => h) (Or.inl ⟨by rfl, ?yz25⟩) (by assumption) ?rz25
      case yz25 => (intro u hSu; (try dsimp only at hSu); go_simp; try with_reducible rfl)
      try simp only [List.getElem_toArray, List.getElem_cons_succ, List.getElem_cons_zero, Act.put, List.setIfInBounds_toArray, List.set_cons_zero, List.set_cons_succ]
      refine wpAnyH_done (by kernel_rfl) ?_ _
      go_wp2_with fail
      go_roundw
      case rel => exact ⟨j + 1, by omega, by go_num, hb.drew⟩
      case measure => simp [intOf]; omega
    · obtain rfl : j = m := by omega
      go_wp2_with fail
      go_ret
      exact ⟨rfl, hb⟩
set_option maxHeartbeats 1000000 in
theorem sameBatch (r ch : Int) (Ai : Option Addr) (ni ci : Nat) (Al : Option Addr) (nl cl : Nat) (Bi : Option Addr) (mi di : Nat) (Bl : Option Addr) (ml dl : Nat) (inner : List Nat) (es fs : List Let) (w : World)
    (hi : Nums w Ai ni ci inner) (hi' : Nums w Bi mi di inner) (hl : Letters w Al nl cl es) (hl' : Letters w Bl ml dl fs) (h : es.map Let.data = fs.map Let.data) :
    Calls Try.prog 25 #[.agg #[.int .i64 r, .int .i64 ch, .slice Ai ni ci, .slice Al nl cl], .agg #[.int .i64 r, .int .i64 ch, .slice Bi mi di, .slice Bl ml dl]] w fun e w' => e = .returned (.bool true) ∧ Below w.heap.size w w' := by
  have hb1 := (Below.refl w.heap.size w).alloc (Nat.le_refl _) (.cells #[.int .i64 r, .int .i64 ch, .slice Ai ni ci, .slice Al nl cl] 53)
  have hb2 := hb1.alloc hb1.size (.cells #[.int .i64 r, .int .i64 ch, .slice Bi mi di, .slice Bl ml dl] 53)
  have H1 := (Has.new w 53 (bcells r ch Ai ni ci Al nl cl)).alloc (.cells #[.int .i64 r, .int .i64 ch, .slice Bi mi di, .slice Bl ml dl] 53)
  have H2 := (Has.new (w.alloc (.cells #[.int .i64 r, .int .i64 ch, .slice Ai ni ci, .slice Al nl cl] 53)) 53 (bcells r ch Bi mi di Bl ml dl)).at_ (show _ = w.heap.size + 1 by simp)
  have K1 := Lib.hid (fun q (h : Below w.heap.size w q) => sameNums Ai ni ci Bi mi di inner q (hi.keep h) (hi'.keep h))
  have K2 := Lib.hid (fun q (h : Below w.heap.size w q) => sameLetters Al nl cl es Bl ml dl fs q (hl.keep h) (hl'.keep h) ‹_›)
  clear hb1 hi hi' hl hl' h
  go_enter Try.func25, Try.ntmps25
  go_upto_region 1 with fail
  change Code.wp _ _ _ _ ((w.alloc (.cells #[.int .i64 r, .int .i64 ch, .slice Ai ni ci, .slice Al nl cl] 53)).alloc (.cells #[.int .i64 r, .int .i64 ch, .slice Bi mi di, .slice Bl ml dl] 53))
  have H1' : Has ((w.alloc (.cells #[.int .i64 r, .int .i64 ch, .slice Ai ni ci, .slice Al nl cl] 53)).alloc (.cells #[.int .i64 r, .int .i64 ch, .slice Bi mi di, .slice Bl ml dl] 53)) w.heap.size 53 (bcells r ch Ai ni ci Al nl cl) := H1
  have H2' : Has ((w.alloc (.cells #[.int .i64 r, .int .i64 ch, .slice Ai ni ci, .slice Al nl cl] 53)).alloc (.cells #[.int .i64 r, .int .i64 ch, .slice Bi mi di, .slice Bl ml dl] 53)) (w.heap.size + 1) 53 (bcells r ch Bi mi di Bl ml dl) := H2
  clear H1 H2
  generalize ((w.alloc (.cells #[.int .i64 r, .int .i64 ch, .slice Ai ni ci, .slice Al nl cl] 53)).alloc (.cells #[.int .i64 r, .int .i64 ch, .slice Bi mi di, .slice Bl ml dl] 53)) = w2 at *
  have HH := Lib.hid (fun q (h : Below w2.heap.size w2 q) => show (q.cell? ⟨w.heap.size, 0, none⟩ = some (.int .i64 r) ∧ q.cell? ⟨w.heap.size, 1, none⟩ = some (.int .i64 ch) ∧ q.cell? ⟨w.heap.size, 2, none⟩ = some (.slice Ai ni ci) ∧ q.cell? ⟨w.heap.size, 3, none⟩ = some (.slice Al nl cl)) ∧ (q.cell? ⟨w.heap.size + 1, 0, none⟩ = some (.int .i64 r) ∧ q.cell? ⟨w.heap.size + 1, 1, none⟩ = some (.int .i64 ch) ∧ q.cell? ⟨w.heap.size + 1, 2, none⟩ = some (.slice Bi mi di) ∧ q.cell? ⟨w.heap.size + 1, 3, none⟩ = some (.slice Bl ml dl)) from
    have G1 := H1'.keep h H1'.lt
    have G2 := H2'.keep h H2'.lt
    ⟨⟨G1.cell 0, G1.cell 1, G1.cell 2, G1.cell 3⟩, G2.cell 0, G2.cell 1, G2.cell 2, G2.cell 3⟩)
  obtain ⟨⟨a0, a1, a2, a3⟩, d0, d1, d2, d3⟩ := HH.out w2 (Below.refl _ _)
  clear H1' H2'
  go_wp2_with fail
  refine (K1.out w2 hb2).mono ?_
  rintro e w3 ⟨rfl, hb30⟩
  have hb3 := hb2.trans (hb30.mono hb2.size)
  clear a0 a1 a2 a3 d0 d1 d2 d3
  obtain ⟨⟨a0, a1, a2, a3⟩, d0, d1, d2, d3⟩ := HH.out w3 hb30
  go_wp2_with fail
  refine (K2.out w3 hb3).mono ?_
  rintro e w4 ⟨rfl, hb40⟩
  go_wp2_with fail
  go_ret
  exact ⟨rfl, hb3.trans (hb40.mono hb3.size)⟩
end Go.Proofs.Ytiilgkajijnbcaa
