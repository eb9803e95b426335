/-
  The law CodecNotes of chapter 11.
-/
import Derived.Test.YtiilgkajijnbcaaCodecLaw
import Derived.Deep.RegionHeld
import Derived.Deep.MidRow
namespace Go.Proofs.Ytiilgkajijnbcaa
open Go.ChangeShapes Go.WideShapes Go.ChangeAt Go.RowKit
set_option linter.unusedVariables false
set_option linter.unusedSimpArgs false

namespace codecNotesLaw
set_option maxRecDepth 100000 in
set_option maxHeartbeats 4000000 in
theorem walk (x y : Nat) (l : List UInt8) (hx : x < 18446744073709551616) (hy : y < 18446744073709551616) (hl : l.length = 32) (w : World) :
    Calls Try.prog 8 #[.agg (ncells x y l).toArray] w fun e w' => e = .returned (.bool true) ∧ Below w.heap.size w w' := by
  have H1 := Has.new w 67 (ncells x y l)
  have hb1 := (Below.refl w.heap.size w).alloc (Nat.le_refl _) (.cells (ncells x y l).toArray 67)
  have heq := eq_note x y l hl
  have K1 := Lib.hid (fun u => progNote' x y l hx hy hl u)
  have K2 := Lib.hid (fun (A : Option Addr) (c : Nat) (u : World) (h : Bytes u A 48 c (wNote x y l)) => progReadNote' A 48 c _ x y l 0 (note_rt x y l hx hy hl) u h)
  have K3 := Lib.hid (fun u => refNote' x y l hx hy hl u)
  have K4 := Lib.hid (fun u => num11 0 u (by omega))
  have HNL := Lib.hid hl
  go_enter Try.func8, Try.ntmps8
  go_wp2_with fail
  refine (alive11 _).mono ?_
  rintro e w2 ⟨rfl, hb20⟩
  have hb2 := hb1.trans (hb20.mono hb1.size)
  have H2 := H1.keep hb20 H1.lt
  clear H1 hb1 hb20
  go_wp2_with (first
    | ((with_reducible refine wpList_load_note rfl (.tmp 1) rfl w.heap.size rfl x y l HNL.out H2 ?_)))
  refine (K1.out w2).mono ?_
  rintro e w3 ⟨v3, rfl, hown3, hb30⟩
  obtain ⟨A3, c3, rfl, hr3⟩ := id hown3
  have hb3 := hb2.trans (hb30.mono hb2.size)
  have H3 := H2.keep hb30 H2.lt
  have KR := Lib.hid (K2.out A3 c3 w3 hr3)
  have HR3 := Lib.hid hr3
  clear hown3 hr3 H2 hb30 hb2
  go_wp2_with fail
  refine (KR.out).mono ?_
  rintro e w4 ⟨rfl, hb40⟩
  have hb4 := hb3.trans (hb40.mono hb3.size)
  have hr4 := HR3.out.keep hb40
  have H4 := H3.keep hb40 H3.lt
  have J4 := newNote w4
  have hb5 := hb4.alloc hb4.size (.cells #[.int .u64 0, .int .u64 0, .int .u8 0, .int .u8 0, .int .u8 0, .int .u8 0, .int .u8 0, .int .u8 0, .int .u8 0, .int .u8 0, .int .u8 0, .int .u8 0, .int .u8 0, .int .u8 0, .int .u8 0, .int .u8 0, .int .u8 0, .int .u8 0, .int .u8 0, .int .u8 0, .int .u8 0, .int .u8 0, .int .u8 0, .int .u8 0, .int .u8 0, .int .u8 0, .int .u8 0, .int .u8 0, .int .u8 0, .int .u8 0, .int .u8 0, .int .u8 0, .int .u8 0, .int .u8 0] 67)
  have hs4 := hb4.size
  have H5 := H4.alloc (.cells #[.int .u64 0, .int .u64 0, .int .u8 0, .int .u8 0, .int .u8 0, .int .u8 0, .int .u8 0, .int .u8 0, .int .u8 0, .int .u8 0, .int .u8 0, .int .u8 0, .int .u8 0, .int .u8 0, .int .u8 0, .int .u8 0, .int .u8 0, .int .u8 0, .int .u8 0, .int .u8 0, .int .u8 0, .int .u8 0, .int .u8 0, .int .u8 0, .int .u8 0, .int .u8 0, .int .u8 0, .int .u8 0, .int .u8 0, .int .u8 0, .int .u8 0, .int .u8 0, .int .u8 0, .int .u8 0] 67)
  have hr5 := hr4.keep ((Below.refl w4.heap.size w4).alloc (Nat.le_refl _) (.cells #[.int .u64 0, .int .u64 0, .int .u8 0, .int .u8 0, .int .u8 0, .int .u8 0, .int .u8 0, .int .u8 0, .int .u8 0, .int .u8 0, .int .u8 0, .int .u8 0, .int .u8 0, .int .u8 0, .int .u8 0, .int .u8 0, .int .u8 0, .int .u8 0, .int .u8 0, .int .u8 0, .int .u8 0, .int .u8 0, .int .u8 0, .int .u8 0, .int .u8 0, .int .u8 0, .int .u8 0, .int .u8 0, .int .u8 0, .int .u8 0, .int .u8 0, .int .u8 0, .int .u8 0, .int .u8 0] 67))
  have hlt4 := H4.lt
  have hroff : Off w4.heap.size A3 48 := Off.of_row hr4 (Nat.le_refl _)
  clear KR hb40 H3 H4 hr4
  go_wp2_with (first
    | ((with_reducible refine wpList_store_note rfl (.tmp 5) (.tmp 13) rfl w4.heap.size rfl x y l HNL.out rfl (ncells 0 0 (List.replicate 32 0)) J4 rfl ?_); intro w6 o6 J6; have hb6 := o6.below hb5 hs4; have H6 := H5.only o6 (by omega); have hr6 := Row.only hr5 o6 hroff))
  have HX := Lib.hid (fun (u : World) (h : Below w6.drew.heap.size w6.drew u) => show u.rangeAt w.heap.size 0 (ncells x y l) ∧ u.rangeAt w4.heap.size 0 (ncells x y l) ∧ (convert 25 9 (.slice A3 48 c3)).run Try.prog u = .ok (.string (str (wNote x y l))) u from
    have hB : Bytes u A3 48 c3 (wNote x y l) := (show Bytes w6.drew A3 48 c3 (wNote x y l) from hr6).keep h
    ⟨Has.range (Has.keep (w := w6.drew) H6 h H6.lt) 0 (ncells x y l) (by rw [List.drop_zero, List.take_length]), Has.range (Has.keep (w := w6.drew) J6 h J6.lt) 0 (ncells x y l) (by rw [List.drop_zero, List.take_length]), run_str (P := Try.prog) Try.underlying25 Try.underlying5 Try.underlying9 hB⟩)
  have HC0 := Lib.hid (HX.out _ (Below.refl _ _))
  have hu := Try.underlying67
  have hi : (Try.prog.info? 67).map (·.size) = some (ncells x y l).length := by rw [ncells_len _ _ _ HNL.out]; exact size_note
  clear H5 H6 J4 J6 hr5 hr6 o6
  refine wp_region_held_drew (S := fun w' => w'.rangeAt w.heap.size 0 (ncells x y l) ∧ w'.rangeAt w4.heap.size 0 (ncells x y l) ∧ (convert 25 9 (.slice A3 48 c3)).run Try.prog w' = .ok (.string (str (wNote x y l))) w') (by kernel_rfl) HC0.out (fun hHeld => ?_)
  refine wpAnyH_take (i := 0) (v := ?vz0) rfl (by kernel_rfl) (by kernel_rfl) (by kernel_rfl) (fun _ _ _ h => h) (Or.inl ⟨by rfl, ?yz0⟩) (by assumption) ?rz0
  case yz0 => (intro u hSu; (try dsimp only at hSu); go_simp; try with_reducible rfl)
  try simp only [List.getElem_toArray, List.getElem_cons_succ, List.getElem_cons_zero, Act.put, List.setIfInBounds_toArray, List.set_cons_zero, List.set_cons_succ]
  refine wpAnyH_take (i := 1) (v := ?vz1) rfl (by kernel_rfl) (by kernel_rfl) (by kernel_rfl) (fun _ _ _ h => h) (Or.inl ⟨by rfl, ?yz1⟩) (by assumption) ?rz1
  case yz1 => (intro u hSu; (try dsimp only at hSu); go_simp; try with_reducible rfl)
  try simp only [List.getElem_toArray, List.getElem_cons_succ, List.getElem_cons_zero, Act.put, List.setIfInBounds_toArray, List.set_cons_zero, List.set_cons_succ]
  refine wpAnyH_take (i := 2) (v := ?vz2) rfl (by kernel_rfl) (by kernel_rfl) (by kernel_rfl) (fun _ _ _ h => h) (Or.inl ⟨by rfl, ?yz2⟩) (by assumption) ?rz2
  case yz2 => (intro u hSu; (try dsimp only at hSu); go_simp; try with_reducible rfl)
  try simp only [List.getElem_toArray, List.getElem_cons_succ, List.getElem_cons_zero, Act.put, List.setIfInBounds_toArray, List.set_cons_zero, List.set_cons_succ]
  refine wpAnyH_take (i := 3) (v := ?vz3) rfl (by kernel_rfl) (by kernel_rfl) (by kernel_rfl) (fun _ _ _ h => h) (Or.inl ⟨by rfl, ?yz3⟩) (by assumption) ?rz3
  case yz3 => (intro u hSu; (try dsimp only at hSu); go_simp; try with_reducible rfl)
  try simp only [List.getElem_toArray, List.getElem_cons_succ, List.getElem_cons_zero, Act.put, List.setIfInBounds_toArray, List.set_cons_zero, List.set_cons_succ]
  refine' wpAnyH_take (i := 4) (v := _) rfl (by kernel_rfl) (by kernel_rfl) (by kernel_rfl) (fun _ _ _ h => h) (yieldsIf_load_mid (by rfl) _ _ rfl _ _ rfl _ _ (fun _ h => h.1) hu rfl hi) (by assumption) ?rz4
  try simp only [List.getElem_toArray, List.getElem_cons_succ, List.getElem_cons_zero, Act.put, List.setIfInBounds_toArray, List.set_cons_zero, List.set_cons_succ]
  refine wpAnyH_ready (rs := [5]) (by kernel_rfl) (by simp) ?_
  refine AllReadyH.cons rfl (fun K hK => ?_) AllReadyH.nil
  go_simp
  go_at_call 32
  with_reducible refine (K3.out _).mono ?_
  rintro e w7 ⟨v7, rfl, hown7, hb7⟩
  obtain ⟨A7, c7, rfl, hr7⟩ := Row.own hown7
  have s7 := run_str (P := Try.prog) Try.underlying25 Try.underlying5 Try.underlying9 (show Bytes w7 A7 48 c7 (wNote x y l) from hr7)
  go_simp
  refine hK.out _ _ (HX.out _ hb7) (fun hHeld => ?_)
  clear hK K
  try simp only [List.getElem_toArray, List.getElem_cons_succ, List.getElem_cons_zero, Act.put, List.setIfInBounds_toArray, List.set_cons_zero, List.set_cons_succ]
  refine wpAnyH_ready (rs := [6]) (by kernel_rfl) (by simp) ?_
  refine AllReadyH.cons rfl (fun K hK => ?_) AllReadyH.nil
  go_simp
  refine hK.out _ _ (HX.out _ hb7) (fun hHeld => ?_)
  clear hK K
  try simp only [List.getElem_toArray, List.getElem_cons_succ, List.getElem_cons_zero, Act.put, List.setIfInBounds_toArray, List.set_cons_zero, List.set_cons_succ]
  refine wpAnyH_take (i := 7) (v := ?vz7) rfl (by kernel_rfl) (by kernel_rfl) (by kernel_rfl) (fun _ _ _ h => h) (Or.inl ⟨by rfl, ?yz7⟩) (by assumption) ?rz7
  case yz7 => (intro u hSu; (try dsimp only at hSu); go_simp; try with_reducible rfl)
  try simp only [List.getElem_toArray, List.getElem_cons_succ, List.getElem_cons_zero, Act.put, List.setIfInBounds_toArray, List.set_cons_zero, List.set_cons_succ]
  refine wpAnyH_take (i := 8) (v := ?vz8) rfl (by kernel_rfl) (by kernel_rfl) (by kernel_rfl) (fun _ _ _ h => h) (Or.inl ⟨by rfl, ?yz8⟩) (by assumption) ?rz8
  case yz8 => (intro u hSu; (try dsimp only at hSu); go_simp; try with_reducible rfl)
  try simp only [List.getElem_toArray, List.getElem_cons_succ, List.getElem_cons_zero, Act.put, List.setIfInBounds_toArray, List.set_cons_zero, List.set_cons_succ]
  refine wpAnyH_take (i := 9) (v := ?vz9) rfl (by kernel_rfl) (by kernel_rfl) (by kernel_rfl) (fun _ _ _ h => h) (Or.inl ⟨by rfl, ?yz9⟩) (by assumption) ?rz9
  case yz9 => (intro u hSu; (try dsimp only at hSu); go_simp; try with_reducible rfl)
  try simp only [List.getElem_toArray, List.getElem_cons_succ, List.getElem_cons_zero, Act.put, List.setIfInBounds_toArray, List.set_cons_zero, List.set_cons_succ]
  refine wpAnyH_take (i := 10) (v := ?vz10) rfl (by kernel_rfl) (by kernel_rfl) (by kernel_rfl) (fun _ _ _ h => h) (Or.inl ⟨by rfl, ?yz10⟩) (by assumption) ?rz10
  case yz10 => (intro u hSu; (try dsimp only at hSu); go_simp; try with_reducible rfl)
  try simp only [List.getElem_toArray, List.getElem_cons_succ, List.getElem_cons_zero, Act.put, List.setIfInBounds_toArray, List.set_cons_zero, List.set_cons_succ]
  refine wpAnyH_ready (rs := [11]) (by kernel_rfl) (by simp) ?_
  refine AllReadyH.cons rfl (fun K hK => ?_) AllReadyH.nil
  go_simp
  go_at_call 14
  with_reducible refine (K4.out _).mono ?_
  rintro e w' ⟨rfl, rfl⟩
  go_simp
  refine hK.out _ _ (HX.out _ hb7) (fun hHeld => ?_)
  clear hK K
  try simp only [List.getElem_toArray, List.getElem_cons_succ, List.getElem_cons_zero, Act.put, List.setIfInBounds_toArray, List.set_cons_zero, List.set_cons_succ]
  refine wpAnyH_take (i := 12) (v := ?vz12) rfl (by kernel_rfl) (by kernel_rfl) (by kernel_rfl) (fun _ _ _ h => h) (Or.inl ⟨by rfl, ?yz12⟩) (by assumption) ?rz12
  case yz12 => (intro u hSu; (try dsimp only at hSu); go_simp; try with_reducible rfl)
  try simp only [List.getElem_toArray, List.getElem_cons_succ, List.getElem_cons_zero, Act.put, List.setIfInBounds_toArray, List.set_cons_zero, List.set_cons_succ]
  refine wpAnyH_take (i := 13) (v := ?vz13) rfl (by kernel_rfl) (by kernel_rfl) (by kernel_rfl) (fun _ _ _ h => h) (Or.inl ⟨by rfl, ?yz13⟩) (by assumption) ?rz13
  case yz13 => (intro u hSu; (try dsimp only at hSu); go_simp; try with_reducible rfl)
  try simp only [List.getElem_toArray, List.getElem_cons_succ, List.getElem_cons_zero, Act.put, List.setIfInBounds_toArray, List.set_cons_zero, List.set_cons_succ]
  refine wpAnyH_take (i := 14) (v := ?vz14) rfl (by kernel_rfl) (by kernel_rfl) (by kernel_rfl) (fun _ _ _ h => h) (Or.inl ⟨by rfl, ?yz14⟩) (by assumption) ?rz14
  case yz14 => (intro u hSu; (try dsimp only at hSu); go_simp; try with_reducible rfl)
  try simp only [List.getElem_toArray, List.getElem_cons_succ, List.getElem_cons_zero, Act.put, List.setIfInBounds_toArray, List.set_cons_zero, List.set_cons_succ]
  refine' wpAnyH_take (i := 15) (v := _) rfl (by kernel_rfl) (by kernel_rfl) (by kernel_rfl) (fun _ _ _ h => h) (yieldsIf_load_mid (by rfl) _ _ rfl _ _ rfl _ _ (fun _ h => h.2.1) hu rfl hi) (by assumption) ?rz15
  try simp only [List.getElem_toArray, List.getElem_cons_succ, List.getElem_cons_zero, Act.put, List.setIfInBounds_toArray, List.set_cons_zero, List.set_cons_succ]
  refine' wpAnyH_take (i := 16) (v := _) rfl (by kernel_rfl) (by kernel_rfl) (by kernel_rfl) (fun _ _ _ h => h) (yieldsIf_load_mid (by rfl) _ _ rfl _ _ rfl _ _ (fun _ h => h.1) hu rfl hi) (by assumption) ?rz16
  try simp only [List.getElem_toArray, List.getElem_cons_succ, List.getElem_cons_zero, Act.put, List.setIfInBounds_toArray, List.set_cons_zero, List.set_cons_succ]
  refine wpAnyH_take (i := 17) (v := ?vz17) rfl (by kernel_rfl) (by kernel_rfl) (by kernel_rfl) (fun _ _ _ h => h) (Or.inl ⟨by rfl, ?yz17⟩) (by assumption) ?rz17
  case yz17 => (intro u hSu; (try dsimp only at hSu); go_simp; try with_reducible rfl)
  try simp only [List.getElem_toArray, List.getElem_cons_succ, List.getElem_cons_zero, Act.put, List.setIfInBounds_toArray, List.set_cons_zero, List.set_cons_succ]
  refine wpAnyH_take (i := 18) (v := ?vz18) rfl (by kernel_rfl) (by kernel_rfl) (by kernel_rfl) (fun _ _ _ h => h) (Or.inl ⟨by rfl, ?yz18⟩) (by assumption) ?rz18
  case yz18 => (intro u hSu; (try dsimp only at hSu); go_simp; try with_reducible rfl)
  try simp only [List.getElem_toArray, List.getElem_cons_succ, List.getElem_cons_zero, Act.put, List.setIfInBounds_toArray, List.set_cons_zero, List.set_cons_succ]
  refine wpAnyH_take (i := 19) (v := ?vz19) rfl (by kernel_rfl) (by kernel_rfl) (by kernel_rfl) (fun _ _ _ h => h) (Or.inl ⟨by rfl, ?yz19⟩) (by assumption) ?rz19
  case yz19 => (intro u hSu; (try dsimp only at hSu); go_simp; try with_reducible rfl)
  try simp only [List.getElem_toArray, List.getElem_cons_succ, List.getElem_cons_zero, Act.put, List.setIfInBounds_toArray, List.set_cons_zero, List.set_cons_succ]
  refine wpAnyH_done (by kernel_rfl) ?_ _
  go_wp2_with fail
  go_ret
  exact ⟨rfl, hb6.drew.trans (hb7.mono hb6.drew.size)⟩
theorem all (v : Nat × Nat × List UInt8) (h : v.1 < 18446744073709551616 ∧ v.2.1 < 18446744073709551616 ∧ v.2.2.length = 32) (w : World) :
    Calls Try.prog 8 #[.agg (ncells v.1 v.2.1 v.2.2).toArray] w fun e w' => e = .returned (.bool true) ∧ Below w.heap.size w w' := walk _ _ _ h.1 h.2.1 h.2.2 w
end codecNotesLaw
end Go.Proofs.Ytiilgkajijnbcaa
