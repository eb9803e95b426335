/-
  The law CodecAgain of chapter 11. (Written by gen_codecagain.py.)
-/
import Derived.Test.YtiilgkajijnbcaaCodecBoth
import Derived.Test.YtiilgkajijnbcaaSubOpen
import Derived.Test.YtiilgkajijnbcaaSameSub
import Derived.Test.YtiilgkajijnbcaaPutEntAll
import Derived.Test.YtiilgkajijnbcaaPutSub
import Derived.Test.YtiilgkajijnbcaaPutBatAll
import Derived.Test.YtiilgkajijnbcaaCodecInv
import Derived.Deep.RegionHeld
namespace Go.Proofs.Ytiilgkajijnbcaa
open Go.ChangeShapes Go.WideShapes Go.ChangeAt Go.RowKit
set_option linter.unusedVariables false
set_option linter.unusedSimpArgs false

namespace codecAgainLaw
theorem big (A : Option Addr) (n c : Nat) (h8 : 800 < n) (w : World) :
    Calls Try.prog 7 #[.slice A n c] w fun e w' => e = .returned (.bool true) ∧ Below w.heap.size w w' := by
  have h1 : (800 : Int) < (n : Int) := by omega
  go_enter Try.func7, Try.ntmps7
  go_wp2_with fail
  refine (alive11 _).mono ?_
  rintro e w2 ⟨rfl, hb2⟩
  go_wp2_with fail
  go_ret
  exact ⟨rfl, hb2⟩
set_option maxRecDepth 10000 in
set_option maxHeartbeats 8000000 in
theorem small (A : Option Addr) (n c : Nat) (b : List UInt8) (h8 : n ≤ 800) (w : World) (hb : Bytes w A n c b) :
    Calls Try.prog 7 #[.slice A n c] w fun e w' => e = .returned (.bool true) ∧ Below w.heap.size w w' := by
  obtain ⟨E, k1, g1⟩ := two_of (entriesS b)
  obtain ⟨D, k2, g2⟩ := two_of (submissionS b)
  obtain ⟨T, k3, g3⟩ := two_of (batchS b)
  obtain ⟨NN, k4, g4⟩ := two_of (noteS b)
  obtain ⟨x, NN, rfl⟩ := two_of NN
  obtain ⟨y, t, rfl⟩ := two_of NN
  have q1 := entriesS_err g1
  have q2 := submissionS_err g2
  have q3 := batchS_err g3
  have q4 := noteS_err g4
  have hn4 := noteS_ok g4
  have HTL := Lib.hid hn4.2.2
  have KE1 := Lib.hid (fun (u : World) (h : Bytes u A n c b) => progEnt g1 h)
  have KS1 := Lib.hid (fun (u : World) (h : Bytes u A n c b) => progSub g2 h)
  have KT1 := Lib.hid (fun (u : World) (h : Bytes u A n c b) => progBat g3 h)
  have KN1 := Lib.hid (fun (u : World) (h : Bytes u A n c b) => progReadNote' A n c b x y t k4 g4 u h)
  obtain ⟨m, hm⟩ : ∃ m, b.length = m := ⟨_, rfl⟩
  have KW1 := Lib.hid (fun (h0 : k1 = 0) (es : List Ent) (he : es.map Ent.data = E) (A' : Option Addr) (n' c' : Nat) (u : World) (hE : Entries u A' n' c' es) => show Calls Try.prog 12 #[.slice A' n' c'] u (fun e w' => ∃ v, e = .returned (.tuple #[v, .int .i64 0]) ∧ (∃ B d, v = .slice B m d ∧ Bytes w' B m d b) ∧ Below u.heap.size u w') from by
    have := progEntries' A' n' c' es b 0 (by rw [he]; exact entries_wr (by rw [g1, h0])) u hE
    rw [hm] at this
    exact this)
  have KW2 := Lib.hid (fun (h0 : k2 = 0) (hd : D.ok) (A' : Option Addr) (n' c' : Nat) (u : World) (hE : Bytes u A' n' c' D.l) => show Calls Try.prog 17 #[.agg (scells D.u D.x A' n' c' D.pc D.ps D.sc D.ss).toArray] u (fun e w' => ∃ v, e = .returned (.tuple #[v, .int .i64 0]) ∧ (∃ B d, v = .slice B m d ∧ Bytes w' B m d b) ∧ Below u.heap.size u w') from by
    have := progSubmission' D hd A' n' c' b 0 (sub_wr (by rw [g2, h0])) u hE
    rw [hm] at this
    exact this)
  have KW3 := Lib.hid (fun (h0 : k3 = 0) (hd : T.ok) (es : List Let) (he : T.ls = es.map Let.data) (Ai : Option Addr) (ni ci : Nat) (Al : Option Addr) (nl cl : Nat) (u : World) (hI : Nums u Ai ni ci T.inner) (hL : Letters u Al nl cl es) => show Calls Try.prog 22 #[.agg (bcells T.r T.ch Ai ni ci Al nl cl).toArray] u (fun e w' => ∃ v, e = .returned (.tuple #[v, .int .i64 0]) ∧ (∃ B d, v = .slice B m d ∧ Bytes w' B m d b) ∧ Below u.heap.size u w') from by
    have hw : wBatch ⟨T.r, T.ch, T.inner, es.map Let.data⟩ = (b, 0) := by
      rw [← he]
      exact batch_wr (d := T) (by rw [g3, h0])
    have := progBatch' T.r T.ch ⟨by have := hd.1.1; omega, hd.1.2⟩ ⟨by have := hd.2.1; omega, hd.2.2⟩ Ai ni ci T.inner Al nl cl es b 0 hw u hI hL
    rw [hm] at this
    exact this)
  have KW4 := Lib.hid (fun (h0 : k4 = 0) (u : World) => show Calls Try.prog 31 #[.agg (ncells x y t).toArray] u (fun e w' => ∃ v, e = .returned v ∧ (∃ B d, v = .slice B 48 d ∧ Row w' B 48 d (b.map bv)) ∧ Below u.heap.size u w') from by
    have := progNote' x y t hn4.1 hn4.2.1 hn4.2.2 u
    rw [note_wr (by rw [g4, h0])] at this
    exact this)
  have M0 := Lib.hid (fun q => num11 0 q (by omega))
  have M1 := Lib.hid (fun q => num11 (k1 : Int) q (by omega))
  have M2 := Lib.hid (fun q => num11 (k2 : Int) q (by omega))
  have M3 := Lib.hid (fun q => num11 (k3 : Int) q (by omega))
  have M4 := Lib.hid (fun q => num11 (k4 : Int) q (by omega))
  have HB0 := Lib.hid hb
  have h1 : ¬ (800 : Int) < (n : Int) := by omega
  clear hb h8 g1 g2 g3 g4 q1 q2 q3 q4 hn4 hm
  go_enter Try.func7, Try.ntmps7
  go_wp2_with fail
  refine (alive11 _).mono ?_
  rintro e w2 ⟨rfl, b2⟩
  go_wp2_with fail
  refine (KE1.out _ (HB0.out.keep b2)).mono ?_
  rintro e w3 ⟨A1, m1, c1, es1, rfl, he, hE, hb3⟩
  have b3 := b2.trans (hb3.mono b2.size)
  clear hb3
  have HE1 := Lib.hid hE
  have HD1 := Lib.hid he
  clear hE he
  go_wp2_with fail
  by_cases z1 : k1 = 0
  · have f : ((k1 : Int) == 0) = true := by rw [z1]; rfl
    have Z := Lib.hid z1
    clear z1
    refine (M1.out _).mono ?_
    rintro e w' ⟨rfl, rfl⟩
    go_wp2_with fail
    refine (KW1.out Z.out es1 HD1.out A1 m1 c1 _ HE1.out).mono ?_
    rintro e w4 ⟨v, rfl, ⟨B, d, rfl, hr4⟩, hb4⟩
    have b4 := b3.trans (hb4.mono b3.size)
    clear hb4
    clear f Z
    have s3 := run_str (P := Try.prog) Try.underlying25 Try.underlying5 Try.underlying9 hr4
    have s4 := run_str (P := Try.prog) Try.underlying25 Try.underlying5 Try.underlying9 (HB0.out.keep b4)
    clear hr4
    go_wp2_with fail
    refine (M0.out _).mono ?_
    rintro e w' ⟨rfl, rfl⟩
    go_wp2_with fail
    clear s3 s4
    refine (KS1.out _ (HB0.out.keep b4)).mono ?_
    rintro e w5 ⟨A2, m2, c2, rfl, hY, hD, hb5⟩
    have b5 := b4.trans (hb5.mono b4.size)
    clear hb5
    have HD2 := Lib.hid hD
    have HU := Lib.hid hD.1
    have J := newSub w5
    go_wp2_with ((with_reducible refine wpList_store_sub rfl (.tmp 8) (.tmp 53) rfl w5.heap.size rfl D.u D.x A2 m2 c2 D.pc D.ps D.sc D.ss HU.out rfl (scells (List.replicate 32 0) 0 none 0 0 0 0 0 0) J rfl ?_); intro w6 o6 H6)
    have hb6 : Below w5.heap.size w5 w6 := o6.below ((Below.refl _ _).alloc (Nat.le_refl _) _) (Nat.le_refl _)
    have HY2 := Lib.hid (hY.keep hb6)
    have b6 := b5.trans (hb6.mono b5.size)
    clear hb6
    clear hY hD J o6
    by_cases z2 : k2 = 0
    · have f : ((k2 : Int) == 0) = true := by rw [z2]; rfl
      have Z := Lib.hid z2
      clear z2
      refine (M2.out _).mono ?_
      rintro e w' ⟨rfl, rfl⟩
      go_wp2_with ((with_reducible refine wpList_load_sub rfl (.tmp 8) rfl w5.heap.size rfl D.u D.x A2 m2 c2 D.pc D.ps D.sc D.ss HU.out H6 ?_))
      refine (KW2.out Z.out HD2.out A2 m2 c2 _ HY2.out).mono ?_
      rintro e w7 ⟨v, rfl, ⟨B, d, rfl, hr7⟩, hb7⟩
      have b7 := b6.trans (hb7.mono b6.size)
      clear hb7
      clear H6
      clear f Z
      have s3 := run_str (P := Try.prog) Try.underlying25 Try.underlying5 Try.underlying9 hr7
      have s4 := run_str (P := Try.prog) Try.underlying25 Try.underlying5 Try.underlying9 (HB0.out.keep b7)
      clear hr7
      go_wp2_with fail
      refine (M0.out _).mono ?_
      rintro e w' ⟨rfl, rfl⟩
      go_wp2_with fail
      clear s3 s4
      refine (KT1.out _ (HB0.out.keep b7)).mono ?_
      rintro e w8 ⟨Ai, ni, ci, Al, nl, cl, es3, rfl, hI, hL, hd, hok, hb8⟩
      have b8 := b7.trans (hb8.mono b7.size)
      clear hb8
      have HD3 := Lib.hid (And.intro hd hok)
      have J := newBatch w8
      go_wp2_with ((with_reducible refine wpList_store_bat rfl (.tmp 12) (.tmp 76) rfl w8.heap.size rfl T.r T.ch Ai ni ci Al nl cl rfl (bcells 0 0 none 0 0 none 0 0) J rfl ?_); intro w9 o9 H9)
      have hb9 : Below w8.heap.size w8 w9 := o9.below ((Below.refl _ _).alloc (Nat.le_refl _) _) (Nat.le_refl _)
      have HI3 := Lib.hid (hI.keep hb9)
      have HL3 := Lib.hid (hL.keep hb9)
      have b9 := b8.trans (hb9.mono b8.size)
      clear hb9
      clear hI hL hd hok J o9
      by_cases z3 : k3 = 0
      · have f : ((k3 : Int) == 0) = true := by rw [z3]; rfl
        have Z := Lib.hid z3
        clear z3
        refine (M3.out _).mono ?_
        rintro e w' ⟨rfl, rfl⟩
        go_wp2_with ((with_reducible refine wpList_load_bat rfl (.tmp 12) rfl w8.heap.size rfl T.r T.ch Ai ni ci Al nl cl H9 ?_))
        refine (KW3.out Z.out HD3.out.2 es3 HD3.out.1 Ai ni ci Al nl cl _ HI3.out HL3.out).mono ?_
        rintro e w10 ⟨v, rfl, ⟨B, d, rfl, hr10⟩, hb10⟩
        have b10 := b9.trans (hb10.mono b9.size)
        clear hb10
        clear H9
        clear f Z
        have s3 := run_str (P := Try.prog) Try.underlying25 Try.underlying5 Try.underlying9 hr10
        have s4 := run_str (P := Try.prog) Try.underlying25 Try.underlying5 Try.underlying9 (HB0.out.keep b10)
        clear hr10
        go_wp2_with fail
        refine (M0.out _).mono ?_
        rintro e w' ⟨rfl, rfl⟩
        go_wp2_with fail
        clear s3 s4
        refine (KN1.out _ (HB0.out.keep b10)).mono ?_
        rintro e w11 ⟨rfl, hb11⟩
        have b11 := b10.trans (hb11.mono b10.size)
        clear hb11
        have J := newNote w11
        go_wp2_with ((with_reducible refine wpList_store_note rfl (.tmp 16) (.tmp 99) rfl w11.heap.size rfl x y t HTL.out rfl (ncells 0 0 (List.replicate 32 0)) J rfl ?_); intro w12 o12 H12)
        have hb12 : Below w11.heap.size w11 w12 := o12.below ((Below.refl _ _).alloc (Nat.le_refl _) _) (Nat.le_refl _)
        have b12 := b11.trans (hb12.mono b11.size)
        clear hb12
        clear J o12
        by_cases z4 : k4 = 0
        · have f : ((k4 : Int) == 0) = true := by rw [z4]; rfl
          have Z := Lib.hid z4
          have HX := Lib.hid (fun (u : World) (h : Below w12.drew.heap.size w12.drew u) => show u.rangeAt w11.heap.size 0 (ncells x y t) ∧ (convert 25 9 (.slice A n c)).run Try.prog u = .ok (.string (str b)) u from
            ⟨Has.range (Has.keep (w := w12.drew) H12 h H12.lt) 0 (ncells x y t) (by rw [List.drop_zero, List.take_length]), run_str (P := Try.prog) Try.underlying25 Try.underlying5 Try.underlying9 (show Bytes u A n c b from HB0.out.keep (b12.drew.trans (h.mono b12.size)))⟩)
          have HC0 := Lib.hid (HX.out _ (Below.refl _ _))
          have hu := Try.underlying67
          have hi : (Try.prog.info? 67).map (·.size) = some (ncells x y t).length := by rw [ncells_len _ _ _ HTL.out]; exact size_note
          refine wp_region_held_drew (S := fun w' => w'.rangeAt w11.heap.size 0 (ncells x y t) ∧ (convert 25 9 (.slice A n c)).run Try.prog w' = .ok (.string (str b)) w') (by kernel_rfl) HC0.out (fun hHeld => ?_)
          refine wpAnyH_take (i := 0) (v := ?vq1) rfl (by kernel_rfl) (by kernel_rfl) (by kernel_rfl) (fun _ _ _ h => h) (Or.inl ⟨by rfl, ?yq1⟩) (by assumption) ?rq1
          case yq1 => (intro u hSu; (try dsimp only at hSu); go_simp; try with_reducible rfl)
          try simp only [List.getElem_toArray, List.getElem_cons_succ, List.getElem_cons_zero, Act.put, List.setIfInBounds_toArray, List.set_cons_zero, List.set_cons_succ]
          refine wpAnyH_ready (rs := [1]) (by kernel_rfl) (by simp) ?_
          refine AllReadyH.cons rfl (fun K hK => ?_) AllReadyH.nil
          go_simp
          go_at_call 14
          first | with_reducible refine (M4.out _).mono ?_ | with_reducible refine (M0.out _).mono ?_
          rintro e w' ⟨rfl, rfl⟩
          go_simp
          refine hK.out _ _ HC0.out (fun hHeld => ?_)
          clear hK K
          try simp only [List.getElem_toArray, List.getElem_cons_succ, List.getElem_cons_zero, Act.put, List.setIfInBounds_toArray, List.set_cons_zero, List.set_cons_succ]
          refine wpAnyH_take (i := 2) (v := ?vq2) rfl (by kernel_rfl) (by kernel_rfl) (by kernel_rfl) (fun _ _ _ h => h) (Or.inl ⟨by rfl, ?yq2⟩) (by assumption) ?rq2
          case yq2 => (intro u hSu; (try dsimp only at hSu); go_simp; try with_reducible rfl)
          try simp only [List.getElem_toArray, List.getElem_cons_succ, List.getElem_cons_zero, Act.put, List.setIfInBounds_toArray, List.set_cons_zero, List.set_cons_succ]
          refine wpAnyH_take (i := 3) (v := ?vq3) rfl (by kernel_rfl) (by kernel_rfl) (by kernel_rfl) (fun _ _ _ h => h) (Or.inl ⟨by rfl, ?yq3⟩) (by assumption) ?rq3
          case yq3 => (intro u hSu; (try dsimp only at hSu); go_simp; try with_reducible rfl)
          try simp only [List.getElem_toArray, List.getElem_cons_succ, List.getElem_cons_zero, Act.put, List.setIfInBounds_toArray, List.set_cons_zero, List.set_cons_succ]
          refine' wpAnyH_take (i := 4) (v := _) rfl (by kernel_rfl) (by kernel_rfl) (by kernel_rfl) (fun _ _ _ h => h) (yieldsIf_load_mid (by rfl) _ _ rfl _ _ rfl _ _ (fun _ h => h.1) hu rfl hi) (by assumption) ?rq4
          try simp only [List.getElem_toArray, List.getElem_cons_succ, List.getElem_cons_zero, Act.put, List.setIfInBounds_toArray, List.set_cons_zero, List.set_cons_succ]
          refine wpAnyH_take (i := 7) (v := ?vq5) rfl (by kernel_rfl) (by kernel_rfl) (by kernel_rfl) (fun _ _ _ h => h) (Or.inl ⟨by rfl, ?yq5⟩) (by assumption) ?rq5
          case yq5 => (intro u hSu; (try dsimp only at hSu); go_simp; try with_reducible rfl)
          try simp only [List.getElem_toArray, List.getElem_cons_succ, List.getElem_cons_zero, Act.put, List.setIfInBounds_toArray, List.set_cons_zero, List.set_cons_succ]
          refine wpAnyH_take (i := 8) (v := ?vq6) rfl (by kernel_rfl) (by kernel_rfl) (by kernel_rfl) (fun _ _ _ h => h) (Or.inl ⟨by rfl, ?yq6⟩) (by assumption) ?rq6
          case yq6 => (intro u hSu; (try dsimp only at hSu); go_simp; try with_reducible rfl)
          try simp only [List.getElem_toArray, List.getElem_cons_succ, List.getElem_cons_zero, Act.put, List.setIfInBounds_toArray, List.set_cons_zero, List.set_cons_succ]
          refine wpAnyH_ready (rs := [5]) (by kernel_rfl) (by simp) ?_
          refine AllReadyH.cons rfl (fun K hK => ?_) AllReadyH.nil
          go_simp
          go_at_call 31
          refine (KW4.out Z.out _).mono ?_
          rintro e w7 ⟨v7, rfl, ⟨B7, d7, rfl, hr7⟩, hb7⟩
          have s7 := run_str (P := Try.prog) Try.underlying25 Try.underlying5 Try.underlying9 (show Bytes w7 B7 48 d7 b from hr7)
          go_simp
          refine hK.out _ _ (HX.out _ hb7) (fun hHeld => ?_)
          clear hK K
          try simp only [List.getElem_toArray, List.getElem_cons_succ, List.getElem_cons_zero, Act.put, List.setIfInBounds_toArray, List.set_cons_zero, List.set_cons_succ]
          refine wpAnyH_ready (rs := [6]) (by kernel_rfl) (by simp) ?_
          refine AllReadyH.cons rfl (fun K hK => ?_) AllReadyH.nil
          go_simp
          refine hK.out _ _ (HX.out _ hb7) (fun hHeld => ?_)
          clear hK K
          try simp only [List.getElem_toArray, List.getElem_cons_succ, List.getElem_cons_zero, Act.put, List.setIfInBounds_toArray, List.set_cons_zero, List.set_cons_succ]
          refine wpAnyH_take (i := 9) (v := ?vq7) rfl (by kernel_rfl) (by kernel_rfl) (by kernel_rfl) (fun _ _ _ h => h) (Or.inl ⟨by rfl, ?yq7⟩) (by assumption) ?rq7
          case yq7 => (intro u hSu; (try dsimp only at hSu); go_simp; try with_reducible rfl)
          try simp only [List.getElem_toArray, List.getElem_cons_succ, List.getElem_cons_zero, Act.put, List.setIfInBounds_toArray, List.set_cons_zero, List.set_cons_succ]
          refine wpAnyH_take (i := 10) (v := ?vq8) rfl (by kernel_rfl) (by kernel_rfl) (by kernel_rfl) (fun _ _ _ h => h) (Or.inl ⟨by rfl, ?yq8⟩) (by assumption) ?rq8
          case yq8 => (intro u hSu; (try dsimp only at hSu); go_simp; try with_reducible rfl)
          try simp only [List.getElem_toArray, List.getElem_cons_succ, List.getElem_cons_zero, Act.put, List.setIfInBounds_toArray, List.set_cons_zero, List.set_cons_succ]
          refine wpAnyH_take (i := 11) (v := ?vq9) rfl (by kernel_rfl) (by kernel_rfl) (by kernel_rfl) (fun _ _ _ h => h) (Or.inl ⟨by rfl, ?yq9⟩) (by assumption) ?rq9
          case yq9 => (intro u hSu; (try dsimp only at hSu); go_simp; try with_reducible rfl)
          try simp only [List.getElem_toArray, List.getElem_cons_succ, List.getElem_cons_zero, Act.put, List.setIfInBounds_toArray, List.set_cons_zero, List.set_cons_succ]
          refine wpAnyH_done (by kernel_rfl) ?_ _
          go_wp2_with fail
          go_ret
          exact ⟨rfl, b12.drew.trans (hb7.mono b12.drew.size)⟩
        · have f : ((k4 : Int) == 0) = false := by simp; exact z4
          go_quiet (first
            | (go_at_call 14; with_reducible refine Calls.quiet_of_same ((M4.out _).mono fun _ _ h => ⟨h.1, h.2.symm⟩)))
          go_wp2_with fail
          go_ret
          exact ⟨rfl, below_drewN b12 _⟩
      · have f : ((k3 : Int) == 0) = false := by simp; exact z3
        clear z3
        refine (M3.out _).mono ?_
        rintro e w' ⟨rfl, rfl⟩
        clear H9
        go_wp2_with fail
        clear f
        refine (KN1.out _ (HB0.out.keep b9)).mono ?_
        rintro e w10 ⟨rfl, hb10⟩
        have b10 := b9.trans (hb10.mono b9.size)
        clear hb10
        have J := newNote w10
        go_wp2_with ((with_reducible refine wpList_store_note rfl (.tmp 16) (.tmp 99) rfl w10.heap.size rfl x y t HTL.out rfl (ncells 0 0 (List.replicate 32 0)) J rfl ?_); intro w11 o11 H11)
        have hb11 : Below w10.heap.size w10 w11 := o11.below ((Below.refl _ _).alloc (Nat.le_refl _) _) (Nat.le_refl _)
        have b11 := b10.trans (hb11.mono b10.size)
        clear hb11
        clear J o11
        by_cases z4 : k4 = 0
        · have f : ((k4 : Int) == 0) = true := by rw [z4]; rfl
          have Z := Lib.hid z4
          have HX := Lib.hid (fun (u : World) (h : Below w11.drew.heap.size w11.drew u) => show u.rangeAt w10.heap.size 0 (ncells x y t) ∧ (convert 25 9 (.slice A n c)).run Try.prog u = .ok (.string (str b)) u from
            ⟨Has.range (Has.keep (w := w11.drew) H11 h H11.lt) 0 (ncells x y t) (by rw [List.drop_zero, List.take_length]), run_str (P := Try.prog) Try.underlying25 Try.underlying5 Try.underlying9 (show Bytes u A n c b from HB0.out.keep (b11.drew.trans (h.mono b11.size)))⟩)
          have HC0 := Lib.hid (HX.out _ (Below.refl _ _))
          have hu := Try.underlying67
          have hi : (Try.prog.info? 67).map (·.size) = some (ncells x y t).length := by rw [ncells_len _ _ _ HTL.out]; exact size_note
          refine wp_region_held_drew (S := fun w' => w'.rangeAt w10.heap.size 0 (ncells x y t) ∧ (convert 25 9 (.slice A n c)).run Try.prog w' = .ok (.string (str b)) w') (by kernel_rfl) HC0.out (fun hHeld => ?_)
          refine wpAnyH_take (i := 0) (v := ?vq10) rfl (by kernel_rfl) (by kernel_rfl) (by kernel_rfl) (fun _ _ _ h => h) (Or.inl ⟨by rfl, ?yq10⟩) (by assumption) ?rq10
          case yq10 => (intro u hSu; (try dsimp only at hSu); go_simp; try with_reducible rfl)
          try simp only [List.getElem_toArray, List.getElem_cons_succ, List.getElem_cons_zero, Act.put, List.setIfInBounds_toArray, List.set_cons_zero, List.set_cons_succ]
          refine wpAnyH_ready (rs := [1]) (by kernel_rfl) (by simp) ?_
          refine AllReadyH.cons rfl (fun K hK => ?_) AllReadyH.nil
          go_simp
          go_at_call 14
          first | with_reducible refine (M4.out _).mono ?_ | with_reducible refine (M0.out _).mono ?_
          rintro e w' ⟨rfl, rfl⟩
          go_simp
          refine hK.out _ _ HC0.out (fun hHeld => ?_)
          clear hK K
          try simp only [List.getElem_toArray, List.getElem_cons_succ, List.getElem_cons_zero, Act.put, List.setIfInBounds_toArray, List.set_cons_zero, List.set_cons_succ]
          refine wpAnyH_take (i := 2) (v := ?vq11) rfl (by kernel_rfl) (by kernel_rfl) (by kernel_rfl) (fun _ _ _ h => h) (Or.inl ⟨by rfl, ?yq11⟩) (by assumption) ?rq11
          case yq11 => (intro u hSu; (try dsimp only at hSu); go_simp; try with_reducible rfl)
          try simp only [List.getElem_toArray, List.getElem_cons_succ, List.getElem_cons_zero, Act.put, List.setIfInBounds_toArray, List.set_cons_zero, List.set_cons_succ]
          refine wpAnyH_take (i := 3) (v := ?vq12) rfl (by kernel_rfl) (by kernel_rfl) (by kernel_rfl) (fun _ _ _ h => h) (Or.inl ⟨by rfl, ?yq12⟩) (by assumption) ?rq12
          case yq12 => (intro u hSu; (try dsimp only at hSu); go_simp; try with_reducible rfl)
          try simp only [List.getElem_toArray, List.getElem_cons_succ, List.getElem_cons_zero, Act.put, List.setIfInBounds_toArray, List.set_cons_zero, List.set_cons_succ]
          refine' wpAnyH_take (i := 4) (v := _) rfl (by kernel_rfl) (by kernel_rfl) (by kernel_rfl) (fun _ _ _ h => h) (yieldsIf_load_mid (by rfl) _ _ rfl _ _ rfl _ _ (fun _ h => h.1) hu rfl hi) (by assumption) ?rq13
          try simp only [List.getElem_toArray, List.getElem_cons_succ, List.getElem_cons_zero, Act.put, List.setIfInBounds_toArray, List.set_cons_zero, List.set_cons_succ]
          refine wpAnyH_take (i := 7) (v := ?vq14) rfl (by kernel_rfl) (by kernel_rfl) (by kernel_rfl) (fun _ _ _ h => h) (Or.inl ⟨by rfl, ?yq14⟩) (by assumption) ?rq14
          case yq14 => (intro u hSu; (try dsimp only at hSu); go_simp; try with_reducible rfl)
          try simp only [List.getElem_toArray, List.getElem_cons_succ, List.getElem_cons_zero, Act.put, List.setIfInBounds_toArray, List.set_cons_zero, List.set_cons_succ]
          refine wpAnyH_take (i := 8) (v := ?vq15) rfl (by kernel_rfl) (by kernel_rfl) (by kernel_rfl) (fun _ _ _ h => h) (Or.inl ⟨by rfl, ?yq15⟩) (by assumption) ?rq15
          case yq15 => (intro u hSu; (try dsimp only at hSu); go_simp; try with_reducible rfl)
          try simp only [List.getElem_toArray, List.getElem_cons_succ, List.getElem_cons_zero, Act.put, List.setIfInBounds_toArray, List.set_cons_zero, List.set_cons_succ]
          refine wpAnyH_ready (rs := [5]) (by kernel_rfl) (by simp) ?_
          refine AllReadyH.cons rfl (fun K hK => ?_) AllReadyH.nil
          go_simp
          go_at_call 31
          refine (KW4.out Z.out _).mono ?_
          rintro e w7 ⟨v7, rfl, ⟨B7, d7, rfl, hr7⟩, hb7⟩
          have s7 := run_str (P := Try.prog) Try.underlying25 Try.underlying5 Try.underlying9 (show Bytes w7 B7 48 d7 b from hr7)
          go_simp
          refine hK.out _ _ (HX.out _ hb7) (fun hHeld => ?_)
          clear hK K
          try simp only [List.getElem_toArray, List.getElem_cons_succ, List.getElem_cons_zero, Act.put, List.setIfInBounds_toArray, List.set_cons_zero, List.set_cons_succ]
          refine wpAnyH_ready (rs := [6]) (by kernel_rfl) (by simp) ?_
          refine AllReadyH.cons rfl (fun K hK => ?_) AllReadyH.nil
          go_simp
          refine hK.out _ _ (HX.out _ hb7) (fun hHeld => ?_)
          clear hK K
          try simp only [List.getElem_toArray, List.getElem_cons_succ, List.getElem_cons_zero, Act.put, List.setIfInBounds_toArray, List.set_cons_zero, List.set_cons_succ]
          refine wpAnyH_take (i := 9) (v := ?vq16) rfl (by kernel_rfl) (by kernel_rfl) (by kernel_rfl) (fun _ _ _ h => h) (Or.inl ⟨by rfl, ?yq16⟩) (by assumption) ?rq16
          case yq16 => (intro u hSu; (try dsimp only at hSu); go_simp; try with_reducible rfl)
          try simp only [List.getElem_toArray, List.getElem_cons_succ, List.getElem_cons_zero, Act.put, List.setIfInBounds_toArray, List.set_cons_zero, List.set_cons_succ]
          refine wpAnyH_take (i := 10) (v := ?vq17) rfl (by kernel_rfl) (by kernel_rfl) (by kernel_rfl) (fun _ _ _ h => h) (Or.inl ⟨by rfl, ?yq17⟩) (by assumption) ?rq17
          case yq17 => (intro u hSu; (try dsimp only at hSu); go_simp; try with_reducible rfl)
          try simp only [List.getElem_toArray, List.getElem_cons_succ, List.getElem_cons_zero, Act.put, List.setIfInBounds_toArray, List.set_cons_zero, List.set_cons_succ]
          refine wpAnyH_take (i := 11) (v := ?vq18) rfl (by kernel_rfl) (by kernel_rfl) (by kernel_rfl) (fun _ _ _ h => h) (Or.inl ⟨by rfl, ?yq18⟩) (by assumption) ?rq18
          case yq18 => (intro u hSu; (try dsimp only at hSu); go_simp; try with_reducible rfl)
          try simp only [List.getElem_toArray, List.getElem_cons_succ, List.getElem_cons_zero, Act.put, List.setIfInBounds_toArray, List.set_cons_zero, List.set_cons_succ]
          refine wpAnyH_done (by kernel_rfl) ?_ _
          go_wp2_with fail
          go_ret
          exact ⟨rfl, b11.drew.trans (hb7.mono b11.drew.size)⟩
        · have f : ((k4 : Int) == 0) = false := by simp; exact z4
          go_quiet (first
            | (go_at_call 14; with_reducible refine Calls.quiet_of_same ((M4.out _).mono fun _ _ h => ⟨h.1, h.2.symm⟩)))
          go_wp2_with fail
          go_ret
          exact ⟨rfl, below_drewN b11 _⟩
    · have f : ((k2 : Int) == 0) = false := by simp; exact z2
      clear z2
      refine (M2.out _).mono ?_
      rintro e w' ⟨rfl, rfl⟩
      clear H6
      go_wp2_with fail
      clear f
      refine (KT1.out _ (HB0.out.keep b6)).mono ?_
      rintro e w7 ⟨Ai, ni, ci, Al, nl, cl, es3, rfl, hI, hL, hd, hok, hb7⟩
      have b7 := b6.trans (hb7.mono b6.size)
      clear hb7
      have HD3 := Lib.hid (And.intro hd hok)
      have J := newBatch w7
      go_wp2_with ((with_reducible refine wpList_store_bat rfl (.tmp 12) (.tmp 76) rfl w7.heap.size rfl T.r T.ch Ai ni ci Al nl cl rfl (bcells 0 0 none 0 0 none 0 0) J rfl ?_); intro w8 o8 H8)
      have hb8 : Below w7.heap.size w7 w8 := o8.below ((Below.refl _ _).alloc (Nat.le_refl _) _) (Nat.le_refl _)
      have HI3 := Lib.hid (hI.keep hb8)
      have HL3 := Lib.hid (hL.keep hb8)
      have b8 := b7.trans (hb8.mono b7.size)
      clear hb8
      clear hI hL hd hok J o8
      by_cases z3 : k3 = 0
      · have f : ((k3 : Int) == 0) = true := by rw [z3]; rfl
        have Z := Lib.hid z3
        clear z3
        refine (M3.out _).mono ?_
        rintro e w' ⟨rfl, rfl⟩
        go_wp2_with ((with_reducible refine wpList_load_bat rfl (.tmp 12) rfl w7.heap.size rfl T.r T.ch Ai ni ci Al nl cl H8 ?_))
        refine (KW3.out Z.out HD3.out.2 es3 HD3.out.1 Ai ni ci Al nl cl _ HI3.out HL3.out).mono ?_
        rintro e w9 ⟨v, rfl, ⟨B, d, rfl, hr9⟩, hb9⟩
        have b9 := b8.trans (hb9.mono b8.size)
        clear hb9
        clear H8
        clear f Z
        have s3 := run_str (P := Try.prog) Try.underlying25 Try.underlying5 Try.underlying9 hr9
        have s4 := run_str (P := Try.prog) Try.underlying25 Try.underlying5 Try.underlying9 (HB0.out.keep b9)
        clear hr9
        go_wp2_with fail
        refine (M0.out _).mono ?_
        rintro e w' ⟨rfl, rfl⟩
        go_wp2_with fail
        clear s3 s4
        refine (KN1.out _ (HB0.out.keep b9)).mono ?_
        rintro e w10 ⟨rfl, hb10⟩
        have b10 := b9.trans (hb10.mono b9.size)
        clear hb10
        have J := newNote w10
        go_wp2_with ((with_reducible refine wpList_store_note rfl (.tmp 16) (.tmp 99) rfl w10.heap.size rfl x y t HTL.out rfl (ncells 0 0 (List.replicate 32 0)) J rfl ?_); intro w11 o11 H11)
        have hb11 : Below w10.heap.size w10 w11 := o11.below ((Below.refl _ _).alloc (Nat.le_refl _) _) (Nat.le_refl _)
        have b11 := b10.trans (hb11.mono b10.size)
        clear hb11
        clear J o11
        by_cases z4 : k4 = 0
        · have f : ((k4 : Int) == 0) = true := by rw [z4]; rfl
          have Z := Lib.hid z4
          have HX := Lib.hid (fun (u : World) (h : Below w11.drew.heap.size w11.drew u) => show u.rangeAt w10.heap.size 0 (ncells x y t) ∧ (convert 25 9 (.slice A n c)).run Try.prog u = .ok (.string (str b)) u from
            ⟨Has.range (Has.keep (w := w11.drew) H11 h H11.lt) 0 (ncells x y t) (by rw [List.drop_zero, List.take_length]), run_str (P := Try.prog) Try.underlying25 Try.underlying5 Try.underlying9 (show Bytes u A n c b from HB0.out.keep (b11.drew.trans (h.mono b11.size)))⟩)
          have HC0 := Lib.hid (HX.out _ (Below.refl _ _))
          have hu := Try.underlying67
          have hi : (Try.prog.info? 67).map (·.size) = some (ncells x y t).length := by rw [ncells_len _ _ _ HTL.out]; exact size_note
          refine wp_region_held_drew (S := fun w' => w'.rangeAt w10.heap.size 0 (ncells x y t) ∧ (convert 25 9 (.slice A n c)).run Try.prog w' = .ok (.string (str b)) w') (by kernel_rfl) HC0.out (fun hHeld => ?_)
          refine wpAnyH_take (i := 0) (v := ?vq19) rfl (by kernel_rfl) (by kernel_rfl) (by kernel_rfl) (fun _ _ _ h => h) (Or.inl ⟨by rfl, ?yq19⟩) (by assumption) ?rq19
          case yq19 => (intro u hSu; (try dsimp only at hSu); go_simp; try with_reducible rfl)
          try simp only [List.getElem_toArray, List.getElem_cons_succ, List.getElem_cons_zero, Act.put, List.setIfInBounds_toArray, List.set_cons_zero, List.set_cons_succ]
          refine wpAnyH_ready (rs := [1]) (by kernel_rfl) (by simp) ?_
          refine AllReadyH.cons rfl (fun K hK => ?_) AllReadyH.nil
          go_simp
          go_at_call 14
          first | with_reducible refine (M4.out _).mono ?_ | with_reducible refine (M0.out _).mono ?_
          rintro e w' ⟨rfl, rfl⟩
          go_simp
          refine hK.out _ _ HC0.out (fun hHeld => ?_)
          clear hK K
          try simp only [List.getElem_toArray, List.getElem_cons_succ, List.getElem_cons_zero, Act.put, List.setIfInBounds_toArray, List.set_cons_zero, List.set_cons_succ]
          refine wpAnyH_take (i := 2) (v := ?vq20) rfl (by kernel_rfl) (by kernel_rfl) (by kernel_rfl) (fun _ _ _ h => h) (Or.inl ⟨by rfl, ?yq20⟩) (by assumption) ?rq20
          case yq20 => (intro u hSu; (try dsimp only at hSu); go_simp; try with_reducible rfl)
          try simp only [List.getElem_toArray, List.getElem_cons_succ, List.getElem_cons_zero, Act.put, List.setIfInBounds_toArray, List.set_cons_zero, List.set_cons_succ]
          refine wpAnyH_take (i := 3) (v := ?vq21) rfl (by kernel_rfl) (by kernel_rfl) (by kernel_rfl) (fun _ _ _ h => h) (Or.inl ⟨by rfl, ?yq21⟩) (by assumption) ?rq21
          case yq21 => (intro u hSu; (try dsimp only at hSu); go_simp; try with_reducible rfl)
          try simp only [List.getElem_toArray, List.getElem_cons_succ, List.getElem_cons_zero, Act.put, List.setIfInBounds_toArray, List.set_cons_zero, List.set_cons_succ]
          refine' wpAnyH_take (i := 4) (v := _) rfl (by kernel_rfl) (by kernel_rfl) (by kernel_rfl) (fun _ _ _ h => h) (yieldsIf_load_mid (by rfl) _ _ rfl _ _ rfl _ _ (fun _ h => h.1) hu rfl hi) (by assumption) ?rq22
          try simp only [List.getElem_toArray, List.getElem_cons_succ, List.getElem_cons_zero, Act.put, List.setIfInBounds_toArray, List.set_cons_zero, List.set_cons_succ]
          refine wpAnyH_take (i := 7) (v := ?vq23) rfl (by kernel_rfl) (by kernel_rfl) (by kernel_rfl) (fun _ _ _ h => h) (Or.inl ⟨by rfl, ?yq23⟩) (by assumption) ?rq23
          case yq23 => (intro u hSu; (try dsimp only at hSu); go_simp; try with_reducible rfl)
          try simp only [List.getElem_toArray, List.getElem_cons_succ, List.getElem_cons_zero, Act.put, List.setIfInBounds_toArray, List.set_cons_zero, List.set_cons_succ]
          refine wpAnyH_take (i := 8) (v := ?vq24) rfl (by kernel_rfl) (by kernel_rfl) (by kernel_rfl) (fun _ _ _ h => h) (Or.inl ⟨by rfl, ?yq24⟩) (by assumption) ?rq24
          case yq24 => (intro u hSu; (try dsimp only at hSu); go_simp; try with_reducible rfl)
          try simp only [List.getElem_toArray, List.getElem_cons_succ, List.getElem_cons_zero, Act.put, List.setIfInBounds_toArray, List.set_cons_zero, List.set_cons_succ]
          refine wpAnyH_ready (rs := [5]) (by kernel_rfl) (by simp) ?_
          refine AllReadyH.cons rfl (fun K hK => ?_) AllReadyH.nil
          go_simp
          go_at_call 31
          refine (KW4.out Z.out _).mono ?_
          rintro e w7 ⟨v7, rfl, ⟨B7, d7, rfl, hr7⟩, hb7⟩
          have s7 := run_str (P := Try.prog) Try.underlying25 Try.underlying5 Try.underlying9 (show Bytes w7 B7 48 d7 b from hr7)
          go_simp
          refine hK.out _ _ (HX.out _ hb7) (fun hHeld => ?_)
          clear hK K
          try simp only [List.getElem_toArray, List.getElem_cons_succ, List.getElem_cons_zero, Act.put, List.setIfInBounds_toArray, List.set_cons_zero, List.set_cons_succ]
          refine wpAnyH_ready (rs := [6]) (by kernel_rfl) (by simp) ?_
          refine AllReadyH.cons rfl (fun K hK => ?_) AllReadyH.nil
          go_simp
          refine hK.out _ _ (HX.out _ hb7) (fun hHeld => ?_)
          clear hK K
          try simp only [List.getElem_toArray, List.getElem_cons_succ, List.getElem_cons_zero, Act.put, List.setIfInBounds_toArray, List.set_cons_zero, List.set_cons_succ]
          refine wpAnyH_take (i := 9) (v := ?vq25) rfl (by kernel_rfl) (by kernel_rfl) (by kernel_rfl) (fun _ _ _ h => h) (Or.inl ⟨by rfl, ?yq25⟩) (by assumption) ?rq25
          case yq25 => (intro u hSu; (try dsimp only at hSu); go_simp; try with_reducible rfl)
          try simp only [List.getElem_toArray, List.getElem_cons_succ, List.getElem_cons_zero, Act.put, List.setIfInBounds_toArray, List.set_cons_zero, List.set_cons_succ]
          refine wpAnyH_take (i := 10) (v := ?vq26) rfl (by kernel_rfl) (by kernel_rfl) (by kernel_rfl) (fun _ _ _ h => h) (Or.inl ⟨by rfl, ?yq26⟩) (by assumption) ?rq26
          case yq26 => (intro u hSu; (try dsimp only at hSu); go_simp; try with_reducible rfl)
          try simp only [List.getElem_toArray, List.getElem_cons_succ, List.getElem_cons_zero, Act.put, List.setIfInBounds_toArray, List.set_cons_zero, List.set_cons_succ]
          refine wpAnyH_take (i := 11) (v := ?vq27) rfl (by kernel_rfl) (by kernel_rfl) (by kernel_rfl) (fun _ _ _ h => h) (Or.inl ⟨by rfl, ?yq27⟩) (by assumption) ?rq27
          case yq27 => (intro u hSu; (try dsimp only at hSu); go_simp; try with_reducible rfl)
          try simp only [List.getElem_toArray, List.getElem_cons_succ, List.getElem_cons_zero, Act.put, List.setIfInBounds_toArray, List.set_cons_zero, List.set_cons_succ]
          refine wpAnyH_done (by kernel_rfl) ?_ _
          go_wp2_with fail
          go_ret
          exact ⟨rfl, b11.drew.trans (hb7.mono b11.drew.size)⟩
        · have f : ((k4 : Int) == 0) = false := by simp; exact z4
          go_quiet (first
            | (go_at_call 14; with_reducible refine Calls.quiet_of_same ((M4.out _).mono fun _ _ h => ⟨h.1, h.2.symm⟩)))
          go_wp2_with fail
          go_ret
          exact ⟨rfl, below_drewN b11 _⟩
      · have f : ((k3 : Int) == 0) = false := by simp; exact z3
        clear z3
        refine (M3.out _).mono ?_
        rintro e w' ⟨rfl, rfl⟩
        clear H8
        go_wp2_with fail
        clear f
        refine (KN1.out _ (HB0.out.keep b8)).mono ?_
        rintro e w9 ⟨rfl, hb9⟩
        have b9 := b8.trans (hb9.mono b8.size)
        clear hb9
        have J := newNote w9
        go_wp2_with ((with_reducible refine wpList_store_note rfl (.tmp 16) (.tmp 99) rfl w9.heap.size rfl x y t HTL.out rfl (ncells 0 0 (List.replicate 32 0)) J rfl ?_); intro w10 o10 H10)
        have hb10 : Below w9.heap.size w9 w10 := o10.below ((Below.refl _ _).alloc (Nat.le_refl _) _) (Nat.le_refl _)
        have b10 := b9.trans (hb10.mono b9.size)
        clear hb10
        clear J o10
        by_cases z4 : k4 = 0
        · have f : ((k4 : Int) == 0) = true := by rw [z4]; rfl
          have Z := Lib.hid z4
          have HX := Lib.hid (fun (u : World) (h : Below w10.drew.heap.size w10.drew u) => show u.rangeAt w9.heap.size 0 (ncells x y t) ∧ (convert 25 9 (.slice A n c)).run Try.prog u = .ok (.string (str b)) u from
            ⟨Has.range (Has.keep (w := w10.drew) H10 h H10.lt) 0 (ncells x y t) (by rw [List.drop_zero, List.take_length]), run_str (P := Try.prog) Try.underlying25 Try.underlying5 Try.underlying9 (show Bytes u A n c b from HB0.out.keep (b10.drew.trans (h.mono b10.size)))⟩)
          have HC0 := Lib.hid (HX.out _ (Below.refl _ _))
          have hu := Try.underlying67
          have hi : (Try.prog.info? 67).map (·.size) = some (ncells x y t).length := by rw [ncells_len _ _ _ HTL.out]; exact size_note
          refine wp_region_held_drew (S := fun w' => w'.rangeAt w9.heap.size 0 (ncells x y t) ∧ (convert 25 9 (.slice A n c)).run Try.prog w' = .ok (.string (str b)) w') (by kernel_rfl) HC0.out (fun hHeld => ?_)
          refine wpAnyH_take (i := 0) (v := ?vq28) rfl (by kernel_rfl) (by kernel_rfl) (by kernel_rfl) (fun _ _ _ h => h) (Or.inl ⟨by rfl, ?yq28⟩) (by assumption) ?rq28
          case yq28 => (intro u hSu; (try dsimp only at hSu); go_simp; try with_reducible rfl)
          try simp only [List.getElem_toArray, List.getElem_cons_succ, List.getElem_cons_zero, Act.put, List.setIfInBounds_toArray, List.set_cons_zero, List.set_cons_succ]
          refine wpAnyH_ready (rs := [1]) (by kernel_rfl) (by simp) ?_
          refine AllReadyH.cons rfl (fun K hK => ?_) AllReadyH.nil
          go_simp
          go_at_call 14
          first | with_reducible refine (M4.out _).mono ?_ | with_reducible refine (M0.out _).mono ?_
          rintro e w' ⟨rfl, rfl⟩
          go_simp
          refine hK.out _ _ HC0.out (fun hHeld => ?_)
          clear hK K
          try simp only [List.getElem_toArray, List.getElem_cons_succ, List.getElem_cons_zero, Act.put, List.setIfInBounds_toArray, List.set_cons_zero, List.set_cons_succ]
          refine wpAnyH_take (i := 2) (v := ?vq29) rfl (by kernel_rfl) (by kernel_rfl) (by kernel_rfl) (fun _ _ _ h => h) (Or.inl ⟨by rfl, ?yq29⟩) (by assumption) ?rq29
          case yq29 => (intro u hSu; (try dsimp only at hSu); go_simp; try with_reducible rfl)
          try simp only [List.getElem_toArray, List.getElem_cons_succ, List.getElem_cons_zero, Act.put, List.setIfInBounds_toArray, List.set_cons_zero, List.set_cons_succ]
          refine wpAnyH_take (i := 3) (v := ?vq30) rfl (by kernel_rfl) (by kernel_rfl) (by kernel_rfl) (fun _ _ _ h => h) (Or.inl ⟨by rfl, ?yq30⟩) (by assumption) ?rq30
          case yq30 => (intro u hSu; (try dsimp only at hSu); go_simp; try with_reducible rfl)
          try simp only [List.getElem_toArray, List.getElem_cons_succ, List.getElem_cons_zero, Act.put, List.setIfInBounds_toArray, List.set_cons_zero, List.set_cons_succ]
          refine' wpAnyH_take (i := 4) (v := _) rfl (by kernel_rfl) (by kernel_rfl) (by kernel_rfl) (fun _ _ _ h => h) (yieldsIf_load_mid (by rfl) _ _ rfl _ _ rfl _ _ (fun _ h => h.1) hu rfl hi) (by assumption) ?rq31
          try simp only [List.getElem_toArray, List.getElem_cons_succ, List.getElem_cons_zero, Act.put, List.setIfInBounds_toArray, List.set_cons_zero, List.set_cons_succ]
          refine wpAnyH_take (i := 7) (v := ?vq32) rfl (by kernel_rfl) (by kernel_rfl) (by kernel_rfl) (fun _ _ _ h => h) (Or.inl ⟨by rfl, ?yq32⟩) (by assumption) ?rq32
          case yq32 => (intro u hSu; (try dsimp only at hSu); go_simp; try with_reducible rfl)
          try simp only [List.getElem_toArray, List.getElem_cons_succ, List.getElem_cons_zero, Act.put, List.setIfInBounds_toArray, List.set_cons_zero, List.set_cons_succ]
          refine wpAnyH_take (i := 8) (v := ?vq33) rfl (by kernel_rfl) (by kernel_rfl) (by kernel_rfl) (fun _ _ _ h => h) (Or.inl ⟨by rfl, ?yq33⟩) (by assumption) ?rq33
          case yq33 => (intro u hSu; (try dsimp only at hSu); go_simp; try with_reducible rfl)
          try simp only [List.getElem_toArray, List.getElem_cons_succ, List.getElem_cons_zero, Act.put, List.setIfInBounds_toArray, List.set_cons_zero, List.set_cons_succ]
          refine wpAnyH_ready (rs := [5]) (by kernel_rfl) (by simp) ?_
          refine AllReadyH.cons rfl (fun K hK => ?_) AllReadyH.nil
          go_simp
          go_at_call 31
          refine (KW4.out Z.out _).mono ?_
          rintro e w7 ⟨v7, rfl, ⟨B7, d7, rfl, hr7⟩, hb7⟩
          have s7 := run_str (P := Try.prog) Try.underlying25 Try.underlying5 Try.underlying9 (show Bytes w7 B7 48 d7 b from hr7)
          go_simp
          refine hK.out _ _ (HX.out _ hb7) (fun hHeld => ?_)
          clear hK K
          try simp only [List.getElem_toArray, List.getElem_cons_succ, List.getElem_cons_zero, Act.put, List.setIfInBounds_toArray, List.set_cons_zero, List.set_cons_succ]
          refine wpAnyH_ready (rs := [6]) (by kernel_rfl) (by simp) ?_
          refine AllReadyH.cons rfl (fun K hK => ?_) AllReadyH.nil
          go_simp
          refine hK.out _ _ (HX.out _ hb7) (fun hHeld => ?_)
          clear hK K
          try simp only [List.getElem_toArray, List.getElem_cons_succ, List.getElem_cons_zero, Act.put, List.setIfInBounds_toArray, List.set_cons_zero, List.set_cons_succ]
          refine wpAnyH_take (i := 9) (v := ?vq34) rfl (by kernel_rfl) (by kernel_rfl) (by kernel_rfl) (fun _ _ _ h => h) (Or.inl ⟨by rfl, ?yq34⟩) (by assumption) ?rq34
          case yq34 => (intro u hSu; (try dsimp only at hSu); go_simp; try with_reducible rfl)
          try simp only [List.getElem_toArray, List.getElem_cons_succ, List.getElem_cons_zero, Act.put, List.setIfInBounds_toArray, List.set_cons_zero, List.set_cons_succ]
          refine wpAnyH_take (i := 10) (v := ?vq35) rfl (by kernel_rfl) (by kernel_rfl) (by kernel_rfl) (fun _ _ _ h => h) (Or.inl ⟨by rfl, ?yq35⟩) (by assumption) ?rq35
          case yq35 => (intro u hSu; (try dsimp only at hSu); go_simp; try with_reducible rfl)
          try simp only [List.getElem_toArray, List.getElem_cons_succ, List.getElem_cons_zero, Act.put, List.setIfInBounds_toArray, List.set_cons_zero, List.set_cons_succ]
          refine wpAnyH_take (i := 11) (v := ?vq36) rfl (by kernel_rfl) (by kernel_rfl) (by kernel_rfl) (fun _ _ _ h => h) (Or.inl ⟨by rfl, ?yq36⟩) (by assumption) ?rq36
          case yq36 => (intro u hSu; (try dsimp only at hSu); go_simp; try with_reducible rfl)
          try simp only [List.getElem_toArray, List.getElem_cons_succ, List.getElem_cons_zero, Act.put, List.setIfInBounds_toArray, List.set_cons_zero, List.set_cons_succ]
          refine wpAnyH_done (by kernel_rfl) ?_ _
          go_wp2_with fail
          go_ret
          exact ⟨rfl, b10.drew.trans (hb7.mono b10.drew.size)⟩
        · have f : ((k4 : Int) == 0) = false := by simp; exact z4
          go_quiet (first
            | (go_at_call 14; with_reducible refine Calls.quiet_of_same ((M4.out _).mono fun _ _ h => ⟨h.1, h.2.symm⟩)))
          go_wp2_with fail
          go_ret
          exact ⟨rfl, below_drewN b10 _⟩
  · have f : ((k1 : Int) == 0) = false := by simp; exact z1
    clear z1
    refine (M1.out _).mono ?_
    rintro e w' ⟨rfl, rfl⟩
    go_wp2_with fail
    clear f
    refine (KS1.out _ (HB0.out.keep b3)).mono ?_
    rintro e w4 ⟨A2, m2, c2, rfl, hY, hD, hb4⟩
    have b4 := b3.trans (hb4.mono b3.size)
    clear hb4
    have HD2 := Lib.hid hD
    have HU := Lib.hid hD.1
    have J := newSub w4
    go_wp2_with ((with_reducible refine wpList_store_sub rfl (.tmp 8) (.tmp 53) rfl w4.heap.size rfl D.u D.x A2 m2 c2 D.pc D.ps D.sc D.ss HU.out rfl (scells (List.replicate 32 0) 0 none 0 0 0 0 0 0) J rfl ?_); intro w5 o5 H5)
    have hb5 : Below w4.heap.size w4 w5 := o5.below ((Below.refl _ _).alloc (Nat.le_refl _) _) (Nat.le_refl _)
    have HY2 := Lib.hid (hY.keep hb5)
    have b5 := b4.trans (hb5.mono b4.size)
    clear hb5
    clear hY hD J o5
    by_cases z2 : k2 = 0
    · have f : ((k2 : Int) == 0) = true := by rw [z2]; rfl
      have Z := Lib.hid z2
      clear z2
      refine (M2.out _).mono ?_
      rintro e w' ⟨rfl, rfl⟩
      go_wp2_with ((with_reducible refine wpList_load_sub rfl (.tmp 8) rfl w4.heap.size rfl D.u D.x A2 m2 c2 D.pc D.ps D.sc D.ss HU.out H5 ?_))
      refine (KW2.out Z.out HD2.out A2 m2 c2 _ HY2.out).mono ?_
      rintro e w6 ⟨v, rfl, ⟨B, d, rfl, hr6⟩, hb6⟩
      have b6 := b5.trans (hb6.mono b5.size)
      clear hb6
      clear H5
      clear f Z
      have s3 := run_str (P := Try.prog) Try.underlying25 Try.underlying5 Try.underlying9 hr6
      have s4 := run_str (P := Try.prog) Try.underlying25 Try.underlying5 Try.underlying9 (HB0.out.keep b6)
      clear hr6
      go_wp2_with fail
      refine (M0.out _).mono ?_
      rintro e w' ⟨rfl, rfl⟩
      go_wp2_with fail
      clear s3 s4
      refine (KT1.out _ (HB0.out.keep b6)).mono ?_
      rintro e w7 ⟨Ai, ni, ci, Al, nl, cl, es3, rfl, hI, hL, hd, hok, hb7⟩
      have b7 := b6.trans (hb7.mono b6.size)
      clear hb7
      have HD3 := Lib.hid (And.intro hd hok)
      have J := newBatch w7
      go_wp2_with ((with_reducible refine wpList_store_bat rfl (.tmp 12) (.tmp 76) rfl w7.heap.size rfl T.r T.ch Ai ni ci Al nl cl rfl (bcells 0 0 none 0 0 none 0 0) J rfl ?_); intro w8 o8 H8)
      have hb8 : Below w7.heap.size w7 w8 := o8.below ((Below.refl _ _).alloc (Nat.le_refl _) _) (Nat.le_refl _)
      have HI3 := Lib.hid (hI.keep hb8)
      have HL3 := Lib.hid (hL.keep hb8)
      have b8 := b7.trans (hb8.mono b7.size)
      clear hb8
      clear hI hL hd hok J o8
      by_cases z3 : k3 = 0
      · have f : ((k3 : Int) == 0) = true := by rw [z3]; rfl
        have Z := Lib.hid z3
        clear z3
        refine (M3.out _).mono ?_
        rintro e w' ⟨rfl, rfl⟩
        go_wp2_with ((with_reducible refine wpList_load_bat rfl (.tmp 12) rfl w7.heap.size rfl T.r T.ch Ai ni ci Al nl cl H8 ?_))
        refine (KW3.out Z.out HD3.out.2 es3 HD3.out.1 Ai ni ci Al nl cl _ HI3.out HL3.out).mono ?_
        rintro e w9 ⟨v, rfl, ⟨B, d, rfl, hr9⟩, hb9⟩
        have b9 := b8.trans (hb9.mono b8.size)
        clear hb9
        clear H8
        clear f Z
        have s3 := run_str (P := Try.prog) Try.underlying25 Try.underlying5 Try.underlying9 hr9
        have s4 := run_str (P := Try.prog) Try.underlying25 Try.underlying5 Try.underlying9 (HB0.out.keep b9)
        clear hr9
        go_wp2_with fail
        refine (M0.out _).mono ?_
        rintro e w' ⟨rfl, rfl⟩
        go_wp2_with fail
        clear s3 s4
        refine (KN1.out _ (HB0.out.keep b9)).mono ?_
        rintro e w10 ⟨rfl, hb10⟩
        have b10 := b9.trans (hb10.mono b9.size)
        clear hb10
        have J := newNote w10
        go_wp2_with ((with_reducible refine wpList_store_note rfl (.tmp 16) (.tmp 99) rfl w10.heap.size rfl x y t HTL.out rfl (ncells 0 0 (List.replicate 32 0)) J rfl ?_); intro w11 o11 H11)
        have hb11 : Below w10.heap.size w10 w11 := o11.below ((Below.refl _ _).alloc (Nat.le_refl _) _) (Nat.le_refl _)
        have b11 := b10.trans (hb11.mono b10.size)
        clear hb11
        clear J o11
        by_cases z4 : k4 = 0
        · have f : ((k4 : Int) == 0) = true := by rw [z4]; rfl
          have Z := Lib.hid z4
          have HX := Lib.hid (fun (u : World) (h : Below w11.drew.heap.size w11.drew u) => show u.rangeAt w10.heap.size 0 (ncells x y t) ∧ (convert 25 9 (.slice A n c)).run Try.prog u = .ok (.string (str b)) u from
            ⟨Has.range (Has.keep (w := w11.drew) H11 h H11.lt) 0 (ncells x y t) (by rw [List.drop_zero, List.take_length]), run_str (P := Try.prog) Try.underlying25 Try.underlying5 Try.underlying9 (show Bytes u A n c b from HB0.out.keep (b11.drew.trans (h.mono b11.size)))⟩)
          have HC0 := Lib.hid (HX.out _ (Below.refl _ _))
          have hu := Try.underlying67
          have hi : (Try.prog.info? 67).map (·.size) = some (ncells x y t).length := by rw [ncells_len _ _ _ HTL.out]; exact size_note
          refine wp_region_held_drew (S := fun w' => w'.rangeAt w10.heap.size 0 (ncells x y t) ∧ (convert 25 9 (.slice A n c)).run Try.prog w' = .ok (.string (str b)) w') (by kernel_rfl) HC0.out (fun hHeld => ?_)
          refine wpAnyH_take (i := 0) (v := ?vq37) rfl (by kernel_rfl) (by kernel_rfl) (by kernel_rfl) (fun _ _ _ h => h) (Or.inl ⟨by rfl, ?yq37⟩) (by assumption) ?rq37
          case yq37 => (intro u hSu; (try dsimp only at hSu); go_simp; try with_reducible rfl)
          try simp only [List.getElem_toArray, List.getElem_cons_succ, List.getElem_cons_zero, Act.put, List.setIfInBounds_toArray, List.set_cons_zero, List.set_cons_succ]
          refine wpAnyH_ready (rs := [1]) (by kernel_rfl) (by simp) ?_
          refine AllReadyH.cons rfl (fun K hK => ?_) AllReadyH.nil
          go_simp
          go_at_call 14
          first | with_reducible refine (M4.out _).mono ?_ | with_reducible refine (M0.out _).mono ?_
          rintro e w' ⟨rfl, rfl⟩
          go_simp
          refine hK.out _ _ HC0.out (fun hHeld => ?_)
          clear hK K
          try simp only [List.getElem_toArray, List.getElem_cons_succ, List.getElem_cons_zero, Act.put, List.setIfInBounds_toArray, List.set_cons_zero, List.set_cons_succ]
          refine wpAnyH_take (i := 2) (v := ?vq38) rfl (by kernel_rfl) (by kernel_rfl) (by kernel_rfl) (fun _ _ _ h => h) (Or.inl ⟨by rfl, ?yq38⟩) (by assumption) ?rq38
          case yq38 => (intro u hSu; (try dsimp only at hSu); go_simp; try with_reducible rfl)
          try simp only [List.getElem_toArray, List.getElem_cons_succ, List.getElem_cons_zero, Act.put, List.setIfInBounds_toArray, List.set_cons_zero, List.set_cons_succ]
          refine wpAnyH_take (i := 3) (v := ?vq39) rfl (by kernel_rfl) (by kernel_rfl) (by kernel_rfl) (fun _ _ _ h => h) (Or.inl ⟨by rfl, ?yq39⟩) (by assumption) ?rq39
          case yq39 => (intro u hSu; (try dsimp only at hSu); go_simp; try with_reducible rfl)
          try simp only [List.getElem_toArray, List.getElem_cons_succ, List.getElem_cons_zero, Act.put, List.setIfInBounds_toArray, List.set_cons_zero, List.set_cons_succ]
          refine' wpAnyH_take (i := 4) (v := _) rfl (by kernel_rfl) (by kernel_rfl) (by kernel_rfl) (fun _ _ _ h => h) (yieldsIf_load_mid (by rfl) _ _ rfl _ _ rfl _ _ (fun _ h => h.1) hu rfl hi) (by assumption) ?rq40
          try simp only [List.getElem_toArray, List.getElem_cons_succ, List.getElem_cons_zero, Act.put, List.setIfInBounds_toArray, List.set_cons_zero, List.set_cons_succ]
          refine wpAnyH_take (i := 7) (v := ?vq41) rfl (by kernel_rfl) (by kernel_rfl) (by kernel_rfl) (fun _ _ _ h => h) (Or.inl ⟨by rfl, ?yq41⟩) (by assumption) ?rq41
          case yq41 => (intro u hSu; (try dsimp only at hSu); go_simp; try with_reducible rfl)
          try simp only [List.getElem_toArray, List.getElem_cons_succ, List.getElem_cons_zero, Act.put, List.setIfInBounds_toArray, List.set_cons_zero, List.set_cons_succ]
          refine wpAnyH_take (i := 8) (v := ?vq42) rfl (by kernel_rfl) (by kernel_rfl) (by kernel_rfl) (fun _ _ _ h => h) (Or.inl ⟨by rfl, ?yq42⟩) (by assumption) ?rq42
          case yq42 => (intro u hSu; (try dsimp only at hSu); go_simp; try with_reducible rfl)
          try simp only [List.getElem_toArray, List.getElem_cons_succ, List.getElem_cons_zero, Act.put, List.setIfInBounds_toArray, List.set_cons_zero, List.set_cons_succ]
          refine wpAnyH_ready (rs := [5]) (by kernel_rfl) (by simp) ?_
          refine AllReadyH.cons rfl (fun K hK => ?_) AllReadyH.nil
          go_simp
          go_at_call 31
          refine (KW4.out Z.out _).mono ?_
          rintro e w7 ⟨v7, rfl, ⟨B7, d7, rfl, hr7⟩, hb7⟩
          have s7 := run_str (P := Try.prog) Try.underlying25 Try.underlying5 Try.underlying9 (show Bytes w7 B7 48 d7 b from hr7)
          go_simp
          refine hK.out _ _ (HX.out _ hb7) (fun hHeld => ?_)
          clear hK K
          try simp only [List.getElem_toArray, List.getElem_cons_succ, List.getElem_cons_zero, Act.put, List.setIfInBounds_toArray, List.set_cons_zero, List.set_cons_succ]
          refine wpAnyH_ready (rs := [6]) (by kernel_rfl) (by simp) ?_
          refine AllReadyH.cons rfl (fun K hK => ?_) AllReadyH.nil
          go_simp
          refine hK.out _ _ (HX.out _ hb7) (fun hHeld => ?_)
          clear hK K
          try simp only [List.getElem_toArray, List.getElem_cons_succ, List.getElem_cons_zero, Act.put, List.setIfInBounds_toArray, List.set_cons_zero, List.set_cons_succ]
          refine wpAnyH_take (i := 9) (v := ?vq43) rfl (by kernel_rfl) (by kernel_rfl) (by kernel_rfl) (fun _ _ _ h => h) (Or.inl ⟨by rfl, ?yq43⟩) (by assumption) ?rq43
          case yq43 => (intro u hSu; (try dsimp only at hSu); go_simp; try with_reducible rfl)
          try simp only [List.getElem_toArray, List.getElem_cons_succ, List.getElem_cons_zero, Act.put, List.setIfInBounds_toArray, List.set_cons_zero, List.set_cons_succ]
          refine wpAnyH_take (i := 10) (v := ?vq44) rfl (by kernel_rfl) (by kernel_rfl) (by kernel_rfl) (fun _ _ _ h => h) (Or.inl ⟨by rfl, ?yq44⟩) (by assumption) ?rq44
          case yq44 => (intro u hSu; (try dsimp only at hSu); go_simp; try with_reducible rfl)
          try simp only [List.getElem_toArray, List.getElem_cons_succ, List.getElem_cons_zero, Act.put, List.setIfInBounds_toArray, List.set_cons_zero, List.set_cons_succ]
          refine wpAnyH_take (i := 11) (v := ?vq45) rfl (by kernel_rfl) (by kernel_rfl) (by kernel_rfl) (fun _ _ _ h => h) (Or.inl ⟨by rfl, ?yq45⟩) (by assumption) ?rq45
          case yq45 => (intro u hSu; (try dsimp only at hSu); go_simp; try with_reducible rfl)
          try simp only [List.getElem_toArray, List.getElem_cons_succ, List.getElem_cons_zero, Act.put, List.setIfInBounds_toArray, List.set_cons_zero, List.set_cons_succ]
          refine wpAnyH_done (by kernel_rfl) ?_ _
          go_wp2_with fail
          go_ret
          exact ⟨rfl, b11.drew.trans (hb7.mono b11.drew.size)⟩
        · have f : ((k4 : Int) == 0) = false := by simp; exact z4
          go_quiet (first
            | (go_at_call 14; with_reducible refine Calls.quiet_of_same ((M4.out _).mono fun _ _ h => ⟨h.1, h.2.symm⟩)))
          go_wp2_with fail
          go_ret
          exact ⟨rfl, below_drewN b11 _⟩
      · have f : ((k3 : Int) == 0) = false := by simp; exact z3
        clear z3
        refine (M3.out _).mono ?_
        rintro e w' ⟨rfl, rfl⟩
        clear H8
        go_wp2_with fail
        clear f
        refine (KN1.out _ (HB0.out.keep b8)).mono ?_
        rintro e w9 ⟨rfl, hb9⟩
        have b9 := b8.trans (hb9.mono b8.size)
        clear hb9
        have J := newNote w9
        go_wp2_with ((with_reducible refine wpList_store_note rfl (.tmp 16) (.tmp 99) rfl w9.heap.size rfl x y t HTL.out rfl (ncells 0 0 (List.replicate 32 0)) J rfl ?_); intro w10 o10 H10)
        have hb10 : Below w9.heap.size w9 w10 := o10.below ((Below.refl _ _).alloc (Nat.le_refl _) _) (Nat.le_refl _)
        have b10 := b9.trans (hb10.mono b9.size)
        clear hb10
        clear J o10
        by_cases z4 : k4 = 0
        · have f : ((k4 : Int) == 0) = true := by rw [z4]; rfl
          have Z := Lib.hid z4
          have HX := Lib.hid (fun (u : World) (h : Below w10.drew.heap.size w10.drew u) => show u.rangeAt w9.heap.size 0 (ncells x y t) ∧ (convert 25 9 (.slice A n c)).run Try.prog u = .ok (.string (str b)) u from
            ⟨Has.range (Has.keep (w := w10.drew) H10 h H10.lt) 0 (ncells x y t) (by rw [List.drop_zero, List.take_length]), run_str (P := Try.prog) Try.underlying25 Try.underlying5 Try.underlying9 (show Bytes u A n c b from HB0.out.keep (b10.drew.trans (h.mono b10.size)))⟩)
          have HC0 := Lib.hid (HX.out _ (Below.refl _ _))
          have hu := Try.underlying67
          have hi : (Try.prog.info? 67).map (·.size) = some (ncells x y t).length := by rw [ncells_len _ _ _ HTL.out]; exact size_note
          refine wp_region_held_drew (S := fun w' => w'.rangeAt w9.heap.size 0 (ncells x y t) ∧ (convert 25 9 (.slice A n c)).run Try.prog w' = .ok (.string (str b)) w') (by kernel_rfl) HC0.out (fun hHeld => ?_)
          refine wpAnyH_take (i := 0) (v := ?vq46) rfl (by kernel_rfl) (by kernel_rfl) (by kernel_rfl) (fun _ _ _ h => h) (Or.inl ⟨by rfl, ?yq46⟩) (by assumption) ?rq46
          case yq46 => (intro u hSu; (try dsimp only at hSu); go_simp; try with_reducible rfl)
          try simp only [List.getElem_toArray, List.getElem_cons_succ, List.getElem_cons_zero, Act.put, List.setIfInBounds_toArray, List.set_cons_zero, List.set_cons_succ]
          refine wpAnyH_ready (rs := [1]) (by kernel_rfl) (by simp) ?_
          refine AllReadyH.cons rfl (fun K hK => ?_) AllReadyH.nil
          go_simp
          go_at_call 14
          first | with_reducible refine (M4.out _).mono ?_ | with_reducible refine (M0.out _).mono ?_
          rintro e w' ⟨rfl, rfl⟩
          go_simp
          refine hK.out _ _ HC0.out (fun hHeld => ?_)
          clear hK K
          try simp only [List.getElem_toArray, List.getElem_cons_succ, List.getElem_cons_zero, Act.put, List.setIfInBounds_toArray, List.set_cons_zero, List.set_cons_succ]
          refine wpAnyH_take (i := 2) (v := ?vq47) rfl (by kernel_rfl) (by kernel_rfl) (by kernel_rfl) (fun _ _ _ h => h) (Or.inl ⟨by rfl, ?yq47⟩) (by assumption) ?rq47
          case yq47 => (intro u hSu; (try dsimp only at hSu); go_simp; try with_reducible rfl)
          try simp only [List.getElem_toArray, List.getElem_cons_succ, List.getElem_cons_zero, Act.put, List.setIfInBounds_toArray, List.set_cons_zero, List.set_cons_succ]
          refine wpAnyH_take (i := 3) (v := ?vq48) rfl (by kernel_rfl) (by kernel_rfl) (by kernel_rfl) (fun _ _ _ h => h) (Or.inl ⟨by rfl, ?yq48⟩) (by assumption) ?rq48
          case yq48 => (intro u hSu; (try dsimp only at hSu); go_simp; try with_reducible rfl)
          try simp only [List.getElem_toArray, List.getElem_cons_succ, List.getElem_cons_zero, Act.put, List.setIfInBounds_toArray, List.set_cons_zero, List.set_cons_succ]
          refine' wpAnyH_take (i := 4) (v := _) rfl (by kernel_rfl) (by kernel_rfl) (by kernel_rfl) (fun _ _ _ h => h) (yieldsIf_load_mid (by rfl) _ _ rfl _ _ rfl _ _ (fun _ h => h.1) hu rfl hi) (by assumption) ?rq49
          try simp only [List.getElem_toArray, List.getElem_cons_succ, List.getElem_cons_zero, Act.put, List.setIfInBounds_toArray, List.set_cons_zero, List.set_cons_succ]
          refine wpAnyH_take (i := 7) (v := ?vq50) rfl (by kernel_rfl) (by kernel_rfl) (by kernel_rfl) (fun _ _ _ h => h) (Or.inl ⟨by rfl, ?yq50⟩) (by assumption) ?rq50
          case yq50 => (intro u hSu; (try dsimp only at hSu); go_simp; try with_reducible rfl)
          try simp only [List.getElem_toArray, List.getElem_cons_succ, List.getElem_cons_zero, Act.put, List.setIfInBounds_toArray, List.set_cons_zero, List.set_cons_succ]
          refine wpAnyH_take (i := 8) (v := ?vq51) rfl (by kernel_rfl) (by kernel_rfl) (by kernel_rfl) (fun _ _ _ h => h) (Or.inl ⟨by rfl, ?yq51⟩) (by assumption) ?rq51
          case yq51 => (intro u hSu; (try dsimp only at hSu); go_simp; try with_reducible rfl)
          try simp only [List.getElem_toArray, List.getElem_cons_succ, List.getElem_cons_zero, Act.put, List.setIfInBounds_toArray, List.set_cons_zero, List.set_cons_succ]
          refine wpAnyH_ready (rs := [5]) (by kernel_rfl) (by simp) ?_
          refine AllReadyH.cons rfl (fun K hK => ?_) AllReadyH.nil
          go_simp
          go_at_call 31
          refine (KW4.out Z.out _).mono ?_
          rintro e w7 ⟨v7, rfl, ⟨B7, d7, rfl, hr7⟩, hb7⟩
          have s7 := run_str (P := Try.prog) Try.underlying25 Try.underlying5 Try.underlying9 (show Bytes w7 B7 48 d7 b from hr7)
          go_simp
          refine hK.out _ _ (HX.out _ hb7) (fun hHeld => ?_)
          clear hK K
          try simp only [List.getElem_toArray, List.getElem_cons_succ, List.getElem_cons_zero, Act.put, List.setIfInBounds_toArray, List.set_cons_zero, List.set_cons_succ]
          refine wpAnyH_ready (rs := [6]) (by kernel_rfl) (by simp) ?_
          refine AllReadyH.cons rfl (fun K hK => ?_) AllReadyH.nil
          go_simp
          refine hK.out _ _ (HX.out _ hb7) (fun hHeld => ?_)
          clear hK K
          try simp only [List.getElem_toArray, List.getElem_cons_succ, List.getElem_cons_zero, Act.put, List.setIfInBounds_toArray, List.set_cons_zero, List.set_cons_succ]
          refine wpAnyH_take (i := 9) (v := ?vq52) rfl (by kernel_rfl) (by kernel_rfl) (by kernel_rfl) (fun _ _ _ h => h) (Or.inl ⟨by rfl, ?yq52⟩) (by assumption) ?rq52
          case yq52 => (intro u hSu; (try dsimp only at hSu); go_simp; try with_reducible rfl)
          try simp only [List.getElem_toArray, List.getElem_cons_succ, List.getElem_cons_zero, Act.put, List.setIfInBounds_toArray, List.set_cons_zero, List.set_cons_succ]
          refine wpAnyH_take (i := 10) (v := ?vq53) rfl (by kernel_rfl) (by kernel_rfl) (by kernel_rfl) (fun _ _ _ h => h) (Or.inl ⟨by rfl, ?yq53⟩) (by assumption) ?rq53
          case yq53 => (intro u hSu; (try dsimp only at hSu); go_simp; try with_reducible rfl)
          try simp only [List.getElem_toArray, List.getElem_cons_succ, List.getElem_cons_zero, Act.put, List.setIfInBounds_toArray, List.set_cons_zero, List.set_cons_succ]
          refine wpAnyH_take (i := 11) (v := ?vq54) rfl (by kernel_rfl) (by kernel_rfl) (by kernel_rfl) (fun _ _ _ h => h) (Or.inl ⟨by rfl, ?yq54⟩) (by assumption) ?rq54
          case yq54 => (intro u hSu; (try dsimp only at hSu); go_simp; try with_reducible rfl)
          try simp only [List.getElem_toArray, List.getElem_cons_succ, List.getElem_cons_zero, Act.put, List.setIfInBounds_toArray, List.set_cons_zero, List.set_cons_succ]
          refine wpAnyH_done (by kernel_rfl) ?_ _
          go_wp2_with fail
          go_ret
          exact ⟨rfl, b10.drew.trans (hb7.mono b10.drew.size)⟩
        · have f : ((k4 : Int) == 0) = false := by simp; exact z4
          go_quiet (first
            | (go_at_call 14; with_reducible refine Calls.quiet_of_same ((M4.out _).mono fun _ _ h => ⟨h.1, h.2.symm⟩)))
          go_wp2_with fail
          go_ret
          exact ⟨rfl, below_drewN b10 _⟩
    · have f : ((k2 : Int) == 0) = false := by simp; exact z2
      clear z2
      refine (M2.out _).mono ?_
      rintro e w' ⟨rfl, rfl⟩
      clear H5
      go_wp2_with fail
      clear f
      refine (KT1.out _ (HB0.out.keep b5)).mono ?_
      rintro e w6 ⟨Ai, ni, ci, Al, nl, cl, es3, rfl, hI, hL, hd, hok, hb6⟩
      have b6 := b5.trans (hb6.mono b5.size)
      clear hb6
      have HD3 := Lib.hid (And.intro hd hok)
      have J := newBatch w6
      go_wp2_with ((with_reducible refine wpList_store_bat rfl (.tmp 12) (.tmp 76) rfl w6.heap.size rfl T.r T.ch Ai ni ci Al nl cl rfl (bcells 0 0 none 0 0 none 0 0) J rfl ?_); intro w7 o7 H7)
      have hb7 : Below w6.heap.size w6 w7 := o7.below ((Below.refl _ _).alloc (Nat.le_refl _) _) (Nat.le_refl _)
      have HI3 := Lib.hid (hI.keep hb7)
      have HL3 := Lib.hid (hL.keep hb7)
      have b7 := b6.trans (hb7.mono b6.size)
      clear hb7
      clear hI hL hd hok J o7
      by_cases z3 : k3 = 0
      · have f : ((k3 : Int) == 0) = true := by rw [z3]; rfl
        have Z := Lib.hid z3
        clear z3
        refine (M3.out _).mono ?_
        rintro e w' ⟨rfl, rfl⟩
        go_wp2_with ((with_reducible refine wpList_load_bat rfl (.tmp 12) rfl w6.heap.size rfl T.r T.ch Ai ni ci Al nl cl H7 ?_))
        refine (KW3.out Z.out HD3.out.2 es3 HD3.out.1 Ai ni ci Al nl cl _ HI3.out HL3.out).mono ?_
        rintro e w8 ⟨v, rfl, ⟨B, d, rfl, hr8⟩, hb8⟩
        have b8 := b7.trans (hb8.mono b7.size)
        clear hb8
        clear H7
        clear f Z
        have s3 := run_str (P := Try.prog) Try.underlying25 Try.underlying5 Try.underlying9 hr8
        have s4 := run_str (P := Try.prog) Try.underlying25 Try.underlying5 Try.underlying9 (HB0.out.keep b8)
        clear hr8
        go_wp2_with fail
        refine (M0.out _).mono ?_
        rintro e w' ⟨rfl, rfl⟩
        go_wp2_with fail
        clear s3 s4
        refine (KN1.out _ (HB0.out.keep b8)).mono ?_
        rintro e w9 ⟨rfl, hb9⟩
        have b9 := b8.trans (hb9.mono b8.size)
        clear hb9
        have J := newNote w9
        go_wp2_with ((with_reducible refine wpList_store_note rfl (.tmp 16) (.tmp 99) rfl w9.heap.size rfl x y t HTL.out rfl (ncells 0 0 (List.replicate 32 0)) J rfl ?_); intro w10 o10 H10)
        have hb10 : Below w9.heap.size w9 w10 := o10.below ((Below.refl _ _).alloc (Nat.le_refl _) _) (Nat.le_refl _)
        have b10 := b9.trans (hb10.mono b9.size)
        clear hb10
        clear J o10
        by_cases z4 : k4 = 0
        · have f : ((k4 : Int) == 0) = true := by rw [z4]; rfl
          have Z := Lib.hid z4
          have HX := Lib.hid (fun (u : World) (h : Below w10.drew.heap.size w10.drew u) => show u.rangeAt w9.heap.size 0 (ncells x y t) ∧ (convert 25 9 (.slice A n c)).run Try.prog u = .ok (.string (str b)) u from
            ⟨Has.range (Has.keep (w := w10.drew) H10 h H10.lt) 0 (ncells x y t) (by rw [List.drop_zero, List.take_length]), run_str (P := Try.prog) Try.underlying25 Try.underlying5 Try.underlying9 (show Bytes u A n c b from HB0.out.keep (b10.drew.trans (h.mono b10.size)))⟩)
          have HC0 := Lib.hid (HX.out _ (Below.refl _ _))
          have hu := Try.underlying67
          have hi : (Try.prog.info? 67).map (·.size) = some (ncells x y t).length := by rw [ncells_len _ _ _ HTL.out]; exact size_note
          refine wp_region_held_drew (S := fun w' => w'.rangeAt w9.heap.size 0 (ncells x y t) ∧ (convert 25 9 (.slice A n c)).run Try.prog w' = .ok (.string (str b)) w') (by kernel_rfl) HC0.out (fun hHeld => ?_)
          refine wpAnyH_take (i := 0) (v := ?vq55) rfl (by kernel_rfl) (by kernel_rfl) (by kernel_rfl) (fun _ _ _ h => h) (Or.inl ⟨by rfl, ?yq55⟩) (by assumption) ?rq55
          case yq55 => (intro u hSu; (try dsimp only at hSu); go_simp; try with_reducible rfl)
          try simp only [List.getElem_toArray, List.getElem_cons_succ, List.getElem_cons_zero, Act.put, List.setIfInBounds_toArray, List.set_cons_zero, List.set_cons_succ]
          refine wpAnyH_ready (rs := [1]) (by kernel_rfl) (by simp) ?_
          refine AllReadyH.cons rfl (fun K hK => ?_) AllReadyH.nil
          go_simp
          go_at_call 14
          first | with_reducible refine (M4.out _).mono ?_ | with_reducible refine (M0.out _).mono ?_
          rintro e w' ⟨rfl, rfl⟩
          go_simp
          refine hK.out _ _ HC0.out (fun hHeld => ?_)
          clear hK K
          try simp only [List.getElem_toArray, List.getElem_cons_succ, List.getElem_cons_zero, Act.put, List.setIfInBounds_toArray, List.set_cons_zero, List.set_cons_succ]
          refine wpAnyH_take (i := 2) (v := ?vq56) rfl (by kernel_rfl) (by kernel_rfl) (by kernel_rfl) (fun _ _ _ h => h) (Or.inl ⟨by rfl, ?yq56⟩) (by assumption) ?rq56
          case yq56 => (intro u hSu; (try dsimp only at hSu); go_simp; try with_reducible rfl)
          try simp only [List.getElem_toArray, List.getElem_cons_succ, List.getElem_cons_zero, Act.put, List.setIfInBounds_toArray, List.set_cons_zero, List.set_cons_succ]
          refine wpAnyH_take (i := 3) (v := ?vq57) rfl (by kernel_rfl) (by kernel_rfl) (by kernel_rfl) (fun _ _ _ h => h) (Or.inl ⟨by rfl, ?yq57⟩) (by assumption) ?rq57
          case yq57 => (intro u hSu; (try dsimp only at hSu); go_simp; try with_reducible rfl)
          try simp only [List.getElem_toArray, List.getElem_cons_succ, List.getElem_cons_zero, Act.put, List.setIfInBounds_toArray, List.set_cons_zero, List.set_cons_succ]
          refine' wpAnyH_take (i := 4) (v := _) rfl (by kernel_rfl) (by kernel_rfl) (by kernel_rfl) (fun _ _ _ h => h) (yieldsIf_load_mid (by rfl) _ _ rfl _ _ rfl _ _ (fun _ h => h.1) hu rfl hi) (by assumption) ?rq58
          try simp only [List.getElem_toArray, List.getElem_cons_succ, List.getElem_cons_zero, Act.put, List.setIfInBounds_toArray, List.set_cons_zero, List.set_cons_succ]
          refine wpAnyH_take (i := 7) (v := ?vq59) rfl (by kernel_rfl) (by kernel_rfl) (by kernel_rfl) (fun _ _ _ h => h) (Or.inl ⟨by rfl, ?yq59⟩) (by assumption) ?rq59
          case yq59 => (intro u hSu; (try dsimp only at hSu); go_simp; try with_reducible rfl)
          try simp only [List.getElem_toArray, List.getElem_cons_succ, List.getElem_cons_zero, Act.put, List.setIfInBounds_toArray, List.set_cons_zero, List.set_cons_succ]
          refine wpAnyH_take (i := 8) (v := ?vq60) rfl (by kernel_rfl) (by kernel_rfl) (by kernel_rfl) (fun _ _ _ h => h) (Or.inl ⟨by rfl, ?yq60⟩) (by assumption) ?rq60
          case yq60 => (intro u hSu; (try dsimp only at hSu); go_simp; try with_reducible rfl)
          try simp only [List.getElem_toArray, List.getElem_cons_succ, List.getElem_cons_zero, Act.put, List.setIfInBounds_toArray, List.set_cons_zero, List.set_cons_succ]
          refine wpAnyH_ready (rs := [5]) (by kernel_rfl) (by simp) ?_
          refine AllReadyH.cons rfl (fun K hK => ?_) AllReadyH.nil
          go_simp
          go_at_call 31
          refine (KW4.out Z.out _).mono ?_
          rintro e w7 ⟨v7, rfl, ⟨B7, d7, rfl, hr7⟩, hb7⟩
          have s7 := run_str (P := Try.prog) Try.underlying25 Try.underlying5 Try.underlying9 (show Bytes w7 B7 48 d7 b from hr7)
          go_simp
          refine hK.out _ _ (HX.out _ hb7) (fun hHeld => ?_)
          clear hK K
          try simp only [List.getElem_toArray, List.getElem_cons_succ, List.getElem_cons_zero, Act.put, List.setIfInBounds_toArray, List.set_cons_zero, List.set_cons_succ]
          refine wpAnyH_ready (rs := [6]) (by kernel_rfl) (by simp) ?_
          refine AllReadyH.cons rfl (fun K hK => ?_) AllReadyH.nil
          go_simp
          refine hK.out _ _ (HX.out _ hb7) (fun hHeld => ?_)
          clear hK K
          try simp only [List.getElem_toArray, List.getElem_cons_succ, List.getElem_cons_zero, Act.put, List.setIfInBounds_toArray, List.set_cons_zero, List.set_cons_succ]
          refine wpAnyH_take (i := 9) (v := ?vq61) rfl (by kernel_rfl) (by kernel_rfl) (by kernel_rfl) (fun _ _ _ h => h) (Or.inl ⟨by rfl, ?yq61⟩) (by assumption) ?rq61
          case yq61 => (intro u hSu; (try dsimp only at hSu); go_simp; try with_reducible rfl)
          try simp only [List.getElem_toArray, List.getElem_cons_succ, List.getElem_cons_zero, Act.put, List.setIfInBounds_toArray, List.set_cons_zero, List.set_cons_succ]
          refine wpAnyH_take (i := 10) (v := ?vq62) rfl (by kernel_rfl) (by kernel_rfl) (by kernel_rfl) (fun _ _ _ h => h) (Or.inl ⟨by rfl, ?yq62⟩) (by assumption) ?rq62
          case yq62 => (intro u hSu; (try dsimp only at hSu); go_simp; try with_reducible rfl)
          try simp only [List.getElem_toArray, List.getElem_cons_succ, List.getElem_cons_zero, Act.put, List.setIfInBounds_toArray, List.set_cons_zero, List.set_cons_succ]
          refine wpAnyH_take (i := 11) (v := ?vq63) rfl (by kernel_rfl) (by kernel_rfl) (by kernel_rfl) (fun _ _ _ h => h) (Or.inl ⟨by rfl, ?yq63⟩) (by assumption) ?rq63
          case yq63 => (intro u hSu; (try dsimp only at hSu); go_simp; try with_reducible rfl)
          try simp only [List.getElem_toArray, List.getElem_cons_succ, List.getElem_cons_zero, Act.put, List.setIfInBounds_toArray, List.set_cons_zero, List.set_cons_succ]
          refine wpAnyH_done (by kernel_rfl) ?_ _
          go_wp2_with fail
          go_ret
          exact ⟨rfl, b10.drew.trans (hb7.mono b10.drew.size)⟩
        · have f : ((k4 : Int) == 0) = false := by simp; exact z4
          go_quiet (first
            | (go_at_call 14; with_reducible refine Calls.quiet_of_same ((M4.out _).mono fun _ _ h => ⟨h.1, h.2.symm⟩)))
          go_wp2_with fail
          go_ret
          exact ⟨rfl, below_drewN b10 _⟩
      · have f : ((k3 : Int) == 0) = false := by simp; exact z3
        clear z3
        refine (M3.out _).mono ?_
        rintro e w' ⟨rfl, rfl⟩
        clear H7
        go_wp2_with fail
        clear f
        refine (KN1.out _ (HB0.out.keep b7)).mono ?_
        rintro e w8 ⟨rfl, hb8⟩
        have b8 := b7.trans (hb8.mono b7.size)
        clear hb8
        have J := newNote w8
        go_wp2_with ((with_reducible refine wpList_store_note rfl (.tmp 16) (.tmp 99) rfl w8.heap.size rfl x y t HTL.out rfl (ncells 0 0 (List.replicate 32 0)) J rfl ?_); intro w9 o9 H9)
        have hb9 : Below w8.heap.size w8 w9 := o9.below ((Below.refl _ _).alloc (Nat.le_refl _) _) (Nat.le_refl _)
        have b9 := b8.trans (hb9.mono b8.size)
        clear hb9
        clear J o9
        by_cases z4 : k4 = 0
        · have f : ((k4 : Int) == 0) = true := by rw [z4]; rfl
          have Z := Lib.hid z4
          have HX := Lib.hid (fun (u : World) (h : Below w9.drew.heap.size w9.drew u) => show u.rangeAt w8.heap.size 0 (ncells x y t) ∧ (convert 25 9 (.slice A n c)).run Try.prog u = .ok (.string (str b)) u from
            ⟨Has.range (Has.keep (w := w9.drew) H9 h H9.lt) 0 (ncells x y t) (by rw [List.drop_zero, List.take_length]), run_str (P := Try.prog) Try.underlying25 Try.underlying5 Try.underlying9 (show Bytes u A n c b from HB0.out.keep (b9.drew.trans (h.mono b9.size)))⟩)
          have HC0 := Lib.hid (HX.out _ (Below.refl _ _))
          have hu := Try.underlying67
          have hi : (Try.prog.info? 67).map (·.size) = some (ncells x y t).length := by rw [ncells_len _ _ _ HTL.out]; exact size_note
          refine wp_region_held_drew (S := fun w' => w'.rangeAt w8.heap.size 0 (ncells x y t) ∧ (convert 25 9 (.slice A n c)).run Try.prog w' = .ok (.string (str b)) w') (by kernel_rfl) HC0.out (fun hHeld => ?_)
          refine wpAnyH_take (i := 0) (v := ?vq64) rfl (by kernel_rfl) (by kernel_rfl) (by kernel_rfl) (fun _ _ _ h => h) (Or.inl ⟨by rfl, ?yq64⟩) (by assumption) ?rq64
          case yq64 => (intro u hSu; (try dsimp only at hSu); go_simp; try with_reducible rfl)
          try simp only [List.getElem_toArray, List.getElem_cons_succ, List.getElem_cons_zero, Act.put, List.setIfInBounds_toArray, List.set_cons_zero, List.set_cons_succ]
          refine wpAnyH_ready (rs := [1]) (by kernel_rfl) (by simp) ?_
          refine AllReadyH.cons rfl (fun K hK => ?_) AllReadyH.nil
          go_simp
          go_at_call 14
          first | with_reducible refine (M4.out _).mono ?_ | with_reducible refine (M0.out _).mono ?_
          rintro e w' ⟨rfl, rfl⟩
          go_simp
          refine hK.out _ _ HC0.out (fun hHeld => ?_)
          clear hK K
          try simp only [List.getElem_toArray, List.getElem_cons_succ, List.getElem_cons_zero, Act.put, List.setIfInBounds_toArray, List.set_cons_zero, List.set_cons_succ]
          refine wpAnyH_take (i := 2) (v := ?vq65) rfl (by kernel_rfl) (by kernel_rfl) (by kernel_rfl) (fun _ _ _ h => h) (Or.inl ⟨by rfl, ?yq65⟩) (by assumption) ?rq65
          case yq65 => (intro u hSu; (try dsimp only at hSu); go_simp; try with_reducible rfl)
          try simp only [List.getElem_toArray, List.getElem_cons_succ, List.getElem_cons_zero, Act.put, List.setIfInBounds_toArray, List.set_cons_zero, List.set_cons_succ]
          refine wpAnyH_take (i := 3) (v := ?vq66) rfl (by kernel_rfl) (by kernel_rfl) (by kernel_rfl) (fun _ _ _ h => h) (Or.inl ⟨by rfl, ?yq66⟩) (by assumption) ?rq66
          case yq66 => (intro u hSu; (try dsimp only at hSu); go_simp; try with_reducible rfl)
          try simp only [List.getElem_toArray, List.getElem_cons_succ, List.getElem_cons_zero, Act.put, List.setIfInBounds_toArray, List.set_cons_zero, List.set_cons_succ]
          refine' wpAnyH_take (i := 4) (v := _) rfl (by kernel_rfl) (by kernel_rfl) (by kernel_rfl) (fun _ _ _ h => h) (yieldsIf_load_mid (by rfl) _ _ rfl _ _ rfl _ _ (fun _ h => h.1) hu rfl hi) (by assumption) ?rq67
          try simp only [List.getElem_toArray, List.getElem_cons_succ, List.getElem_cons_zero, Act.put, List.setIfInBounds_toArray, List.set_cons_zero, List.set_cons_succ]
          refine wpAnyH_take (i := 7) (v := ?vq68) rfl (by kernel_rfl) (by kernel_rfl) (by kernel_rfl) (fun _ _ _ h => h) (Or.inl ⟨by rfl, ?yq68⟩) (by assumption) ?rq68
          case yq68 => (intro u hSu; (try dsimp only at hSu); go_simp; try with_reducible rfl)
          try simp only [List.getElem_toArray, List.getElem_cons_succ, List.getElem_cons_zero, Act.put, List.setIfInBounds_toArray, List.set_cons_zero, List.set_cons_succ]
          refine wpAnyH_take (i := 8) (v := ?vq69) rfl (by kernel_rfl) (by kernel_rfl) (by kernel_rfl) (fun _ _ _ h => h) (Or.inl ⟨by rfl, ?yq69⟩) (by assumption) ?rq69
          case yq69 => (intro u hSu; (try dsimp only at hSu); go_simp; try with_reducible rfl)
          try simp only [List.getElem_toArray, List.getElem_cons_succ, List.getElem_cons_zero, Act.put, List.setIfInBounds_toArray, List.set_cons_zero, List.set_cons_succ]
          refine wpAnyH_ready (rs := [5]) (by kernel_rfl) (by simp) ?_
          refine AllReadyH.cons rfl (fun K hK => ?_) AllReadyH.nil
          go_simp
          go_at_call 31
          refine (KW4.out Z.out _).mono ?_
          rintro e w7 ⟨v7, rfl, ⟨B7, d7, rfl, hr7⟩, hb7⟩
          have s7 := run_str (P := Try.prog) Try.underlying25 Try.underlying5 Try.underlying9 (show Bytes w7 B7 48 d7 b from hr7)
          go_simp
          refine hK.out _ _ (HX.out _ hb7) (fun hHeld => ?_)
          clear hK K
          try simp only [List.getElem_toArray, List.getElem_cons_succ, List.getElem_cons_zero, Act.put, List.setIfInBounds_toArray, List.set_cons_zero, List.set_cons_succ]
          refine wpAnyH_ready (rs := [6]) (by kernel_rfl) (by simp) ?_
          refine AllReadyH.cons rfl (fun K hK => ?_) AllReadyH.nil
          go_simp
          refine hK.out _ _ (HX.out _ hb7) (fun hHeld => ?_)
          clear hK K
          try simp only [List.getElem_toArray, List.getElem_cons_succ, List.getElem_cons_zero, Act.put, List.setIfInBounds_toArray, List.set_cons_zero, List.set_cons_succ]
          refine wpAnyH_take (i := 9) (v := ?vq70) rfl (by kernel_rfl) (by kernel_rfl) (by kernel_rfl) (fun _ _ _ h => h) (Or.inl ⟨by rfl, ?yq70⟩) (by assumption) ?rq70
          case yq70 => (intro u hSu; (try dsimp only at hSu); go_simp; try with_reducible rfl)
          try simp only [List.getElem_toArray, List.getElem_cons_succ, List.getElem_cons_zero, Act.put, List.setIfInBounds_toArray, List.set_cons_zero, List.set_cons_succ]
          refine wpAnyH_take (i := 10) (v := ?vq71) rfl (by kernel_rfl) (by kernel_rfl) (by kernel_rfl) (fun _ _ _ h => h) (Or.inl ⟨by rfl, ?yq71⟩) (by assumption) ?rq71
          case yq71 => (intro u hSu; (try dsimp only at hSu); go_simp; try with_reducible rfl)
          try simp only [List.getElem_toArray, List.getElem_cons_succ, List.getElem_cons_zero, Act.put, List.setIfInBounds_toArray, List.set_cons_zero, List.set_cons_succ]
          refine wpAnyH_take (i := 11) (v := ?vq72) rfl (by kernel_rfl) (by kernel_rfl) (by kernel_rfl) (fun _ _ _ h => h) (Or.inl ⟨by rfl, ?yq72⟩) (by assumption) ?rq72
          case yq72 => (intro u hSu; (try dsimp only at hSu); go_simp; try with_reducible rfl)
          try simp only [List.getElem_toArray, List.getElem_cons_succ, List.getElem_cons_zero, Act.put, List.setIfInBounds_toArray, List.set_cons_zero, List.set_cons_succ]
          refine wpAnyH_done (by kernel_rfl) ?_ _
          go_wp2_with fail
          go_ret
          exact ⟨rfl, b9.drew.trans (hb7.mono b9.drew.size)⟩
        · have f : ((k4 : Int) == 0) = false := by simp; exact z4
          go_quiet (first
            | (go_at_call 14; with_reducible refine Calls.quiet_of_same ((M4.out _).mono fun _ _ h => ⟨h.1, h.2.symm⟩)))
          go_wp2_with fail
          go_ret
          exact ⟨rfl, below_drewN b9 _⟩
theorem all (A : Option Addr) (n c : Nat) (b : List UInt8) (w : World) (hb : Bytes w A n c b) :
    Calls Try.prog 7 #[.slice A n c] w fun e w' => e = .returned (.bool true) ∧ Below w.heap.size w w' := by
  by_cases h : 800 < n
  · exact big A n c h w
  · exact small A n c b (by omega) w hb
end codecAgainLaw
end Go.Proofs.Ytiilgkajijnbcaa
