/-
  Contract of the reference's ReadBatch. (Written by gen_readbatch.py.)
-/
import Derived.Test.YtiilgkajijnbcaaBatMem
import Derived.Deep.RegionHeldLaw
namespace Go.Proofs.Ytiilgkajijnbcaa
open Go.ChangeShapes Go.WideShapes Go.ChangeAt Go.RowKit
set_option linter.unusedVariables false
set_option linter.unusedSimpArgs false

theorem Save.below_of {g : Nat} {w w' : World} (h : Only g w w') : Save g w w' := h.saved
set_option maxRecDepth 10000 in
set_option maxHeartbeats 8000000 in
theorem refReadBatch' (A : Option Addr) (n c : Nat) (b : List UInt8) (w : World) (hb : Bytes w A n c b) :
    Calls Try.prog 28 #[.slice A n c] w fun e w' => ∃ (d : BatD) (Ai : Option Addr) (ni ci : Nat) (Al : Option Addr) (nl cl : Nat) (es : List Let) (k : Nat), e = .returned (.tuple #[.agg (bcells d.r d.ch Ai ni ci Al nl cl).toArray, .int .i64 (k : Int)]) ∧ batchS b = (d, k) ∧ Nums w' Ai ni ci d.inner ∧ Letters w' Al nl cl es ∧ d.ls = es.map Let.data ∧ d.ok ∧ Below w.heap.size w w' := by
  obtain ⟨r0⟩ := BatR.there b
  obtain ⟨o1, o2, o3, o4, o5, o6, hr, hch, hN, hm, hz⟩ := r0.ok
  obtain ⟨q, h8⟩ : ∃ q, endS b r0.s7 = q := ⟨_, rfl⟩
  have hspec := batchS_eq r0 h8
  obtain ⟨RR, hRR⟩ : ∃ R, batchS b = R := ⟨_, rfl⟩
  rw [hRR] at hspec ⊢
  clear hRR
  obtain ⟨r, ch, N, inner, m, z, ls, s1, s2, s3, s4, s5, s6, s7, h1, h2, h3, h4, h5, h6, h7⟩ := r0
  simp only [] at o1 o2 o3 o4 o5 o6 hr hch hN hm hz h8 hspec
  have HD := Lib.hid (show BatD.ok ⟨(r : Int), (ch : Int), inner, ls⟩ from ⟨⟨by show 0 ≤ (r : Int); omega, by show (r : Int) ≤ 9223372036854775807; omega⟩, ⟨by show 0 ≤ (ch : Int); omega, by show (ch : Int) ≤ 9223372036854775807; omega⟩⟩)
  have SIT3 := Lib.hid (Sit.start w A n c)
  have HOO := Lib.hid (show Off (w.heap.size + 1) A n from Off.of_row hb (by omega))
  have HB0 := Lib.hid hb
  have HBL := Lib.hid hb.len
  have HSP := Lib.hid hspec
  have HBD := Lib.hid (And.intro hN (And.intro hm hz))
  have H4 := Lib.hid h4
  have H7 := Lib.hid h7
  have H8 := Lib.hid h8
  have O3 := Lib.hid o3
  have O6 := Lib.hid o6
  have o0 := St.start b
  have K1 := Lib.hid (fun (w' : World) (H : Sit w w' A n c ⟨0, 0⟩ (bcells 0 0 none 0 0 none 0 0)) => show Calls Try.prog 55 #[.pointer (some ⟨w.heap.size + 1, 0, none⟩), .int .u64 9223372036854775807] w' (fun e w'' => e = .returned (.int .i64 (r : Int)) ∧ Rdr w'' (w.heap.size + 1) A n c s1 ∧ Save (w.heap.size + 1) w' w'') from rdMost' _ A n c b ⟨0, 0⟩ s1 9223372036854775807 r h1 (Nat.le_refl _) o0 w' H.rd (HB0.out.keep H.below) HOO.out)
  have K2 := Lib.hid (fun (w' : World) (H : Sit w w' A n c s1 (bcells r 0 none 0 0 none 0 0)) => show Calls Try.prog 55 #[.pointer (some ⟨w.heap.size + 1, 0, none⟩), .int .u64 9223372036854775807] w' (fun e w'' => e = .returned (.int .i64 (ch : Int)) ∧ Rdr w'' (w.heap.size + 1) A n c s2 ∧ Save (w.heap.size + 1) w' w'') from rdMost' _ A n c b s1 s2 9223372036854775807 ch h2 (Nat.le_refl _) o1 w' H.rd (HB0.out.keep H.below) HOO.out)
  have K3 := Lib.hid (fun (w' : World) (H : Sit w w' A n c s2 (bcells r ch none 0 0 none 0 0)) => show Calls Try.prog 55 #[.pointer (some ⟨w.heap.size + 1, 0, none⟩), .int .u64 20] w' (fun e w'' => e = .returned (.int .i64 (N : Int)) ∧ Rdr w'' (w.heap.size + 1) A n c s3 ∧ Save (w.heap.size + 1) w' w'') from rdMost' _ A n c b s2 s3 20 N h3 (by omega) o2 w' H.rd (HB0.out.keep H.below) HOO.out)
  have K5 := Lib.hid (fun (cs : List Value) (w' : World) (H : Sit w w' A n c s4 cs) => show Calls Try.prog 55 #[.pointer (some ⟨w.heap.size + 1, 0, none⟩), .int .u64 1000] w' (fun e w'' => e = .returned (.int .i64 (m : Int)) ∧ Rdr w'' (w.heap.size + 1) A n c s5 ∧ Save (w.heap.size + 1) w' w'') from rdMost' _ A n c b s4 s5 1000 m h5 (by omega) o4 w' H.rd (HB0.out.keep H.below) HOO.out)
  have K6 := Lib.hid (fun (cs : List Value) (w' : World) (H : Sit w w' A n c s5 cs) => rdSize' (w.heap.size + 1) A n c b s5 s6 m z h6 o5 w' H.rd (HB0.out.keep H.below) HOO.out)
  clear o0 o1 o2 o3 o4 o5 o6 hr hch hN hm hz h1 h2 h3 h4 h5 h6 h7 h8 hspec hb
  go_enter Try.func28, Try.ntmps28
  go_wp2_with fail
  change Calls _ _ _ (((w.alloc (.cells #[.int .i64 0, .int .i64 0, .slice none 0 0, .slice none 0 0] 53)).alloc (.cells #[.slice A n c, .int .i64 0, .int .i64 0] 104)).alloc (.cells #[.int .i64 0, .int .i64 0, .slice none 0 0, .slice none 0 0] 53)) _
  generalize (((w.alloc (.cells #[.int .i64 0, .int .i64 0, .slice none 0 0, .slice none 0 0] 53)).alloc (.cells #[.slice A n c, .int .i64 0, .int .i64 0] 104)).alloc (.cells #[.int .i64 0, .int .i64 0, .slice none 0 0, .slice none 0 0] 53)) = w3 at *
  refine (K1.out w3 SIT3.out).mono ?_
  rintro e w4 ⟨rfl, H, S⟩
  have SIT4 := Lib.hid (SIT3.out.call H S)
  have d4 : w4.cell? ⟨w.heap.size + 2, 0, none⟩ = some (.int .i64 0) := SIT4.out.bat.cell 0
  have f4 := SIT4.out.bat.froz 0
  clear H S K1 SIT3
  go_wp2_with fail
  have SIT5 := Lib.hid (show Sit w (w4.setCell ⟨w.heap.size + 2, 0, none⟩ (.int .i64 (r : Int))) A n c s1 (bcells r 0 none 0 0 none 0 0) from SIT4.out.set 0 _)
  change Calls _ _ _ (w4.setCell ⟨w.heap.size + 2, 0, none⟩ (.int .i64 (r : Int))) _
  generalize w4.setCell ⟨w.heap.size + 2, 0, none⟩ (.int .i64 (r : Int)) = w5 at *
  clear SIT4 d4 f4
  refine (K2.out w5 SIT5.out).mono ?_
  rintro e w6 ⟨rfl, H, S⟩
  have SIT6 := Lib.hid (SIT5.out.call H S)
  have d6 : w6.cell? ⟨w.heap.size + 2, 1, none⟩ = some (.int .i64 0) := SIT6.out.bat.cell 1
  have f6 := SIT6.out.bat.froz 1
  clear H S K2 SIT5
  go_wp2_with fail
  have SIT7 := Lib.hid (show Sit w (w6.setCell ⟨w.heap.size + 2, 1, none⟩ (.int .i64 (ch : Int))) A n c s2 (bcells r ch none 0 0 none 0 0) from SIT6.out.set 1 _)
  change Calls _ _ _ (w6.setCell ⟨w.heap.size + 2, 1, none⟩ (.int .i64 (ch : Int))) _
  generalize w6.setCell ⟨w.heap.size + 2, 1, none⟩ (.int .i64 (ch : Int)) = w7 at *
  clear SIT6 d6 f6
  refine (K3.out w7 SIT7.out).mono ?_
  rintro e w8 ⟨rfl, H, S⟩
  have SIT8 := Lib.hid (SIT7.out.call H S)
  clear H S K3 SIT7
  go_wp2_with fail
  go_loopw [7] (fun i wr => ∃ (j : Nat) (s : St) (xs : List Nat) (Ai : Option Addr) (ci : Nat), j ≤ N ∧ i = .int .i64 j ∧ wr.ownsRow (w.heap.size + 3) 37 1 (.slice Ai j ci) j (xs.map nv) ∧ Hid (Sit w wr A n c s (bcells r ch Ai j ci none 0 0)) ∧ Hid (numsS b N s3 = (xs ++ (numsS b (N - j) s).1, (numsS b (N - j) s).2)) ∧ Hid (xs.length = j ∧ ∀ x ∈ xs, x < 18446744073709551616) ∧ Hid (s.ok b)) (fun i _ => N - (intOf i).toNat)
  case atStart => exact ⟨0, s3, [], none, 0, Nat.zero_le _, rfl, World.ownsRow_nil _ _ _ _, SIT8, Lib.hid (by simp), Lib.hid ⟨rfl, fun x hx => by cases hx⟩, Lib.hid O3.out⟩
  case round =>
    clear SIT8
    obtain ⟨j, s, xs, Ai, ci, hj, rfl, hown, SITR, HP, HL, HOK⟩ := hrel
    by_cases hgo : j < N ∧ s.e = 0
    · obtain ⟨hlt, he⟩ := hgo
      obtain ⟨p, e⟩ := s
      obtain rfl : e = 0 := he
      have hjn : (j : Int) < (N : Int) := by omega
      obtain ⟨x, t1, g1⟩ := two_of (numS b ⟨p, 0⟩)
      have ot1 : t1.ok b := by have := numS_ok HOK.out; rw [g1] at this; exact this
      have hx64 : x < 18446744073709551616 := by have := numS_lt b ⟨p, 0⟩; rw [g1] at this; exact this
      have d2 : wr.cell? ⟨w.heap.size + 1, 2, none⟩ = some (.int .i64 0) := SITR.out.rd.c2
      have SITD := Lib.hid (SITR.out.drew)
      have HOD := Lib.hid (show wr.drew.ownsRow (w.heap.size + 3) 37 1 (.slice Ai j ci) j (xs.map nv) from hown)
      have d3 : wr.drew.cell? ⟨w.heap.size + 2, 2, none⟩ = some (.slice Ai j ci) := SITR.out.bat.cell 2
      have KE := Lib.hid (rdNum' (w.heap.size + 1) A n c b ⟨p, 0⟩ t1 x g1 HOK.out wr.drew SITD.out.rd (HB0.out.keep SITD.out.below) HOO.out)
      have HST := Lib.hid (show numsS b (N - j) ⟨p, 0⟩ = (x :: (numsS b (N - (j + 1)) t1).1, (numsS b (N - (j + 1)) t1).2) by
        rw [show N - j = (N - (j + 1)) + 1 by omega]
        exact numsS_step rfl g1)
      have HX := Lib.hid (And.intro ot1 (show ∀ y ∈ xs ++ [x], y < 18446744073709551616 from fun y hy => by
        rcases List.mem_append.1 hy with h | h
        · exact HL.out.2 y h
        · obtain rfl := List.mem_singleton.1 h; exact hx64))
      have HNB := Lib.hid (show j ≤ 1048576 by have := HBD.out; omega)
      clear g1 ot1 hx64 hown
      go_wp2_with fail
      refine wp_region_held_drew (S := fun _ => True) (by kernel_rfl) trivial (fun hHeld => ?_)
      refine wpAnyH_take (i := 0) (v := ?vq4) rfl (by kernel_rfl) (by kernel_rfl) (by kernel_rfl) (fun _ _ _ h => h) (Or.inl ⟨by rfl, ?yq4⟩) (by assumption) ?rq4
      case yq4 => (intro u hSu; (try dsimp only at hSu); go_simp; try with_reducible rfl)
      try simp only [List.getElem_toArray, List.getElem_cons_succ, List.getElem_cons_zero, Act.put, List.setIfInBounds_toArray, List.set_cons_zero, List.set_cons_succ]
      refine wpAnyH_take (i := 2) (v := ?vq5) rfl (by kernel_rfl) (by kernel_rfl) (by kernel_rfl) (fun _ _ _ h => h) (Or.inl ⟨by rfl, ?yq5⟩) (by assumption) ?rq5
      case yq5 => (intro u hSu; (try dsimp only at hSu); go_simp; try with_reducible rfl)
      try simp only [List.getElem_toArray, List.getElem_cons_succ, List.getElem_cons_zero, Act.put, List.setIfInBounds_toArray, List.set_cons_zero, List.set_cons_succ]
      refine wpAnyH_ready (rs := [1, 3]) (by kernel_rfl) (by simp) ?_
      refine AllReadyH.cons rfl (fun K hK => ?_) (AllReadyH.cons rfl (fun K hK => ?_) AllReadyH.nil)
      · go_simp
        refine hK.out _ _ trivial (fun hHeld => ?_)
        clear hK K
        try simp only [List.getElem_toArray, List.getElem_cons_succ, List.getElem_cons_zero, Act.put, List.setIfInBounds_toArray, List.set_cons_zero, List.set_cons_succ]
        refine wpAnyH_ready (rs := [3]) (by kernel_rfl) (by simp) ?_
        refine AllReadyH.cons rfl (fun K hK => ?_) AllReadyH.nil
        go_simp
        go_at_call 61
        refine (KE.out).mono ?_
        rintro e w5 ⟨rfl, H5, S5⟩
        have SIT5 := Lib.hid (SITD.out.call H5 S5)
        have HO7 := Lib.hid ((own_save HOD.out S5 (by omega)).alloc (.cells #[.int .u64 (x : Int)] 37))
        have HLIT := Lib.hid (litN w5 x)
        have SIT7 := Lib.hid (SIT5.out.alloc (.cells #[.int .u64 (x : Int)] 37))
        have d5 : w5.cell? ⟨w.heap.size + 2, 2, none⟩ = some (.slice Ai j ci) := SIT5.out.bat.cell 2
        have d7 : (w5.alloc (.cells #[.int .u64 (x : Int)] 37)).cell? ⟨w.heap.size + 2, 2, none⟩ = some (.slice Ai j ci) := SIT7.out.bat.cell 2
        clear H5 S5
        go_simp
        refine hK.out _ _ trivial (fun hHeld => ?_)
        clear hK K
        try simp only [List.getElem_toArray, List.getElem_cons_succ, List.getElem_cons_zero, Act.put, List.setIfInBounds_toArray, List.set_cons_zero, List.set_cons_succ]
        refine wpAnyH_ready (rs := [4]) (by kernel_rfl) (by simp) ?_
        refine AllReadyH.cons rfl (fun K hK => ?_) AllReadyH.nil
        go_simp
        refine hK.out _ _ trivial (fun hHeld => ?_)
        clear hK K
        try simp only [List.getElem_toArray, List.getElem_cons_succ, List.getElem_cons_zero, Act.put, List.setIfInBounds_toArray, List.set_cons_zero, List.set_cons_succ]
        refine wpAnyH_ready (rs := [5]) (by kernel_rfl) (by simp) ?_
        refine AllReadyH.cons rfl (fun K hK => ?_) AllReadyH.nil
        refine step_num (by rfl) (.tmp 37) (.tmp 40) (by rfl) (w.heap.size + 3) (.slice Ai j ci) j xs (by rfl) HO7.out w5.heap.size x (by rfl) HLIT.out HNB.out (by have := SIT7.out.size; omega) ?_
        intro v8 w8 hown8 hg8
        obtain ⟨A8, c8, rfl, hr8⟩ := RowW.own hown8
        have SIT8 := Lib.hid (SIT7.out.grown hg8 (fun k hk => (HO7.out.lt k hk).1))
        have d8 : w8.cell? ⟨w.heap.size + 2, 2, none⟩ = some (.slice Ai j ci) := SIT8.out.bat.cell 2
        have f8 := SIT8.out.bat.froz 2
        clear hr8 hg8
        refine hK.out _ _ trivial (fun hHeld => ?_)
        clear hK K
        try simp only [List.getElem_toArray, List.getElem_cons_succ, List.getElem_cons_zero, Act.put, List.setIfInBounds_toArray, List.set_cons_zero, List.set_cons_succ]
        refine wpAnyH_take (i := 6) (v := ?vq1) rfl (by kernel_rfl) (by kernel_rfl) (by kernel_rfl) (fun _ _ _ h => h) (Or.inl ⟨by rfl, ?yq1⟩) (by assumption) ?rq1
        case yq1 => (intro u hSu; (try dsimp only at hSu); go_simp; try with_reducible rfl)
        try simp only [List.getElem_toArray, List.getElem_cons_succ, List.getElem_cons_zero, Act.put, List.setIfInBounds_toArray, List.set_cons_zero, List.set_cons_succ]
        refine wpAnyH_ready (rs := [7]) (by kernel_rfl) (by simp) ?_
        refine AllReadyH.cons rfl (fun K hK => ?_) AllReadyH.nil
        go_simp
        refine hK.out _ _ trivial (fun hHeld => ?_)
        clear hK K
        try simp only [List.getElem_toArray, List.getElem_cons_succ, List.getElem_cons_zero, Act.put, List.setIfInBounds_toArray, List.set_cons_zero, List.set_cons_succ]
        refine wpAnyH_done (by kernel_rfl) ?_ _
        have SIT9 := Lib.hid (show Sit w (w8.setCell ⟨w.heap.size + 2, 2, none⟩ (.slice A8 (j + 1) c8)) A n c t1 (bcells r ch A8 (j + 1) c8 none 0 0) from SIT8.out.set 2 _)
        have HO9 := own_save hown8 (Only.setCell w8 (w.heap.size + 2) 2 (.slice A8 (j + 1) c8)).saved (by omega)
        clear hown8 d5 d7 d8 f8 HO7 HLIT SIT5 SIT7 SIT8
        have hN20 := HBD.out.1
        go_wp2_with fail
        go_roundw
        case rel => exact ⟨j + 1, t1, xs ++ [x], A8, c8, by omega, by go_num, HO9, SIT9, Lib.hid (by rw [HP.out, HST.out]; simp), Lib.hid ⟨by simp [HL.out.1], HX.out.2⟩, Lib.hid HX.out.1⟩
        case measure => simp [intOf]; omega
      · go_simp
        go_at_call 61
        refine (KE.out).mono ?_
        rintro e w5 ⟨rfl, H5, S5⟩
        have SIT5 := Lib.hid (SITD.out.call H5 S5)
        have HO7 := Lib.hid ((own_save HOD.out S5 (by omega)).alloc (.cells #[.int .u64 (x : Int)] 37))
        have HLIT := Lib.hid (litN w5 x)
        have SIT7 := Lib.hid (SIT5.out.alloc (.cells #[.int .u64 (x : Int)] 37))
        have d5 : w5.cell? ⟨w.heap.size + 2, 2, none⟩ = some (.slice Ai j ci) := SIT5.out.bat.cell 2
        have d7 : (w5.alloc (.cells #[.int .u64 (x : Int)] 37)).cell? ⟨w.heap.size + 2, 2, none⟩ = some (.slice Ai j ci) := SIT7.out.bat.cell 2
        clear H5 S5
        go_simp
        refine hK.out _ _ trivial (fun hHeld => ?_)
        clear hK K
        try simp only [List.getElem_toArray, List.getElem_cons_succ, List.getElem_cons_zero, Act.put, List.setIfInBounds_toArray, List.set_cons_zero, List.set_cons_succ]
        refine wpAnyH_ready (rs := [1, 4]) (by kernel_rfl) (by simp) ?_
        refine AllReadyH.cons rfl (fun K hK => ?_) (AllReadyH.cons rfl (fun K hK => ?_) AllReadyH.nil)
        · go_simp
          refine hK.out _ _ trivial (fun hHeld => ?_)
          clear hK K
          try simp only [List.getElem_toArray, List.getElem_cons_succ, List.getElem_cons_zero, Act.put, List.setIfInBounds_toArray, List.set_cons_zero, List.set_cons_succ]
          refine wpAnyH_ready (rs := [4]) (by kernel_rfl) (by simp) ?_
          refine AllReadyH.cons rfl (fun K hK => ?_) AllReadyH.nil
          go_simp
          refine hK.out _ _ trivial (fun hHeld => ?_)
          clear hK K
          try simp only [List.getElem_toArray, List.getElem_cons_succ, List.getElem_cons_zero, Act.put, List.setIfInBounds_toArray, List.set_cons_zero, List.set_cons_succ]
          refine wpAnyH_ready (rs := [5]) (by kernel_rfl) (by simp) ?_
          refine AllReadyH.cons rfl (fun K hK => ?_) AllReadyH.nil
          refine step_num (by rfl) (.tmp 37) (.tmp 40) (by rfl) (w.heap.size + 3) (.slice Ai j ci) j xs (by rfl) HO7.out w5.heap.size x (by rfl) HLIT.out HNB.out (by have := SIT7.out.size; omega) ?_
          intro v8 w8 hown8 hg8
          obtain ⟨A8, c8, rfl, hr8⟩ := RowW.own hown8
          have SIT8 := Lib.hid (SIT7.out.grown hg8 (fun k hk => (HO7.out.lt k hk).1))
          have d8 : w8.cell? ⟨w.heap.size + 2, 2, none⟩ = some (.slice Ai j ci) := SIT8.out.bat.cell 2
          have f8 := SIT8.out.bat.froz 2
          clear hr8 hg8
          refine hK.out _ _ trivial (fun hHeld => ?_)
          clear hK K
          try simp only [List.getElem_toArray, List.getElem_cons_succ, List.getElem_cons_zero, Act.put, List.setIfInBounds_toArray, List.set_cons_zero, List.set_cons_succ]
          refine wpAnyH_take (i := 6) (v := ?vq2) rfl (by kernel_rfl) (by kernel_rfl) (by kernel_rfl) (fun _ _ _ h => h) (Or.inl ⟨by rfl, ?yq2⟩) (by assumption) ?rq2
          case yq2 => (intro u hSu; (try dsimp only at hSu); go_simp; try with_reducible rfl)
          try simp only [List.getElem_toArray, List.getElem_cons_succ, List.getElem_cons_zero, Act.put, List.setIfInBounds_toArray, List.set_cons_zero, List.set_cons_succ]
          refine wpAnyH_ready (rs := [7]) (by kernel_rfl) (by simp) ?_
          refine AllReadyH.cons rfl (fun K hK => ?_) AllReadyH.nil
          go_simp
          refine hK.out _ _ trivial (fun hHeld => ?_)
          clear hK K
          try simp only [List.getElem_toArray, List.getElem_cons_succ, List.getElem_cons_zero, Act.put, List.setIfInBounds_toArray, List.set_cons_zero, List.set_cons_succ]
          refine wpAnyH_done (by kernel_rfl) ?_ _
          have SIT9 := Lib.hid (show Sit w (w8.setCell ⟨w.heap.size + 2, 2, none⟩ (.slice A8 (j + 1) c8)) A n c t1 (bcells r ch A8 (j + 1) c8 none 0 0) from SIT8.out.set 2 _)
          have HO9 := own_save hown8 (Only.setCell w8 (w.heap.size + 2) 2 (.slice A8 (j + 1) c8)).saved (by omega)
          clear hown8 d5 d7 d8 f8 HO7 HLIT SIT5 SIT7 SIT8
          have hN20 := HBD.out.1
          go_wp2_with fail
          go_roundw
          case rel => exact ⟨j + 1, t1, xs ++ [x], A8, c8, by omega, by go_num, HO9, SIT9, Lib.hid (by rw [HP.out, HST.out]; simp), Lib.hid ⟨by simp [HL.out.1], HX.out.2⟩, Lib.hid HX.out.1⟩
          case measure => simp [intOf]; omega
        · go_simp
          refine hK.out _ _ trivial (fun hHeld => ?_)
          clear hK K
          try simp only [List.getElem_toArray, List.getElem_cons_succ, List.getElem_cons_zero, Act.put, List.setIfInBounds_toArray, List.set_cons_zero, List.set_cons_succ]
          refine wpAnyH_ready (rs := [1]) (by kernel_rfl) (by simp) ?_
          refine AllReadyH.cons rfl (fun K hK => ?_) AllReadyH.nil
          go_simp
          refine hK.out _ _ trivial (fun hHeld => ?_)
          clear hK K
          try simp only [List.getElem_toArray, List.getElem_cons_succ, List.getElem_cons_zero, Act.put, List.setIfInBounds_toArray, List.set_cons_zero, List.set_cons_succ]
          refine wpAnyH_ready (rs := [5]) (by kernel_rfl) (by simp) ?_
          refine AllReadyH.cons rfl (fun K hK => ?_) AllReadyH.nil
          refine step_num (by rfl) (.tmp 37) (.tmp 40) (by rfl) (w.heap.size + 3) (.slice Ai j ci) j xs (by rfl) HO7.out w5.heap.size x (by rfl) HLIT.out HNB.out (by have := SIT7.out.size; omega) ?_
          intro v8 w8 hown8 hg8
          obtain ⟨A8, c8, rfl, hr8⟩ := RowW.own hown8
          have SIT8 := Lib.hid (SIT7.out.grown hg8 (fun k hk => (HO7.out.lt k hk).1))
          have d8 : w8.cell? ⟨w.heap.size + 2, 2, none⟩ = some (.slice Ai j ci) := SIT8.out.bat.cell 2
          have f8 := SIT8.out.bat.froz 2
          clear hr8 hg8
          refine hK.out _ _ trivial (fun hHeld => ?_)
          clear hK K
          try simp only [List.getElem_toArray, List.getElem_cons_succ, List.getElem_cons_zero, Act.put, List.setIfInBounds_toArray, List.set_cons_zero, List.set_cons_succ]
          refine wpAnyH_take (i := 6) (v := ?vq3) rfl (by kernel_rfl) (by kernel_rfl) (by kernel_rfl) (fun _ _ _ h => h) (Or.inl ⟨by rfl, ?yq3⟩) (by assumption) ?rq3
          case yq3 => (intro u hSu; (try dsimp only at hSu); go_simp; try with_reducible rfl)
          try simp only [List.getElem_toArray, List.getElem_cons_succ, List.getElem_cons_zero, Act.put, List.setIfInBounds_toArray, List.set_cons_zero, List.set_cons_succ]
          refine wpAnyH_ready (rs := [7]) (by kernel_rfl) (by simp) ?_
          refine AllReadyH.cons rfl (fun K hK => ?_) AllReadyH.nil
          go_simp
          refine hK.out _ _ trivial (fun hHeld => ?_)
          clear hK K
          try simp only [List.getElem_toArray, List.getElem_cons_succ, List.getElem_cons_zero, Act.put, List.setIfInBounds_toArray, List.set_cons_zero, List.set_cons_succ]
          refine wpAnyH_done (by kernel_rfl) ?_ _
          have SIT9 := Lib.hid (show Sit w (w8.setCell ⟨w.heap.size + 2, 2, none⟩ (.slice A8 (j + 1) c8)) A n c t1 (bcells r ch A8 (j + 1) c8 none 0 0) from SIT8.out.set 2 _)
          have HO9 := own_save hown8 (Only.setCell w8 (w.heap.size + 2) 2 (.slice A8 (j + 1) c8)).saved (by omega)
          clear hown8 d5 d7 d8 f8 HO7 HLIT SIT5 SIT7 SIT8
          have hN20 := HBD.out.1
          go_wp2_with fail
          go_roundw
          case rel => exact ⟨j + 1, t1, xs ++ [x], A8, c8, by omega, by go_num, HO9, SIT9, Lib.hid (by rw [HP.out, HST.out]; simp), Lib.hid ⟨by simp [HL.out.1], HX.out.2⟩, Lib.hid HX.out.1⟩
          case measure => simp [intOf]; omega
    · have hstop : N - j = 0 ∨ s.e ≠ 0 := by
        by_cases h : j < N
        · exact .inr fun h0 => hgo ⟨h, h0⟩
        · exact .inl (by omega)
      obtain ⟨e4, e5⟩ : inner = xs ∧ s4 = s := by
        have h := HP.out
        rw [numsS_stop hstop, H4.out] at h
        exact ⟨by simpa using (Prod.mk.inj h).1, (Prod.mk.inj h).2⟩
      subst e4
      subst e5
      have HTR := Lib.hid (RowT.own hown)
      have HIN := Lib.hid HL.out.2
      obtain ⟨ni, hni⟩ : ∃ x, x = j := ⟨_, rfl⟩
      obtain ⟨ee, hee⟩ : ∃ e, s4.e = e := ⟨_, rfl⟩
      have d2 : wr.cell? ⟨w.heap.size + 1, 2, none⟩ = some (.int .i64 (ee : Int)) := by rw [← hee]; exact SITR.out.rd.c2
      by_cases hlt : j < N
      · have he : ee ≠ 0 := fun h0 => hgo ⟨hlt, hee.trans h0⟩
        have he1 : ((ee : Int) == 0) = false := by simp; exact he
        have hjn : (j : Int) < (N : Int) := by omega
        clear hgo hstop he hlt hee hown HP HL HOK hj
        go_wp2_with fail
        clear hjn he1
        subst hni
        refine (K5.out _ wr SITR.out).mono ?_
        rintro e wa ⟨rfl, Ha, Sa⟩
        have SITa := Lib.hid (SITR.out.call Ha Sa)
        have HTa := Lib.hid (HTR.out.save SITR.out.rd (by decide) Sa)
        clear SITR HTR Ha Sa K5 d2
        go_wp2_with fail
        refine (K6.out _ wa SITa.out).mono ?_
        rintro e wb ⟨rfl, Hb, Sb⟩
        have SITb := Lib.hid (SITa.out.call Hb Sb)
        have HTb := Lib.hid (HTa.out.save SITa.out.rd (by decide) Sb)
        clear SITa HTa Hb Sb K6
        go_wp2_with fail
        go_loopw [10] (fun i wr => ∃ (j : Nat) (s : St) (es : List Let) (Al : Option Addr) (cl : Nat), j ≤ m ∧ i = .int .i64 j ∧ wr.ownsRow (w.heap.size + 3) 96 33 (.slice Al j cl) j (es.flatMap Let.cells) ∧ Hid (Sit w wr A n c s (bcells r ch Ai ni ci Al j cl)) ∧ Hid (RowT 37 wr Ai ni ci (inner.map nv)) ∧ Hid (letsS b z m s6 = (es.map Let.data ++ (letsS b z (m - j) s).1, (letsS b z (m - j) s).2)) ∧ Hid (∀ e ∈ es, e.to.length = 32 ∧ PBy wr e.A e.n e.c e.l) ∧ Hid (es.length = j) ∧ Hid (s.ok b)) (fun i _ => m - (intOf i).toNat)
        case atStart => exact ⟨0, s6, [], none, 0, Nat.zero_le _, rfl, World.ownsRow_nil _ _ _ _, SITb, HTb, Lib.hid (by simp), Lib.hid (fun e he => by cases he), Lib.hid rfl, Lib.hid O6.out⟩
        case round =>
          clear SITb HTb
          obtain ⟨j, s, es, Al, cl, hj, rfl, hown, SITR, HTR, HP, HB, HL, HOK⟩ := hrel
          by_cases hgo : j < m ∧ s.e = 0
          · obtain ⟨hlt, he⟩ := hgo
            obtain ⟨p, e⟩ := s
            obtain rfl : e = 0 := he
            have hjn : (j : Int) < (m : Int) := by omega
            obtain ⟨u, t1, g1⟩ := two_of (keyS b ⟨p, 0⟩)
            obtain ⟨l, t2, g2⟩ := two_of (takeS b z t1)
            have ot1 : t1.ok b := by have := keyS_ok HOK.out; rw [g1] at this; exact this
            have ot2 : t2.ok b := by have := takeS_ok z ot1; rw [g2] at this; exact this
            have hu32 : u.length = 32 := by have := keyS_len b ⟨p, 0⟩; rw [g1] at this; exact this
            have HU := Lib.hid hu32
            have d2 : wr.cell? ⟨w.heap.size + 1, 2, none⟩ = some (.int .i64 0) := SITR.out.rd.c2
            have KK := Lib.hid (rdKey' (w.heap.size + 1) A n c b ⟨p, 0⟩ t1 u g1 HOK.out wr SITR.out.rd (HB0.out.keep SITR.out.below) HOO.out)
            have KT0 := Lib.hid (fun (w' : World) (H : Sit w w' A n c t1 (bcells r ch Ai ni ci Al j cl)) => rdTake' (w.heap.size + 1) A n c b t1 t2 z l g2 ot1 (by have := HBD.out; omega) w' H.rd (HB0.out.keep H.below) HOO.out)
            have HST := Lib.hid (show letsS b z (m - j) ⟨p, 0⟩ = ((u, l) :: (letsS b z (m - (j + 1)) t2).1, (letsS b z (m - (j + 1)) t2).2) by
              rw [show m - j = (m - (j + 1)) + 1 by omega]
              exact letsS_step rfl g1 g2)
            have HX := Lib.hid ot2
            have HNB := Lib.hid (show j ≤ 1048576 by have := HBD.out; omega)
            clear g1 g2 ot1 ot2 hu32
            go_wp2_with fail
            refine (KK.out).mono ?_
            rintro e w5 ⟨rfl, H5, S5⟩
            have SIT5 := Lib.hid (SITR.out.call H5 S5)
            have HT5 := Lib.hid (HTR.out.save SITR.out.rd (by decide) S5)
            have HO5 := Lib.hid (own_save hown S5 (by omega))
            have HB5 := Lib.hid (fun e he => show e.to.length = 32 ∧ PBy w5 e.A e.n e.c e.l from ⟨(HB.out e he).1, (HB.out e he).2.save SITR.out.rd (by decide) S5⟩)
            have HR4 := newKey w5
            clear KK H5 S5 hown HB HTR d2 SITR
            go_wp2_with ((with_reducible refine wpList_store_key rfl (.tmp 11) (.tmp 61) rfl w5.heap.size rfl u HU.out rfl zkey HR4 zkey_len ?_); intro w6 o6 HK6)
            have hb6 : Below w5.heap.size w5 w6 := o6.below (newKey_below (Below.refl w5.heap.size w5) (Nat.le_refl _)) (Nat.le_refl _)
            have hb7 : Below w5.heap.size w5 w6.drew := hb6.drew
            have SITD := Lib.hid (SIT5.out.on hb7)
            have HTD := Lib.hid (show RowT 37 w6.drew Ai ni ci (inner.map nv) from HT5.out.keep hb7)
            have HOD := Lib.hid (show w6.drew.ownsRow (w.heap.size + 3) 96 33 (.slice Al j cl) j (es.flatMap Let.cells) from own_below HO5.out hb7)
            have HBD2 := Lib.hid (fun e he => show e.to.length = 32 ∧ PBy w6.drew e.A e.n e.c e.l from ⟨(HB5.out e he).1, (HB5.out e he).2.keep hb7⟩)
            have HKD := Lib.hid (show Has w6.drew w5.heap.size 36 (u.map bv) from HK6)
            have HGK := Lib.hid (show w.heap.size + 3 ≤ w5.heap.size from SIT5.out.size)
            have HKN := Lib.hid (show ∀ (w' : World), w'.ownsRow (w.heap.size + 3) 96 33 (.slice Al j cl) j (es.flatMap Let.cells) → w'.ownsRow (w.heap.size + 3) 96 33 (.slice Al j cl) j (es.flatMap Let.cells) → some w5.heap.size ≠ (Value.slice Al j cl).ownBlock from fun w' _ _ e => by have := (HO5.out.lt _ e.symm).2; omega)
            have HRG := Lib.hid (fun (u' : World) (h : Has u' w5.heap.size 36 (u.map bv)) => Has.range h 0 (u.map bv) (by rw [List.drop_zero, List.take_length]))
            have HRG6 := HRG.out _ HKD.out
            have d3 : w6.drew.cell? ⟨w.heap.size + 2, 3, none⟩ = some (.slice Al j cl) := SITD.out.bat.cell 3
            have KT := Lib.hid (KT0.out w6.drew SITD.out)
            clear HR4 o6 hb6 hb7 HK6 HT5 HO5 HB5 SIT5 KT0
            refine wp_region_held_drew (S := fun w' => w'.rangeAt w5.heap.size 0 (u.map bv)) (by kernel_rfl) HRG6 (fun hHeld => ?_)
            refine wpAnyH_take (i := 0) (v := ?vq11) rfl (by kernel_rfl) (by kernel_rfl) (by kernel_rfl) (fun _ _ _ h => h) (Or.inl ⟨by rfl, ?yq11⟩) (by assumption) ?rq11
            case yq11 => (intro u hSu; (try dsimp only at hSu); go_simp; try with_reducible rfl)
            try simp only [List.getElem_toArray, List.getElem_cons_succ, List.getElem_cons_zero, Act.put, List.setIfInBounds_toArray, List.set_cons_zero, List.set_cons_succ]
            refine' wpAnyH_take (i := 2) (v := _) rfl (by kernel_rfl) (by kernel_rfl) (by kernel_rfl) (fun _ _ _ h => h) (yieldsIf_load_mid (by rfl) _ _ rfl _ _ rfl _ _ (fun _ h => h) Try.underlying36 rfl (by rw [List.length_map, HU.out]; exact size_key)) (by assumption) ?rq12
            try simp only [List.getElem_toArray, List.getElem_cons_succ, List.getElem_cons_zero, Act.put, List.setIfInBounds_toArray, List.set_cons_zero, List.set_cons_succ]
            refine wpAnyH_take (i := 3) (v := ?vq13) rfl (by kernel_rfl) (by kernel_rfl) (by kernel_rfl) (fun _ _ _ h => h) (Or.inl ⟨by rfl, ?yq13⟩) (by assumption) ?rq13
            case yq13 => (intro u hSu; (try dsimp only at hSu); go_simp; try with_reducible rfl)
            try simp only [List.getElem_toArray, List.getElem_cons_succ, List.getElem_cons_zero, Act.put, List.setIfInBounds_toArray, List.set_cons_zero, List.set_cons_succ]
            refine wpAnyH_take (i := 4) (v := ?vq14) rfl (by kernel_rfl) (by kernel_rfl) (by kernel_rfl) (fun _ _ _ h => h) (Or.inl ⟨by rfl, ?yq14⟩) (by assumption) ?rq14
            case yq14 => (intro u hSu; (try dsimp only at hSu); go_simp; try with_reducible rfl)
            try simp only [List.getElem_toArray, List.getElem_cons_succ, List.getElem_cons_zero, Act.put, List.setIfInBounds_toArray, List.set_cons_zero, List.set_cons_succ]
            refine wpAnyH_ready (rs := [1, 5]) (by kernel_rfl) (by simp) ?_
            refine AllReadyH.cons rfl (fun K hK => ?_) (AllReadyH.cons rfl (fun K hK => ?_) AllReadyH.nil)
            · go_simp
              refine hK.out _ _ HRG6 (fun hHeld => ?_)
              clear hK K
              try simp only [List.getElem_toArray, List.getElem_cons_succ, List.getElem_cons_zero, Act.put, List.setIfInBounds_toArray, List.set_cons_zero, List.set_cons_succ]
              refine wpAnyH_ready (rs := [5]) (by kernel_rfl) (by simp) ?_
              refine AllReadyH.cons rfl (fun K hK => ?_) AllReadyH.nil
              go_simp
              go_at_call 58
              refine (KT.out).mono ?_
              rintro e w7 ⟨v7, rfl, hown7, H7, S7⟩
              obtain ⟨A7, c7, rfl, hp7⟩ := PBy.own hown7
              have SIT7 := Lib.hid (SITD.out.call H7 S7)
              have HT7 := Lib.hid (HTD.out.save SITD.out.rd (by decide) S7)
              have HO7 := Lib.hid (own_save HOD.out S7 (by omega))
              have HK7 := HKD.out.save S7 (by have := HGK.out; omega)
              have HB7 := Lib.hid (fun e he => show e.to.length = 32 ∧ PBy w7 e.A e.n e.c e.l from ⟨(HBD2.out e he).1, (HBD2.out e he).2.save SITD.out.rd (by decide) S7⟩)
              have hk8 := (Below.refl w7.heap.size w7).alloc (Nat.le_refl _) (.cells (lcells u A7 l.length c7).toArray 96)
              have SIT8 := Lib.hid (SIT7.out.alloc (.cells (lcells u A7 l.length c7).toArray 96))
              have HT8 := Lib.hid (HT7.out.keep hk8)
              have HO8 := Lib.hid (HO7.out.alloc (.cells (lcells u A7 l.length c7).toArray 96))
              have HLIT := Lib.hid (litW w7 96 33 (lcells u A7 l.length c7) (by rw [lcells, List.length_append, List.length_map, HU.out]; rfl))
              have HB8 := Lib.hid (show ∀ e ∈ es ++ [⟨u, A7, l.length, c7, l⟩], e.to.length = 32 ∧ PBy (w7.alloc (.cells (lcells u A7 l.length c7).toArray 96)) e.A e.n e.c e.l from fun e he => by
                rcases List.mem_append.1 he with h | h
                · exact ⟨(HB7.out e h).1, (HB7.out e h).2.keep hk8⟩
                · obtain rfl := List.mem_singleton.1 h
                  exact ⟨HU.out, hp7.keep hk8⟩)
              have d7 : w7.cell? ⟨w.heap.size + 2, 3, none⟩ = some (.slice Al j cl) := SIT7.out.bat.cell 3
              have d8 : (w7.alloc (.cells (lcells u A7 l.length c7).toArray 96)).cell? ⟨w.heap.size + 2, 3, none⟩ = some (.slice Al j cl) := SIT8.out.bat.cell 3
              have HRG7 := HRG.out _ HK7
              have HRG8 := HRG.out _ (HK7.alloc (.cells (lcells u A7 l.length c7).toArray 96))
              have HK8 := HK7.alloc (.cells (lcells u A7 l.length c7).toArray 96)
              clear H7 S7 hown7 hp7 HK7 hk8
              go_simp
              refine hK.out _ _ HRG7 (fun hHeld => ?_)
              clear hK K
              try simp only [List.getElem_toArray, List.getElem_cons_succ, List.getElem_cons_zero, Act.put, List.setIfInBounds_toArray, List.set_cons_zero, List.set_cons_succ]
              refine' wpAnyH_take (i := 6) (v := _) rfl (by kernel_rfl) (by kernel_rfl) (by kernel_rfl) (fun _ _ _ h => h) (yields_let (by rfl) (.tmp 64) (.tmp 67) (by rfl) u A7 l.length c7 HU.out (by rfl) (by rfl)) (by assumption) ?rq6
              try simp only [List.getElem_toArray, List.getElem_cons_succ, List.getElem_cons_zero, Act.put, List.setIfInBounds_toArray, List.set_cons_zero, List.set_cons_succ]
              refine wpAnyH_ready (rs := [7]) (by kernel_rfl) (by simp) ?_
              refine AllReadyH.cons rfl (fun K hK => ?_) AllReadyH.nil
              refine step_lit (by rfl) (.tmp 68) (by rfl) u A7 l.length c7 HU.out (by rfl) ?_
              refine hK.out _ _ HRG8 (fun hHeld => ?_)
              clear hK K
              try simp only [List.getElem_toArray, List.getElem_cons_succ, List.getElem_cons_zero, Act.put, List.setIfInBounds_toArray, List.set_cons_zero, List.set_cons_succ]
              refine wpAnyH_ready (rs := [8]) (by kernel_rfl) (by simp) ?_
              refine AllReadyH.cons rfl (fun K hK => ?_) AllReadyH.nil
              refine step_let (by rfl) (.tmp 63) (.tmp 69) (by rfl) (w.heap.size + 3) (.slice Al j cl) j es (by rfl) HO8.out w7.heap.size ⟨u, A7, l.length, c7, l⟩ (by rfl) HLIT.out HNB.out (by have := SIT8.out.size; omega) ?_
              intro v9 w9 hown9 hg9
              obtain ⟨A9, c9, rfl, hr9⟩ := RowW.own hown9
              have SIT9 := Lib.hid (SIT8.out.grown hg9 (fun k hk => (HO8.out.lt k hk).1))
              have HT9 := Lib.hid (HT8.out.grown HO8.out (by decide) hg9)
              have HB9 := Lib.hid (fun e he => show e.to.length = 32 ∧ PBy w9 e.A e.n e.c e.l from ⟨(HB8.out e he).1, (HB8.out e he).2.grown HO8.out (by decide) hg9⟩)
              have HRG9 := HRG.out _ (HK8.grown hg9 (fun e => HKN.out _ HOD.out HOD.out e))
              have d9 : w9.cell? ⟨w.heap.size + 2, 3, none⟩ = some (.slice Al j cl) := SIT9.out.bat.cell 3
              have f9 := SIT9.out.bat.froz 3
              have HK9 := HK8.grown hg9 (fun e => HKN.out _ HOD.out HOD.out e)
              clear hr9 hg9
              refine hK.out _ _ HRG9 (fun hHeld => ?_)
              clear hK K
              try simp only [List.getElem_toArray, List.getElem_cons_succ, List.getElem_cons_zero, Act.put, List.setIfInBounds_toArray, List.set_cons_zero, List.set_cons_succ]
              refine wpAnyH_take (i := 9) (v := ?vq7) rfl (by kernel_rfl) (by kernel_rfl) (by kernel_rfl) (fun _ _ _ h => h) (Or.inl ⟨by rfl, ?yq7⟩) (by assumption) ?rq7
              case yq7 => (intro u hSu; (try dsimp only at hSu); go_simp; try with_reducible rfl)
              try simp only [List.getElem_toArray, List.getElem_cons_succ, List.getElem_cons_zero, Act.put, List.setIfInBounds_toArray, List.set_cons_zero, List.set_cons_succ]
              refine wpAnyH_ready (rs := [10]) (by kernel_rfl) (by simp) ?_
              refine AllReadyH.cons rfl (fun K hK => ?_) AllReadyH.nil
              go_simp
              refine hK.out _ _ (HRG.out _ (HK9.only (Only.setCell w9 (w.heap.size + 2) 3 (.slice A9 (j + 1) c9)) (by have := HGK.out; omega))) (fun hHeld => ?_)
              clear hK K
              try simp only [List.getElem_toArray, List.getElem_cons_succ, List.getElem_cons_zero, Act.put, List.setIfInBounds_toArray, List.set_cons_zero, List.set_cons_succ]
              refine wpAnyH_done (by kernel_rfl) ?_ _
              have SIT10 := Lib.hid (show Sit w (w9.setCell ⟨w.heap.size + 2, 3, none⟩ (.slice A9 (j + 1) c9)) A n c t2 (bcells r ch Ai ni ci A9 (j + 1) c9) from SIT9.out.set 3 _)
              have SS := Lib.hid (Only.setCell w9 (w.heap.size + 2) 3 (.slice A9 (j + 1) c9)).saved
              have HO10 := own_save hown9 SS.out (by omega)
              have HT10 := Lib.hid (HT9.out.save SIT9.out.bat (by decide) SS.out)
              have HB10 := Lib.hid (fun e he => show e.to.length = 32 ∧ PBy (w9.setCell ⟨w.heap.size + 2, 3, none⟩ (.slice A9 (j + 1) c9)) e.A e.n e.c e.l from ⟨(HB9.out e he).1, (HB9.out e he).2.save SIT9.out.bat (by decide) SS.out⟩)
              clear hown9 d7 d8 d9 f9 HO7 HO8 HLIT SIT7 SIT8 SIT9 HT7 HT8 HT9 HB7 HB8 HB9 HRG7 HRG8 HRG9 HK8 HK9 SS
              have hm1000 := HBD.out.2.1
              go_wp2_with fail
              go_roundw
              case rel => exact ⟨j + 1, t2, es ++ [⟨u, A7, l.length, c7, l⟩], A9, c9, by omega, by go_num, HO10, SIT10, HT10, Lib.hid (by rw [HP.out, HST.out]; simp [Let.data]), HB10, Lib.hid (by simp [HL.out]), Lib.hid HX.out⟩
              case measure => simp [intOf]; omega
            · go_simp
              go_at_call 58
              refine (KT.out).mono ?_
              rintro e w7 ⟨v7, rfl, hown7, H7, S7⟩
              obtain ⟨A7, c7, rfl, hp7⟩ := PBy.own hown7
              have SIT7 := Lib.hid (SITD.out.call H7 S7)
              have HT7 := Lib.hid (HTD.out.save SITD.out.rd (by decide) S7)
              have HO7 := Lib.hid (own_save HOD.out S7 (by omega))
              have HK7 := HKD.out.save S7 (by have := HGK.out; omega)
              have HB7 := Lib.hid (fun e he => show e.to.length = 32 ∧ PBy w7 e.A e.n e.c e.l from ⟨(HBD2.out e he).1, (HBD2.out e he).2.save SITD.out.rd (by decide) S7⟩)
              have hk8 := (Below.refl w7.heap.size w7).alloc (Nat.le_refl _) (.cells (lcells u A7 l.length c7).toArray 96)
              have SIT8 := Lib.hid (SIT7.out.alloc (.cells (lcells u A7 l.length c7).toArray 96))
              have HT8 := Lib.hid (HT7.out.keep hk8)
              have HO8 := Lib.hid (HO7.out.alloc (.cells (lcells u A7 l.length c7).toArray 96))
              have HLIT := Lib.hid (litW w7 96 33 (lcells u A7 l.length c7) (by rw [lcells, List.length_append, List.length_map, HU.out]; rfl))
              have HB8 := Lib.hid (show ∀ e ∈ es ++ [⟨u, A7, l.length, c7, l⟩], e.to.length = 32 ∧ PBy (w7.alloc (.cells (lcells u A7 l.length c7).toArray 96)) e.A e.n e.c e.l from fun e he => by
                rcases List.mem_append.1 he with h | h
                · exact ⟨(HB7.out e h).1, (HB7.out e h).2.keep hk8⟩
                · obtain rfl := List.mem_singleton.1 h
                  exact ⟨HU.out, hp7.keep hk8⟩)
              have d7 : w7.cell? ⟨w.heap.size + 2, 3, none⟩ = some (.slice Al j cl) := SIT7.out.bat.cell 3
              have d8 : (w7.alloc (.cells (lcells u A7 l.length c7).toArray 96)).cell? ⟨w.heap.size + 2, 3, none⟩ = some (.slice Al j cl) := SIT8.out.bat.cell 3
              have HRG7 := HRG.out _ HK7
              have HRG8 := HRG.out _ (HK7.alloc (.cells (lcells u A7 l.length c7).toArray 96))
              have HK8 := HK7.alloc (.cells (lcells u A7 l.length c7).toArray 96)
              clear H7 S7 hown7 hp7 HK7 hk8
              go_simp
              refine hK.out _ _ HRG7 (fun hHeld => ?_)
              clear hK K
              try simp only [List.getElem_toArray, List.getElem_cons_succ, List.getElem_cons_zero, Act.put, List.setIfInBounds_toArray, List.set_cons_zero, List.set_cons_succ]
              refine' wpAnyH_take (i := 6) (v := _) rfl (by kernel_rfl) (by kernel_rfl) (by kernel_rfl) (fun _ _ _ h => h) (yields_let (by rfl) (.tmp 64) (.tmp 67) (by rfl) u A7 l.length c7 HU.out (by rfl) (by rfl)) (by assumption) ?rq8
              try simp only [List.getElem_toArray, List.getElem_cons_succ, List.getElem_cons_zero, Act.put, List.setIfInBounds_toArray, List.set_cons_zero, List.set_cons_succ]
              refine wpAnyH_ready (rs := [1, 7]) (by kernel_rfl) (by simp) ?_
              refine AllReadyH.cons rfl (fun K hK => ?_) (AllReadyH.cons rfl (fun K hK => ?_) AllReadyH.nil)
              · go_simp
                refine hK.out _ _ HRG7 (fun hHeld => ?_)
                clear hK K
                try simp only [List.getElem_toArray, List.getElem_cons_succ, List.getElem_cons_zero, Act.put, List.setIfInBounds_toArray, List.set_cons_zero, List.set_cons_succ]
                refine wpAnyH_ready (rs := [7]) (by kernel_rfl) (by simp) ?_
                refine AllReadyH.cons rfl (fun K hK => ?_) AllReadyH.nil
                refine step_lit (by rfl) (.tmp 68) (by rfl) u A7 l.length c7 HU.out (by rfl) ?_
                refine hK.out _ _ HRG8 (fun hHeld => ?_)
                clear hK K
                try simp only [List.getElem_toArray, List.getElem_cons_succ, List.getElem_cons_zero, Act.put, List.setIfInBounds_toArray, List.set_cons_zero, List.set_cons_succ]
                refine wpAnyH_ready (rs := [8]) (by kernel_rfl) (by simp) ?_
                refine AllReadyH.cons rfl (fun K hK => ?_) AllReadyH.nil
                refine step_let (by rfl) (.tmp 63) (.tmp 69) (by rfl) (w.heap.size + 3) (.slice Al j cl) j es (by rfl) HO8.out w7.heap.size ⟨u, A7, l.length, c7, l⟩ (by rfl) HLIT.out HNB.out (by have := SIT8.out.size; omega) ?_
                intro v9 w9 hown9 hg9
                obtain ⟨A9, c9, rfl, hr9⟩ := RowW.own hown9
                have SIT9 := Lib.hid (SIT8.out.grown hg9 (fun k hk => (HO8.out.lt k hk).1))
                have HT9 := Lib.hid (HT8.out.grown HO8.out (by decide) hg9)
                have HB9 := Lib.hid (fun e he => show e.to.length = 32 ∧ PBy w9 e.A e.n e.c e.l from ⟨(HB8.out e he).1, (HB8.out e he).2.grown HO8.out (by decide) hg9⟩)
                have HRG9 := HRG.out _ (HK8.grown hg9 (fun e => HKN.out _ HOD.out HOD.out e))
                have d9 : w9.cell? ⟨w.heap.size + 2, 3, none⟩ = some (.slice Al j cl) := SIT9.out.bat.cell 3
                have f9 := SIT9.out.bat.froz 3
                have HK9 := HK8.grown hg9 (fun e => HKN.out _ HOD.out HOD.out e)
                clear hr9 hg9
                refine hK.out _ _ HRG9 (fun hHeld => ?_)
                clear hK K
                try simp only [List.getElem_toArray, List.getElem_cons_succ, List.getElem_cons_zero, Act.put, List.setIfInBounds_toArray, List.set_cons_zero, List.set_cons_succ]
                refine wpAnyH_take (i := 9) (v := ?vq9) rfl (by kernel_rfl) (by kernel_rfl) (by kernel_rfl) (fun _ _ _ h => h) (Or.inl ⟨by rfl, ?yq9⟩) (by assumption) ?rq9
                case yq9 => (intro u hSu; (try dsimp only at hSu); go_simp; try with_reducible rfl)
                try simp only [List.getElem_toArray, List.getElem_cons_succ, List.getElem_cons_zero, Act.put, List.setIfInBounds_toArray, List.set_cons_zero, List.set_cons_succ]
                refine wpAnyH_ready (rs := [10]) (by kernel_rfl) (by simp) ?_
                refine AllReadyH.cons rfl (fun K hK => ?_) AllReadyH.nil
                go_simp
                refine hK.out _ _ (HRG.out _ (HK9.only (Only.setCell w9 (w.heap.size + 2) 3 (.slice A9 (j + 1) c9)) (by have := HGK.out; omega))) (fun hHeld => ?_)
                clear hK K
                try simp only [List.getElem_toArray, List.getElem_cons_succ, List.getElem_cons_zero, Act.put, List.setIfInBounds_toArray, List.set_cons_zero, List.set_cons_succ]
                refine wpAnyH_done (by kernel_rfl) ?_ _
                have SIT10 := Lib.hid (show Sit w (w9.setCell ⟨w.heap.size + 2, 3, none⟩ (.slice A9 (j + 1) c9)) A n c t2 (bcells r ch Ai ni ci A9 (j + 1) c9) from SIT9.out.set 3 _)
                have SS := Lib.hid (Only.setCell w9 (w.heap.size + 2) 3 (.slice A9 (j + 1) c9)).saved
                have HO10 := own_save hown9 SS.out (by omega)
                have HT10 := Lib.hid (HT9.out.save SIT9.out.bat (by decide) SS.out)
                have HB10 := Lib.hid (fun e he => show e.to.length = 32 ∧ PBy (w9.setCell ⟨w.heap.size + 2, 3, none⟩ (.slice A9 (j + 1) c9)) e.A e.n e.c e.l from ⟨(HB9.out e he).1, (HB9.out e he).2.save SIT9.out.bat (by decide) SS.out⟩)
                clear hown9 d7 d8 d9 f9 HO7 HO8 HLIT SIT7 SIT8 SIT9 HT7 HT8 HT9 HB7 HB8 HB9 HRG7 HRG8 HRG9 HK8 HK9 SS
                have hm1000 := HBD.out.2.1
                go_wp2_with fail
                go_roundw
                case rel => exact ⟨j + 1, t2, es ++ [⟨u, A7, l.length, c7, l⟩], A9, c9, by omega, by go_num, HO10, SIT10, HT10, Lib.hid (by rw [HP.out, HST.out]; simp [Let.data]), HB10, Lib.hid (by simp [HL.out]), Lib.hid HX.out⟩
                case measure => simp [intOf]; omega
              · refine step_lit (by rfl) (.tmp 68) (by rfl) u A7 l.length c7 HU.out (by rfl) ?_
                refine hK.out _ _ HRG8 (fun hHeld => ?_)
                clear hK K
                try simp only [List.getElem_toArray, List.getElem_cons_succ, List.getElem_cons_zero, Act.put, List.setIfInBounds_toArray, List.set_cons_zero, List.set_cons_succ]
                refine wpAnyH_ready (rs := [1]) (by kernel_rfl) (by simp) ?_
                refine AllReadyH.cons rfl (fun K hK => ?_) AllReadyH.nil
                go_simp
                refine hK.out _ _ HRG8 (fun hHeld => ?_)
                clear hK K
                try simp only [List.getElem_toArray, List.getElem_cons_succ, List.getElem_cons_zero, Act.put, List.setIfInBounds_toArray, List.set_cons_zero, List.set_cons_succ]
                refine wpAnyH_ready (rs := [8]) (by kernel_rfl) (by simp) ?_
                refine AllReadyH.cons rfl (fun K hK => ?_) AllReadyH.nil
                refine step_let (by rfl) (.tmp 63) (.tmp 69) (by rfl) (w.heap.size + 3) (.slice Al j cl) j es (by rfl) HO8.out w7.heap.size ⟨u, A7, l.length, c7, l⟩ (by rfl) HLIT.out HNB.out (by have := SIT8.out.size; omega) ?_
                intro v9 w9 hown9 hg9
                obtain ⟨A9, c9, rfl, hr9⟩ := RowW.own hown9
                have SIT9 := Lib.hid (SIT8.out.grown hg9 (fun k hk => (HO8.out.lt k hk).1))
                have HT9 := Lib.hid (HT8.out.grown HO8.out (by decide) hg9)
                have HB9 := Lib.hid (fun e he => show e.to.length = 32 ∧ PBy w9 e.A e.n e.c e.l from ⟨(HB8.out e he).1, (HB8.out e he).2.grown HO8.out (by decide) hg9⟩)
                have HRG9 := HRG.out _ (HK8.grown hg9 (fun e => HKN.out _ HOD.out HOD.out e))
                have d9 : w9.cell? ⟨w.heap.size + 2, 3, none⟩ = some (.slice Al j cl) := SIT9.out.bat.cell 3
                have f9 := SIT9.out.bat.froz 3
                have HK9 := HK8.grown hg9 (fun e => HKN.out _ HOD.out HOD.out e)
                clear hr9 hg9
                refine hK.out _ _ HRG9 (fun hHeld => ?_)
                clear hK K
                try simp only [List.getElem_toArray, List.getElem_cons_succ, List.getElem_cons_zero, Act.put, List.setIfInBounds_toArray, List.set_cons_zero, List.set_cons_succ]
                refine wpAnyH_take (i := 9) (v := ?vq10) rfl (by kernel_rfl) (by kernel_rfl) (by kernel_rfl) (fun _ _ _ h => h) (Or.inl ⟨by rfl, ?yq10⟩) (by assumption) ?rq10
                case yq10 => (intro u hSu; (try dsimp only at hSu); go_simp; try with_reducible rfl)
                try simp only [List.getElem_toArray, List.getElem_cons_succ, List.getElem_cons_zero, Act.put, List.setIfInBounds_toArray, List.set_cons_zero, List.set_cons_succ]
                refine wpAnyH_ready (rs := [10]) (by kernel_rfl) (by simp) ?_
                refine AllReadyH.cons rfl (fun K hK => ?_) AllReadyH.nil
                go_simp
                refine hK.out _ _ (HRG.out _ (HK9.only (Only.setCell w9 (w.heap.size + 2) 3 (.slice A9 (j + 1) c9)) (by have := HGK.out; omega))) (fun hHeld => ?_)
                clear hK K
                try simp only [List.getElem_toArray, List.getElem_cons_succ, List.getElem_cons_zero, Act.put, List.setIfInBounds_toArray, List.set_cons_zero, List.set_cons_succ]
                refine wpAnyH_done (by kernel_rfl) ?_ _
                have SIT10 := Lib.hid (show Sit w (w9.setCell ⟨w.heap.size + 2, 3, none⟩ (.slice A9 (j + 1) c9)) A n c t2 (bcells r ch Ai ni ci A9 (j + 1) c9) from SIT9.out.set 3 _)
                have SS := Lib.hid (Only.setCell w9 (w.heap.size + 2) 3 (.slice A9 (j + 1) c9)).saved
                have HO10 := own_save hown9 SS.out (by omega)
                have HT10 := Lib.hid (HT9.out.save SIT9.out.bat (by decide) SS.out)
                have HB10 := Lib.hid (fun e he => show e.to.length = 32 ∧ PBy (w9.setCell ⟨w.heap.size + 2, 3, none⟩ (.slice A9 (j + 1) c9)) e.A e.n e.c e.l from ⟨(HB9.out e he).1, (HB9.out e he).2.save SIT9.out.bat (by decide) SS.out⟩)
                clear hown9 d7 d8 d9 f9 HO7 HO8 HLIT SIT7 SIT8 SIT9 HT7 HT8 HT9 HB7 HB8 HB9 HRG7 HRG8 HRG9 HK8 HK9 SS
                have hm1000 := HBD.out.2.1
                go_wp2_with fail
                go_roundw
                case rel => exact ⟨j + 1, t2, es ++ [⟨u, A7, l.length, c7, l⟩], A9, c9, by omega, by go_num, HO10, SIT10, HT10, Lib.hid (by rw [HP.out, HST.out]; simp [Let.data]), HB10, Lib.hid (by simp [HL.out]), Lib.hid HX.out⟩
                case measure => simp [intOf]; omega
          · have hstop : m - j = 0 ∨ s.e ≠ 0 := by
              by_cases h : j < m
              · exact .inr fun h0 => hgo ⟨h, h0⟩
              · exact .inl (by omega)
            have HE := Lib.hid (show letsS b z m s6 = (es.map Let.data, s) by
              have := HP.out
              rw [letsS_stop hstop] at this
              simpa using this)
            have HS7 := Lib.hid (show ls = es.map Let.data ∧ s7 = s by
              have h := H7.out
              rw [HE.out] at h
              exact ⟨(Prod.mk.inj h).1.symm, (Prod.mk.inj h).2.symm⟩)
            have HES := Lib.hid HS7.out.1
            have KE := Lib.hid (rdEnd' (w.heap.size + 1) A n c b s q (by rw [← HS7.out.2]; exact H8.out) HBL.out wr SITR.out.rd)
            obtain ⟨ee, hee⟩ : ∃ e, s.e = e := ⟨_, rfl⟩
            have d2 : wr.cell? ⟨w.heap.size + 1, 2, none⟩ = some (.int .i64 (ee : Int)) := by rw [← hee]; exact SITR.out.rd.c2
            by_cases hlt : j < m
            · have he : ee ≠ 0 := fun h0 => hgo ⟨hlt, hee.trans h0⟩
              have he1 : ((ee : Int) == 0) = false := by simp; exact he
              have hjn : (j : Int) < (m : Int) := by omega
              clear hgo hstop he hlt hee
              go_wp2_with fail
              refine (KE.out).mono ?_
              rintro e w8 ⟨rfl, S8⟩
              obtain ⟨HR8, HN8, b8⟩ := SITR.out.done S8
              have HT8 := Lib.hid (HTR.out.save SITR.out.rd (by decide) S8)
              have HB8 := Lib.hid (fun e he => show e.to.length = 32 ∧ PBy w8 e.A e.n e.c e.l from ⟨(HB.out e he).1, (HB.out e he).2.save SITR.out.rd (by decide) S8⟩)
              have hown8 := own_save hown S8 (by omega)
              obtain ⟨A9, c9, e9, hr9⟩ := RowW.own hown8
              cases e9
              have HRO := Lib.hid hown8
              have hlr := HR8.lt
              have hln := HN8.lt
              clear hown hown8 hr9 S8 KE HB HTR SITR
              by_cases hq : q = 0
              · subst hq
                have HS' := Lib.hid HSP.out
                clear HSP
                go_wp2_with (first
                  | ((with_reducible refine wpList_load_bat rfl (.tmp 5) rfl (w.heap.size + 2) rfl r ch Ai ni ci Al j cl HN8 ?_))
                  | ((with_reducible refine wpList_store_bat rfl (.tmp 2) (.tmp 78) rfl w.heap.size rfl r ch Ai ni ci Al j cl rfl (bcells 0 0 none 0 0 none 0 0) HR8 rfl ?_); intro wz oz Hz))
                have HOFF := Lib.hid oz
                exact ret_has_tmp Try.results28 _ rfl w.heap.size rfl 53 (bcells r ch Ai ni ci Al j cl) Hz _ Try.underlying53 rfl size_batch rfl ⟨⟨(r : Int), (ch : Int), inner, es.map Let.data⟩, Ai, ni, ci, Al, j, cl, es, 0, rfl, by rw [HS'.out, if_pos trivial, HES.out], ⟨(HT8.out.save HR8 (by decide) oz.saved).1, HIN.out⟩, ⟨own_rowW HRO.out oz (by omega), HL.out, fun e he => ⟨(HB8.out e he).1, ((HB8.out e he).2.save HR8 (by decide) oz.saved).1⟩⟩, rfl, HD.out, oz.below b8 (Nat.le_refl _)⟩
              · have h1 : ((q : Int) == 0) = false := by simp; exact hq
                have HS' := Lib.hid (show RR = (batZero, q) by rw [HSP.out, if_neg hq])
                have hbld : ∀ u, (Instr.build 53 #[]).run Try.prog u = .ok (.agg (bcells 0 0 none 0 0 none 0 0).toArray) u := fun u => run_build u _ #[] _ (by kernel_rfl)
                clear HSP hq
                go_wp2_with (first
                  | ((with_reducible refine wpList_store_bat rfl (.tmp 2) (.tmp 76) rfl w.heap.size rfl 0 0 none 0 0 none 0 0 rfl (bcells 0 0 none 0 0 none 0 0) HR8 rfl ?_); intro wz oz Hz))
                exact ret_has_tmp Try.results28 _ rfl w.heap.size rfl 53 (bcells 0 0 none 0 0 none 0 0) Hz _ Try.underlying53 rfl size_batch rfl ⟨batZero, none, 0, 0, none, 0, 0, [], q, rfl, HS'.out, ⟨Row.nil _, fun x hx => by cases hx⟩, ⟨RowW.nil _ _, rfl, fun e he => by cases he⟩, rfl, batZero_ok, oz.below b8 (Nat.le_refl _)⟩
            · have hjn : ¬ (j : Int) < (m : Int) := by omega
              clear hgo hstop hlt hee
              go_wp2_with fail
              refine (KE.out).mono ?_
              rintro e w8 ⟨rfl, S8⟩
              obtain ⟨HR8, HN8, b8⟩ := SITR.out.done S8
              have HT8 := Lib.hid (HTR.out.save SITR.out.rd (by decide) S8)
              have HB8 := Lib.hid (fun e he => show e.to.length = 32 ∧ PBy w8 e.A e.n e.c e.l from ⟨(HB.out e he).1, (HB.out e he).2.save SITR.out.rd (by decide) S8⟩)
              have hown8 := own_save hown S8 (by omega)
              obtain ⟨A9, c9, e9, hr9⟩ := RowW.own hown8
              cases e9
              have HRO := Lib.hid hown8
              have hlr := HR8.lt
              have hln := HN8.lt
              clear hown hown8 hr9 S8 KE HB HTR SITR
              by_cases hq : q = 0
              · subst hq
                have HS' := Lib.hid HSP.out
                clear HSP
                go_wp2_with (first
                  | ((with_reducible refine wpList_load_bat rfl (.tmp 5) rfl (w.heap.size + 2) rfl r ch Ai ni ci Al j cl HN8 ?_))
                  | ((with_reducible refine wpList_store_bat rfl (.tmp 2) (.tmp 78) rfl w.heap.size rfl r ch Ai ni ci Al j cl rfl (bcells 0 0 none 0 0 none 0 0) HR8 rfl ?_); intro wz oz Hz))
                have HOFF := Lib.hid oz
                exact ret_has_tmp Try.results28 _ rfl w.heap.size rfl 53 (bcells r ch Ai ni ci Al j cl) Hz _ Try.underlying53 rfl size_batch rfl ⟨⟨(r : Int), (ch : Int), inner, es.map Let.data⟩, Ai, ni, ci, Al, j, cl, es, 0, rfl, by rw [HS'.out, if_pos trivial, HES.out], ⟨(HT8.out.save HR8 (by decide) oz.saved).1, HIN.out⟩, ⟨own_rowW HRO.out oz (by omega), HL.out, fun e he => ⟨(HB8.out e he).1, ((HB8.out e he).2.save HR8 (by decide) oz.saved).1⟩⟩, rfl, HD.out, oz.below b8 (Nat.le_refl _)⟩
              · have h1 : ((q : Int) == 0) = false := by simp; exact hq
                have HS' := Lib.hid (show RR = (batZero, q) by rw [HSP.out, if_neg hq])
                have hbld : ∀ u, (Instr.build 53 #[]).run Try.prog u = .ok (.agg (bcells 0 0 none 0 0 none 0 0).toArray) u := fun u => run_build u _ #[] _ (by kernel_rfl)
                clear HSP hq
                go_wp2_with (first
                  | ((with_reducible refine wpList_store_bat rfl (.tmp 2) (.tmp 76) rfl w.heap.size rfl 0 0 none 0 0 none 0 0 rfl (bcells 0 0 none 0 0 none 0 0) HR8 rfl ?_); intro wz oz Hz))
                exact ret_has_tmp Try.results28 _ rfl w.heap.size rfl 53 (bcells 0 0 none 0 0 none 0 0) Hz _ Try.underlying53 rfl size_batch rfl ⟨batZero, none, 0, 0, none, 0, 0, [], q, rfl, HS'.out, ⟨Row.nil _, fun x hx => by cases hx⟩, ⟨RowW.nil _ _, rfl, fun e he => by cases he⟩, rfl, batZero_ok, oz.below b8 (Nat.le_refl _)⟩
      · have hjn : ¬ (j : Int) < (N : Int) := by omega
        clear hgo hstop hlt hee hown HP HL HOK hj
        go_wp2_with fail
        clear hjn
        subst hni
        refine (K5.out _ wr SITR.out).mono ?_
        rintro e wa ⟨rfl, Ha, Sa⟩
        have SITa := Lib.hid (SITR.out.call Ha Sa)
        have HTa := Lib.hid (HTR.out.save SITR.out.rd (by decide) Sa)
        clear SITR HTR Ha Sa K5 d2
        go_wp2_with fail
        refine (K6.out _ wa SITa.out).mono ?_
        rintro e wb ⟨rfl, Hb, Sb⟩
        have SITb := Lib.hid (SITa.out.call Hb Sb)
        have HTb := Lib.hid (HTa.out.save SITa.out.rd (by decide) Sb)
        clear SITa HTa Hb Sb K6
        go_wp2_with fail
        go_loopw [10] (fun i wr => ∃ (j : Nat) (s : St) (es : List Let) (Al : Option Addr) (cl : Nat), j ≤ m ∧ i = .int .i64 j ∧ wr.ownsRow (w.heap.size + 3) 96 33 (.slice Al j cl) j (es.flatMap Let.cells) ∧ Hid (Sit w wr A n c s (bcells r ch Ai ni ci Al j cl)) ∧ Hid (RowT 37 wr Ai ni ci (inner.map nv)) ∧ Hid (letsS b z m s6 = (es.map Let.data ++ (letsS b z (m - j) s).1, (letsS b z (m - j) s).2)) ∧ Hid (∀ e ∈ es, e.to.length = 32 ∧ PBy wr e.A e.n e.c e.l) ∧ Hid (es.length = j) ∧ Hid (s.ok b)) (fun i _ => m - (intOf i).toNat)
        case atStart => exact ⟨0, s6, [], none, 0, Nat.zero_le _, rfl, World.ownsRow_nil _ _ _ _, SITb, HTb, Lib.hid (by simp), Lib.hid (fun e he => by cases he), Lib.hid rfl, Lib.hid O6.out⟩
        case round =>
          clear SITb HTb
          obtain ⟨j, s, es, Al, cl, hj, rfl, hown, SITR, HTR, HP, HB, HL, HOK⟩ := hrel
          by_cases hgo : j < m ∧ s.e = 0
          · obtain ⟨hlt, he⟩ := hgo
            obtain ⟨p, e⟩ := s
            obtain rfl : e = 0 := he
            have hjn : (j : Int) < (m : Int) := by omega
            obtain ⟨u, t1, g1⟩ := two_of (keyS b ⟨p, 0⟩)
            obtain ⟨l, t2, g2⟩ := two_of (takeS b z t1)
            have ot1 : t1.ok b := by have := keyS_ok HOK.out; rw [g1] at this; exact this
            have ot2 : t2.ok b := by have := takeS_ok z ot1; rw [g2] at this; exact this
            have hu32 : u.length = 32 := by have := keyS_len b ⟨p, 0⟩; rw [g1] at this; exact this
            have HU := Lib.hid hu32
            have d2 : wr.cell? ⟨w.heap.size + 1, 2, none⟩ = some (.int .i64 0) := SITR.out.rd.c2
            have KK := Lib.hid (rdKey' (w.heap.size + 1) A n c b ⟨p, 0⟩ t1 u g1 HOK.out wr SITR.out.rd (HB0.out.keep SITR.out.below) HOO.out)
            have KT0 := Lib.hid (fun (w' : World) (H : Sit w w' A n c t1 (bcells r ch Ai ni ci Al j cl)) => rdTake' (w.heap.size + 1) A n c b t1 t2 z l g2 ot1 (by have := HBD.out; omega) w' H.rd (HB0.out.keep H.below) HOO.out)
            have HST := Lib.hid (show letsS b z (m - j) ⟨p, 0⟩ = ((u, l) :: (letsS b z (m - (j + 1)) t2).1, (letsS b z (m - (j + 1)) t2).2) by
              rw [show m - j = (m - (j + 1)) + 1 by omega]
              exact letsS_step rfl g1 g2)
            have HX := Lib.hid ot2
            have HNB := Lib.hid (show j ≤ 1048576 by have := HBD.out; omega)
            clear g1 g2 ot1 ot2 hu32
            go_wp2_with fail
            refine (KK.out).mono ?_
            rintro e w5 ⟨rfl, H5, S5⟩
            have SIT5 := Lib.hid (SITR.out.call H5 S5)
            have HT5 := Lib.hid (HTR.out.save SITR.out.rd (by decide) S5)
            have HO5 := Lib.hid (own_save hown S5 (by omega))
            have HB5 := Lib.hid (fun e he => show e.to.length = 32 ∧ PBy w5 e.A e.n e.c e.l from ⟨(HB.out e he).1, (HB.out e he).2.save SITR.out.rd (by decide) S5⟩)
            have HR4 := newKey w5
            clear KK H5 S5 hown HB HTR d2 SITR
            go_wp2_with ((with_reducible refine wpList_store_key rfl (.tmp 11) (.tmp 61) rfl w5.heap.size rfl u HU.out rfl zkey HR4 zkey_len ?_); intro w6 o6 HK6)
            have hb6 : Below w5.heap.size w5 w6 := o6.below (newKey_below (Below.refl w5.heap.size w5) (Nat.le_refl _)) (Nat.le_refl _)
            have hb7 : Below w5.heap.size w5 w6.drew := hb6.drew
            have SITD := Lib.hid (SIT5.out.on hb7)
            have HTD := Lib.hid (show RowT 37 w6.drew Ai ni ci (inner.map nv) from HT5.out.keep hb7)
            have HOD := Lib.hid (show w6.drew.ownsRow (w.heap.size + 3) 96 33 (.slice Al j cl) j (es.flatMap Let.cells) from own_below HO5.out hb7)
            have HBD2 := Lib.hid (fun e he => show e.to.length = 32 ∧ PBy w6.drew e.A e.n e.c e.l from ⟨(HB5.out e he).1, (HB5.out e he).2.keep hb7⟩)
            have HKD := Lib.hid (show Has w6.drew w5.heap.size 36 (u.map bv) from HK6)
            have HGK := Lib.hid (show w.heap.size + 3 ≤ w5.heap.size from SIT5.out.size)
            have HKN := Lib.hid (show ∀ (w' : World), w'.ownsRow (w.heap.size + 3) 96 33 (.slice Al j cl) j (es.flatMap Let.cells) → w'.ownsRow (w.heap.size + 3) 96 33 (.slice Al j cl) j (es.flatMap Let.cells) → some w5.heap.size ≠ (Value.slice Al j cl).ownBlock from fun w' _ _ e => by have := (HO5.out.lt _ e.symm).2; omega)
            have HRG := Lib.hid (fun (u' : World) (h : Has u' w5.heap.size 36 (u.map bv)) => Has.range h 0 (u.map bv) (by rw [List.drop_zero, List.take_length]))
            have HRG6 := HRG.out _ HKD.out
            have d3 : w6.drew.cell? ⟨w.heap.size + 2, 3, none⟩ = some (.slice Al j cl) := SITD.out.bat.cell 3
            have KT := Lib.hid (KT0.out w6.drew SITD.out)
            clear HR4 o6 hb6 hb7 HK6 HT5 HO5 HB5 SIT5 KT0
            refine wp_region_held_drew (S := fun w' => w'.rangeAt w5.heap.size 0 (u.map bv)) (by kernel_rfl) HRG6 (fun hHeld => ?_)
            refine wpAnyH_take (i := 0) (v := ?vq20) rfl (by kernel_rfl) (by kernel_rfl) (by kernel_rfl) (fun _ _ _ h => h) (Or.inl ⟨by rfl, ?yq20⟩) (by assumption) ?rq20
            case yq20 => (intro u hSu; (try dsimp only at hSu); go_simp; try with_reducible rfl)
            try simp only [List.getElem_toArray, List.getElem_cons_succ, List.getElem_cons_zero, Act.put, List.setIfInBounds_toArray, List.set_cons_zero, List.set_cons_succ]
            refine' wpAnyH_take (i := 2) (v := _) rfl (by kernel_rfl) (by kernel_rfl) (by kernel_rfl) (fun _ _ _ h => h) (yieldsIf_load_mid (by rfl) _ _ rfl _ _ rfl _ _ (fun _ h => h) Try.underlying36 rfl (by rw [List.length_map, HU.out]; exact size_key)) (by assumption) ?rq21
            try simp only [List.getElem_toArray, List.getElem_cons_succ, List.getElem_cons_zero, Act.put, List.setIfInBounds_toArray, List.set_cons_zero, List.set_cons_succ]
            refine wpAnyH_take (i := 3) (v := ?vq22) rfl (by kernel_rfl) (by kernel_rfl) (by kernel_rfl) (fun _ _ _ h => h) (Or.inl ⟨by rfl, ?yq22⟩) (by assumption) ?rq22
            case yq22 => (intro u hSu; (try dsimp only at hSu); go_simp; try with_reducible rfl)
            try simp only [List.getElem_toArray, List.getElem_cons_succ, List.getElem_cons_zero, Act.put, List.setIfInBounds_toArray, List.set_cons_zero, List.set_cons_succ]
            refine wpAnyH_take (i := 4) (v := ?vq23) rfl (by kernel_rfl) (by kernel_rfl) (by kernel_rfl) (fun _ _ _ h => h) (Or.inl ⟨by rfl, ?yq23⟩) (by assumption) ?rq23
            case yq23 => (intro u hSu; (try dsimp only at hSu); go_simp; try with_reducible rfl)
            try simp only [List.getElem_toArray, List.getElem_cons_succ, List.getElem_cons_zero, Act.put, List.setIfInBounds_toArray, List.set_cons_zero, List.set_cons_succ]
            refine wpAnyH_ready (rs := [1, 5]) (by kernel_rfl) (by simp) ?_
            refine AllReadyH.cons rfl (fun K hK => ?_) (AllReadyH.cons rfl (fun K hK => ?_) AllReadyH.nil)
            · go_simp
              refine hK.out _ _ HRG6 (fun hHeld => ?_)
              clear hK K
              try simp only [List.getElem_toArray, List.getElem_cons_succ, List.getElem_cons_zero, Act.put, List.setIfInBounds_toArray, List.set_cons_zero, List.set_cons_succ]
              refine wpAnyH_ready (rs := [5]) (by kernel_rfl) (by simp) ?_
              refine AllReadyH.cons rfl (fun K hK => ?_) AllReadyH.nil
              go_simp
              go_at_call 58
              refine (KT.out).mono ?_
              rintro e w7 ⟨v7, rfl, hown7, H7, S7⟩
              obtain ⟨A7, c7, rfl, hp7⟩ := PBy.own hown7
              have SIT7 := Lib.hid (SITD.out.call H7 S7)
              have HT7 := Lib.hid (HTD.out.save SITD.out.rd (by decide) S7)
              have HO7 := Lib.hid (own_save HOD.out S7 (by omega))
              have HK7 := HKD.out.save S7 (by have := HGK.out; omega)
              have HB7 := Lib.hid (fun e he => show e.to.length = 32 ∧ PBy w7 e.A e.n e.c e.l from ⟨(HBD2.out e he).1, (HBD2.out e he).2.save SITD.out.rd (by decide) S7⟩)
              have hk8 := (Below.refl w7.heap.size w7).alloc (Nat.le_refl _) (.cells (lcells u A7 l.length c7).toArray 96)
              have SIT8 := Lib.hid (SIT7.out.alloc (.cells (lcells u A7 l.length c7).toArray 96))
              have HT8 := Lib.hid (HT7.out.keep hk8)
              have HO8 := Lib.hid (HO7.out.alloc (.cells (lcells u A7 l.length c7).toArray 96))
              have HLIT := Lib.hid (litW w7 96 33 (lcells u A7 l.length c7) (by rw [lcells, List.length_append, List.length_map, HU.out]; rfl))
              have HB8 := Lib.hid (show ∀ e ∈ es ++ [⟨u, A7, l.length, c7, l⟩], e.to.length = 32 ∧ PBy (w7.alloc (.cells (lcells u A7 l.length c7).toArray 96)) e.A e.n e.c e.l from fun e he => by
                rcases List.mem_append.1 he with h | h
                · exact ⟨(HB7.out e h).1, (HB7.out e h).2.keep hk8⟩
                · obtain rfl := List.mem_singleton.1 h
                  exact ⟨HU.out, hp7.keep hk8⟩)
              have d7 : w7.cell? ⟨w.heap.size + 2, 3, none⟩ = some (.slice Al j cl) := SIT7.out.bat.cell 3
              have d8 : (w7.alloc (.cells (lcells u A7 l.length c7).toArray 96)).cell? ⟨w.heap.size + 2, 3, none⟩ = some (.slice Al j cl) := SIT8.out.bat.cell 3
              have HRG7 := HRG.out _ HK7
              have HRG8 := HRG.out _ (HK7.alloc (.cells (lcells u A7 l.length c7).toArray 96))
              have HK8 := HK7.alloc (.cells (lcells u A7 l.length c7).toArray 96)
              clear H7 S7 hown7 hp7 HK7 hk8
              go_simp
              refine hK.out _ _ HRG7 (fun hHeld => ?_)
              clear hK K
              try simp only [List.getElem_toArray, List.getElem_cons_succ, List.getElem_cons_zero, Act.put, List.setIfInBounds_toArray, List.set_cons_zero, List.set_cons_succ]
              refine' wpAnyH_take (i := 6) (v := _) rfl (by kernel_rfl) (by kernel_rfl) (by kernel_rfl) (fun _ _ _ h => h) (yields_let (by rfl) (.tmp 64) (.tmp 67) (by rfl) u A7 l.length c7 HU.out (by rfl) (by rfl)) (by assumption) ?rq15
              try simp only [List.getElem_toArray, List.getElem_cons_succ, List.getElem_cons_zero, Act.put, List.setIfInBounds_toArray, List.set_cons_zero, List.set_cons_succ]
              refine wpAnyH_ready (rs := [7]) (by kernel_rfl) (by simp) ?_
              refine AllReadyH.cons rfl (fun K hK => ?_) AllReadyH.nil
              refine step_lit (by rfl) (.tmp 68) (by rfl) u A7 l.length c7 HU.out (by rfl) ?_
              refine hK.out _ _ HRG8 (fun hHeld => ?_)
              clear hK K
              try simp only [List.getElem_toArray, List.getElem_cons_succ, List.getElem_cons_zero, Act.put, List.setIfInBounds_toArray, List.set_cons_zero, List.set_cons_succ]
              refine wpAnyH_ready (rs := [8]) (by kernel_rfl) (by simp) ?_
              refine AllReadyH.cons rfl (fun K hK => ?_) AllReadyH.nil
              refine step_let (by rfl) (.tmp 63) (.tmp 69) (by rfl) (w.heap.size + 3) (.slice Al j cl) j es (by rfl) HO8.out w7.heap.size ⟨u, A7, l.length, c7, l⟩ (by rfl) HLIT.out HNB.out (by have := SIT8.out.size; omega) ?_
              intro v9 w9 hown9 hg9
              obtain ⟨A9, c9, rfl, hr9⟩ := RowW.own hown9
              have SIT9 := Lib.hid (SIT8.out.grown hg9 (fun k hk => (HO8.out.lt k hk).1))
              have HT9 := Lib.hid (HT8.out.grown HO8.out (by decide) hg9)
              have HB9 := Lib.hid (fun e he => show e.to.length = 32 ∧ PBy w9 e.A e.n e.c e.l from ⟨(HB8.out e he).1, (HB8.out e he).2.grown HO8.out (by decide) hg9⟩)
              have HRG9 := HRG.out _ (HK8.grown hg9 (fun e => HKN.out _ HOD.out HOD.out e))
              have d9 : w9.cell? ⟨w.heap.size + 2, 3, none⟩ = some (.slice Al j cl) := SIT9.out.bat.cell 3
              have f9 := SIT9.out.bat.froz 3
              have HK9 := HK8.grown hg9 (fun e => HKN.out _ HOD.out HOD.out e)
              clear hr9 hg9
              refine hK.out _ _ HRG9 (fun hHeld => ?_)
              clear hK K
              try simp only [List.getElem_toArray, List.getElem_cons_succ, List.getElem_cons_zero, Act.put, List.setIfInBounds_toArray, List.set_cons_zero, List.set_cons_succ]
              refine wpAnyH_take (i := 9) (v := ?vq16) rfl (by kernel_rfl) (by kernel_rfl) (by kernel_rfl) (fun _ _ _ h => h) (Or.inl ⟨by rfl, ?yq16⟩) (by assumption) ?rq16
              case yq16 => (intro u hSu; (try dsimp only at hSu); go_simp; try with_reducible rfl)
              try simp only [List.getElem_toArray, List.getElem_cons_succ, List.getElem_cons_zero, Act.put, List.setIfInBounds_toArray, List.set_cons_zero, List.set_cons_succ]
              refine wpAnyH_ready (rs := [10]) (by kernel_rfl) (by simp) ?_
              refine AllReadyH.cons rfl (fun K hK => ?_) AllReadyH.nil
              go_simp
              refine hK.out _ _ (HRG.out _ (HK9.only (Only.setCell w9 (w.heap.size + 2) 3 (.slice A9 (j + 1) c9)) (by have := HGK.out; omega))) (fun hHeld => ?_)
              clear hK K
              try simp only [List.getElem_toArray, List.getElem_cons_succ, List.getElem_cons_zero, Act.put, List.setIfInBounds_toArray, List.set_cons_zero, List.set_cons_succ]
              refine wpAnyH_done (by kernel_rfl) ?_ _
              have SIT10 := Lib.hid (show Sit w (w9.setCell ⟨w.heap.size + 2, 3, none⟩ (.slice A9 (j + 1) c9)) A n c t2 (bcells r ch Ai ni ci A9 (j + 1) c9) from SIT9.out.set 3 _)
              have SS := Lib.hid (Only.setCell w9 (w.heap.size + 2) 3 (.slice A9 (j + 1) c9)).saved
              have HO10 := own_save hown9 SS.out (by omega)
              have HT10 := Lib.hid (HT9.out.save SIT9.out.bat (by decide) SS.out)
              have HB10 := Lib.hid (fun e he => show e.to.length = 32 ∧ PBy (w9.setCell ⟨w.heap.size + 2, 3, none⟩ (.slice A9 (j + 1) c9)) e.A e.n e.c e.l from ⟨(HB9.out e he).1, (HB9.out e he).2.save SIT9.out.bat (by decide) SS.out⟩)
              clear hown9 d7 d8 d9 f9 HO7 HO8 HLIT SIT7 SIT8 SIT9 HT7 HT8 HT9 HB7 HB8 HB9 HRG7 HRG8 HRG9 HK8 HK9 SS
              have hm1000 := HBD.out.2.1
              go_wp2_with fail
              go_roundw
              case rel => exact ⟨j + 1, t2, es ++ [⟨u, A7, l.length, c7, l⟩], A9, c9, by omega, by go_num, HO10, SIT10, HT10, Lib.hid (by rw [HP.out, HST.out]; simp [Let.data]), HB10, Lib.hid (by simp [HL.out]), Lib.hid HX.out⟩
              case measure => simp [intOf]; omega
            · go_simp
              go_at_call 58
              refine (KT.out).mono ?_
              rintro e w7 ⟨v7, rfl, hown7, H7, S7⟩
              obtain ⟨A7, c7, rfl, hp7⟩ := PBy.own hown7
              have SIT7 := Lib.hid (SITD.out.call H7 S7)
              have HT7 := Lib.hid (HTD.out.save SITD.out.rd (by decide) S7)
              have HO7 := Lib.hid (own_save HOD.out S7 (by omega))
              have HK7 := HKD.out.save S7 (by have := HGK.out; omega)
              have HB7 := Lib.hid (fun e he => show e.to.length = 32 ∧ PBy w7 e.A e.n e.c e.l from ⟨(HBD2.out e he).1, (HBD2.out e he).2.save SITD.out.rd (by decide) S7⟩)
              have hk8 := (Below.refl w7.heap.size w7).alloc (Nat.le_refl _) (.cells (lcells u A7 l.length c7).toArray 96)
              have SIT8 := Lib.hid (SIT7.out.alloc (.cells (lcells u A7 l.length c7).toArray 96))
              have HT8 := Lib.hid (HT7.out.keep hk8)
              have HO8 := Lib.hid (HO7.out.alloc (.cells (lcells u A7 l.length c7).toArray 96))
              have HLIT := Lib.hid (litW w7 96 33 (lcells u A7 l.length c7) (by rw [lcells, List.length_append, List.length_map, HU.out]; rfl))
              have HB8 := Lib.hid (show ∀ e ∈ es ++ [⟨u, A7, l.length, c7, l⟩], e.to.length = 32 ∧ PBy (w7.alloc (.cells (lcells u A7 l.length c7).toArray 96)) e.A e.n e.c e.l from fun e he => by
                rcases List.mem_append.1 he with h | h
                · exact ⟨(HB7.out e h).1, (HB7.out e h).2.keep hk8⟩
                · obtain rfl := List.mem_singleton.1 h
                  exact ⟨HU.out, hp7.keep hk8⟩)
              have d7 : w7.cell? ⟨w.heap.size + 2, 3, none⟩ = some (.slice Al j cl) := SIT7.out.bat.cell 3
              have d8 : (w7.alloc (.cells (lcells u A7 l.length c7).toArray 96)).cell? ⟨w.heap.size + 2, 3, none⟩ = some (.slice Al j cl) := SIT8.out.bat.cell 3
              have HRG7 := HRG.out _ HK7
              have HRG8 := HRG.out _ (HK7.alloc (.cells (lcells u A7 l.length c7).toArray 96))
              have HK8 := HK7.alloc (.cells (lcells u A7 l.length c7).toArray 96)
              clear H7 S7 hown7 hp7 HK7 hk8
              go_simp
              refine hK.out _ _ HRG7 (fun hHeld => ?_)
              clear hK K
              try simp only [List.getElem_toArray, List.getElem_cons_succ, List.getElem_cons_zero, Act.put, List.setIfInBounds_toArray, List.set_cons_zero, List.set_cons_succ]
              refine' wpAnyH_take (i := 6) (v := _) rfl (by kernel_rfl) (by kernel_rfl) (by kernel_rfl) (fun _ _ _ h => h) (yields_let (by rfl) (.tmp 64) (.tmp 67) (by rfl) u A7 l.length c7 HU.out (by rfl) (by rfl)) (by assumption) ?rq17
              try simp only [List.getElem_toArray, List.getElem_cons_succ, List.getElem_cons_zero, Act.put, List.setIfInBounds_toArray, List.set_cons_zero, List.set_cons_succ]
              refine wpAnyH_ready (rs := [1, 7]) (by kernel_rfl) (by simp) ?_
              refine AllReadyH.cons rfl (fun K hK => ?_) (AllReadyH.cons rfl (fun K hK => ?_) AllReadyH.nil)
              · go_simp
                refine hK.out _ _ HRG7 (fun hHeld => ?_)
                clear hK K
                try simp only [List.getElem_toArray, List.getElem_cons_succ, List.getElem_cons_zero, Act.put, List.setIfInBounds_toArray, List.set_cons_zero, List.set_cons_succ]
                refine wpAnyH_ready (rs := [7]) (by kernel_rfl) (by simp) ?_
                refine AllReadyH.cons rfl (fun K hK => ?_) AllReadyH.nil
                refine step_lit (by rfl) (.tmp 68) (by rfl) u A7 l.length c7 HU.out (by rfl) ?_
                refine hK.out _ _ HRG8 (fun hHeld => ?_)
                clear hK K
                try simp only [List.getElem_toArray, List.getElem_cons_succ, List.getElem_cons_zero, Act.put, List.setIfInBounds_toArray, List.set_cons_zero, List.set_cons_succ]
                refine wpAnyH_ready (rs := [8]) (by kernel_rfl) (by simp) ?_
                refine AllReadyH.cons rfl (fun K hK => ?_) AllReadyH.nil
                refine step_let (by rfl) (.tmp 63) (.tmp 69) (by rfl) (w.heap.size + 3) (.slice Al j cl) j es (by rfl) HO8.out w7.heap.size ⟨u, A7, l.length, c7, l⟩ (by rfl) HLIT.out HNB.out (by have := SIT8.out.size; omega) ?_
                intro v9 w9 hown9 hg9
                obtain ⟨A9, c9, rfl, hr9⟩ := RowW.own hown9
                have SIT9 := Lib.hid (SIT8.out.grown hg9 (fun k hk => (HO8.out.lt k hk).1))
                have HT9 := Lib.hid (HT8.out.grown HO8.out (by decide) hg9)
                have HB9 := Lib.hid (fun e he => show e.to.length = 32 ∧ PBy w9 e.A e.n e.c e.l from ⟨(HB8.out e he).1, (HB8.out e he).2.grown HO8.out (by decide) hg9⟩)
                have HRG9 := HRG.out _ (HK8.grown hg9 (fun e => HKN.out _ HOD.out HOD.out e))
                have d9 : w9.cell? ⟨w.heap.size + 2, 3, none⟩ = some (.slice Al j cl) := SIT9.out.bat.cell 3
                have f9 := SIT9.out.bat.froz 3
                have HK9 := HK8.grown hg9 (fun e => HKN.out _ HOD.out HOD.out e)
                clear hr9 hg9
                refine hK.out _ _ HRG9 (fun hHeld => ?_)
                clear hK K
                try simp only [List.getElem_toArray, List.getElem_cons_succ, List.getElem_cons_zero, Act.put, List.setIfInBounds_toArray, List.set_cons_zero, List.set_cons_succ]
                refine wpAnyH_take (i := 9) (v := ?vq18) rfl (by kernel_rfl) (by kernel_rfl) (by kernel_rfl) (fun _ _ _ h => h) (Or.inl ⟨by rfl, ?yq18⟩) (by assumption) ?rq18
                case yq18 => (intro u hSu; (try dsimp only at hSu); go_simp; try with_reducible rfl)
                try simp only [List.getElem_toArray, List.getElem_cons_succ, List.getElem_cons_zero, Act.put, List.setIfInBounds_toArray, List.set_cons_zero, List.set_cons_succ]
                refine wpAnyH_ready (rs := [10]) (by kernel_rfl) (by simp) ?_
                refine AllReadyH.cons rfl (fun K hK => ?_) AllReadyH.nil
                go_simp
                refine hK.out _ _ (HRG.out _ (HK9.only (Only.setCell w9 (w.heap.size + 2) 3 (.slice A9 (j + 1) c9)) (by have := HGK.out; omega))) (fun hHeld => ?_)
                clear hK K
                try simp only [List.getElem_toArray, List.getElem_cons_succ, List.getElem_cons_zero, Act.put, List.setIfInBounds_toArray, List.set_cons_zero, List.set_cons_succ]
                refine wpAnyH_done (by kernel_rfl) ?_ _
                have SIT10 := Lib.hid (show Sit w (w9.setCell ⟨w.heap.size + 2, 3, none⟩ (.slice A9 (j + 1) c9)) A n c t2 (bcells r ch Ai ni ci A9 (j + 1) c9) from SIT9.out.set 3 _)
                have SS := Lib.hid (Only.setCell w9 (w.heap.size + 2) 3 (.slice A9 (j + 1) c9)).saved
                have HO10 := own_save hown9 SS.out (by omega)
                have HT10 := Lib.hid (HT9.out.save SIT9.out.bat (by decide) SS.out)
                have HB10 := Lib.hid (fun e he => show e.to.length = 32 ∧ PBy (w9.setCell ⟨w.heap.size + 2, 3, none⟩ (.slice A9 (j + 1) c9)) e.A e.n e.c e.l from ⟨(HB9.out e he).1, (HB9.out e he).2.save SIT9.out.bat (by decide) SS.out⟩)
                clear hown9 d7 d8 d9 f9 HO7 HO8 HLIT SIT7 SIT8 SIT9 HT7 HT8 HT9 HB7 HB8 HB9 HRG7 HRG8 HRG9 HK8 HK9 SS
                have hm1000 := HBD.out.2.1
                go_wp2_with fail
                go_roundw
                case rel => exact ⟨j + 1, t2, es ++ [⟨u, A7, l.length, c7, l⟩], A9, c9, by omega, by go_num, HO10, SIT10, HT10, Lib.hid (by rw [HP.out, HST.out]; simp [Let.data]), HB10, Lib.hid (by simp [HL.out]), Lib.hid HX.out⟩
                case measure => simp [intOf]; omega
              · refine step_lit (by rfl) (.tmp 68) (by rfl) u A7 l.length c7 HU.out (by rfl) ?_
                refine hK.out _ _ HRG8 (fun hHeld => ?_)
                clear hK K
                try simp only [List.getElem_toArray, List.getElem_cons_succ, List.getElem_cons_zero, Act.put, List.setIfInBounds_toArray, List.set_cons_zero, List.set_cons_succ]
                refine wpAnyH_ready (rs := [1]) (by kernel_rfl) (by simp) ?_
                refine AllReadyH.cons rfl (fun K hK => ?_) AllReadyH.nil
                go_simp
                refine hK.out _ _ HRG8 (fun hHeld => ?_)
                clear hK K
                try simp only [List.getElem_toArray, List.getElem_cons_succ, List.getElem_cons_zero, Act.put, List.setIfInBounds_toArray, List.set_cons_zero, List.set_cons_succ]
                refine wpAnyH_ready (rs := [8]) (by kernel_rfl) (by simp) ?_
                refine AllReadyH.cons rfl (fun K hK => ?_) AllReadyH.nil
                refine step_let (by rfl) (.tmp 63) (.tmp 69) (by rfl) (w.heap.size + 3) (.slice Al j cl) j es (by rfl) HO8.out w7.heap.size ⟨u, A7, l.length, c7, l⟩ (by rfl) HLIT.out HNB.out (by have := SIT8.out.size; omega) ?_
                intro v9 w9 hown9 hg9
                obtain ⟨A9, c9, rfl, hr9⟩ := RowW.own hown9
                have SIT9 := Lib.hid (SIT8.out.grown hg9 (fun k hk => (HO8.out.lt k hk).1))
                have HT9 := Lib.hid (HT8.out.grown HO8.out (by decide) hg9)
                have HB9 := Lib.hid (fun e he => show e.to.length = 32 ∧ PBy w9 e.A e.n e.c e.l from ⟨(HB8.out e he).1, (HB8.out e he).2.grown HO8.out (by decide) hg9⟩)
                have HRG9 := HRG.out _ (HK8.grown hg9 (fun e => HKN.out _ HOD.out HOD.out e))
                have d9 : w9.cell? ⟨w.heap.size + 2, 3, none⟩ = some (.slice Al j cl) := SIT9.out.bat.cell 3
                have f9 := SIT9.out.bat.froz 3
                have HK9 := HK8.grown hg9 (fun e => HKN.out _ HOD.out HOD.out e)
                clear hr9 hg9
                refine hK.out _ _ HRG9 (fun hHeld => ?_)
                clear hK K
                try simp only [List.getElem_toArray, List.getElem_cons_succ, List.getElem_cons_zero, Act.put, List.setIfInBounds_toArray, List.set_cons_zero, List.set_cons_succ]
                refine wpAnyH_take (i := 9) (v := ?vq19) rfl (by kernel_rfl) (by kernel_rfl) (by kernel_rfl) (fun _ _ _ h => h) (Or.inl ⟨by rfl, ?yq19⟩) (by assumption) ?rq19
                case yq19 => (intro u hSu; (try dsimp only at hSu); go_simp; try with_reducible rfl)
                try simp only [List.getElem_toArray, List.getElem_cons_succ, List.getElem_cons_zero, Act.put, List.setIfInBounds_toArray, List.set_cons_zero, List.set_cons_succ]
                refine wpAnyH_ready (rs := [10]) (by kernel_rfl) (by simp) ?_
                refine AllReadyH.cons rfl (fun K hK => ?_) AllReadyH.nil
                go_simp
                refine hK.out _ _ (HRG.out _ (HK9.only (Only.setCell w9 (w.heap.size + 2) 3 (.slice A9 (j + 1) c9)) (by have := HGK.out; omega))) (fun hHeld => ?_)
                clear hK K
                try simp only [List.getElem_toArray, List.getElem_cons_succ, List.getElem_cons_zero, Act.put, List.setIfInBounds_toArray, List.set_cons_zero, List.set_cons_succ]
                refine wpAnyH_done (by kernel_rfl) ?_ _
                have SIT10 := Lib.hid (show Sit w (w9.setCell ⟨w.heap.size + 2, 3, none⟩ (.slice A9 (j + 1) c9)) A n c t2 (bcells r ch Ai ni ci A9 (j + 1) c9) from SIT9.out.set 3 _)
                have SS := Lib.hid (Only.setCell w9 (w.heap.size + 2) 3 (.slice A9 (j + 1) c9)).saved
                have HO10 := own_save hown9 SS.out (by omega)
                have HT10 := Lib.hid (HT9.out.save SIT9.out.bat (by decide) SS.out)
                have HB10 := Lib.hid (fun e he => show e.to.length = 32 ∧ PBy (w9.setCell ⟨w.heap.size + 2, 3, none⟩ (.slice A9 (j + 1) c9)) e.A e.n e.c e.l from ⟨(HB9.out e he).1, (HB9.out e he).2.save SIT9.out.bat (by decide) SS.out⟩)
                clear hown9 d7 d8 d9 f9 HO7 HO8 HLIT SIT7 SIT8 SIT9 HT7 HT8 HT9 HB7 HB8 HB9 HRG7 HRG8 HRG9 HK8 HK9 SS
                have hm1000 := HBD.out.2.1
                go_wp2_with fail
                go_roundw
                case rel => exact ⟨j + 1, t2, es ++ [⟨u, A7, l.length, c7, l⟩], A9, c9, by omega, by go_num, HO10, SIT10, HT10, Lib.hid (by rw [HP.out, HST.out]; simp [Let.data]), HB10, Lib.hid (by simp [HL.out]), Lib.hid HX.out⟩
                case measure => simp [intOf]; omega
          · have hstop : m - j = 0 ∨ s.e ≠ 0 := by
              by_cases h : j < m
              · exact .inr fun h0 => hgo ⟨h, h0⟩
              · exact .inl (by omega)
            have HE := Lib.hid (show letsS b z m s6 = (es.map Let.data, s) by
              have := HP.out
              rw [letsS_stop hstop] at this
              simpa using this)
            have HS7 := Lib.hid (show ls = es.map Let.data ∧ s7 = s by
              have h := H7.out
              rw [HE.out] at h
              exact ⟨(Prod.mk.inj h).1.symm, (Prod.mk.inj h).2.symm⟩)
            have HES := Lib.hid HS7.out.1
            have KE := Lib.hid (rdEnd' (w.heap.size + 1) A n c b s q (by rw [← HS7.out.2]; exact H8.out) HBL.out wr SITR.out.rd)
            obtain ⟨ee, hee⟩ : ∃ e, s.e = e := ⟨_, rfl⟩
            have d2 : wr.cell? ⟨w.heap.size + 1, 2, none⟩ = some (.int .i64 (ee : Int)) := by rw [← hee]; exact SITR.out.rd.c2
            by_cases hlt : j < m
            · have he : ee ≠ 0 := fun h0 => hgo ⟨hlt, hee.trans h0⟩
              have he1 : ((ee : Int) == 0) = false := by simp; exact he
              have hjn : (j : Int) < (m : Int) := by omega
              clear hgo hstop he hlt hee
              go_wp2_with fail
              refine (KE.out).mono ?_
              rintro e w8 ⟨rfl, S8⟩
              obtain ⟨HR8, HN8, b8⟩ := SITR.out.done S8
              have HT8 := Lib.hid (HTR.out.save SITR.out.rd (by decide) S8)
              have HB8 := Lib.hid (fun e he => show e.to.length = 32 ∧ PBy w8 e.A e.n e.c e.l from ⟨(HB.out e he).1, (HB.out e he).2.save SITR.out.rd (by decide) S8⟩)
              have hown8 := own_save hown S8 (by omega)
              obtain ⟨A9, c9, e9, hr9⟩ := RowW.own hown8
              cases e9
              have HRO := Lib.hid hown8
              have hlr := HR8.lt
              have hln := HN8.lt
              clear hown hown8 hr9 S8 KE HB HTR SITR
              by_cases hq : q = 0
              · subst hq
                have HS' := Lib.hid HSP.out
                clear HSP
                go_wp2_with (first
                  | ((with_reducible refine wpList_load_bat rfl (.tmp 5) rfl (w.heap.size + 2) rfl r ch Ai ni ci Al j cl HN8 ?_))
                  | ((with_reducible refine wpList_store_bat rfl (.tmp 2) (.tmp 78) rfl w.heap.size rfl r ch Ai ni ci Al j cl rfl (bcells 0 0 none 0 0 none 0 0) HR8 rfl ?_); intro wz oz Hz))
                have HOFF := Lib.hid oz
                exact ret_has_tmp Try.results28 _ rfl w.heap.size rfl 53 (bcells r ch Ai ni ci Al j cl) Hz _ Try.underlying53 rfl size_batch rfl ⟨⟨(r : Int), (ch : Int), inner, es.map Let.data⟩, Ai, ni, ci, Al, j, cl, es, 0, rfl, by rw [HS'.out, if_pos trivial, HES.out], ⟨(HT8.out.save HR8 (by decide) oz.saved).1, HIN.out⟩, ⟨own_rowW HRO.out oz (by omega), HL.out, fun e he => ⟨(HB8.out e he).1, ((HB8.out e he).2.save HR8 (by decide) oz.saved).1⟩⟩, rfl, HD.out, oz.below b8 (Nat.le_refl _)⟩
              · have h1 : ((q : Int) == 0) = false := by simp; exact hq
                have HS' := Lib.hid (show RR = (batZero, q) by rw [HSP.out, if_neg hq])
                have hbld : ∀ u, (Instr.build 53 #[]).run Try.prog u = .ok (.agg (bcells 0 0 none 0 0 none 0 0).toArray) u := fun u => run_build u _ #[] _ (by kernel_rfl)
                clear HSP hq
                go_wp2_with (first
                  | ((with_reducible refine wpList_store_bat rfl (.tmp 2) (.tmp 76) rfl w.heap.size rfl 0 0 none 0 0 none 0 0 rfl (bcells 0 0 none 0 0 none 0 0) HR8 rfl ?_); intro wz oz Hz))
                exact ret_has_tmp Try.results28 _ rfl w.heap.size rfl 53 (bcells 0 0 none 0 0 none 0 0) Hz _ Try.underlying53 rfl size_batch rfl ⟨batZero, none, 0, 0, none, 0, 0, [], q, rfl, HS'.out, ⟨Row.nil _, fun x hx => by cases hx⟩, ⟨RowW.nil _ _, rfl, fun e he => by cases he⟩, rfl, batZero_ok, oz.below b8 (Nat.le_refl _)⟩
            · have hjn : ¬ (j : Int) < (m : Int) := by omega
              clear hgo hstop hlt hee
              go_wp2_with fail
              refine (KE.out).mono ?_
              rintro e w8 ⟨rfl, S8⟩
              obtain ⟨HR8, HN8, b8⟩ := SITR.out.done S8
              have HT8 := Lib.hid (HTR.out.save SITR.out.rd (by decide) S8)
              have HB8 := Lib.hid (fun e he => show e.to.length = 32 ∧ PBy w8 e.A e.n e.c e.l from ⟨(HB.out e he).1, (HB.out e he).2.save SITR.out.rd (by decide) S8⟩)
              have hown8 := own_save hown S8 (by omega)
              obtain ⟨A9, c9, e9, hr9⟩ := RowW.own hown8
              cases e9
              have HRO := Lib.hid hown8
              have hlr := HR8.lt
              have hln := HN8.lt
              clear hown hown8 hr9 S8 KE HB HTR SITR
              by_cases hq : q = 0
              · subst hq
                have HS' := Lib.hid HSP.out
                clear HSP
                go_wp2_with (first
                  | ((with_reducible refine wpList_load_bat rfl (.tmp 5) rfl (w.heap.size + 2) rfl r ch Ai ni ci Al j cl HN8 ?_))
                  | ((with_reducible refine wpList_store_bat rfl (.tmp 2) (.tmp 78) rfl w.heap.size rfl r ch Ai ni ci Al j cl rfl (bcells 0 0 none 0 0 none 0 0) HR8 rfl ?_); intro wz oz Hz))
                have HOFF := Lib.hid oz
                exact ret_has_tmp Try.results28 _ rfl w.heap.size rfl 53 (bcells r ch Ai ni ci Al j cl) Hz _ Try.underlying53 rfl size_batch rfl ⟨⟨(r : Int), (ch : Int), inner, es.map Let.data⟩, Ai, ni, ci, Al, j, cl, es, 0, rfl, by rw [HS'.out, if_pos trivial, HES.out], ⟨(HT8.out.save HR8 (by decide) oz.saved).1, HIN.out⟩, ⟨own_rowW HRO.out oz (by omega), HL.out, fun e he => ⟨(HB8.out e he).1, ((HB8.out e he).2.save HR8 (by decide) oz.saved).1⟩⟩, rfl, HD.out, oz.below b8 (Nat.le_refl _)⟩
              · have h1 : ((q : Int) == 0) = false := by simp; exact hq
                have HS' := Lib.hid (show RR = (batZero, q) by rw [HSP.out, if_neg hq])
                have hbld : ∀ u, (Instr.build 53 #[]).run Try.prog u = .ok (.agg (bcells 0 0 none 0 0 none 0 0).toArray) u := fun u => run_build u _ #[] _ (by kernel_rfl)
                clear HSP hq
                go_wp2_with (first
                  | ((with_reducible refine wpList_store_bat rfl (.tmp 2) (.tmp 76) rfl w.heap.size rfl 0 0 none 0 0 none 0 0 rfl (bcells 0 0 none 0 0 none 0 0) HR8 rfl ?_); intro wz oz Hz))
                exact ret_has_tmp Try.results28 _ rfl w.heap.size rfl 53 (bcells 0 0 none 0 0 none 0 0) Hz _ Try.underlying53 rfl size_batch rfl ⟨batZero, none, 0, 0, none, 0, 0, [], q, rfl, HS'.out, ⟨Row.nil _, fun x hx => by cases hx⟩, ⟨RowW.nil _ _, rfl, fun e he => by cases he⟩, rfl, batZero_ok, oz.below b8 (Nat.le_refl _)⟩
end Go.Proofs.Ytiilgkajijnbcaa
