/-
  Contract of the reference's Stream.Word. (Written by gen_word.py.)
-/
import Derived.Test.YtjfipijdjbbogaaDoorStrm
import Derived.Test.YtjfipijdjbbogaaDoorRefHash
import Derived.Deep.RegionHeldLaw
import Derived.Laws.IdiomStrings
namespace Go.Proofs.YtjfipijdjbbogaaDoor
open Go.ChangeShapes Go.WideShapes Go.ChangeAt Go.RowKit
set_option linter.unusedVariables false
set_option linter.unusedSimpArgs false

set_option maxHeartbeats 16000000 in
set_option maxRecDepth 10000 in
theorem refWord' (g : Nat) (seed name : List UInt8) (i : Nat) (hi : i ≤ 4611686018427387904) (hs : seed.length = 32) (hn : name.length ≤ 1099511627776) (w : World) (H : StrmR w g seed name i) :
    Calls Tryd.prog 31 #[.pointer (some ⟨g, 0, none⟩)] w fun e w' => e = .returned (.int .u64 (wordB seed name i : Int)) ∧ StrmR w' g seed name (i + 1) ∧ Save g w w' := by
  obtain ⟨dig, hdig⟩ : ∃ d, digB seed name i = d := ⟨_, rfl⟩
  have hdl : dig.length = 32 := by rw [← hdig]; exact shaN_len _
  have HDL := Lib.hid hdl
  have HWB := Lib.hid (show wordB seed name i = be ((dig.drop (8 * (i % 4))).take 8) by rw [← hdig]; rfl)
  have HNM := Lib.hid (show name.length ≤ maxLen by unfold maxLen; omega)
  have HM := Lib.hid (show 0 + 32 ≤ 140737488355328 by omega)
  have KP := Lib.hid (fun (u : World) => refPut.put64 none 0 0 [] (i / 4) u (Row.nil u) (by omega) (by omega))
  have KR := Lib.hid (fun (Aa : Option Addr) (ca : Nat) (B : Option Addr) (cc : Nat) (Ap : Option Addr) (cp : Nat) (gp : Nat) (u : World) (h : PartsAt u (some ⟨gp, 0, none⟩) 3 3 [⟨Aa, 32, ca, seed⟩, ⟨B, name.length, cc, name⟩, ⟨Ap, 8, cp, be64 (i / 4)⟩]) => show Calls Tryd.prog 38 #[.slice (some ⟨gp, 0, none⟩) 3 3] u (fun e w' => e = .returned (.agg (dig.map bv).toArray) ∧ Below u.heap.size u w') from by
    have := refSha.Parts (some ⟨gp, 0, none⟩) 3 3 _ u h (by simp [partsN, be64_len, hs]; omega)
    rw [show shaN (partsN [⟨Aa, 32, ca, seed⟩, ⟨B, name.length, cc, name⟩, ⟨Ap, 8, cp, be64 (i / 4)⟩]) = dig by rw [← hdig, digB, hs]; simp [partsN]] at this
    exact this)
  simp only [Nat.zero_add, List.nil_append] at KP
  obtain ⟨W0, hW0⟩ : ∃ x : World, x = w.drew := ⟨_, rfl⟩
  have H0 : StrmR W0 g seed name i := by rw [hW0]; exact H
  have HC := Lib.hid (fun (u : World) (h : Below W0.heap.size W0 u) => show u.cell? ⟨g, 32, none⟩ = some (.string (str name)) ∧ u.cell? ⟨g, 33, none⟩ = some (.int .u64 (i : Int)) from
    ⟨(Has.cell (Has.keep (w := W0) H0 h (Has.lt H0)) 32).trans (strm_32 hs), (Has.cell (Has.keep (w := W0) H0 h (Has.lt H0)) 33).trans (strm_33 hs)⟩)
  have HSD := Lib.hid (fun (u : World) (h : Below W0.heap.size W0 u) => show Bytes u (some ⟨g, 0, none⟩) 32 32 seed from strm_seed (Has.keep (w := W0) H0 h (Has.lt H0)) hs)
  have HH0 := Lib.hid H0
  have hb0 := Below.refl W0.heap.size W0
  obtain ⟨q, hq⟩ : ∃ q, i / 4 = q := ⟨_, rfl⟩
  have hi4 : ((i : Int) / 4) = (q : Int) := by omega
  have hi4t : (Int.tdiv (i : Int) 4) = (q : Int) := by rw [Int.tdiv_eq_ediv_of_nonneg (by omega)]; exact hi4
  have hqw : IntKind.u64.wrap (q : Int) = (q : Int) := by rw [IntKind.wrap_u64]; omega
  rw [hq] at KP KR
  obtain ⟨r, hr⟩ : ∃ r, i % 4 = r := ⟨_, rfl⟩
  have hr4 : ((i : Int) % 4) = (r : Int) := by omega
  have hr4t : (Int.tmod (i : Int) 4) = (r : Int) := by rw [Int.tmod_eq_emod_of_nonneg (by omega)]; exact hr4
  have hrw : IntKind.u64.wrap (r : Int) = (r : Int) := by rw [IntKind.wrap_u64]; omega
  have hr8 : IntKind.u64.wrap (8 * (r : Int)) = 8 * (r : Int) := by rw [IntKind.wrap_u64]; omega
  have hr8' : IntKind.i64.wrap (8 * (r : Int)) = 8 * (r : Int) := by rw [IntKind.wrap_i64]; omega
  have hiw : IntKind.u64.wrap ((i : Int) + 1) = (i : Int) + 1 := by rw [IntKind.wrap_u64]; omega
  obtain ⟨x, hx⟩ : ∃ x, wordB seed name i = x := ⟨_, rfl⟩
  have HX := Lib.hid hx
  have HKG := Lib.hid (fun (u : World) (gk : Nat) (h : Has u gk 23 (dig.map bv)) => show Calls Tryd.prog 40 #[.slice (some ⟨gk, 0, none⟩) 32 32, .int .i64 (8 * (r : Int))] u (fun e w' => e = .returned (.tuple #[.int .u64 (x : Int), .int .i64 0]) ∧ u = w') from by
    have hb : Bytes u (some ⟨gk, 0, none⟩) 32 32 dig := h.bytes 32 hdl (by simp [maxLen])
    have := refGet.get64 (some ⟨gk, 0, none⟩) 32 32 dig (8 * (r : Int)) u hb
    have e1 : getV dig (8 * (r : Int)) 8 = (x : Int) := by
      unfold getV
      rw [if_neg (by omega), show (8 * (r : Int)).toNat = 8 * r by omega, ← hx, HWB.out, hr]
    have e2 : getE dig (8 * (r : Int)) 8 = 0 := by
      unfold getE
      rw [if_neg (by omega), if_neg (by omega)]
    rw [e1, e2] at this
    exact this)
  have HSL := Lib.hid hs
  have HSET := Lib.hid (fun (u : World) (h : StrmR u g seed name i) => show StrmR (u.setCell ⟨g, 33, none⟩ (.int .u64 ((i : Int) + 1))) g seed name (i + 1) from by
    unfold StrmR
    rw [← strm_set hs]
    exact Has.set h 33 _)
  clear hi H hs hn hdig hdl H0 hq hr hx
  go_enter Tryd.func31, Tryd.ntmps31
  go_wp2_with fail
  refine wp_region_held_drew (S := fun w' => w'.cell? ⟨g, 32, none⟩ = some (.string (str name)) ∧ w'.cell? ⟨g, 33, none⟩ = some (.int .u64 (i : Int))) (by kernel_rfl) (by rw [← hW0]; exact HC.out _ hb0) (fun hHeld => ?_)
  rw [← hW0] at hHeld ⊢
  have HW0 := Lib.hid (show Save g w W0 by rw [hW0]; exact (Save.refl g w).drew)
  clear hW0
  refine wpAnyH_take (i := 0) (v := ?vq1) rfl (by kernel_rfl) (by kernel_rfl) (by kernel_rfl) (fun _ _ _ h => h) (Or.inl ⟨by rfl, ?yq1⟩) (by assumption) ?rq1
  case yq1 => (intro u hSu; (try dsimp only at hSu); go_simp; try with_reducible rfl)
  try simp only [List.getElem_toArray, List.getElem_cons_succ, List.getElem_cons_zero, Act.put, List.setIfInBounds_toArray, List.set_cons_zero, List.set_cons_succ]
  refine wpAnyH_take (i := 1) (v := ?vq2) rfl (by kernel_rfl) (by kernel_rfl) (by kernel_rfl) (fun _ _ _ h => h) (Or.inl ⟨by rfl, ?yq2⟩) (by assumption) ?rq2
  case yq2 => (intro u hSu; (try dsimp only at hSu); go_simp; try with_reducible rfl)
  try simp only [List.getElem_toArray, List.getElem_cons_succ, List.getElem_cons_zero, Act.put, List.setIfInBounds_toArray, List.set_cons_zero, List.set_cons_succ]
  refine wpAnyH_take (i := 2) (v := ?vq3) rfl (by kernel_rfl) (by kernel_rfl) (by kernel_rfl) (fun _ _ _ h => h) (Or.inl ⟨by rfl, ?yq3⟩) (by assumption) ?rq3
  case yq3 => (intro u hSu; (try dsimp only at hSu); go_simp; try with_reducible rfl)
  try simp only [List.getElem_toArray, List.getElem_cons_succ, List.getElem_cons_zero, Act.put, List.setIfInBounds_toArray, List.set_cons_zero, List.set_cons_succ]
  refine wpAnyH_take (i := 3) (v := ?vq4) rfl (by kernel_rfl) (by kernel_rfl) (by kernel_rfl) (fun _ _ _ h => h) (Or.inl ⟨by rfl, ?yq4⟩) (by assumption) ?rq4
  case yq4 => (intro u hSu; (try dsimp only at hSu); go_simp; try with_reducible rfl)
  try simp only [List.getElem_toArray, List.getElem_cons_succ, List.getElem_cons_zero, Act.put, List.setIfInBounds_toArray, List.set_cons_zero, List.set_cons_succ]
  refine wpAnyH_take (i := 5) (v := ?vq5) rfl (by kernel_rfl) (by kernel_rfl) (by kernel_rfl) (fun _ _ _ h => h) (Or.inl ⟨by rfl, ?yq5⟩) (by assumption) ?rq5
  case yq5 => (intro u hSu; (try dsimp only at hSu); go_simp; try with_reducible rfl)
  try simp only [List.getElem_toArray, List.getElem_cons_succ, List.getElem_cons_zero, Act.put, List.setIfInBounds_toArray, List.set_cons_zero, List.set_cons_succ]
  refine wpAnyH_take (i := 6) (v := ?vq6) rfl (by kernel_rfl) (by kernel_rfl) (by kernel_rfl) (fun _ _ _ h => h) (Or.inl ⟨by rfl, ?yq6⟩) (by assumption) ?rq6
  case yq6 => (intro u hSu; (try dsimp only at hSu); go_simp; try with_reducible rfl)
  try simp only [List.getElem_toArray, List.getElem_cons_succ, List.getElem_cons_zero, Act.put, List.setIfInBounds_toArray, List.set_cons_zero, List.set_cons_succ]
  refine wpAnyH_take (i := 7) (v := ?vq7) rfl (by kernel_rfl) (by kernel_rfl) (by kernel_rfl) (fun _ _ _ h => h) (Or.inl ⟨by rfl, ?yq7⟩) (by assumption) ?rq7
  case yq7 => (intro u hSu; (try dsimp only at hSu); go_simp; try with_reducible rfl)
  try simp only [List.getElem_toArray, List.getElem_cons_succ, List.getElem_cons_zero, Act.put, List.setIfInBounds_toArray, List.set_cons_zero, List.set_cons_succ]
  refine wpAnyH_take (i := 8) (v := ?vq8) rfl (by kernel_rfl) (by kernel_rfl) (by kernel_rfl) (fun _ _ _ h => h) (Or.inl ⟨by rfl, ?yq8⟩) (by assumption) ?rq8
  case yq8 => (intro u hSu; (try dsimp only at hSu); go_simp; try with_reducible rfl)
  try simp only [List.getElem_toArray, List.getElem_cons_succ, List.getElem_cons_zero, Act.put, List.setIfInBounds_toArray, List.set_cons_zero, List.set_cons_succ]
  refine wpAnyH_take (i := 10) (v := ?vq9) rfl (by kernel_rfl) (by kernel_rfl) (by kernel_rfl) (fun _ _ _ h => h) (Or.inl ⟨by rfl, ?yq9⟩) (by assumption) ?rq9
  case yq9 => (intro u hSu; (try dsimp only at hSu); go_simp; try with_reducible rfl)
  try simp only [List.getElem_toArray, List.getElem_cons_succ, List.getElem_cons_zero, Act.put, List.setIfInBounds_toArray, List.set_cons_zero, List.set_cons_succ]
  refine wpAnyH_take (i := 11) (v := ?vq10) rfl (by kernel_rfl) (by kernel_rfl) (by kernel_rfl) (fun _ _ _ h => h) (Or.inl ⟨by rfl, ?yq10⟩) (by assumption) ?rq10
  case yq10 => (intro u hSu; (try dsimp only at hSu); go_simp; try with_reducible rfl)
  try simp only [List.getElem_toArray, List.getElem_cons_succ, List.getElem_cons_zero, Act.put, List.setIfInBounds_toArray, List.set_cons_zero, List.set_cons_succ]
  refine wpAnyH_take (i := 12) (v := ?vq11) rfl (by kernel_rfl) (by kernel_rfl) (by kernel_rfl) (fun _ _ _ h => h) (Or.inl ⟨by rfl, ?yq11⟩) (by assumption) ?rq11
  case yq11 => (intro u hSu; (try dsimp only at hSu); go_simp; try with_reducible rfl)
  try simp only [List.getElem_toArray, List.getElem_cons_succ, List.getElem_cons_zero, Act.put, List.setIfInBounds_toArray, List.set_cons_zero, List.set_cons_succ]
  refine wpAnyH_take (i := 13) (v := ?vq12) rfl (by kernel_rfl) (by kernel_rfl) (by kernel_rfl) (fun _ _ _ h => h) (Or.inl ⟨by rfl, ?yq12⟩) (by assumption) ?rq12
  case yq12 => (intro u hSu; (try dsimp only at hSu); go_simp; try with_reducible rfl)
  try simp only [List.getElem_toArray, List.getElem_cons_succ, List.getElem_cons_zero, Act.put, List.setIfInBounds_toArray, List.set_cons_zero, List.set_cons_succ]
  refine wpAnyH_take (i := 14) (v := ?vq13) rfl (by kernel_rfl) (by kernel_rfl) (by kernel_rfl) (fun _ _ _ h => h) (Or.inl ⟨by rfl, ?yq13⟩) (by assumption) ?rq13
  case yq13 => (intro u hSu; (try dsimp only at hSu); go_simp; try with_reducible rfl)
  try simp only [List.getElem_toArray, List.getElem_cons_succ, List.getElem_cons_zero, Act.put, List.setIfInBounds_toArray, List.set_cons_zero, List.set_cons_succ]
  refine wpAnyH_ready (rs := [4, 9, 18]) (by kernel_rfl) (by simp) ?_
  refine AllReadyH.cons rfl (fun K hK => ?_) (AllReadyH.cons rfl (fun K hK => ?_) (AllReadyH.cons rfl (fun K hK => ?_) AllReadyH.nil))
  · refine step_app8 (by rfl) (.const (.slice none 0 0)) (.tmp 9) (by rfl) W0.heap.size (.slice none 0 0) 0 [] (by rfl) (World.ownsRow_nil _ _ _ _) (some ⟨g, 0, none⟩) 32 32 seed (by rfl) (HSD.out _ hb0) HM.out (Nat.le_refl _) ?_
    intro va u14 howna hga
    obtain ⟨Aa, ca, rfl, Ra0⟩ := Row.own howna
    have hx14 : Below W0.heap.size W0 u14 := (Below.refl _ _).grown hga (Nat.le_refl _) (fun k hk => by cases hk)
    have Ra := Lib.hid (show Row u14 Aa 32 ca (seed.map bv) from Ra0)
    clear Ra0 howna hga
    have hb14 : Below W0.heap.size W0 u14 := hb0.trans (hx14.mono hb0.size)
    refine hK.out _ _ (HC.out _ hb14) (fun hHeld => ?_)
    clear hK K
    try simp only [List.getElem_toArray, List.getElem_cons_succ, List.getElem_cons_zero, Act.put, List.setIfInBounds_toArray, List.set_cons_zero, List.set_cons_succ]
    refine wpAnyH_ready (rs := [9, 15, 18]) (by kernel_rfl) (by simp) ?_
    refine AllReadyH.cons rfl (fun K hK => ?_) (AllReadyH.cons rfl (fun K hK => ?_) (AllReadyH.cons rfl (fun K hK => ?_) AllReadyH.nil))
    · obtain ⟨cc, u15, hconv, hpc, hx15⟩ := run_nameB name HNM.out u14
      go_simp
      have Ra := Lib.hid (Row.keep Ra.out hx15)
      have Rc := Lib.hid hpc
      obtain ⟨gc, hgc⟩ : ∃ x, u14.heap.size = x := ⟨_, rfl⟩
      rw [hgc] at Rc
      try rw [hgc]
      clear hconv hpc hgc
      have hb15 : Below W0.heap.size W0 u15 := hb14.trans (hx15.mono hb14.size)
      refine hK.out _ _ (HC.out _ hb15) (fun hHeld => ?_)
      clear hK K
      try simp only [List.getElem_toArray, List.getElem_cons_succ, List.getElem_cons_zero, Act.put, List.setIfInBounds_toArray, List.set_cons_zero, List.set_cons_succ]
      refine wpAnyH_ready (rs := [15, 18]) (by kernel_rfl) (by simp) ?_
      refine AllReadyH.cons rfl (fun K hK => ?_) (AllReadyH.cons rfl (fun K hK => ?_) AllReadyH.nil)
      · go_simp
        go_at_call 39
        with_reducible refine (KP.out u15).mono ?_
        rintro e u16 ⟨vp, rfl, hownp, hx16⟩
        obtain ⟨Ap, cp, rfl, Rp0⟩ := Row.own hownp
        have Ra := Lib.hid (Row.keep Ra.out hx16)
        have Rc := Lib.hid (Row.keep Rc.out hx16)
        have Rp := Lib.hid Rp0
        clear Rp0 hownp
        go_simp
        have hb16 : Below W0.heap.size W0 u16 := hb15.trans (hx16.mono hb15.size)
        refine hK.out _ _ (HC.out _ hb16) (fun hHeld => ?_)
        clear hK K
        try simp only [List.getElem_toArray, List.getElem_cons_succ, List.getElem_cons_zero, Act.put, List.setIfInBounds_toArray, List.set_cons_zero, List.set_cons_succ]
        refine wpAnyH_ready (rs := [16, 18]) (by kernel_rfl) (by simp) ?_
        refine AllReadyH.cons rfl (fun K hK => ?_) (AllReadyH.cons rfl (fun K hK => ?_) AllReadyH.nil)
        · go_simp
          have hx17 := (Below.refl u16.heap.size u16).alloc (Nat.le_refl _) (.cells #[.slice Aa 32 ca, .slice (some ⟨gc, 0, none⟩) name.length cc, .slice Ap 8 cp] 52)
          have Rb := Lib.hid (lit3 u16 Aa 32 ca seed (some ⟨gc, 0, none⟩) name.length cc name Ap 8 cp (be64 q) Ra.out Rc.out Rp.out)
          generalize (u16.alloc (.cells #[.slice Aa 32 ca, .slice (some ⟨gc, 0, none⟩) name.length cc, .slice Ap 8 cp] 52)) = u17 at *
          obtain ⟨gp, hgp⟩ : ∃ x, u16.heap.size = x := ⟨_, rfl⟩
          rw [hgp] at Rb
          try rw [hgp]
          clear Ra Rc Rp hgp
          have hb17 : Below W0.heap.size W0 u17 := hb16.trans (hx17.mono hb16.size)
          refine hK.out _ _ (HC.out _ hb17) (fun hHeld => ?_)
          clear hK K
          try simp only [List.getElem_toArray, List.getElem_cons_succ, List.getElem_cons_zero, Act.put, List.setIfInBounds_toArray, List.set_cons_zero, List.set_cons_succ]
          refine wpAnyH_ready (rs := [17, 18]) (by kernel_rfl) (by simp) ?_
          refine AllReadyH.cons rfl (fun K hK => ?_) (AllReadyH.cons rfl (fun K hK => ?_) AllReadyH.nil)
          · go_simp
            go_at_call 38
            with_reducible refine (KR.out _ _ _ _ _ _ _ _ Rb.out).mono ?_
            rintro e u18 ⟨rfl, hx18⟩
            clear Rb
            go_simp
            have hb18 : Below W0.heap.size W0 u18 := hb17.trans (hx18.mono hb17.size)
            refine hK.out _ _ (HC.out _ hb18) (fun hHeld => ?_)
            clear hK K
            try simp only [List.getElem_toArray, List.getElem_cons_succ, List.getElem_cons_zero, Act.put, List.setIfInBounds_toArray, List.set_cons_zero, List.set_cons_succ]
            refine wpAnyH_ready (rs := [18]) (by kernel_rfl) (by simp) ?_
            refine AllReadyH.cons rfl (fun K hK => ?_) AllReadyH.nil
            · go_simp
              have hx19 := (Below.refl u18.heap.size u18).alloc (Nat.le_refl _) (.cells #[.int .u8 0, .int .u8 0, .int .u8 0, .int .u8 0, .int .u8 0, .int .u8 0, .int .u8 0, .int .u8 0, .int .u8 0, .int .u8 0, .int .u8 0, .int .u8 0, .int .u8 0, .int .u8 0, .int .u8 0, .int .u8 0, .int .u8 0, .int .u8 0, .int .u8 0, .int .u8 0, .int .u8 0, .int .u8 0, .int .u8 0, .int .u8 0, .int .u8 0, .int .u8 0, .int .u8 0, .int .u8 0, .int .u8 0, .int .u8 0, .int .u8 0, .int .u8 0] 23)
              have Hk := Lib.hid (newKey u18)
              generalize (u18.alloc (.cells #[.int .u8 0, .int .u8 0, .int .u8 0, .int .u8 0, .int .u8 0, .int .u8 0, .int .u8 0, .int .u8 0, .int .u8 0, .int .u8 0, .int .u8 0, .int .u8 0, .int .u8 0, .int .u8 0, .int .u8 0, .int .u8 0, .int .u8 0, .int .u8 0, .int .u8 0, .int .u8 0, .int .u8 0, .int .u8 0, .int .u8 0, .int .u8 0, .int .u8 0, .int .u8 0, .int .u8 0, .int .u8 0, .int .u8 0, .int .u8 0, .int .u8 0, .int .u8 0] 23)) = u19 at *
              obtain ⟨gk, hgk⟩ : ∃ x, u18.heap.size = x := ⟨_, rfl⟩
              have HGK := Lib.hid (show W0.heap.size ≤ gk by rw [← hgk]; exact hb18.size)
              rw [hgk] at Hk
              try rw [hgk]
              clear hgk
              have hb19 : Below W0.heap.size W0 u19 := hb18.trans (hx19.mono hb18.size)
              refine hK.out _ _ (HC.out _ hb19) (fun hHeld => ?_)
              clear hK K
              try simp only [List.getElem_toArray, List.getElem_cons_succ, List.getElem_cons_zero, Act.put, List.setIfInBounds_toArray, List.set_cons_zero, List.set_cons_succ]
              refine wpAnyH_ready (rs := [19]) (by kernel_rfl) (by simp) ?_
              refine AllReadyH.cons rfl (fun K hK => ?_) AllReadyH.nil
              · refine step_store_has (by rfl) 23 (.tmp 3) (.tmp 23) (by rfl) gk (by rfl) (dig.map bv) (by rfl) 23 zkey Hk.out (by rw [List.length_map, HDL.out]; exact size_key) (by rw [List.length_map, HDL.out]; rfl) (one_bv dig) ?_
                intro u20 ok Hk2
                clear Hk
                have Hk := Lib.hid Hk2
                have OK := Lib.hid ok
                clear Hk2 ok
                have hb20 : Below W0.heap.size W0 u20 := OK.out.below hb19 HGK.out
                refine hK.out _ _ (HC.out _ hb20) (fun hHeld => ?_)
                clear hK K
                try simp only [List.getElem_toArray, List.getElem_cons_succ, List.getElem_cons_zero, Act.put, List.setIfInBounds_toArray, List.set_cons_zero, List.set_cons_succ]
                refine wpAnyH_done (by kernel_rfl) ?_ _
                have HS := Lib.hid (Has.keep (w := W0) HH0.out hb20 (Has.lt HH0.out))
                have c33 : u20.cell? ⟨g, 33, none⟩ = some (.int .u64 (i : Int)) := (HS.out.cell 33).trans (strm_33 HSL.out)
                have f33 := HS.out.froz 33
                have KG := Lib.hid (fun (k : Nat) => HKG.out (u20.drewN k) gk (show Has (u20.drewN k) gk 23 (dig.map bv) from Hk.out))
                have SV := Lib.hid (show Save g w u20 from HW0.out.trans (Save.of_below hb20))
                clear Hk
                go_wp2_with fail
                go_quiet (first | (go_at_call 40; with_reducible refine Calls.quiet_of_same ((KG.out _).mono fun _ _ h => ⟨h.1, h.2.symm⟩)))
                go_wp2_with fail
                go_ret
                exact ⟨ret_int (by rw [HX.out]), HSET.out _ HS.out, (SV.out.drewN _).trans (Only.setCell _ g 33 _).saved'⟩
          · go_simp
            have hx21 := (Below.refl u17.heap.size u17).alloc (Nat.le_refl _) (.cells #[.int .u8 0, .int .u8 0, .int .u8 0, .int .u8 0, .int .u8 0, .int .u8 0, .int .u8 0, .int .u8 0, .int .u8 0, .int .u8 0, .int .u8 0, .int .u8 0, .int .u8 0, .int .u8 0, .int .u8 0, .int .u8 0, .int .u8 0, .int .u8 0, .int .u8 0, .int .u8 0, .int .u8 0, .int .u8 0, .int .u8 0, .int .u8 0, .int .u8 0, .int .u8 0, .int .u8 0, .int .u8 0, .int .u8 0, .int .u8 0, .int .u8 0, .int .u8 0] 23)
            have Rb := Lib.hid (PartsAt.keep Rb.out hx21)
            have Hk := Lib.hid (newKey u17)
            generalize (u17.alloc (.cells #[.int .u8 0, .int .u8 0, .int .u8 0, .int .u8 0, .int .u8 0, .int .u8 0, .int .u8 0, .int .u8 0, .int .u8 0, .int .u8 0, .int .u8 0, .int .u8 0, .int .u8 0, .int .u8 0, .int .u8 0, .int .u8 0, .int .u8 0, .int .u8 0, .int .u8 0, .int .u8 0, .int .u8 0, .int .u8 0, .int .u8 0, .int .u8 0, .int .u8 0, .int .u8 0, .int .u8 0, .int .u8 0, .int .u8 0, .int .u8 0, .int .u8 0, .int .u8 0] 23)) = u21 at *
            obtain ⟨gk, hgk⟩ : ∃ x, u17.heap.size = x := ⟨_, rfl⟩
            have HGK := Lib.hid (show W0.heap.size ≤ gk by rw [← hgk]; exact hb17.size)
            rw [hgk] at Hk
            try rw [hgk]
            clear hgk
            have hb21 : Below W0.heap.size W0 u21 := hb17.trans (hx21.mono hb17.size)
            refine hK.out _ _ (HC.out _ hb21) (fun hHeld => ?_)
            clear hK K
            try simp only [List.getElem_toArray, List.getElem_cons_succ, List.getElem_cons_zero, Act.put, List.setIfInBounds_toArray, List.set_cons_zero, List.set_cons_succ]
            refine wpAnyH_ready (rs := [17]) (by kernel_rfl) (by simp) ?_
            refine AllReadyH.cons rfl (fun K hK => ?_) AllReadyH.nil
            · go_simp
              go_at_call 38
              with_reducible refine (KR.out _ _ _ _ _ _ _ _ Rb.out).mono ?_
              rintro e u22 ⟨rfl, hx22⟩
              have Hk := Lib.hid (Hk.out.keep hx22 Hk.out.lt)
              clear Rb
              go_simp
              have hb22 : Below W0.heap.size W0 u22 := hb21.trans (hx22.mono hb21.size)
              refine hK.out _ _ (HC.out _ hb22) (fun hHeld => ?_)
              clear hK K
              try simp only [List.getElem_toArray, List.getElem_cons_succ, List.getElem_cons_zero, Act.put, List.setIfInBounds_toArray, List.set_cons_zero, List.set_cons_succ]
              refine wpAnyH_ready (rs := [19]) (by kernel_rfl) (by simp) ?_
              refine AllReadyH.cons rfl (fun K hK => ?_) AllReadyH.nil
              · refine step_store_has (by rfl) 23 (.tmp 3) (.tmp 23) (by rfl) gk (by rfl) (dig.map bv) (by rfl) 23 zkey Hk.out (by rw [List.length_map, HDL.out]; exact size_key) (by rw [List.length_map, HDL.out]; rfl) (one_bv dig) ?_
                intro u23 ok Hk2
                clear Hk
                have Hk := Lib.hid Hk2
                have OK := Lib.hid ok
                clear Hk2 ok
                have hb23 : Below W0.heap.size W0 u23 := OK.out.below hb22 HGK.out
                refine hK.out _ _ (HC.out _ hb23) (fun hHeld => ?_)
                clear hK K
                try simp only [List.getElem_toArray, List.getElem_cons_succ, List.getElem_cons_zero, Act.put, List.setIfInBounds_toArray, List.set_cons_zero, List.set_cons_succ]
                refine wpAnyH_done (by kernel_rfl) ?_ _
                have HS := Lib.hid (Has.keep (w := W0) HH0.out hb23 (Has.lt HH0.out))
                have c33 : u23.cell? ⟨g, 33, none⟩ = some (.int .u64 (i : Int)) := (HS.out.cell 33).trans (strm_33 HSL.out)
                have f33 := HS.out.froz 33
                have KG := Lib.hid (fun (k : Nat) => HKG.out (u23.drewN k) gk (show Has (u23.drewN k) gk 23 (dig.map bv) from Hk.out))
                have SV := Lib.hid (show Save g w u23 from HW0.out.trans (Save.of_below hb23))
                clear Hk
                go_wp2_with fail
                go_quiet (first | (go_at_call 40; with_reducible refine Calls.quiet_of_same ((KG.out _).mono fun _ _ h => ⟨h.1, h.2.symm⟩)))
                go_wp2_with fail
                go_ret
                exact ⟨ret_int (by rw [HX.out]), HSET.out _ HS.out, (SV.out.drewN _).trans (Only.setCell _ g 33 _).saved'⟩
        · go_simp
          have hx24 := (Below.refl u16.heap.size u16).alloc (Nat.le_refl _) (.cells #[.int .u8 0, .int .u8 0, .int .u8 0, .int .u8 0, .int .u8 0, .int .u8 0, .int .u8 0, .int .u8 0, .int .u8 0, .int .u8 0, .int .u8 0, .int .u8 0, .int .u8 0, .int .u8 0, .int .u8 0, .int .u8 0, .int .u8 0, .int .u8 0, .int .u8 0, .int .u8 0, .int .u8 0, .int .u8 0, .int .u8 0, .int .u8 0, .int .u8 0, .int .u8 0, .int .u8 0, .int .u8 0, .int .u8 0, .int .u8 0, .int .u8 0, .int .u8 0] 23)
          have Ra := Lib.hid (Row.keep Ra.out hx24)
          have Rc := Lib.hid (Row.keep Rc.out hx24)
          have Rp := Lib.hid (Row.keep Rp.out hx24)
          have Hk := Lib.hid (newKey u16)
          generalize (u16.alloc (.cells #[.int .u8 0, .int .u8 0, .int .u8 0, .int .u8 0, .int .u8 0, .int .u8 0, .int .u8 0, .int .u8 0, .int .u8 0, .int .u8 0, .int .u8 0, .int .u8 0, .int .u8 0, .int .u8 0, .int .u8 0, .int .u8 0, .int .u8 0, .int .u8 0, .int .u8 0, .int .u8 0, .int .u8 0, .int .u8 0, .int .u8 0, .int .u8 0, .int .u8 0, .int .u8 0, .int .u8 0, .int .u8 0, .int .u8 0, .int .u8 0, .int .u8 0, .int .u8 0] 23)) = u24 at *
          obtain ⟨gk, hgk⟩ : ∃ x, u16.heap.size = x := ⟨_, rfl⟩
          have HGK := Lib.hid (show W0.heap.size ≤ gk by rw [← hgk]; exact hb16.size)
          rw [hgk] at Hk
          try rw [hgk]
          clear hgk
          have hb24 : Below W0.heap.size W0 u24 := hb16.trans (hx24.mono hb16.size)
          refine hK.out _ _ (HC.out _ hb24) (fun hHeld => ?_)
          clear hK K
          try simp only [List.getElem_toArray, List.getElem_cons_succ, List.getElem_cons_zero, Act.put, List.setIfInBounds_toArray, List.set_cons_zero, List.set_cons_succ]
          refine wpAnyH_ready (rs := [16]) (by kernel_rfl) (by simp) ?_
          refine AllReadyH.cons rfl (fun K hK => ?_) AllReadyH.nil
          · go_simp
            have hx25 := (Below.refl u24.heap.size u24).alloc (Nat.le_refl _) (.cells #[.slice Aa 32 ca, .slice (some ⟨gc, 0, none⟩) name.length cc, .slice Ap 8 cp] 52)
            have Hk := Lib.hid (Hk.out.keep hx25 Hk.out.lt)
            have Rb := Lib.hid (lit3 u24 Aa 32 ca seed (some ⟨gc, 0, none⟩) name.length cc name Ap 8 cp (be64 q) Ra.out Rc.out Rp.out)
            generalize (u24.alloc (.cells #[.slice Aa 32 ca, .slice (some ⟨gc, 0, none⟩) name.length cc, .slice Ap 8 cp] 52)) = u25 at *
            obtain ⟨gp, hgp⟩ : ∃ x, u24.heap.size = x := ⟨_, rfl⟩
            rw [hgp] at Rb
            try rw [hgp]
            clear Ra Rc Rp hgp
            have hb25 : Below W0.heap.size W0 u25 := hb24.trans (hx25.mono hb24.size)
            refine hK.out _ _ (HC.out _ hb25) (fun hHeld => ?_)
            clear hK K
            try simp only [List.getElem_toArray, List.getElem_cons_succ, List.getElem_cons_zero, Act.put, List.setIfInBounds_toArray, List.set_cons_zero, List.set_cons_succ]
            refine wpAnyH_ready (rs := [17]) (by kernel_rfl) (by simp) ?_
            refine AllReadyH.cons rfl (fun K hK => ?_) AllReadyH.nil
            · go_simp
              go_at_call 38
              with_reducible refine (KR.out _ _ _ _ _ _ _ _ Rb.out).mono ?_
              rintro e u26 ⟨rfl, hx26⟩
              have Hk := Lib.hid (Hk.out.keep hx26 Hk.out.lt)
              clear Rb
              go_simp
              have hb26 : Below W0.heap.size W0 u26 := hb25.trans (hx26.mono hb25.size)
              refine hK.out _ _ (HC.out _ hb26) (fun hHeld => ?_)
              clear hK K
              try simp only [List.getElem_toArray, List.getElem_cons_succ, List.getElem_cons_zero, Act.put, List.setIfInBounds_toArray, List.set_cons_zero, List.set_cons_succ]
              refine wpAnyH_ready (rs := [19]) (by kernel_rfl) (by simp) ?_
              refine AllReadyH.cons rfl (fun K hK => ?_) AllReadyH.nil
              · refine step_store_has (by rfl) 23 (.tmp 3) (.tmp 23) (by rfl) gk (by rfl) (dig.map bv) (by rfl) 23 zkey Hk.out (by rw [List.length_map, HDL.out]; exact size_key) (by rw [List.length_map, HDL.out]; rfl) (one_bv dig) ?_
                intro u27 ok Hk2
                clear Hk
                have Hk := Lib.hid Hk2
                have OK := Lib.hid ok
                clear Hk2 ok
                have hb27 : Below W0.heap.size W0 u27 := OK.out.below hb26 HGK.out
                refine hK.out _ _ (HC.out _ hb27) (fun hHeld => ?_)
                clear hK K
                try simp only [List.getElem_toArray, List.getElem_cons_succ, List.getElem_cons_zero, Act.put, List.setIfInBounds_toArray, List.set_cons_zero, List.set_cons_succ]
                refine wpAnyH_done (by kernel_rfl) ?_ _
                have HS := Lib.hid (Has.keep (w := W0) HH0.out hb27 (Has.lt HH0.out))
                have c33 : u27.cell? ⟨g, 33, none⟩ = some (.int .u64 (i : Int)) := (HS.out.cell 33).trans (strm_33 HSL.out)
                have f33 := HS.out.froz 33
                have KG := Lib.hid (fun (k : Nat) => HKG.out (u27.drewN k) gk (show Has (u27.drewN k) gk 23 (dig.map bv) from Hk.out))
                have SV := Lib.hid (show Save g w u27 from HW0.out.trans (Save.of_below hb27))
                clear Hk
                go_wp2_with fail
                go_quiet (first | (go_at_call 40; with_reducible refine Calls.quiet_of_same ((KG.out _).mono fun _ _ h => ⟨h.1, h.2.symm⟩)))
                go_wp2_with fail
                go_ret
                exact ⟨ret_int (by rw [HX.out]), HSET.out _ HS.out, (SV.out.drewN _).trans (Only.setCell _ g 33 _).saved'⟩
      · go_simp
        have hx28 := (Below.refl u15.heap.size u15).alloc (Nat.le_refl _) (.cells #[.int .u8 0, .int .u8 0, .int .u8 0, .int .u8 0, .int .u8 0, .int .u8 0, .int .u8 0, .int .u8 0, .int .u8 0, .int .u8 0, .int .u8 0, .int .u8 0, .int .u8 0, .int .u8 0, .int .u8 0, .int .u8 0, .int .u8 0, .int .u8 0, .int .u8 0, .int .u8 0, .int .u8 0, .int .u8 0, .int .u8 0, .int .u8 0, .int .u8 0, .int .u8 0, .int .u8 0, .int .u8 0, .int .u8 0, .int .u8 0, .int .u8 0, .int .u8 0] 23)
        have Ra := Lib.hid (Row.keep Ra.out hx28)
        have Rc := Lib.hid (Row.keep Rc.out hx28)
        have Hk := Lib.hid (newKey u15)
        generalize (u15.alloc (.cells #[.int .u8 0, .int .u8 0, .int .u8 0, .int .u8 0, .int .u8 0, .int .u8 0, .int .u8 0, .int .u8 0, .int .u8 0, .int .u8 0, .int .u8 0, .int .u8 0, .int .u8 0, .int .u8 0, .int .u8 0, .int .u8 0, .int .u8 0, .int .u8 0, .int .u8 0, .int .u8 0, .int .u8 0, .int .u8 0, .int .u8 0, .int .u8 0, .int .u8 0, .int .u8 0, .int .u8 0, .int .u8 0, .int .u8 0, .int .u8 0, .int .u8 0, .int .u8 0] 23)) = u28 at *
        obtain ⟨gk, hgk⟩ : ∃ x, u15.heap.size = x := ⟨_, rfl⟩
        have HGK := Lib.hid (show W0.heap.size ≤ gk by rw [← hgk]; exact hb15.size)
        rw [hgk] at Hk
        try rw [hgk]
        clear hgk
        have hb28 : Below W0.heap.size W0 u28 := hb15.trans (hx28.mono hb15.size)
        refine hK.out _ _ (HC.out _ hb28) (fun hHeld => ?_)
        clear hK K
        try simp only [List.getElem_toArray, List.getElem_cons_succ, List.getElem_cons_zero, Act.put, List.setIfInBounds_toArray, List.set_cons_zero, List.set_cons_succ]
        refine wpAnyH_ready (rs := [15]) (by kernel_rfl) (by simp) ?_
        refine AllReadyH.cons rfl (fun K hK => ?_) AllReadyH.nil
        · go_simp
          go_at_call 39
          with_reducible refine (KP.out u28).mono ?_
          rintro e u29 ⟨vp, rfl, hownp, hx29⟩
          obtain ⟨Ap, cp, rfl, Rp0⟩ := Row.own hownp
          have Ra := Lib.hid (Row.keep Ra.out hx29)
          have Rc := Lib.hid (Row.keep Rc.out hx29)
          have Hk := Lib.hid (Hk.out.keep hx29 Hk.out.lt)
          have Rp := Lib.hid Rp0
          clear Rp0 hownp
          go_simp
          have hb29 : Below W0.heap.size W0 u29 := hb28.trans (hx29.mono hb28.size)
          refine hK.out _ _ (HC.out _ hb29) (fun hHeld => ?_)
          clear hK K
          try simp only [List.getElem_toArray, List.getElem_cons_succ, List.getElem_cons_zero, Act.put, List.setIfInBounds_toArray, List.set_cons_zero, List.set_cons_succ]
          refine wpAnyH_ready (rs := [16]) (by kernel_rfl) (by simp) ?_
          refine AllReadyH.cons rfl (fun K hK => ?_) AllReadyH.nil
          · go_simp
            have hx30 := (Below.refl u29.heap.size u29).alloc (Nat.le_refl _) (.cells #[.slice Aa 32 ca, .slice (some ⟨gc, 0, none⟩) name.length cc, .slice Ap 8 cp] 52)
            have Hk := Lib.hid (Hk.out.keep hx30 Hk.out.lt)
            have Rb := Lib.hid (lit3 u29 Aa 32 ca seed (some ⟨gc, 0, none⟩) name.length cc name Ap 8 cp (be64 q) Ra.out Rc.out Rp.out)
            generalize (u29.alloc (.cells #[.slice Aa 32 ca, .slice (some ⟨gc, 0, none⟩) name.length cc, .slice Ap 8 cp] 52)) = u30 at *
            obtain ⟨gp, hgp⟩ : ∃ x, u29.heap.size = x := ⟨_, rfl⟩
            rw [hgp] at Rb
            try rw [hgp]
            clear Ra Rc Rp hgp
            have hb30 : Below W0.heap.size W0 u30 := hb29.trans (hx30.mono hb29.size)
            refine hK.out _ _ (HC.out _ hb30) (fun hHeld => ?_)
            clear hK K
            try simp only [List.getElem_toArray, List.getElem_cons_succ, List.getElem_cons_zero, Act.put, List.setIfInBounds_toArray, List.set_cons_zero, List.set_cons_succ]
            refine wpAnyH_ready (rs := [17]) (by kernel_rfl) (by simp) ?_
            refine AllReadyH.cons rfl (fun K hK => ?_) AllReadyH.nil
            · go_simp
              go_at_call 38
              with_reducible refine (KR.out _ _ _ _ _ _ _ _ Rb.out).mono ?_
              rintro e u31 ⟨rfl, hx31⟩
              have Hk := Lib.hid (Hk.out.keep hx31 Hk.out.lt)
              clear Rb
              go_simp
              have hb31 : Below W0.heap.size W0 u31 := hb30.trans (hx31.mono hb30.size)
              refine hK.out _ _ (HC.out _ hb31) (fun hHeld => ?_)
              clear hK K
              try simp only [List.getElem_toArray, List.getElem_cons_succ, List.getElem_cons_zero, Act.put, List.setIfInBounds_toArray, List.set_cons_zero, List.set_cons_succ]
              refine wpAnyH_ready (rs := [19]) (by kernel_rfl) (by simp) ?_
              refine AllReadyH.cons rfl (fun K hK => ?_) AllReadyH.nil
              · refine step_store_has (by rfl) 23 (.tmp 3) (.tmp 23) (by rfl) gk (by rfl) (dig.map bv) (by rfl) 23 zkey Hk.out (by rw [List.length_map, HDL.out]; exact size_key) (by rw [List.length_map, HDL.out]; rfl) (one_bv dig) ?_
                intro u32 ok Hk2
                clear Hk
                have Hk := Lib.hid Hk2
                have OK := Lib.hid ok
                clear Hk2 ok
                have hb32 : Below W0.heap.size W0 u32 := OK.out.below hb31 HGK.out
                refine hK.out _ _ (HC.out _ hb32) (fun hHeld => ?_)
                clear hK K
                try simp only [List.getElem_toArray, List.getElem_cons_succ, List.getElem_cons_zero, Act.put, List.setIfInBounds_toArray, List.set_cons_zero, List.set_cons_succ]
                refine wpAnyH_done (by kernel_rfl) ?_ _
                have HS := Lib.hid (Has.keep (w := W0) HH0.out hb32 (Has.lt HH0.out))
                have c33 : u32.cell? ⟨g, 33, none⟩ = some (.int .u64 (i : Int)) := (HS.out.cell 33).trans (strm_33 HSL.out)
                have f33 := HS.out.froz 33
                have KG := Lib.hid (fun (k : Nat) => HKG.out (u32.drewN k) gk (show Has (u32.drewN k) gk 23 (dig.map bv) from Hk.out))
                have SV := Lib.hid (show Save g w u32 from HW0.out.trans (Save.of_below hb32))
                clear Hk
                go_wp2_with fail
                go_quiet (first | (go_at_call 40; with_reducible refine Calls.quiet_of_same ((KG.out _).mono fun _ _ h => ⟨h.1, h.2.symm⟩)))
                go_wp2_with fail
                go_ret
                exact ⟨ret_int (by rw [HX.out]), HSET.out _ HS.out, (SV.out.drewN _).trans (Only.setCell _ g 33 _).saved'⟩
    · go_simp
      go_at_call 39
      with_reducible refine (KP.out u14).mono ?_
      rintro e u33 ⟨vp, rfl, hownp, hx33⟩
      obtain ⟨Ap, cp, rfl, Rp0⟩ := Row.own hownp
      have Ra := Lib.hid (Row.keep Ra.out hx33)
      have Rp := Lib.hid Rp0
      clear Rp0 hownp
      go_simp
      have hb33 : Below W0.heap.size W0 u33 := hb14.trans (hx33.mono hb14.size)
      refine hK.out _ _ (HC.out _ hb33) (fun hHeld => ?_)
      clear hK K
      try simp only [List.getElem_toArray, List.getElem_cons_succ, List.getElem_cons_zero, Act.put, List.setIfInBounds_toArray, List.set_cons_zero, List.set_cons_succ]
      refine wpAnyH_ready (rs := [9, 18]) (by kernel_rfl) (by simp) ?_
      refine AllReadyH.cons rfl (fun K hK => ?_) (AllReadyH.cons rfl (fun K hK => ?_) AllReadyH.nil)
      · obtain ⟨cc, u34, hconv, hpc, hx34⟩ := run_nameB name HNM.out u33
        go_simp
        have Ra := Lib.hid (Row.keep Ra.out hx34)
        have Rp := Lib.hid (Row.keep Rp.out hx34)
        have Rc := Lib.hid hpc
        obtain ⟨gc, hgc⟩ : ∃ x, u33.heap.size = x := ⟨_, rfl⟩
        rw [hgc] at Rc
        try rw [hgc]
        clear hconv hpc hgc
        have hb34 : Below W0.heap.size W0 u34 := hb33.trans (hx34.mono hb33.size)
        refine hK.out _ _ (HC.out _ hb34) (fun hHeld => ?_)
        clear hK K
        try simp only [List.getElem_toArray, List.getElem_cons_succ, List.getElem_cons_zero, Act.put, List.setIfInBounds_toArray, List.set_cons_zero, List.set_cons_succ]
        refine wpAnyH_ready (rs := [16, 18]) (by kernel_rfl) (by simp) ?_
        refine AllReadyH.cons rfl (fun K hK => ?_) (AllReadyH.cons rfl (fun K hK => ?_) AllReadyH.nil)
        · go_simp
          have hx35 := (Below.refl u34.heap.size u34).alloc (Nat.le_refl _) (.cells #[.slice Aa 32 ca, .slice (some ⟨gc, 0, none⟩) name.length cc, .slice Ap 8 cp] 52)
          have Rb := Lib.hid (lit3 u34 Aa 32 ca seed (some ⟨gc, 0, none⟩) name.length cc name Ap 8 cp (be64 q) Ra.out Rc.out Rp.out)
          generalize (u34.alloc (.cells #[.slice Aa 32 ca, .slice (some ⟨gc, 0, none⟩) name.length cc, .slice Ap 8 cp] 52)) = u35 at *
          obtain ⟨gp, hgp⟩ : ∃ x, u34.heap.size = x := ⟨_, rfl⟩
          rw [hgp] at Rb
          try rw [hgp]
          clear Ra Rc Rp hgp
          have hb35 : Below W0.heap.size W0 u35 := hb34.trans (hx35.mono hb34.size)
          refine hK.out _ _ (HC.out _ hb35) (fun hHeld => ?_)
          clear hK K
          try simp only [List.getElem_toArray, List.getElem_cons_succ, List.getElem_cons_zero, Act.put, List.setIfInBounds_toArray, List.set_cons_zero, List.set_cons_succ]
          refine wpAnyH_ready (rs := [17, 18]) (by kernel_rfl) (by simp) ?_
          refine AllReadyH.cons rfl (fun K hK => ?_) (AllReadyH.cons rfl (fun K hK => ?_) AllReadyH.nil)
          · go_simp
            go_at_call 38
            with_reducible refine (KR.out _ _ _ _ _ _ _ _ Rb.out).mono ?_
            rintro e u36 ⟨rfl, hx36⟩
            clear Rb
            go_simp
            have hb36 : Below W0.heap.size W0 u36 := hb35.trans (hx36.mono hb35.size)
            refine hK.out _ _ (HC.out _ hb36) (fun hHeld => ?_)
            clear hK K
            try simp only [List.getElem_toArray, List.getElem_cons_succ, List.getElem_cons_zero, Act.put, List.setIfInBounds_toArray, List.set_cons_zero, List.set_cons_succ]
            refine wpAnyH_ready (rs := [18]) (by kernel_rfl) (by simp) ?_
            refine AllReadyH.cons rfl (fun K hK => ?_) AllReadyH.nil
            · go_simp
              have hx37 := (Below.refl u36.heap.size u36).alloc (Nat.le_refl _) (.cells #[.int .u8 0, .int .u8 0, .int .u8 0, .int .u8 0, .int .u8 0, .int .u8 0, .int .u8 0, .int .u8 0, .int .u8 0, .int .u8 0, .int .u8 0, .int .u8 0, .int .u8 0, .int .u8 0, .int .u8 0, .int .u8 0, .int .u8 0, .int .u8 0, .int .u8 0, .int .u8 0, .int .u8 0, .int .u8 0, .int .u8 0, .int .u8 0, .int .u8 0, .int .u8 0, .int .u8 0, .int .u8 0, .int .u8 0, .int .u8 0, .int .u8 0, .int .u8 0] 23)
              have Hk := Lib.hid (newKey u36)
              generalize (u36.alloc (.cells #[.int .u8 0, .int .u8 0, .int .u8 0, .int .u8 0, .int .u8 0, .int .u8 0, .int .u8 0, .int .u8 0, .int .u8 0, .int .u8 0, .int .u8 0, .int .u8 0, .int .u8 0, .int .u8 0, .int .u8 0, .int .u8 0, .int .u8 0, .int .u8 0, .int .u8 0, .int .u8 0, .int .u8 0, .int .u8 0, .int .u8 0, .int .u8 0, .int .u8 0, .int .u8 0, .int .u8 0, .int .u8 0, .int .u8 0, .int .u8 0, .int .u8 0, .int .u8 0] 23)) = u37 at *
              obtain ⟨gk, hgk⟩ : ∃ x, u36.heap.size = x := ⟨_, rfl⟩
              have HGK := Lib.hid (show W0.heap.size ≤ gk by rw [← hgk]; exact hb36.size)
              rw [hgk] at Hk
              try rw [hgk]
              clear hgk
              have hb37 : Below W0.heap.size W0 u37 := hb36.trans (hx37.mono hb36.size)
              refine hK.out _ _ (HC.out _ hb37) (fun hHeld => ?_)
              clear hK K
              try simp only [List.getElem_toArray, List.getElem_cons_succ, List.getElem_cons_zero, Act.put, List.setIfInBounds_toArray, List.set_cons_zero, List.set_cons_succ]
              refine wpAnyH_ready (rs := [19]) (by kernel_rfl) (by simp) ?_
              refine AllReadyH.cons rfl (fun K hK => ?_) AllReadyH.nil
              · refine step_store_has (by rfl) 23 (.tmp 3) (.tmp 23) (by rfl) gk (by rfl) (dig.map bv) (by rfl) 23 zkey Hk.out (by rw [List.length_map, HDL.out]; exact size_key) (by rw [List.length_map, HDL.out]; rfl) (one_bv dig) ?_
                intro u38 ok Hk2
                clear Hk
                have Hk := Lib.hid Hk2
                have OK := Lib.hid ok
                clear Hk2 ok
                have hb38 : Below W0.heap.size W0 u38 := OK.out.below hb37 HGK.out
                refine hK.out _ _ (HC.out _ hb38) (fun hHeld => ?_)
                clear hK K
                try simp only [List.getElem_toArray, List.getElem_cons_succ, List.getElem_cons_zero, Act.put, List.setIfInBounds_toArray, List.set_cons_zero, List.set_cons_succ]
                refine wpAnyH_done (by kernel_rfl) ?_ _
                have HS := Lib.hid (Has.keep (w := W0) HH0.out hb38 (Has.lt HH0.out))
                have c33 : u38.cell? ⟨g, 33, none⟩ = some (.int .u64 (i : Int)) := (HS.out.cell 33).trans (strm_33 HSL.out)
                have f33 := HS.out.froz 33
                have KG := Lib.hid (fun (k : Nat) => HKG.out (u38.drewN k) gk (show Has (u38.drewN k) gk 23 (dig.map bv) from Hk.out))
                have SV := Lib.hid (show Save g w u38 from HW0.out.trans (Save.of_below hb38))
                clear Hk
                go_wp2_with fail
                go_quiet (first | (go_at_call 40; with_reducible refine Calls.quiet_of_same ((KG.out _).mono fun _ _ h => ⟨h.1, h.2.symm⟩)))
                go_wp2_with fail
                go_ret
                exact ⟨ret_int (by rw [HX.out]), HSET.out _ HS.out, (SV.out.drewN _).trans (Only.setCell _ g 33 _).saved'⟩
          · go_simp
            have hx39 := (Below.refl u35.heap.size u35).alloc (Nat.le_refl _) (.cells #[.int .u8 0, .int .u8 0, .int .u8 0, .int .u8 0, .int .u8 0, .int .u8 0, .int .u8 0, .int .u8 0, .int .u8 0, .int .u8 0, .int .u8 0, .int .u8 0, .int .u8 0, .int .u8 0, .int .u8 0, .int .u8 0, .int .u8 0, .int .u8 0, .int .u8 0, .int .u8 0, .int .u8 0, .int .u8 0, .int .u8 0, .int .u8 0, .int .u8 0, .int .u8 0, .int .u8 0, .int .u8 0, .int .u8 0, .int .u8 0, .int .u8 0, .int .u8 0] 23)
            have Rb := Lib.hid (PartsAt.keep Rb.out hx39)
            have Hk := Lib.hid (newKey u35)
            generalize (u35.alloc (.cells #[.int .u8 0, .int .u8 0, .int .u8 0, .int .u8 0, .int .u8 0, .int .u8 0, .int .u8 0, .int .u8 0, .int .u8 0, .int .u8 0, .int .u8 0, .int .u8 0, .int .u8 0, .int .u8 0, .int .u8 0, .int .u8 0, .int .u8 0, .int .u8 0, .int .u8 0, .int .u8 0, .int .u8 0, .int .u8 0, .int .u8 0, .int .u8 0, .int .u8 0, .int .u8 0, .int .u8 0, .int .u8 0, .int .u8 0, .int .u8 0, .int .u8 0, .int .u8 0] 23)) = u39 at *
            obtain ⟨gk, hgk⟩ : ∃ x, u35.heap.size = x := ⟨_, rfl⟩
            have HGK := Lib.hid (show W0.heap.size ≤ gk by rw [← hgk]; exact hb35.size)
            rw [hgk] at Hk
            try rw [hgk]
            clear hgk
            have hb39 : Below W0.heap.size W0 u39 := hb35.trans (hx39.mono hb35.size)
            refine hK.out _ _ (HC.out _ hb39) (fun hHeld => ?_)
            clear hK K
            try simp only [List.getElem_toArray, List.getElem_cons_succ, List.getElem_cons_zero, Act.put, List.setIfInBounds_toArray, List.set_cons_zero, List.set_cons_succ]
            refine wpAnyH_ready (rs := [17]) (by kernel_rfl) (by simp) ?_
            refine AllReadyH.cons rfl (fun K hK => ?_) AllReadyH.nil
            · go_simp
              go_at_call 38
              with_reducible refine (KR.out _ _ _ _ _ _ _ _ Rb.out).mono ?_
              rintro e u40 ⟨rfl, hx40⟩
              have Hk := Lib.hid (Hk.out.keep hx40 Hk.out.lt)
              clear Rb
              go_simp
              have hb40 : Below W0.heap.size W0 u40 := hb39.trans (hx40.mono hb39.size)
              refine hK.out _ _ (HC.out _ hb40) (fun hHeld => ?_)
              clear hK K
              try simp only [List.getElem_toArray, List.getElem_cons_succ, List.getElem_cons_zero, Act.put, List.setIfInBounds_toArray, List.set_cons_zero, List.set_cons_succ]
              refine wpAnyH_ready (rs := [19]) (by kernel_rfl) (by simp) ?_
              refine AllReadyH.cons rfl (fun K hK => ?_) AllReadyH.nil
              · refine step_store_has (by rfl) 23 (.tmp 3) (.tmp 23) (by rfl) gk (by rfl) (dig.map bv) (by rfl) 23 zkey Hk.out (by rw [List.length_map, HDL.out]; exact size_key) (by rw [List.length_map, HDL.out]; rfl) (one_bv dig) ?_
                intro u41 ok Hk2
                clear Hk
                have Hk := Lib.hid Hk2
                have OK := Lib.hid ok
                clear Hk2 ok
                have hb41 : Below W0.heap.size W0 u41 := OK.out.below hb40 HGK.out
                refine hK.out _ _ (HC.out _ hb41) (fun hHeld => ?_)
                clear hK K
                try simp only [List.getElem_toArray, List.getElem_cons_succ, List.getElem_cons_zero, Act.put, List.setIfInBounds_toArray, List.set_cons_zero, List.set_cons_succ]
                refine wpAnyH_done (by kernel_rfl) ?_ _
                have HS := Lib.hid (Has.keep (w := W0) HH0.out hb41 (Has.lt HH0.out))
                have c33 : u41.cell? ⟨g, 33, none⟩ = some (.int .u64 (i : Int)) := (HS.out.cell 33).trans (strm_33 HSL.out)
                have f33 := HS.out.froz 33
                have KG := Lib.hid (fun (k : Nat) => HKG.out (u41.drewN k) gk (show Has (u41.drewN k) gk 23 (dig.map bv) from Hk.out))
                have SV := Lib.hid (show Save g w u41 from HW0.out.trans (Save.of_below hb41))
                clear Hk
                go_wp2_with fail
                go_quiet (first | (go_at_call 40; with_reducible refine Calls.quiet_of_same ((KG.out _).mono fun _ _ h => ⟨h.1, h.2.symm⟩)))
                go_wp2_with fail
                go_ret
                exact ⟨ret_int (by rw [HX.out]), HSET.out _ HS.out, (SV.out.drewN _).trans (Only.setCell _ g 33 _).saved'⟩
        · go_simp
          have hx42 := (Below.refl u34.heap.size u34).alloc (Nat.le_refl _) (.cells #[.int .u8 0, .int .u8 0, .int .u8 0, .int .u8 0, .int .u8 0, .int .u8 0, .int .u8 0, .int .u8 0, .int .u8 0, .int .u8 0, .int .u8 0, .int .u8 0, .int .u8 0, .int .u8 0, .int .u8 0, .int .u8 0, .int .u8 0, .int .u8 0, .int .u8 0, .int .u8 0, .int .u8 0, .int .u8 0, .int .u8 0, .int .u8 0, .int .u8 0, .int .u8 0, .int .u8 0, .int .u8 0, .int .u8 0, .int .u8 0, .int .u8 0, .int .u8 0] 23)
          have Ra := Lib.hid (Row.keep Ra.out hx42)
          have Rc := Lib.hid (Row.keep Rc.out hx42)
          have Rp := Lib.hid (Row.keep Rp.out hx42)
          have Hk := Lib.hid (newKey u34)
          generalize (u34.alloc (.cells #[.int .u8 0, .int .u8 0, .int .u8 0, .int .u8 0, .int .u8 0, .int .u8 0, .int .u8 0, .int .u8 0, .int .u8 0, .int .u8 0, .int .u8 0, .int .u8 0, .int .u8 0, .int .u8 0, .int .u8 0, .int .u8 0, .int .u8 0, .int .u8 0, .int .u8 0, .int .u8 0, .int .u8 0, .int .u8 0, .int .u8 0, .int .u8 0, .int .u8 0, .int .u8 0, .int .u8 0, .int .u8 0, .int .u8 0, .int .u8 0, .int .u8 0, .int .u8 0] 23)) = u42 at *
          obtain ⟨gk, hgk⟩ : ∃ x, u34.heap.size = x := ⟨_, rfl⟩
          have HGK := Lib.hid (show W0.heap.size ≤ gk by rw [← hgk]; exact hb34.size)
          rw [hgk] at Hk
          try rw [hgk]
          clear hgk
          have hb42 : Below W0.heap.size W0 u42 := hb34.trans (hx42.mono hb34.size)
          refine hK.out _ _ (HC.out _ hb42) (fun hHeld => ?_)
          clear hK K
          try simp only [List.getElem_toArray, List.getElem_cons_succ, List.getElem_cons_zero, Act.put, List.setIfInBounds_toArray, List.set_cons_zero, List.set_cons_succ]
          refine wpAnyH_ready (rs := [16]) (by kernel_rfl) (by simp) ?_
          refine AllReadyH.cons rfl (fun K hK => ?_) AllReadyH.nil
          · go_simp
            have hx43 := (Below.refl u42.heap.size u42).alloc (Nat.le_refl _) (.cells #[.slice Aa 32 ca, .slice (some ⟨gc, 0, none⟩) name.length cc, .slice Ap 8 cp] 52)
            have Hk := Lib.hid (Hk.out.keep hx43 Hk.out.lt)
            have Rb := Lib.hid (lit3 u42 Aa 32 ca seed (some ⟨gc, 0, none⟩) name.length cc name Ap 8 cp (be64 q) Ra.out Rc.out Rp.out)
            generalize (u42.alloc (.cells #[.slice Aa 32 ca, .slice (some ⟨gc, 0, none⟩) name.length cc, .slice Ap 8 cp] 52)) = u43 at *
            obtain ⟨gp, hgp⟩ : ∃ x, u42.heap.size = x := ⟨_, rfl⟩
            rw [hgp] at Rb
            try rw [hgp]
            clear Ra Rc Rp hgp
            have hb43 : Below W0.heap.size W0 u43 := hb42.trans (hx43.mono hb42.size)
            refine hK.out _ _ (HC.out _ hb43) (fun hHeld => ?_)
            clear hK K
            try simp only [List.getElem_toArray, List.getElem_cons_succ, List.getElem_cons_zero, Act.put, List.setIfInBounds_toArray, List.set_cons_zero, List.set_cons_succ]
            refine wpAnyH_ready (rs := [17]) (by kernel_rfl) (by simp) ?_
            refine AllReadyH.cons rfl (fun K hK => ?_) AllReadyH.nil
            · go_simp
              go_at_call 38
              with_reducible refine (KR.out _ _ _ _ _ _ _ _ Rb.out).mono ?_
              rintro e u44 ⟨rfl, hx44⟩
              have Hk := Lib.hid (Hk.out.keep hx44 Hk.out.lt)
              clear Rb
              go_simp
              have hb44 : Below W0.heap.size W0 u44 := hb43.trans (hx44.mono hb43.size)
              refine hK.out _ _ (HC.out _ hb44) (fun hHeld => ?_)
              clear hK K
              try simp only [List.getElem_toArray, List.getElem_cons_succ, List.getElem_cons_zero, Act.put, List.setIfInBounds_toArray, List.set_cons_zero, List.set_cons_succ]
              refine wpAnyH_ready (rs := [19]) (by kernel_rfl) (by simp) ?_
              refine AllReadyH.cons rfl (fun K hK => ?_) AllReadyH.nil
              · refine step_store_has (by rfl) 23 (.tmp 3) (.tmp 23) (by rfl) gk (by rfl) (dig.map bv) (by rfl) 23 zkey Hk.out (by rw [List.length_map, HDL.out]; exact size_key) (by rw [List.length_map, HDL.out]; rfl) (one_bv dig) ?_
                intro u45 ok Hk2
                clear Hk
                have Hk := Lib.hid Hk2
                have OK := Lib.hid ok
                clear Hk2 ok
                have hb45 : Below W0.heap.size W0 u45 := OK.out.below hb44 HGK.out
                refine hK.out _ _ (HC.out _ hb45) (fun hHeld => ?_)
                clear hK K
                try simp only [List.getElem_toArray, List.getElem_cons_succ, List.getElem_cons_zero, Act.put, List.setIfInBounds_toArray, List.set_cons_zero, List.set_cons_succ]
                refine wpAnyH_done (by kernel_rfl) ?_ _
                have HS := Lib.hid (Has.keep (w := W0) HH0.out hb45 (Has.lt HH0.out))
                have c33 : u45.cell? ⟨g, 33, none⟩ = some (.int .u64 (i : Int)) := (HS.out.cell 33).trans (strm_33 HSL.out)
                have f33 := HS.out.froz 33
                have KG := Lib.hid (fun (k : Nat) => HKG.out (u45.drewN k) gk (show Has (u45.drewN k) gk 23 (dig.map bv) from Hk.out))
                have SV := Lib.hid (show Save g w u45 from HW0.out.trans (Save.of_below hb45))
                clear Hk
                go_wp2_with fail
                go_quiet (first | (go_at_call 40; with_reducible refine Calls.quiet_of_same ((KG.out _).mono fun _ _ h => ⟨h.1, h.2.symm⟩)))
                go_wp2_with fail
                go_ret
                exact ⟨ret_int (by rw [HX.out]), HSET.out _ HS.out, (SV.out.drewN _).trans (Only.setCell _ g 33 _).saved'⟩
      · go_simp
        have hx46 := (Below.refl u33.heap.size u33).alloc (Nat.le_refl _) (.cells #[.int .u8 0, .int .u8 0, .int .u8 0, .int .u8 0, .int .u8 0, .int .u8 0, .int .u8 0, .int .u8 0, .int .u8 0, .int .u8 0, .int .u8 0, .int .u8 0, .int .u8 0, .int .u8 0, .int .u8 0, .int .u8 0, .int .u8 0, .int .u8 0, .int .u8 0, .int .u8 0, .int .u8 0, .int .u8 0, .int .u8 0, .int .u8 0, .int .u8 0, .int .u8 0, .int .u8 0, .int .u8 0, .int .u8 0, .int .u8 0, .int .u8 0, .int .u8 0] 23)
        have Ra := Lib.hid (Row.keep Ra.out hx46)
        have Rp := Lib.hid (Row.keep Rp.out hx46)
        have Hk := Lib.hid (newKey u33)
        generalize (u33.alloc (.cells #[.int .u8 0, .int .u8 0, .int .u8 0, .int .u8 0, .int .u8 0, .int .u8 0, .int .u8 0, .int .u8 0, .int .u8 0, .int .u8 0, .int .u8 0, .int .u8 0, .int .u8 0, .int .u8 0, .int .u8 0, .int .u8 0, .int .u8 0, .int .u8 0, .int .u8 0, .int .u8 0, .int .u8 0, .int .u8 0, .int .u8 0, .int .u8 0, .int .u8 0, .int .u8 0, .int .u8 0, .int .u8 0, .int .u8 0, .int .u8 0, .int .u8 0, .int .u8 0] 23)) = u46 at *
        obtain ⟨gk, hgk⟩ : ∃ x, u33.heap.size = x := ⟨_, rfl⟩
        have HGK := Lib.hid (show W0.heap.size ≤ gk by rw [← hgk]; exact hb33.size)
        rw [hgk] at Hk
        try rw [hgk]
        clear hgk
        have hb46 : Below W0.heap.size W0 u46 := hb33.trans (hx46.mono hb33.size)
        refine hK.out _ _ (HC.out _ hb46) (fun hHeld => ?_)
        clear hK K
        try simp only [List.getElem_toArray, List.getElem_cons_succ, List.getElem_cons_zero, Act.put, List.setIfInBounds_toArray, List.set_cons_zero, List.set_cons_succ]
        refine wpAnyH_ready (rs := [9]) (by kernel_rfl) (by simp) ?_
        refine AllReadyH.cons rfl (fun K hK => ?_) AllReadyH.nil
        · obtain ⟨cc, u47, hconv, hpc, hx47⟩ := run_nameB name HNM.out u46
          go_simp
          have Ra := Lib.hid (Row.keep Ra.out hx47)
          have Rp := Lib.hid (Row.keep Rp.out hx47)
          have Hk := Lib.hid (Hk.out.keep hx47 Hk.out.lt)
          have Rc := Lib.hid hpc
          obtain ⟨gc, hgc⟩ : ∃ x, u46.heap.size = x := ⟨_, rfl⟩
          rw [hgc] at Rc
          try rw [hgc]
          clear hconv hpc hgc
          have hb47 : Below W0.heap.size W0 u47 := hb46.trans (hx47.mono hb46.size)
          refine hK.out _ _ (HC.out _ hb47) (fun hHeld => ?_)
          clear hK K
          try simp only [List.getElem_toArray, List.getElem_cons_succ, List.getElem_cons_zero, Act.put, List.setIfInBounds_toArray, List.set_cons_zero, List.set_cons_succ]
          refine wpAnyH_ready (rs := [16]) (by kernel_rfl) (by simp) ?_
          refine AllReadyH.cons rfl (fun K hK => ?_) AllReadyH.nil
          · go_simp
            have hx48 := (Below.refl u47.heap.size u47).alloc (Nat.le_refl _) (.cells #[.slice Aa 32 ca, .slice (some ⟨gc, 0, none⟩) name.length cc, .slice Ap 8 cp] 52)
            have Hk := Lib.hid (Hk.out.keep hx48 Hk.out.lt)
            have Rb := Lib.hid (lit3 u47 Aa 32 ca seed (some ⟨gc, 0, none⟩) name.length cc name Ap 8 cp (be64 q) Ra.out Rc.out Rp.out)
            generalize (u47.alloc (.cells #[.slice Aa 32 ca, .slice (some ⟨gc, 0, none⟩) name.length cc, .slice Ap 8 cp] 52)) = u48 at *
            obtain ⟨gp, hgp⟩ : ∃ x, u47.heap.size = x := ⟨_, rfl⟩
            rw [hgp] at Rb
            try rw [hgp]
            clear Ra Rc Rp hgp
            have hb48 : Below W0.heap.size W0 u48 := hb47.trans (hx48.mono hb47.size)
            refine hK.out _ _ (HC.out _ hb48) (fun hHeld => ?_)
            clear hK K
            try simp only [List.getElem_toArray, List.getElem_cons_succ, List.getElem_cons_zero, Act.put, List.setIfInBounds_toArray, List.set_cons_zero, List.set_cons_succ]
            refine wpAnyH_ready (rs := [17]) (by kernel_rfl) (by simp) ?_
            refine AllReadyH.cons rfl (fun K hK => ?_) AllReadyH.nil
            · go_simp
              go_at_call 38
              with_reducible refine (KR.out _ _ _ _ _ _ _ _ Rb.out).mono ?_
              rintro e u49 ⟨rfl, hx49⟩
              have Hk := Lib.hid (Hk.out.keep hx49 Hk.out.lt)
              clear Rb
              go_simp
              have hb49 : Below W0.heap.size W0 u49 := hb48.trans (hx49.mono hb48.size)
              refine hK.out _ _ (HC.out _ hb49) (fun hHeld => ?_)
              clear hK K
              try simp only [List.getElem_toArray, List.getElem_cons_succ, List.getElem_cons_zero, Act.put, List.setIfInBounds_toArray, List.set_cons_zero, List.set_cons_succ]
              refine wpAnyH_ready (rs := [19]) (by kernel_rfl) (by simp) ?_
              refine AllReadyH.cons rfl (fun K hK => ?_) AllReadyH.nil
              · refine step_store_has (by rfl) 23 (.tmp 3) (.tmp 23) (by rfl) gk (by rfl) (dig.map bv) (by rfl) 23 zkey Hk.out (by rw [List.length_map, HDL.out]; exact size_key) (by rw [List.length_map, HDL.out]; rfl) (one_bv dig) ?_
                intro u50 ok Hk2
                clear Hk
                have Hk := Lib.hid Hk2
                have OK := Lib.hid ok
                clear Hk2 ok
                have hb50 : Below W0.heap.size W0 u50 := OK.out.below hb49 HGK.out
                refine hK.out _ _ (HC.out _ hb50) (fun hHeld => ?_)
                clear hK K
                try simp only [List.getElem_toArray, List.getElem_cons_succ, List.getElem_cons_zero, Act.put, List.setIfInBounds_toArray, List.set_cons_zero, List.set_cons_succ]
                refine wpAnyH_done (by kernel_rfl) ?_ _
                have HS := Lib.hid (Has.keep (w := W0) HH0.out hb50 (Has.lt HH0.out))
                have c33 : u50.cell? ⟨g, 33, none⟩ = some (.int .u64 (i : Int)) := (HS.out.cell 33).trans (strm_33 HSL.out)
                have f33 := HS.out.froz 33
                have KG := Lib.hid (fun (k : Nat) => HKG.out (u50.drewN k) gk (show Has (u50.drewN k) gk 23 (dig.map bv) from Hk.out))
                have SV := Lib.hid (show Save g w u50 from HW0.out.trans (Save.of_below hb50))
                clear Hk
                go_wp2_with fail
                go_quiet (first | (go_at_call 40; with_reducible refine Calls.quiet_of_same ((KG.out _).mono fun _ _ h => ⟨h.1, h.2.symm⟩)))
                go_wp2_with fail
                go_ret
                exact ⟨ret_int (by rw [HX.out]), HSET.out _ HS.out, (SV.out.drewN _).trans (Only.setCell _ g 33 _).saved'⟩
    · go_simp
      have hx51 := (Below.refl u14.heap.size u14).alloc (Nat.le_refl _) (.cells #[.int .u8 0, .int .u8 0, .int .u8 0, .int .u8 0, .int .u8 0, .int .u8 0, .int .u8 0, .int .u8 0, .int .u8 0, .int .u8 0, .int .u8 0, .int .u8 0, .int .u8 0, .int .u8 0, .int .u8 0, .int .u8 0, .int .u8 0, .int .u8 0, .int .u8 0, .int .u8 0, .int .u8 0, .int .u8 0, .int .u8 0, .int .u8 0, .int .u8 0, .int .u8 0, .int .u8 0, .int .u8 0, .int .u8 0, .int .u8 0, .int .u8 0, .int .u8 0] 23)
      have Ra := Lib.hid (Row.keep Ra.out hx51)
      have Hk := Lib.hid (newKey u14)
      generalize (u14.alloc (.cells #[.int .u8 0, .int .u8 0, .int .u8 0, .int .u8 0, .int .u8 0, .int .u8 0, .int .u8 0, .int .u8 0, .int .u8 0, .int .u8 0, .int .u8 0, .int .u8 0, .int .u8 0, .int .u8 0, .int .u8 0, .int .u8 0, .int .u8 0, .int .u8 0, .int .u8 0, .int .u8 0, .int .u8 0, .int .u8 0, .int .u8 0, .int .u8 0, .int .u8 0, .int .u8 0, .int .u8 0, .int .u8 0, .int .u8 0, .int .u8 0, .int .u8 0, .int .u8 0] 23)) = u51 at *
      obtain ⟨gk, hgk⟩ : ∃ x, u14.heap.size = x := ⟨_, rfl⟩
      have HGK := Lib.hid (show W0.heap.size ≤ gk by rw [← hgk]; exact hb14.size)
      rw [hgk] at Hk
      try rw [hgk]
      clear hgk
      have hb51 : Below W0.heap.size W0 u51 := hb14.trans (hx51.mono hb14.size)
      refine hK.out _ _ (HC.out _ hb51) (fun hHeld => ?_)
      clear hK K
      try simp only [List.getElem_toArray, List.getElem_cons_succ, List.getElem_cons_zero, Act.put, List.setIfInBounds_toArray, List.set_cons_zero, List.set_cons_succ]
      refine wpAnyH_ready (rs := [9, 15]) (by kernel_rfl) (by simp) ?_
      refine AllReadyH.cons rfl (fun K hK => ?_) (AllReadyH.cons rfl (fun K hK => ?_) AllReadyH.nil)
      · obtain ⟨cc, u52, hconv, hpc, hx52⟩ := run_nameB name HNM.out u51
        go_simp
        have Ra := Lib.hid (Row.keep Ra.out hx52)
        have Hk := Lib.hid (Hk.out.keep hx52 Hk.out.lt)
        have Rc := Lib.hid hpc
        obtain ⟨gc, hgc⟩ : ∃ x, u51.heap.size = x := ⟨_, rfl⟩
        rw [hgc] at Rc
        try rw [hgc]
        clear hconv hpc hgc
        have hb52 : Below W0.heap.size W0 u52 := hb51.trans (hx52.mono hb51.size)
        refine hK.out _ _ (HC.out _ hb52) (fun hHeld => ?_)
        clear hK K
        try simp only [List.getElem_toArray, List.getElem_cons_succ, List.getElem_cons_zero, Act.put, List.setIfInBounds_toArray, List.set_cons_zero, List.set_cons_succ]
        refine wpAnyH_ready (rs := [15]) (by kernel_rfl) (by simp) ?_
        refine AllReadyH.cons rfl (fun K hK => ?_) AllReadyH.nil
        · go_simp
          go_at_call 39
          with_reducible refine (KP.out u52).mono ?_
          rintro e u53 ⟨vp, rfl, hownp, hx53⟩
          obtain ⟨Ap, cp, rfl, Rp0⟩ := Row.own hownp
          have Ra := Lib.hid (Row.keep Ra.out hx53)
          have Rc := Lib.hid (Row.keep Rc.out hx53)
          have Hk := Lib.hid (Hk.out.keep hx53 Hk.out.lt)
          have Rp := Lib.hid Rp0
          clear Rp0 hownp
          go_simp
          have hb53 : Below W0.heap.size W0 u53 := hb52.trans (hx53.mono hb52.size)
          refine hK.out _ _ (HC.out _ hb53) (fun hHeld => ?_)
          clear hK K
          try simp only [List.getElem_toArray, List.getElem_cons_succ, List.getElem_cons_zero, Act.put, List.setIfInBounds_toArray, List.set_cons_zero, List.set_cons_succ]
          refine wpAnyH_ready (rs := [16]) (by kernel_rfl) (by simp) ?_
          refine AllReadyH.cons rfl (fun K hK => ?_) AllReadyH.nil
          · go_simp
            have hx54 := (Below.refl u53.heap.size u53).alloc (Nat.le_refl _) (.cells #[.slice Aa 32 ca, .slice (some ⟨gc, 0, none⟩) name.length cc, .slice Ap 8 cp] 52)
            have Hk := Lib.hid (Hk.out.keep hx54 Hk.out.lt)
            have Rb := Lib.hid (lit3 u53 Aa 32 ca seed (some ⟨gc, 0, none⟩) name.length cc name Ap 8 cp (be64 q) Ra.out Rc.out Rp.out)
            generalize (u53.alloc (.cells #[.slice Aa 32 ca, .slice (some ⟨gc, 0, none⟩) name.length cc, .slice Ap 8 cp] 52)) = u54 at *
            obtain ⟨gp, hgp⟩ : ∃ x, u53.heap.size = x := ⟨_, rfl⟩
            rw [hgp] at Rb
            try rw [hgp]
            clear Ra Rc Rp hgp
            have hb54 : Below W0.heap.size W0 u54 := hb53.trans (hx54.mono hb53.size)
            refine hK.out _ _ (HC.out _ hb54) (fun hHeld => ?_)
            clear hK K
            try simp only [List.getElem_toArray, List.getElem_cons_succ, List.getElem_cons_zero, Act.put, List.setIfInBounds_toArray, List.set_cons_zero, List.set_cons_succ]
            refine wpAnyH_ready (rs := [17]) (by kernel_rfl) (by simp) ?_
            refine AllReadyH.cons rfl (fun K hK => ?_) AllReadyH.nil
            · go_simp
              go_at_call 38
              with_reducible refine (KR.out _ _ _ _ _ _ _ _ Rb.out).mono ?_
              rintro e u55 ⟨rfl, hx55⟩
              have Hk := Lib.hid (Hk.out.keep hx55 Hk.out.lt)
              clear Rb
              go_simp
              have hb55 : Below W0.heap.size W0 u55 := hb54.trans (hx55.mono hb54.size)
              refine hK.out _ _ (HC.out _ hb55) (fun hHeld => ?_)
              clear hK K
              try simp only [List.getElem_toArray, List.getElem_cons_succ, List.getElem_cons_zero, Act.put, List.setIfInBounds_toArray, List.set_cons_zero, List.set_cons_succ]
              refine wpAnyH_ready (rs := [19]) (by kernel_rfl) (by simp) ?_
              refine AllReadyH.cons rfl (fun K hK => ?_) AllReadyH.nil
              · refine step_store_has (by rfl) 23 (.tmp 3) (.tmp 23) (by rfl) gk (by rfl) (dig.map bv) (by rfl) 23 zkey Hk.out (by rw [List.length_map, HDL.out]; exact size_key) (by rw [List.length_map, HDL.out]; rfl) (one_bv dig) ?_
                intro u56 ok Hk2
                clear Hk
                have Hk := Lib.hid Hk2
                have OK := Lib.hid ok
                clear Hk2 ok
                have hb56 : Below W0.heap.size W0 u56 := OK.out.below hb55 HGK.out
                refine hK.out _ _ (HC.out _ hb56) (fun hHeld => ?_)
                clear hK K
                try simp only [List.getElem_toArray, List.getElem_cons_succ, List.getElem_cons_zero, Act.put, List.setIfInBounds_toArray, List.set_cons_zero, List.set_cons_succ]
                refine wpAnyH_done (by kernel_rfl) ?_ _
                have HS := Lib.hid (Has.keep (w := W0) HH0.out hb56 (Has.lt HH0.out))
                have c33 : u56.cell? ⟨g, 33, none⟩ = some (.int .u64 (i : Int)) := (HS.out.cell 33).trans (strm_33 HSL.out)
                have f33 := HS.out.froz 33
                have KG := Lib.hid (fun (k : Nat) => HKG.out (u56.drewN k) gk (show Has (u56.drewN k) gk 23 (dig.map bv) from Hk.out))
                have SV := Lib.hid (show Save g w u56 from HW0.out.trans (Save.of_below hb56))
                clear Hk
                go_wp2_with fail
                go_quiet (first | (go_at_call 40; with_reducible refine Calls.quiet_of_same ((KG.out _).mono fun _ _ h => ⟨h.1, h.2.symm⟩)))
                go_wp2_with fail
                go_ret
                exact ⟨ret_int (by rw [HX.out]), HSET.out _ HS.out, (SV.out.drewN _).trans (Only.setCell _ g 33 _).saved'⟩
      · go_simp
        go_at_call 39
        with_reducible refine (KP.out u51).mono ?_
        rintro e u57 ⟨vp, rfl, hownp, hx57⟩
        obtain ⟨Ap, cp, rfl, Rp0⟩ := Row.own hownp
        have Ra := Lib.hid (Row.keep Ra.out hx57)
        have Hk := Lib.hid (Hk.out.keep hx57 Hk.out.lt)
        have Rp := Lib.hid Rp0
        clear Rp0 hownp
        go_simp
        have hb57 : Below W0.heap.size W0 u57 := hb51.trans (hx57.mono hb51.size)
        refine hK.out _ _ (HC.out _ hb57) (fun hHeld => ?_)
        clear hK K
        try simp only [List.getElem_toArray, List.getElem_cons_succ, List.getElem_cons_zero, Act.put, List.setIfInBounds_toArray, List.set_cons_zero, List.set_cons_succ]
        refine wpAnyH_ready (rs := [9]) (by kernel_rfl) (by simp) ?_
        refine AllReadyH.cons rfl (fun K hK => ?_) AllReadyH.nil
        · obtain ⟨cc, u58, hconv, hpc, hx58⟩ := run_nameB name HNM.out u57
          go_simp
          have Ra := Lib.hid (Row.keep Ra.out hx58)
          have Rp := Lib.hid (Row.keep Rp.out hx58)
          have Hk := Lib.hid (Hk.out.keep hx58 Hk.out.lt)
          have Rc := Lib.hid hpc
          obtain ⟨gc, hgc⟩ : ∃ x, u57.heap.size = x := ⟨_, rfl⟩
          rw [hgc] at Rc
          try rw [hgc]
          clear hconv hpc hgc
          have hb58 : Below W0.heap.size W0 u58 := hb57.trans (hx58.mono hb57.size)
          refine hK.out _ _ (HC.out _ hb58) (fun hHeld => ?_)
          clear hK K
          try simp only [List.getElem_toArray, List.getElem_cons_succ, List.getElem_cons_zero, Act.put, List.setIfInBounds_toArray, List.set_cons_zero, List.set_cons_succ]
          refine wpAnyH_ready (rs := [16]) (by kernel_rfl) (by simp) ?_
          refine AllReadyH.cons rfl (fun K hK => ?_) AllReadyH.nil
          · go_simp
            have hx59 := (Below.refl u58.heap.size u58).alloc (Nat.le_refl _) (.cells #[.slice Aa 32 ca, .slice (some ⟨gc, 0, none⟩) name.length cc, .slice Ap 8 cp] 52)
            have Hk := Lib.hid (Hk.out.keep hx59 Hk.out.lt)
            have Rb := Lib.hid (lit3 u58 Aa 32 ca seed (some ⟨gc, 0, none⟩) name.length cc name Ap 8 cp (be64 q) Ra.out Rc.out Rp.out)
            generalize (u58.alloc (.cells #[.slice Aa 32 ca, .slice (some ⟨gc, 0, none⟩) name.length cc, .slice Ap 8 cp] 52)) = u59 at *
            obtain ⟨gp, hgp⟩ : ∃ x, u58.heap.size = x := ⟨_, rfl⟩
            rw [hgp] at Rb
            try rw [hgp]
            clear Ra Rc Rp hgp
            have hb59 : Below W0.heap.size W0 u59 := hb58.trans (hx59.mono hb58.size)
            refine hK.out _ _ (HC.out _ hb59) (fun hHeld => ?_)
            clear hK K
            try simp only [List.getElem_toArray, List.getElem_cons_succ, List.getElem_cons_zero, Act.put, List.setIfInBounds_toArray, List.set_cons_zero, List.set_cons_succ]
            refine wpAnyH_ready (rs := [17]) (by kernel_rfl) (by simp) ?_
            refine AllReadyH.cons rfl (fun K hK => ?_) AllReadyH.nil
            · go_simp
              go_at_call 38
              with_reducible refine (KR.out _ _ _ _ _ _ _ _ Rb.out).mono ?_
              rintro e u60 ⟨rfl, hx60⟩
              have Hk := Lib.hid (Hk.out.keep hx60 Hk.out.lt)
              clear Rb
              go_simp
              have hb60 : Below W0.heap.size W0 u60 := hb59.trans (hx60.mono hb59.size)
              refine hK.out _ _ (HC.out _ hb60) (fun hHeld => ?_)
              clear hK K
              try simp only [List.getElem_toArray, List.getElem_cons_succ, List.getElem_cons_zero, Act.put, List.setIfInBounds_toArray, List.set_cons_zero, List.set_cons_succ]
              refine wpAnyH_ready (rs := [19]) (by kernel_rfl) (by simp) ?_
              refine AllReadyH.cons rfl (fun K hK => ?_) AllReadyH.nil
              · refine step_store_has (by rfl) 23 (.tmp 3) (.tmp 23) (by rfl) gk (by rfl) (dig.map bv) (by rfl) 23 zkey Hk.out (by rw [List.length_map, HDL.out]; exact size_key) (by rw [List.length_map, HDL.out]; rfl) (one_bv dig) ?_
                intro u61 ok Hk2
                clear Hk
                have Hk := Lib.hid Hk2
                have OK := Lib.hid ok
                clear Hk2 ok
                have hb61 : Below W0.heap.size W0 u61 := OK.out.below hb60 HGK.out
                refine hK.out _ _ (HC.out _ hb61) (fun hHeld => ?_)
                clear hK K
                try simp only [List.getElem_toArray, List.getElem_cons_succ, List.getElem_cons_zero, Act.put, List.setIfInBounds_toArray, List.set_cons_zero, List.set_cons_succ]
                refine wpAnyH_done (by kernel_rfl) ?_ _
                have HS := Lib.hid (Has.keep (w := W0) HH0.out hb61 (Has.lt HH0.out))
                have c33 : u61.cell? ⟨g, 33, none⟩ = some (.int .u64 (i : Int)) := (HS.out.cell 33).trans (strm_33 HSL.out)
                have f33 := HS.out.froz 33
                have KG := Lib.hid (fun (k : Nat) => HKG.out (u61.drewN k) gk (show Has (u61.drewN k) gk 23 (dig.map bv) from Hk.out))
                have SV := Lib.hid (show Save g w u61 from HW0.out.trans (Save.of_below hb61))
                clear Hk
                go_wp2_with fail
                go_quiet (first | (go_at_call 40; with_reducible refine Calls.quiet_of_same ((KG.out _).mono fun _ _ h => ⟨h.1, h.2.symm⟩)))
                go_wp2_with fail
                go_ret
                exact ⟨ret_int (by rw [HX.out]), HSET.out _ HS.out, (SV.out.drewN _).trans (Only.setCell _ g 33 _).saved'⟩
  · obtain ⟨cc, u62, hconv, hpc, hx62⟩ := run_nameB name HNM.out W0
    go_simp
    have Rc := Lib.hid hpc
    obtain ⟨gc, hgc⟩ : ∃ x, W0.heap.size = x := ⟨_, rfl⟩
    rw [hgc] at Rc
    try rw [hgc]
    clear hconv hpc hgc
    have hb62 : Below W0.heap.size W0 u62 := hb0.trans (hx62.mono hb0.size)
    refine hK.out _ _ (HC.out _ hb62) (fun hHeld => ?_)
    clear hK K
    try simp only [List.getElem_toArray, List.getElem_cons_succ, List.getElem_cons_zero, Act.put, List.setIfInBounds_toArray, List.set_cons_zero, List.set_cons_succ]
    refine wpAnyH_ready (rs := [4, 18]) (by kernel_rfl) (by simp) ?_
    refine AllReadyH.cons rfl (fun K hK => ?_) (AllReadyH.cons rfl (fun K hK => ?_) AllReadyH.nil)
    · refine step_app8 (by rfl) (.const (.slice none 0 0)) (.tmp 9) (by rfl) u62.heap.size (.slice none 0 0) 0 [] (by rfl) (World.ownsRow_nil _ _ _ _) (some ⟨g, 0, none⟩) 32 32 seed (by rfl) (HSD.out _ hb62) HM.out (Nat.le_refl _) ?_
      intro va u63 howna hga
      obtain ⟨Aa, ca, rfl, Ra0⟩ := Row.own howna
      have hx63 : Below u62.heap.size u62 u63 := (Below.refl _ _).grown hga (Nat.le_refl _) (fun k hk => by cases hk)
      have Rc := Lib.hid (Row.keep Rc.out hx63)
      have Ra := Lib.hid (show Row u63 Aa 32 ca (seed.map bv) from Ra0)
      clear Ra0 howna hga
      have hb63 : Below W0.heap.size W0 u63 := hb62.trans (hx63.mono hb62.size)
      refine hK.out _ _ (HC.out _ hb63) (fun hHeld => ?_)
      clear hK K
      try simp only [List.getElem_toArray, List.getElem_cons_succ, List.getElem_cons_zero, Act.put, List.setIfInBounds_toArray, List.set_cons_zero, List.set_cons_succ]
      refine wpAnyH_ready (rs := [15, 18]) (by kernel_rfl) (by simp) ?_
      refine AllReadyH.cons rfl (fun K hK => ?_) (AllReadyH.cons rfl (fun K hK => ?_) AllReadyH.nil)
      · go_simp
        go_at_call 39
        with_reducible refine (KP.out u63).mono ?_
        rintro e u64 ⟨vp, rfl, hownp, hx64⟩
        obtain ⟨Ap, cp, rfl, Rp0⟩ := Row.own hownp
        have Ra := Lib.hid (Row.keep Ra.out hx64)
        have Rc := Lib.hid (Row.keep Rc.out hx64)
        have Rp := Lib.hid Rp0
        clear Rp0 hownp
        go_simp
        have hb64 : Below W0.heap.size W0 u64 := hb63.trans (hx64.mono hb63.size)
        refine hK.out _ _ (HC.out _ hb64) (fun hHeld => ?_)
        clear hK K
        try simp only [List.getElem_toArray, List.getElem_cons_succ, List.getElem_cons_zero, Act.put, List.setIfInBounds_toArray, List.set_cons_zero, List.set_cons_succ]
        refine wpAnyH_ready (rs := [16, 18]) (by kernel_rfl) (by simp) ?_
        refine AllReadyH.cons rfl (fun K hK => ?_) (AllReadyH.cons rfl (fun K hK => ?_) AllReadyH.nil)
        · go_simp
          have hx65 := (Below.refl u64.heap.size u64).alloc (Nat.le_refl _) (.cells #[.slice Aa 32 ca, .slice (some ⟨gc, 0, none⟩) name.length cc, .slice Ap 8 cp] 52)
          have Rb := Lib.hid (lit3 u64 Aa 32 ca seed (some ⟨gc, 0, none⟩) name.length cc name Ap 8 cp (be64 q) Ra.out Rc.out Rp.out)
          generalize (u64.alloc (.cells #[.slice Aa 32 ca, .slice (some ⟨gc, 0, none⟩) name.length cc, .slice Ap 8 cp] 52)) = u65 at *
          obtain ⟨gp, hgp⟩ : ∃ x, u64.heap.size = x := ⟨_, rfl⟩
          rw [hgp] at Rb
          try rw [hgp]
          clear Ra Rc Rp hgp
          have hb65 : Below W0.heap.size W0 u65 := hb64.trans (hx65.mono hb64.size)
          refine hK.out _ _ (HC.out _ hb65) (fun hHeld => ?_)
          clear hK K
          try simp only [List.getElem_toArray, List.getElem_cons_succ, List.getElem_cons_zero, Act.put, List.setIfInBounds_toArray, List.set_cons_zero, List.set_cons_succ]
          refine wpAnyH_ready (rs := [17, 18]) (by kernel_rfl) (by simp) ?_
          refine AllReadyH.cons rfl (fun K hK => ?_) (AllReadyH.cons rfl (fun K hK => ?_) AllReadyH.nil)
          · go_simp
            go_at_call 38
            with_reducible refine (KR.out _ _ _ _ _ _ _ _ Rb.out).mono ?_
            rintro e u66 ⟨rfl, hx66⟩
            clear Rb
            go_simp
            have hb66 : Below W0.heap.size W0 u66 := hb65.trans (hx66.mono hb65.size)
            refine hK.out _ _ (HC.out _ hb66) (fun hHeld => ?_)
            clear hK K
            try simp only [List.getElem_toArray, List.getElem_cons_succ, List.getElem_cons_zero, Act.put, List.setIfInBounds_toArray, List.set_cons_zero, List.set_cons_succ]
            refine wpAnyH_ready (rs := [18]) (by kernel_rfl) (by simp) ?_
            refine AllReadyH.cons rfl (fun K hK => ?_) AllReadyH.nil
            · go_simp
              have hx67 := (Below.refl u66.heap.size u66).alloc (Nat.le_refl _) (.cells #[.int .u8 0, .int .u8 0, .int .u8 0, .int .u8 0, .int .u8 0, .int .u8 0, .int .u8 0, .int .u8 0, .int .u8 0, .int .u8 0, .int .u8 0, .int .u8 0, .int .u8 0, .int .u8 0, .int .u8 0, .int .u8 0, .int .u8 0, .int .u8 0, .int .u8 0, .int .u8 0, .int .u8 0, .int .u8 0, .int .u8 0, .int .u8 0, .int .u8 0, .int .u8 0, .int .u8 0, .int .u8 0, .int .u8 0, .int .u8 0, .int .u8 0, .int .u8 0] 23)
              have Hk := Lib.hid (newKey u66)
              generalize (u66.alloc (.cells #[.int .u8 0, .int .u8 0, .int .u8 0, .int .u8 0, .int .u8 0, .int .u8 0, .int .u8 0, .int .u8 0, .int .u8 0, .int .u8 0, .int .u8 0, .int .u8 0, .int .u8 0, .int .u8 0, .int .u8 0, .int .u8 0, .int .u8 0, .int .u8 0, .int .u8 0, .int .u8 0, .int .u8 0, .int .u8 0, .int .u8 0, .int .u8 0, .int .u8 0, .int .u8 0, .int .u8 0, .int .u8 0, .int .u8 0, .int .u8 0, .int .u8 0, .int .u8 0] 23)) = u67 at *
              obtain ⟨gk, hgk⟩ : ∃ x, u66.heap.size = x := ⟨_, rfl⟩
              have HGK := Lib.hid (show W0.heap.size ≤ gk by rw [← hgk]; exact hb66.size)
              rw [hgk] at Hk
              try rw [hgk]
              clear hgk
              have hb67 : Below W0.heap.size W0 u67 := hb66.trans (hx67.mono hb66.size)
              refine hK.out _ _ (HC.out _ hb67) (fun hHeld => ?_)
              clear hK K
              try simp only [List.getElem_toArray, List.getElem_cons_succ, List.getElem_cons_zero, Act.put, List.setIfInBounds_toArray, List.set_cons_zero, List.set_cons_succ]
              refine wpAnyH_ready (rs := [19]) (by kernel_rfl) (by simp) ?_
              refine AllReadyH.cons rfl (fun K hK => ?_) AllReadyH.nil
              · refine step_store_has (by rfl) 23 (.tmp 3) (.tmp 23) (by rfl) gk (by rfl) (dig.map bv) (by rfl) 23 zkey Hk.out (by rw [List.length_map, HDL.out]; exact size_key) (by rw [List.length_map, HDL.out]; rfl) (one_bv dig) ?_
                intro u68 ok Hk2
                clear Hk
                have Hk := Lib.hid Hk2
                have OK := Lib.hid ok
                clear Hk2 ok
                have hb68 : Below W0.heap.size W0 u68 := OK.out.below hb67 HGK.out
                refine hK.out _ _ (HC.out _ hb68) (fun hHeld => ?_)
                clear hK K
                try simp only [List.getElem_toArray, List.getElem_cons_succ, List.getElem_cons_zero, Act.put, List.setIfInBounds_toArray, List.set_cons_zero, List.set_cons_succ]
                refine wpAnyH_done (by kernel_rfl) ?_ _
                have HS := Lib.hid (Has.keep (w := W0) HH0.out hb68 (Has.lt HH0.out))
                have c33 : u68.cell? ⟨g, 33, none⟩ = some (.int .u64 (i : Int)) := (HS.out.cell 33).trans (strm_33 HSL.out)
                have f33 := HS.out.froz 33
                have KG := Lib.hid (fun (k : Nat) => HKG.out (u68.drewN k) gk (show Has (u68.drewN k) gk 23 (dig.map bv) from Hk.out))
                have SV := Lib.hid (show Save g w u68 from HW0.out.trans (Save.of_below hb68))
                clear Hk
                go_wp2_with fail
                go_quiet (first | (go_at_call 40; with_reducible refine Calls.quiet_of_same ((KG.out _).mono fun _ _ h => ⟨h.1, h.2.symm⟩)))
                go_wp2_with fail
                go_ret
                exact ⟨ret_int (by rw [HX.out]), HSET.out _ HS.out, (SV.out.drewN _).trans (Only.setCell _ g 33 _).saved'⟩
          · go_simp
            have hx69 := (Below.refl u65.heap.size u65).alloc (Nat.le_refl _) (.cells #[.int .u8 0, .int .u8 0, .int .u8 0, .int .u8 0, .int .u8 0, .int .u8 0, .int .u8 0, .int .u8 0, .int .u8 0, .int .u8 0, .int .u8 0, .int .u8 0, .int .u8 0, .int .u8 0, .int .u8 0, .int .u8 0, .int .u8 0, .int .u8 0, .int .u8 0, .int .u8 0, .int .u8 0, .int .u8 0, .int .u8 0, .int .u8 0, .int .u8 0, .int .u8 0, .int .u8 0, .int .u8 0, .int .u8 0, .int .u8 0, .int .u8 0, .int .u8 0] 23)
            have Rb := Lib.hid (PartsAt.keep Rb.out hx69)
            have Hk := Lib.hid (newKey u65)
            generalize (u65.alloc (.cells #[.int .u8 0, .int .u8 0, .int .u8 0, .int .u8 0, .int .u8 0, .int .u8 0, .int .u8 0, .int .u8 0, .int .u8 0, .int .u8 0, .int .u8 0, .int .u8 0, .int .u8 0, .int .u8 0, .int .u8 0, .int .u8 0, .int .u8 0, .int .u8 0, .int .u8 0, .int .u8 0, .int .u8 0, .int .u8 0, .int .u8 0, .int .u8 0, .int .u8 0, .int .u8 0, .int .u8 0, .int .u8 0, .int .u8 0, .int .u8 0, .int .u8 0, .int .u8 0] 23)) = u69 at *
            obtain ⟨gk, hgk⟩ : ∃ x, u65.heap.size = x := ⟨_, rfl⟩
            have HGK := Lib.hid (show W0.heap.size ≤ gk by rw [← hgk]; exact hb65.size)
            rw [hgk] at Hk
            try rw [hgk]
            clear hgk
            have hb69 : Below W0.heap.size W0 u69 := hb65.trans (hx69.mono hb65.size)
            refine hK.out _ _ (HC.out _ hb69) (fun hHeld => ?_)
            clear hK K
            try simp only [List.getElem_toArray, List.getElem_cons_succ, List.getElem_cons_zero, Act.put, List.setIfInBounds_toArray, List.set_cons_zero, List.set_cons_succ]
            refine wpAnyH_ready (rs := [17]) (by kernel_rfl) (by simp) ?_
            refine AllReadyH.cons rfl (fun K hK => ?_) AllReadyH.nil
            · go_simp
              go_at_call 38
              with_reducible refine (KR.out _ _ _ _ _ _ _ _ Rb.out).mono ?_
              rintro e u70 ⟨rfl, hx70⟩
              have Hk := Lib.hid (Hk.out.keep hx70 Hk.out.lt)
              clear Rb
              go_simp
              have hb70 : Below W0.heap.size W0 u70 := hb69.trans (hx70.mono hb69.size)
              refine hK.out _ _ (HC.out _ hb70) (fun hHeld => ?_)
              clear hK K
              try simp only [List.getElem_toArray, List.getElem_cons_succ, List.getElem_cons_zero, Act.put, List.setIfInBounds_toArray, List.set_cons_zero, List.set_cons_succ]
              refine wpAnyH_ready (rs := [19]) (by kernel_rfl) (by simp) ?_
              refine AllReadyH.cons rfl (fun K hK => ?_) AllReadyH.nil
              · refine step_store_has (by rfl) 23 (.tmp 3) (.tmp 23) (by rfl) gk (by rfl) (dig.map bv) (by rfl) 23 zkey Hk.out (by rw [List.length_map, HDL.out]; exact size_key) (by rw [List.length_map, HDL.out]; rfl) (one_bv dig) ?_
                intro u71 ok Hk2
                clear Hk
                have Hk := Lib.hid Hk2
                have OK := Lib.hid ok
                clear Hk2 ok
                have hb71 : Below W0.heap.size W0 u71 := OK.out.below hb70 HGK.out
                refine hK.out _ _ (HC.out _ hb71) (fun hHeld => ?_)
                clear hK K
                try simp only [List.getElem_toArray, List.getElem_cons_succ, List.getElem_cons_zero, Act.put, List.setIfInBounds_toArray, List.set_cons_zero, List.set_cons_succ]
                refine wpAnyH_done (by kernel_rfl) ?_ _
                have HS := Lib.hid (Has.keep (w := W0) HH0.out hb71 (Has.lt HH0.out))
                have c33 : u71.cell? ⟨g, 33, none⟩ = some (.int .u64 (i : Int)) := (HS.out.cell 33).trans (strm_33 HSL.out)
                have f33 := HS.out.froz 33
                have KG := Lib.hid (fun (k : Nat) => HKG.out (u71.drewN k) gk (show Has (u71.drewN k) gk 23 (dig.map bv) from Hk.out))
                have SV := Lib.hid (show Save g w u71 from HW0.out.trans (Save.of_below hb71))
                clear Hk
                go_wp2_with fail
                go_quiet (first | (go_at_call 40; with_reducible refine Calls.quiet_of_same ((KG.out _).mono fun _ _ h => ⟨h.1, h.2.symm⟩)))
                go_wp2_with fail
                go_ret
                exact ⟨ret_int (by rw [HX.out]), HSET.out _ HS.out, (SV.out.drewN _).trans (Only.setCell _ g 33 _).saved'⟩
        · go_simp
          have hx72 := (Below.refl u64.heap.size u64).alloc (Nat.le_refl _) (.cells #[.int .u8 0, .int .u8 0, .int .u8 0, .int .u8 0, .int .u8 0, .int .u8 0, .int .u8 0, .int .u8 0, .int .u8 0, .int .u8 0, .int .u8 0, .int .u8 0, .int .u8 0, .int .u8 0, .int .u8 0, .int .u8 0, .int .u8 0, .int .u8 0, .int .u8 0, .int .u8 0, .int .u8 0, .int .u8 0, .int .u8 0, .int .u8 0, .int .u8 0, .int .u8 0, .int .u8 0, .int .u8 0, .int .u8 0, .int .u8 0, .int .u8 0, .int .u8 0] 23)
          have Ra := Lib.hid (Row.keep Ra.out hx72)
          have Rc := Lib.hid (Row.keep Rc.out hx72)
          have Rp := Lib.hid (Row.keep Rp.out hx72)
          have Hk := Lib.hid (newKey u64)
          generalize (u64.alloc (.cells #[.int .u8 0, .int .u8 0, .int .u8 0, .int .u8 0, .int .u8 0, .int .u8 0, .int .u8 0, .int .u8 0, .int .u8 0, .int .u8 0, .int .u8 0, .int .u8 0, .int .u8 0, .int .u8 0, .int .u8 0, .int .u8 0, .int .u8 0, .int .u8 0, .int .u8 0, .int .u8 0, .int .u8 0, .int .u8 0, .int .u8 0, .int .u8 0, .int .u8 0, .int .u8 0, .int .u8 0, .int .u8 0, .int .u8 0, .int .u8 0, .int .u8 0, .int .u8 0] 23)) = u72 at *
          obtain ⟨gk, hgk⟩ : ∃ x, u64.heap.size = x := ⟨_, rfl⟩
          have HGK := Lib.hid (show W0.heap.size ≤ gk by rw [← hgk]; exact hb64.size)
          rw [hgk] at Hk
          try rw [hgk]
          clear hgk
          have hb72 : Below W0.heap.size W0 u72 := hb64.trans (hx72.mono hb64.size)
          refine hK.out _ _ (HC.out _ hb72) (fun hHeld => ?_)
          clear hK K
          try simp only [List.getElem_toArray, List.getElem_cons_succ, List.getElem_cons_zero, Act.put, List.setIfInBounds_toArray, List.set_cons_zero, List.set_cons_succ]
          refine wpAnyH_ready (rs := [16]) (by kernel_rfl) (by simp) ?_
          refine AllReadyH.cons rfl (fun K hK => ?_) AllReadyH.nil
          · go_simp
            have hx73 := (Below.refl u72.heap.size u72).alloc (Nat.le_refl _) (.cells #[.slice Aa 32 ca, .slice (some ⟨gc, 0, none⟩) name.length cc, .slice Ap 8 cp] 52)
            have Hk := Lib.hid (Hk.out.keep hx73 Hk.out.lt)
            have Rb := Lib.hid (lit3 u72 Aa 32 ca seed (some ⟨gc, 0, none⟩) name.length cc name Ap 8 cp (be64 q) Ra.out Rc.out Rp.out)
            generalize (u72.alloc (.cells #[.slice Aa 32 ca, .slice (some ⟨gc, 0, none⟩) name.length cc, .slice Ap 8 cp] 52)) = u73 at *
            obtain ⟨gp, hgp⟩ : ∃ x, u72.heap.size = x := ⟨_, rfl⟩
            rw [hgp] at Rb
            try rw [hgp]
            clear Ra Rc Rp hgp
            have hb73 : Below W0.heap.size W0 u73 := hb72.trans (hx73.mono hb72.size)
            refine hK.out _ _ (HC.out _ hb73) (fun hHeld => ?_)
            clear hK K
            try simp only [List.getElem_toArray, List.getElem_cons_succ, List.getElem_cons_zero, Act.put, List.setIfInBounds_toArray, List.set_cons_zero, List.set_cons_succ]
            refine wpAnyH_ready (rs := [17]) (by kernel_rfl) (by simp) ?_
            refine AllReadyH.cons rfl (fun K hK => ?_) AllReadyH.nil
            · go_simp
              go_at_call 38
              with_reducible refine (KR.out _ _ _ _ _ _ _ _ Rb.out).mono ?_
              rintro e u74 ⟨rfl, hx74⟩
              have Hk := Lib.hid (Hk.out.keep hx74 Hk.out.lt)
              clear Rb
              go_simp
              have hb74 : Below W0.heap.size W0 u74 := hb73.trans (hx74.mono hb73.size)
              refine hK.out _ _ (HC.out _ hb74) (fun hHeld => ?_)
              clear hK K
              try simp only [List.getElem_toArray, List.getElem_cons_succ, List.getElem_cons_zero, Act.put, List.setIfInBounds_toArray, List.set_cons_zero, List.set_cons_succ]
              refine wpAnyH_ready (rs := [19]) (by kernel_rfl) (by simp) ?_
              refine AllReadyH.cons rfl (fun K hK => ?_) AllReadyH.nil
              · refine step_store_has (by rfl) 23 (.tmp 3) (.tmp 23) (by rfl) gk (by rfl) (dig.map bv) (by rfl) 23 zkey Hk.out (by rw [List.length_map, HDL.out]; exact size_key) (by rw [List.length_map, HDL.out]; rfl) (one_bv dig) ?_
                intro u75 ok Hk2
                clear Hk
                have Hk := Lib.hid Hk2
                have OK := Lib.hid ok
                clear Hk2 ok
                have hb75 : Below W0.heap.size W0 u75 := OK.out.below hb74 HGK.out
                refine hK.out _ _ (HC.out _ hb75) (fun hHeld => ?_)
                clear hK K
                try simp only [List.getElem_toArray, List.getElem_cons_succ, List.getElem_cons_zero, Act.put, List.setIfInBounds_toArray, List.set_cons_zero, List.set_cons_succ]
                refine wpAnyH_done (by kernel_rfl) ?_ _
                have HS := Lib.hid (Has.keep (w := W0) HH0.out hb75 (Has.lt HH0.out))
                have c33 : u75.cell? ⟨g, 33, none⟩ = some (.int .u64 (i : Int)) := (HS.out.cell 33).trans (strm_33 HSL.out)
                have f33 := HS.out.froz 33
                have KG := Lib.hid (fun (k : Nat) => HKG.out (u75.drewN k) gk (show Has (u75.drewN k) gk 23 (dig.map bv) from Hk.out))
                have SV := Lib.hid (show Save g w u75 from HW0.out.trans (Save.of_below hb75))
                clear Hk
                go_wp2_with fail
                go_quiet (first | (go_at_call 40; with_reducible refine Calls.quiet_of_same ((KG.out _).mono fun _ _ h => ⟨h.1, h.2.symm⟩)))
                go_wp2_with fail
                go_ret
                exact ⟨ret_int (by rw [HX.out]), HSET.out _ HS.out, (SV.out.drewN _).trans (Only.setCell _ g 33 _).saved'⟩
      · go_simp
        have hx76 := (Below.refl u63.heap.size u63).alloc (Nat.le_refl _) (.cells #[.int .u8 0, .int .u8 0, .int .u8 0, .int .u8 0, .int .u8 0, .int .u8 0, .int .u8 0, .int .u8 0, .int .u8 0, .int .u8 0, .int .u8 0, .int .u8 0, .int .u8 0, .int .u8 0, .int .u8 0, .int .u8 0, .int .u8 0, .int .u8 0, .int .u8 0, .int .u8 0, .int .u8 0, .int .u8 0, .int .u8 0, .int .u8 0, .int .u8 0, .int .u8 0, .int .u8 0, .int .u8 0, .int .u8 0, .int .u8 0, .int .u8 0, .int .u8 0] 23)
        have Ra := Lib.hid (Row.keep Ra.out hx76)
        have Rc := Lib.hid (Row.keep Rc.out hx76)
        have Hk := Lib.hid (newKey u63)
        generalize (u63.alloc (.cells #[.int .u8 0, .int .u8 0, .int .u8 0, .int .u8 0, .int .u8 0, .int .u8 0, .int .u8 0, .int .u8 0, .int .u8 0, .int .u8 0, .int .u8 0, .int .u8 0, .int .u8 0, .int .u8 0, .int .u8 0, .int .u8 0, .int .u8 0, .int .u8 0, .int .u8 0, .int .u8 0, .int .u8 0, .int .u8 0, .int .u8 0, .int .u8 0, .int .u8 0, .int .u8 0, .int .u8 0, .int .u8 0, .int .u8 0, .int .u8 0, .int .u8 0, .int .u8 0] 23)) = u76 at *
        obtain ⟨gk, hgk⟩ : ∃ x, u63.heap.size = x := ⟨_, rfl⟩
        have HGK := Lib.hid (show W0.heap.size ≤ gk by rw [← hgk]; exact hb63.size)
        rw [hgk] at Hk
        try rw [hgk]
        clear hgk
        have hb76 : Below W0.heap.size W0 u76 := hb63.trans (hx76.mono hb63.size)
        refine hK.out _ _ (HC.out _ hb76) (fun hHeld => ?_)
        clear hK K
        try simp only [List.getElem_toArray, List.getElem_cons_succ, List.getElem_cons_zero, Act.put, List.setIfInBounds_toArray, List.set_cons_zero, List.set_cons_succ]
        refine wpAnyH_ready (rs := [15]) (by kernel_rfl) (by simp) ?_
        refine AllReadyH.cons rfl (fun K hK => ?_) AllReadyH.nil
        · go_simp
          go_at_call 39
          with_reducible refine (KP.out u76).mono ?_
          rintro e u77 ⟨vp, rfl, hownp, hx77⟩
          obtain ⟨Ap, cp, rfl, Rp0⟩ := Row.own hownp
          have Ra := Lib.hid (Row.keep Ra.out hx77)
          have Rc := Lib.hid (Row.keep Rc.out hx77)
          have Hk := Lib.hid (Hk.out.keep hx77 Hk.out.lt)
          have Rp := Lib.hid Rp0
          clear Rp0 hownp
          go_simp
          have hb77 : Below W0.heap.size W0 u77 := hb76.trans (hx77.mono hb76.size)
          refine hK.out _ _ (HC.out _ hb77) (fun hHeld => ?_)
          clear hK K
          try simp only [List.getElem_toArray, List.getElem_cons_succ, List.getElem_cons_zero, Act.put, List.setIfInBounds_toArray, List.set_cons_zero, List.set_cons_succ]
          refine wpAnyH_ready (rs := [16]) (by kernel_rfl) (by simp) ?_
          refine AllReadyH.cons rfl (fun K hK => ?_) AllReadyH.nil
          · go_simp
            have hx78 := (Below.refl u77.heap.size u77).alloc (Nat.le_refl _) (.cells #[.slice Aa 32 ca, .slice (some ⟨gc, 0, none⟩) name.length cc, .slice Ap 8 cp] 52)
            have Hk := Lib.hid (Hk.out.keep hx78 Hk.out.lt)
            have Rb := Lib.hid (lit3 u77 Aa 32 ca seed (some ⟨gc, 0, none⟩) name.length cc name Ap 8 cp (be64 q) Ra.out Rc.out Rp.out)
            generalize (u77.alloc (.cells #[.slice Aa 32 ca, .slice (some ⟨gc, 0, none⟩) name.length cc, .slice Ap 8 cp] 52)) = u78 at *
            obtain ⟨gp, hgp⟩ : ∃ x, u77.heap.size = x := ⟨_, rfl⟩
            rw [hgp] at Rb
            try rw [hgp]
            clear Ra Rc Rp hgp
            have hb78 : Below W0.heap.size W0 u78 := hb77.trans (hx78.mono hb77.size)
            refine hK.out _ _ (HC.out _ hb78) (fun hHeld => ?_)
            clear hK K
            try simp only [List.getElem_toArray, List.getElem_cons_succ, List.getElem_cons_zero, Act.put, List.setIfInBounds_toArray, List.set_cons_zero, List.set_cons_succ]
            refine wpAnyH_ready (rs := [17]) (by kernel_rfl) (by simp) ?_
            refine AllReadyH.cons rfl (fun K hK => ?_) AllReadyH.nil
            · go_simp
              go_at_call 38
              with_reducible refine (KR.out _ _ _ _ _ _ _ _ Rb.out).mono ?_
              rintro e u79 ⟨rfl, hx79⟩
              have Hk := Lib.hid (Hk.out.keep hx79 Hk.out.lt)
              clear Rb
              go_simp
              have hb79 : Below W0.heap.size W0 u79 := hb78.trans (hx79.mono hb78.size)
              refine hK.out _ _ (HC.out _ hb79) (fun hHeld => ?_)
              clear hK K
              try simp only [List.getElem_toArray, List.getElem_cons_succ, List.getElem_cons_zero, Act.put, List.setIfInBounds_toArray, List.set_cons_zero, List.set_cons_succ]
              refine wpAnyH_ready (rs := [19]) (by kernel_rfl) (by simp) ?_
              refine AllReadyH.cons rfl (fun K hK => ?_) AllReadyH.nil
              · refine step_store_has (by rfl) 23 (.tmp 3) (.tmp 23) (by rfl) gk (by rfl) (dig.map bv) (by rfl) 23 zkey Hk.out (by rw [List.length_map, HDL.out]; exact size_key) (by rw [List.length_map, HDL.out]; rfl) (one_bv dig) ?_
                intro u80 ok Hk2
                clear Hk
                have Hk := Lib.hid Hk2
                have OK := Lib.hid ok
                clear Hk2 ok
                have hb80 : Below W0.heap.size W0 u80 := OK.out.below hb79 HGK.out
                refine hK.out _ _ (HC.out _ hb80) (fun hHeld => ?_)
                clear hK K
                try simp only [List.getElem_toArray, List.getElem_cons_succ, List.getElem_cons_zero, Act.put, List.setIfInBounds_toArray, List.set_cons_zero, List.set_cons_succ]
                refine wpAnyH_done (by kernel_rfl) ?_ _
                have HS := Lib.hid (Has.keep (w := W0) HH0.out hb80 (Has.lt HH0.out))
                have c33 : u80.cell? ⟨g, 33, none⟩ = some (.int .u64 (i : Int)) := (HS.out.cell 33).trans (strm_33 HSL.out)
                have f33 := HS.out.froz 33
                have KG := Lib.hid (fun (k : Nat) => HKG.out (u80.drewN k) gk (show Has (u80.drewN k) gk 23 (dig.map bv) from Hk.out))
                have SV := Lib.hid (show Save g w u80 from HW0.out.trans (Save.of_below hb80))
                clear Hk
                go_wp2_with fail
                go_quiet (first | (go_at_call 40; with_reducible refine Calls.quiet_of_same ((KG.out _).mono fun _ _ h => ⟨h.1, h.2.symm⟩)))
                go_wp2_with fail
                go_ret
                exact ⟨ret_int (by rw [HX.out]), HSET.out _ HS.out, (SV.out.drewN _).trans (Only.setCell _ g 33 _).saved'⟩
    · go_simp
      have hx81 := (Below.refl u62.heap.size u62).alloc (Nat.le_refl _) (.cells #[.int .u8 0, .int .u8 0, .int .u8 0, .int .u8 0, .int .u8 0, .int .u8 0, .int .u8 0, .int .u8 0, .int .u8 0, .int .u8 0, .int .u8 0, .int .u8 0, .int .u8 0, .int .u8 0, .int .u8 0, .int .u8 0, .int .u8 0, .int .u8 0, .int .u8 0, .int .u8 0, .int .u8 0, .int .u8 0, .int .u8 0, .int .u8 0, .int .u8 0, .int .u8 0, .int .u8 0, .int .u8 0, .int .u8 0, .int .u8 0, .int .u8 0, .int .u8 0] 23)
      have Rc := Lib.hid (Row.keep Rc.out hx81)
      have Hk := Lib.hid (newKey u62)
      generalize (u62.alloc (.cells #[.int .u8 0, .int .u8 0, .int .u8 0, .int .u8 0, .int .u8 0, .int .u8 0, .int .u8 0, .int .u8 0, .int .u8 0, .int .u8 0, .int .u8 0, .int .u8 0, .int .u8 0, .int .u8 0, .int .u8 0, .int .u8 0, .int .u8 0, .int .u8 0, .int .u8 0, .int .u8 0, .int .u8 0, .int .u8 0, .int .u8 0, .int .u8 0, .int .u8 0, .int .u8 0, .int .u8 0, .int .u8 0, .int .u8 0, .int .u8 0, .int .u8 0, .int .u8 0] 23)) = u81 at *
      obtain ⟨gk, hgk⟩ : ∃ x, u62.heap.size = x := ⟨_, rfl⟩
      have HGK := Lib.hid (show W0.heap.size ≤ gk by rw [← hgk]; exact hb62.size)
      rw [hgk] at Hk
      try rw [hgk]
      clear hgk
      have hb81 : Below W0.heap.size W0 u81 := hb62.trans (hx81.mono hb62.size)
      refine hK.out _ _ (HC.out _ hb81) (fun hHeld => ?_)
      clear hK K
      try simp only [List.getElem_toArray, List.getElem_cons_succ, List.getElem_cons_zero, Act.put, List.setIfInBounds_toArray, List.set_cons_zero, List.set_cons_succ]
      refine wpAnyH_ready (rs := [4]) (by kernel_rfl) (by simp) ?_
      refine AllReadyH.cons rfl (fun K hK => ?_) AllReadyH.nil
      · refine step_app8 (by rfl) (.const (.slice none 0 0)) (.tmp 9) (by rfl) u81.heap.size (.slice none 0 0) 0 [] (by rfl) (World.ownsRow_nil _ _ _ _) (some ⟨g, 0, none⟩) 32 32 seed (by rfl) (HSD.out _ hb81) HM.out (Nat.le_refl _) ?_
        intro va u82 howna hga
        obtain ⟨Aa, ca, rfl, Ra0⟩ := Row.own howna
        have hx82 : Below u81.heap.size u81 u82 := (Below.refl _ _).grown hga (Nat.le_refl _) (fun k hk => by cases hk)
        have Rc := Lib.hid (Row.keep Rc.out hx82)
        have Hk := Lib.hid (Hk.out.keep hx82 Hk.out.lt)
        have Ra := Lib.hid (show Row u82 Aa 32 ca (seed.map bv) from Ra0)
        clear Ra0 howna hga
        have hb82 : Below W0.heap.size W0 u82 := hb81.trans (hx82.mono hb81.size)
        refine hK.out _ _ (HC.out _ hb82) (fun hHeld => ?_)
        clear hK K
        try simp only [List.getElem_toArray, List.getElem_cons_succ, List.getElem_cons_zero, Act.put, List.setIfInBounds_toArray, List.set_cons_zero, List.set_cons_succ]
        refine wpAnyH_ready (rs := [15]) (by kernel_rfl) (by simp) ?_
        refine AllReadyH.cons rfl (fun K hK => ?_) AllReadyH.nil
        · go_simp
          go_at_call 39
          with_reducible refine (KP.out u82).mono ?_
          rintro e u83 ⟨vp, rfl, hownp, hx83⟩
          obtain ⟨Ap, cp, rfl, Rp0⟩ := Row.own hownp
          have Ra := Lib.hid (Row.keep Ra.out hx83)
          have Rc := Lib.hid (Row.keep Rc.out hx83)
          have Hk := Lib.hid (Hk.out.keep hx83 Hk.out.lt)
          have Rp := Lib.hid Rp0
          clear Rp0 hownp
          go_simp
          have hb83 : Below W0.heap.size W0 u83 := hb82.trans (hx83.mono hb82.size)
          refine hK.out _ _ (HC.out _ hb83) (fun hHeld => ?_)
          clear hK K
          try simp only [List.getElem_toArray, List.getElem_cons_succ, List.getElem_cons_zero, Act.put, List.setIfInBounds_toArray, List.set_cons_zero, List.set_cons_succ]
          refine wpAnyH_ready (rs := [16]) (by kernel_rfl) (by simp) ?_
          refine AllReadyH.cons rfl (fun K hK => ?_) AllReadyH.nil
          · go_simp
            have hx84 := (Below.refl u83.heap.size u83).alloc (Nat.le_refl _) (.cells #[.slice Aa 32 ca, .slice (some ⟨gc, 0, none⟩) name.length cc, .slice Ap 8 cp] 52)
            have Hk := Lib.hid (Hk.out.keep hx84 Hk.out.lt)
            have Rb := Lib.hid (lit3 u83 Aa 32 ca seed (some ⟨gc, 0, none⟩) name.length cc name Ap 8 cp (be64 q) Ra.out Rc.out Rp.out)
            generalize (u83.alloc (.cells #[.slice Aa 32 ca, .slice (some ⟨gc, 0, none⟩) name.length cc, .slice Ap 8 cp] 52)) = u84 at *
            obtain ⟨gp, hgp⟩ : ∃ x, u83.heap.size = x := ⟨_, rfl⟩
            rw [hgp] at Rb
            try rw [hgp]
            clear Ra Rc Rp hgp
            have hb84 : Below W0.heap.size W0 u84 := hb83.trans (hx84.mono hb83.size)
            refine hK.out _ _ (HC.out _ hb84) (fun hHeld => ?_)
            clear hK K
            try simp only [List.getElem_toArray, List.getElem_cons_succ, List.getElem_cons_zero, Act.put, List.setIfInBounds_toArray, List.set_cons_zero, List.set_cons_succ]
            refine wpAnyH_ready (rs := [17]) (by kernel_rfl) (by simp) ?_
            refine AllReadyH.cons rfl (fun K hK => ?_) AllReadyH.nil
            · go_simp
              go_at_call 38
              with_reducible refine (KR.out _ _ _ _ _ _ _ _ Rb.out).mono ?_
              rintro e u85 ⟨rfl, hx85⟩
              have Hk := Lib.hid (Hk.out.keep hx85 Hk.out.lt)
              clear Rb
              go_simp
              have hb85 : Below W0.heap.size W0 u85 := hb84.trans (hx85.mono hb84.size)
              refine hK.out _ _ (HC.out _ hb85) (fun hHeld => ?_)
              clear hK K
              try simp only [List.getElem_toArray, List.getElem_cons_succ, List.getElem_cons_zero, Act.put, List.setIfInBounds_toArray, List.set_cons_zero, List.set_cons_succ]
              refine wpAnyH_ready (rs := [19]) (by kernel_rfl) (by simp) ?_
              refine AllReadyH.cons rfl (fun K hK => ?_) AllReadyH.nil
              · refine step_store_has (by rfl) 23 (.tmp 3) (.tmp 23) (by rfl) gk (by rfl) (dig.map bv) (by rfl) 23 zkey Hk.out (by rw [List.length_map, HDL.out]; exact size_key) (by rw [List.length_map, HDL.out]; rfl) (one_bv dig) ?_
                intro u86 ok Hk2
                clear Hk
                have Hk := Lib.hid Hk2
                have OK := Lib.hid ok
                clear Hk2 ok
                have hb86 : Below W0.heap.size W0 u86 := OK.out.below hb85 HGK.out
                refine hK.out _ _ (HC.out _ hb86) (fun hHeld => ?_)
                clear hK K
                try simp only [List.getElem_toArray, List.getElem_cons_succ, List.getElem_cons_zero, Act.put, List.setIfInBounds_toArray, List.set_cons_zero, List.set_cons_succ]
                refine wpAnyH_done (by kernel_rfl) ?_ _
                have HS := Lib.hid (Has.keep (w := W0) HH0.out hb86 (Has.lt HH0.out))
                have c33 : u86.cell? ⟨g, 33, none⟩ = some (.int .u64 (i : Int)) := (HS.out.cell 33).trans (strm_33 HSL.out)
                have f33 := HS.out.froz 33
                have KG := Lib.hid (fun (k : Nat) => HKG.out (u86.drewN k) gk (show Has (u86.drewN k) gk 23 (dig.map bv) from Hk.out))
                have SV := Lib.hid (show Save g w u86 from HW0.out.trans (Save.of_below hb86))
                clear Hk
                go_wp2_with fail
                go_quiet (first | (go_at_call 40; with_reducible refine Calls.quiet_of_same ((KG.out _).mono fun _ _ h => ⟨h.1, h.2.symm⟩)))
                go_wp2_with fail
                go_ret
                exact ⟨ret_int (by rw [HX.out]), HSET.out _ HS.out, (SV.out.drewN _).trans (Only.setCell _ g 33 _).saved'⟩
  · go_simp
    have hx87 := (Below.refl W0.heap.size W0).alloc (Nat.le_refl _) (.cells #[.int .u8 0, .int .u8 0, .int .u8 0, .int .u8 0, .int .u8 0, .int .u8 0, .int .u8 0, .int .u8 0, .int .u8 0, .int .u8 0, .int .u8 0, .int .u8 0, .int .u8 0, .int .u8 0, .int .u8 0, .int .u8 0, .int .u8 0, .int .u8 0, .int .u8 0, .int .u8 0, .int .u8 0, .int .u8 0, .int .u8 0, .int .u8 0, .int .u8 0, .int .u8 0, .int .u8 0, .int .u8 0, .int .u8 0, .int .u8 0, .int .u8 0, .int .u8 0] 23)
    have Hk := Lib.hid (newKey W0)
    generalize (W0.alloc (.cells #[.int .u8 0, .int .u8 0, .int .u8 0, .int .u8 0, .int .u8 0, .int .u8 0, .int .u8 0, .int .u8 0, .int .u8 0, .int .u8 0, .int .u8 0, .int .u8 0, .int .u8 0, .int .u8 0, .int .u8 0, .int .u8 0, .int .u8 0, .int .u8 0, .int .u8 0, .int .u8 0, .int .u8 0, .int .u8 0, .int .u8 0, .int .u8 0, .int .u8 0, .int .u8 0, .int .u8 0, .int .u8 0, .int .u8 0, .int .u8 0, .int .u8 0, .int .u8 0] 23)) = u87 at *
    obtain ⟨gk, hgk⟩ : ∃ x, W0.heap.size = x := ⟨_, rfl⟩
    have HGK := Lib.hid (show W0.heap.size ≤ gk by rw [← hgk]; exact hb0.size)
    rw [hgk] at Hk
    try rw [hgk]
    clear hgk
    have hb87 : Below W0.heap.size W0 u87 := hb0.trans (hx87.mono hb0.size)
    refine hK.out _ _ (HC.out _ hb87) (fun hHeld => ?_)
    clear hK K
    try simp only [List.getElem_toArray, List.getElem_cons_succ, List.getElem_cons_zero, Act.put, List.setIfInBounds_toArray, List.set_cons_zero, List.set_cons_succ]
    refine wpAnyH_ready (rs := [4, 9]) (by kernel_rfl) (by simp) ?_
    refine AllReadyH.cons rfl (fun K hK => ?_) (AllReadyH.cons rfl (fun K hK => ?_) AllReadyH.nil)
    · refine step_app8 (by rfl) (.const (.slice none 0 0)) (.tmp 9) (by rfl) u87.heap.size (.slice none 0 0) 0 [] (by rfl) (World.ownsRow_nil _ _ _ _) (some ⟨g, 0, none⟩) 32 32 seed (by rfl) (HSD.out _ hb87) HM.out (Nat.le_refl _) ?_
      intro va u88 howna hga
      obtain ⟨Aa, ca, rfl, Ra0⟩ := Row.own howna
      have hx88 : Below u87.heap.size u87 u88 := (Below.refl _ _).grown hga (Nat.le_refl _) (fun k hk => by cases hk)
      have Hk := Lib.hid (Hk.out.keep hx88 Hk.out.lt)
      have Ra := Lib.hid (show Row u88 Aa 32 ca (seed.map bv) from Ra0)
      clear Ra0 howna hga
      have hb88 : Below W0.heap.size W0 u88 := hb87.trans (hx88.mono hb87.size)
      refine hK.out _ _ (HC.out _ hb88) (fun hHeld => ?_)
      clear hK K
      try simp only [List.getElem_toArray, List.getElem_cons_succ, List.getElem_cons_zero, Act.put, List.setIfInBounds_toArray, List.set_cons_zero, List.set_cons_succ]
      refine wpAnyH_ready (rs := [9, 15]) (by kernel_rfl) (by simp) ?_
      refine AllReadyH.cons rfl (fun K hK => ?_) (AllReadyH.cons rfl (fun K hK => ?_) AllReadyH.nil)
      · obtain ⟨cc, u89, hconv, hpc, hx89⟩ := run_nameB name HNM.out u88
        go_simp
        have Ra := Lib.hid (Row.keep Ra.out hx89)
        have Hk := Lib.hid (Hk.out.keep hx89 Hk.out.lt)
        have Rc := Lib.hid hpc
        obtain ⟨gc, hgc⟩ : ∃ x, u88.heap.size = x := ⟨_, rfl⟩
        rw [hgc] at Rc
        try rw [hgc]
        clear hconv hpc hgc
        have hb89 : Below W0.heap.size W0 u89 := hb88.trans (hx89.mono hb88.size)
        refine hK.out _ _ (HC.out _ hb89) (fun hHeld => ?_)
        clear hK K
        try simp only [List.getElem_toArray, List.getElem_cons_succ, List.getElem_cons_zero, Act.put, List.setIfInBounds_toArray, List.set_cons_zero, List.set_cons_succ]
        refine wpAnyH_ready (rs := [15]) (by kernel_rfl) (by simp) ?_
        refine AllReadyH.cons rfl (fun K hK => ?_) AllReadyH.nil
        · go_simp
          go_at_call 39
          with_reducible refine (KP.out u89).mono ?_
          rintro e u90 ⟨vp, rfl, hownp, hx90⟩
          obtain ⟨Ap, cp, rfl, Rp0⟩ := Row.own hownp
          have Ra := Lib.hid (Row.keep Ra.out hx90)
          have Rc := Lib.hid (Row.keep Rc.out hx90)
          have Hk := Lib.hid (Hk.out.keep hx90 Hk.out.lt)
          have Rp := Lib.hid Rp0
          clear Rp0 hownp
          go_simp
          have hb90 : Below W0.heap.size W0 u90 := hb89.trans (hx90.mono hb89.size)
          refine hK.out _ _ (HC.out _ hb90) (fun hHeld => ?_)
          clear hK K
          try simp only [List.getElem_toArray, List.getElem_cons_succ, List.getElem_cons_zero, Act.put, List.setIfInBounds_toArray, List.set_cons_zero, List.set_cons_succ]
          refine wpAnyH_ready (rs := [16]) (by kernel_rfl) (by simp) ?_
          refine AllReadyH.cons rfl (fun K hK => ?_) AllReadyH.nil
          · go_simp
            have hx91 := (Below.refl u90.heap.size u90).alloc (Nat.le_refl _) (.cells #[.slice Aa 32 ca, .slice (some ⟨gc, 0, none⟩) name.length cc, .slice Ap 8 cp] 52)
            have Hk := Lib.hid (Hk.out.keep hx91 Hk.out.lt)
            have Rb := Lib.hid (lit3 u90 Aa 32 ca seed (some ⟨gc, 0, none⟩) name.length cc name Ap 8 cp (be64 q) Ra.out Rc.out Rp.out)
            generalize (u90.alloc (.cells #[.slice Aa 32 ca, .slice (some ⟨gc, 0, none⟩) name.length cc, .slice Ap 8 cp] 52)) = u91 at *
            obtain ⟨gp, hgp⟩ : ∃ x, u90.heap.size = x := ⟨_, rfl⟩
            rw [hgp] at Rb
            try rw [hgp]
            clear Ra Rc Rp hgp
            have hb91 : Below W0.heap.size W0 u91 := hb90.trans (hx91.mono hb90.size)
            refine hK.out _ _ (HC.out _ hb91) (fun hHeld => ?_)
            clear hK K
            try simp only [List.getElem_toArray, List.getElem_cons_succ, List.getElem_cons_zero, Act.put, List.setIfInBounds_toArray, List.set_cons_zero, List.set_cons_succ]
            refine wpAnyH_ready (rs := [17]) (by kernel_rfl) (by simp) ?_
            refine AllReadyH.cons rfl (fun K hK => ?_) AllReadyH.nil
            · go_simp
              go_at_call 38
              with_reducible refine (KR.out _ _ _ _ _ _ _ _ Rb.out).mono ?_
              rintro e u92 ⟨rfl, hx92⟩
              have Hk := Lib.hid (Hk.out.keep hx92 Hk.out.lt)
              clear Rb
              go_simp
              have hb92 : Below W0.heap.size W0 u92 := hb91.trans (hx92.mono hb91.size)
              refine hK.out _ _ (HC.out _ hb92) (fun hHeld => ?_)
              clear hK K
              try simp only [List.getElem_toArray, List.getElem_cons_succ, List.getElem_cons_zero, Act.put, List.setIfInBounds_toArray, List.set_cons_zero, List.set_cons_succ]
              refine wpAnyH_ready (rs := [19]) (by kernel_rfl) (by simp) ?_
              refine AllReadyH.cons rfl (fun K hK => ?_) AllReadyH.nil
              · refine step_store_has (by rfl) 23 (.tmp 3) (.tmp 23) (by rfl) gk (by rfl) (dig.map bv) (by rfl) 23 zkey Hk.out (by rw [List.length_map, HDL.out]; exact size_key) (by rw [List.length_map, HDL.out]; rfl) (one_bv dig) ?_
                intro u93 ok Hk2
                clear Hk
                have Hk := Lib.hid Hk2
                have OK := Lib.hid ok
                clear Hk2 ok
                have hb93 : Below W0.heap.size W0 u93 := OK.out.below hb92 HGK.out
                refine hK.out _ _ (HC.out _ hb93) (fun hHeld => ?_)
                clear hK K
                try simp only [List.getElem_toArray, List.getElem_cons_succ, List.getElem_cons_zero, Act.put, List.setIfInBounds_toArray, List.set_cons_zero, List.set_cons_succ]
                refine wpAnyH_done (by kernel_rfl) ?_ _
                have HS := Lib.hid (Has.keep (w := W0) HH0.out hb93 (Has.lt HH0.out))
                have c33 : u93.cell? ⟨g, 33, none⟩ = some (.int .u64 (i : Int)) := (HS.out.cell 33).trans (strm_33 HSL.out)
                have f33 := HS.out.froz 33
                have KG := Lib.hid (fun (k : Nat) => HKG.out (u93.drewN k) gk (show Has (u93.drewN k) gk 23 (dig.map bv) from Hk.out))
                have SV := Lib.hid (show Save g w u93 from HW0.out.trans (Save.of_below hb93))
                clear Hk
                go_wp2_with fail
                go_quiet (first | (go_at_call 40; with_reducible refine Calls.quiet_of_same ((KG.out _).mono fun _ _ h => ⟨h.1, h.2.symm⟩)))
                go_wp2_with fail
                go_ret
                exact ⟨ret_int (by rw [HX.out]), HSET.out _ HS.out, (SV.out.drewN _).trans (Only.setCell _ g 33 _).saved'⟩
      · go_simp
        go_at_call 39
        with_reducible refine (KP.out u88).mono ?_
        rintro e u94 ⟨vp, rfl, hownp, hx94⟩
        obtain ⟨Ap, cp, rfl, Rp0⟩ := Row.own hownp
        have Ra := Lib.hid (Row.keep Ra.out hx94)
        have Hk := Lib.hid (Hk.out.keep hx94 Hk.out.lt)
        have Rp := Lib.hid Rp0
        clear Rp0 hownp
        go_simp
        have hb94 : Below W0.heap.size W0 u94 := hb88.trans (hx94.mono hb88.size)
        refine hK.out _ _ (HC.out _ hb94) (fun hHeld => ?_)
        clear hK K
        try simp only [List.getElem_toArray, List.getElem_cons_succ, List.getElem_cons_zero, Act.put, List.setIfInBounds_toArray, List.set_cons_zero, List.set_cons_succ]
        refine wpAnyH_ready (rs := [9]) (by kernel_rfl) (by simp) ?_
        refine AllReadyH.cons rfl (fun K hK => ?_) AllReadyH.nil
        · obtain ⟨cc, u95, hconv, hpc, hx95⟩ := run_nameB name HNM.out u94
          go_simp
          have Ra := Lib.hid (Row.keep Ra.out hx95)
          have Rp := Lib.hid (Row.keep Rp.out hx95)
          have Hk := Lib.hid (Hk.out.keep hx95 Hk.out.lt)
          have Rc := Lib.hid hpc
          obtain ⟨gc, hgc⟩ : ∃ x, u94.heap.size = x := ⟨_, rfl⟩
          rw [hgc] at Rc
          try rw [hgc]
          clear hconv hpc hgc
          have hb95 : Below W0.heap.size W0 u95 := hb94.trans (hx95.mono hb94.size)
          refine hK.out _ _ (HC.out _ hb95) (fun hHeld => ?_)
          clear hK K
          try simp only [List.getElem_toArray, List.getElem_cons_succ, List.getElem_cons_zero, Act.put, List.setIfInBounds_toArray, List.set_cons_zero, List.set_cons_succ]
          refine wpAnyH_ready (rs := [16]) (by kernel_rfl) (by simp) ?_
          refine AllReadyH.cons rfl (fun K hK => ?_) AllReadyH.nil
          · go_simp
            have hx96 := (Below.refl u95.heap.size u95).alloc (Nat.le_refl _) (.cells #[.slice Aa 32 ca, .slice (some ⟨gc, 0, none⟩) name.length cc, .slice Ap 8 cp] 52)
            have Hk := Lib.hid (Hk.out.keep hx96 Hk.out.lt)
            have Rb := Lib.hid (lit3 u95 Aa 32 ca seed (some ⟨gc, 0, none⟩) name.length cc name Ap 8 cp (be64 q) Ra.out Rc.out Rp.out)
            generalize (u95.alloc (.cells #[.slice Aa 32 ca, .slice (some ⟨gc, 0, none⟩) name.length cc, .slice Ap 8 cp] 52)) = u96 at *
            obtain ⟨gp, hgp⟩ : ∃ x, u95.heap.size = x := ⟨_, rfl⟩
            rw [hgp] at Rb
            try rw [hgp]
            clear Ra Rc Rp hgp
            have hb96 : Below W0.heap.size W0 u96 := hb95.trans (hx96.mono hb95.size)
            refine hK.out _ _ (HC.out _ hb96) (fun hHeld => ?_)
            clear hK K
            try simp only [List.getElem_toArray, List.getElem_cons_succ, List.getElem_cons_zero, Act.put, List.setIfInBounds_toArray, List.set_cons_zero, List.set_cons_succ]
            refine wpAnyH_ready (rs := [17]) (by kernel_rfl) (by simp) ?_
            refine AllReadyH.cons rfl (fun K hK => ?_) AllReadyH.nil
            · go_simp
              go_at_call 38
              with_reducible refine (KR.out _ _ _ _ _ _ _ _ Rb.out).mono ?_
              rintro e u97 ⟨rfl, hx97⟩
              have Hk := Lib.hid (Hk.out.keep hx97 Hk.out.lt)
              clear Rb
              go_simp
              have hb97 : Below W0.heap.size W0 u97 := hb96.trans (hx97.mono hb96.size)
              refine hK.out _ _ (HC.out _ hb97) (fun hHeld => ?_)
              clear hK K
              try simp only [List.getElem_toArray, List.getElem_cons_succ, List.getElem_cons_zero, Act.put, List.setIfInBounds_toArray, List.set_cons_zero, List.set_cons_succ]
              refine wpAnyH_ready (rs := [19]) (by kernel_rfl) (by simp) ?_
              refine AllReadyH.cons rfl (fun K hK => ?_) AllReadyH.nil
              · refine step_store_has (by rfl) 23 (.tmp 3) (.tmp 23) (by rfl) gk (by rfl) (dig.map bv) (by rfl) 23 zkey Hk.out (by rw [List.length_map, HDL.out]; exact size_key) (by rw [List.length_map, HDL.out]; rfl) (one_bv dig) ?_
                intro u98 ok Hk2
                clear Hk
                have Hk := Lib.hid Hk2
                have OK := Lib.hid ok
                clear Hk2 ok
                have hb98 : Below W0.heap.size W0 u98 := OK.out.below hb97 HGK.out
                refine hK.out _ _ (HC.out _ hb98) (fun hHeld => ?_)
                clear hK K
                try simp only [List.getElem_toArray, List.getElem_cons_succ, List.getElem_cons_zero, Act.put, List.setIfInBounds_toArray, List.set_cons_zero, List.set_cons_succ]
                refine wpAnyH_done (by kernel_rfl) ?_ _
                have HS := Lib.hid (Has.keep (w := W0) HH0.out hb98 (Has.lt HH0.out))
                have c33 : u98.cell? ⟨g, 33, none⟩ = some (.int .u64 (i : Int)) := (HS.out.cell 33).trans (strm_33 HSL.out)
                have f33 := HS.out.froz 33
                have KG := Lib.hid (fun (k : Nat) => HKG.out (u98.drewN k) gk (show Has (u98.drewN k) gk 23 (dig.map bv) from Hk.out))
                have SV := Lib.hid (show Save g w u98 from HW0.out.trans (Save.of_below hb98))
                clear Hk
                go_wp2_with fail
                go_quiet (first | (go_at_call 40; with_reducible refine Calls.quiet_of_same ((KG.out _).mono fun _ _ h => ⟨h.1, h.2.symm⟩)))
                go_wp2_with fail
                go_ret
                exact ⟨ret_int (by rw [HX.out]), HSET.out _ HS.out, (SV.out.drewN _).trans (Only.setCell _ g 33 _).saved'⟩
    · obtain ⟨cc, u99, hconv, hpc, hx99⟩ := run_nameB name HNM.out u87
      go_simp
      have Hk := Lib.hid (Hk.out.keep hx99 Hk.out.lt)
      have Rc := Lib.hid hpc
      obtain ⟨gc, hgc⟩ : ∃ x, u87.heap.size = x := ⟨_, rfl⟩
      rw [hgc] at Rc
      try rw [hgc]
      clear hconv hpc hgc
      have hb99 : Below W0.heap.size W0 u99 := hb87.trans (hx99.mono hb87.size)
      refine hK.out _ _ (HC.out _ hb99) (fun hHeld => ?_)
      clear hK K
      try simp only [List.getElem_toArray, List.getElem_cons_succ, List.getElem_cons_zero, Act.put, List.setIfInBounds_toArray, List.set_cons_zero, List.set_cons_succ]
      refine wpAnyH_ready (rs := [4]) (by kernel_rfl) (by simp) ?_
      refine AllReadyH.cons rfl (fun K hK => ?_) AllReadyH.nil
      · refine step_app8 (by rfl) (.const (.slice none 0 0)) (.tmp 9) (by rfl) u99.heap.size (.slice none 0 0) 0 [] (by rfl) (World.ownsRow_nil _ _ _ _) (some ⟨g, 0, none⟩) 32 32 seed (by rfl) (HSD.out _ hb99) HM.out (Nat.le_refl _) ?_
        intro va u100 howna hga
        obtain ⟨Aa, ca, rfl, Ra0⟩ := Row.own howna
        have hx100 : Below u99.heap.size u99 u100 := (Below.refl _ _).grown hga (Nat.le_refl _) (fun k hk => by cases hk)
        have Rc := Lib.hid (Row.keep Rc.out hx100)
        have Hk := Lib.hid (Hk.out.keep hx100 Hk.out.lt)
        have Ra := Lib.hid (show Row u100 Aa 32 ca (seed.map bv) from Ra0)
        clear Ra0 howna hga
        have hb100 : Below W0.heap.size W0 u100 := hb99.trans (hx100.mono hb99.size)
        refine hK.out _ _ (HC.out _ hb100) (fun hHeld => ?_)
        clear hK K
        try simp only [List.getElem_toArray, List.getElem_cons_succ, List.getElem_cons_zero, Act.put, List.setIfInBounds_toArray, List.set_cons_zero, List.set_cons_succ]
        refine wpAnyH_ready (rs := [15]) (by kernel_rfl) (by simp) ?_
        refine AllReadyH.cons rfl (fun K hK => ?_) AllReadyH.nil
        · go_simp
          go_at_call 39
          with_reducible refine (KP.out u100).mono ?_
          rintro e u101 ⟨vp, rfl, hownp, hx101⟩
          obtain ⟨Ap, cp, rfl, Rp0⟩ := Row.own hownp
          have Ra := Lib.hid (Row.keep Ra.out hx101)
          have Rc := Lib.hid (Row.keep Rc.out hx101)
          have Hk := Lib.hid (Hk.out.keep hx101 Hk.out.lt)
          have Rp := Lib.hid Rp0
          clear Rp0 hownp
          go_simp
          have hb101 : Below W0.heap.size W0 u101 := hb100.trans (hx101.mono hb100.size)
          refine hK.out _ _ (HC.out _ hb101) (fun hHeld => ?_)
          clear hK K
          try simp only [List.getElem_toArray, List.getElem_cons_succ, List.getElem_cons_zero, Act.put, List.setIfInBounds_toArray, List.set_cons_zero, List.set_cons_succ]
          refine wpAnyH_ready (rs := [16]) (by kernel_rfl) (by simp) ?_
          refine AllReadyH.cons rfl (fun K hK => ?_) AllReadyH.nil
          · go_simp
            have hx102 := (Below.refl u101.heap.size u101).alloc (Nat.le_refl _) (.cells #[.slice Aa 32 ca, .slice (some ⟨gc, 0, none⟩) name.length cc, .slice Ap 8 cp] 52)
            have Hk := Lib.hid (Hk.out.keep hx102 Hk.out.lt)
            have Rb := Lib.hid (lit3 u101 Aa 32 ca seed (some ⟨gc, 0, none⟩) name.length cc name Ap 8 cp (be64 q) Ra.out Rc.out Rp.out)
            generalize (u101.alloc (.cells #[.slice Aa 32 ca, .slice (some ⟨gc, 0, none⟩) name.length cc, .slice Ap 8 cp] 52)) = u102 at *
            obtain ⟨gp, hgp⟩ : ∃ x, u101.heap.size = x := ⟨_, rfl⟩
            rw [hgp] at Rb
            try rw [hgp]
            clear Ra Rc Rp hgp
            have hb102 : Below W0.heap.size W0 u102 := hb101.trans (hx102.mono hb101.size)
            refine hK.out _ _ (HC.out _ hb102) (fun hHeld => ?_)
            clear hK K
            try simp only [List.getElem_toArray, List.getElem_cons_succ, List.getElem_cons_zero, Act.put, List.setIfInBounds_toArray, List.set_cons_zero, List.set_cons_succ]
            refine wpAnyH_ready (rs := [17]) (by kernel_rfl) (by simp) ?_
            refine AllReadyH.cons rfl (fun K hK => ?_) AllReadyH.nil
            · go_simp
              go_at_call 38
              with_reducible refine (KR.out _ _ _ _ _ _ _ _ Rb.out).mono ?_
              rintro e u103 ⟨rfl, hx103⟩
              have Hk := Lib.hid (Hk.out.keep hx103 Hk.out.lt)
              clear Rb
              go_simp
              have hb103 : Below W0.heap.size W0 u103 := hb102.trans (hx103.mono hb102.size)
              refine hK.out _ _ (HC.out _ hb103) (fun hHeld => ?_)
              clear hK K
              try simp only [List.getElem_toArray, List.getElem_cons_succ, List.getElem_cons_zero, Act.put, List.setIfInBounds_toArray, List.set_cons_zero, List.set_cons_succ]
              refine wpAnyH_ready (rs := [19]) (by kernel_rfl) (by simp) ?_
              refine AllReadyH.cons rfl (fun K hK => ?_) AllReadyH.nil
              · refine step_store_has (by rfl) 23 (.tmp 3) (.tmp 23) (by rfl) gk (by rfl) (dig.map bv) (by rfl) 23 zkey Hk.out (by rw [List.length_map, HDL.out]; exact size_key) (by rw [List.length_map, HDL.out]; rfl) (one_bv dig) ?_
                intro u104 ok Hk2
                clear Hk
                have Hk := Lib.hid Hk2
                have OK := Lib.hid ok
                clear Hk2 ok
                have hb104 : Below W0.heap.size W0 u104 := OK.out.below hb103 HGK.out
                refine hK.out _ _ (HC.out _ hb104) (fun hHeld => ?_)
                clear hK K
                try simp only [List.getElem_toArray, List.getElem_cons_succ, List.getElem_cons_zero, Act.put, List.setIfInBounds_toArray, List.set_cons_zero, List.set_cons_succ]
                refine wpAnyH_done (by kernel_rfl) ?_ _
                have HS := Lib.hid (Has.keep (w := W0) HH0.out hb104 (Has.lt HH0.out))
                have c33 : u104.cell? ⟨g, 33, none⟩ = some (.int .u64 (i : Int)) := (HS.out.cell 33).trans (strm_33 HSL.out)
                have f33 := HS.out.froz 33
                have KG := Lib.hid (fun (k : Nat) => HKG.out (u104.drewN k) gk (show Has (u104.drewN k) gk 23 (dig.map bv) from Hk.out))
                have SV := Lib.hid (show Save g w u104 from HW0.out.trans (Save.of_below hb104))
                clear Hk
                go_wp2_with fail
                go_quiet (first | (go_at_call 40; with_reducible refine Calls.quiet_of_same ((KG.out _).mono fun _ _ h => ⟨h.1, h.2.symm⟩)))
                go_wp2_with fail
                go_ret
                exact ⟨ret_int (by rw [HX.out]), HSET.out _ HS.out, (SV.out.drewN _).trans (Only.setCell _ g 33 _).saved'⟩
end Go.Proofs.YtjfipijdjbbogaaDoor
