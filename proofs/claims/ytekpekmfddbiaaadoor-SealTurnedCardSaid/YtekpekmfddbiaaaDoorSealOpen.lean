/-
  Contracts of bytes.Clone and of seal.Open.
-/
import Derived.Test.YtekpekmfddbiaaaDoorSealSeal
import Derived.Deep.RegionHeld
import Derived.Laws.Cover3
namespace Go.Proofs.YtekpekmfddbiaaaDoor
open Go.ChangeShapes Go.WideShapes Go.ChangeAt Go.RowKit
set_option linter.unusedVariables false
set_option linter.unusedSimpArgs false

theorem cmp_tag (l l' : List UInt8) (hl : l.length = 16) (hl' : l'.length = 16) (w : World) : (Op.equalIn 10000 33 (.agg (l.map bv).toArray) (.agg (l'.map bv).toArray)).run Tryd.prog w = .ok (l == l') w :=
  run_equalIn_bytes (P := Tryd.prog) w 9998 33 5 16 Tryd.underlying33 Tryd.underlying5 (fun u => by kernel_rfl) l l' hl hl'
theorem Row.range {w : World} {b off n c : Nat} {l : List UInt8} (h : Bytes w (some ⟨b, off, none⟩) n c l) : w.rangeAt b off (l.map bv) := fun j v hv => by
  have hl := h.len
  have hj : j < l.length := by have := (List.getElem?_eq_some_iff.1 hv).1; simpa using this
  obtain ⟨b', off', e, _, hc⟩ := h.2.2.2.2 (by omega)
  cases e
  rw [hc j (by omega), hv]

namespace sealing
set_option maxHeartbeats 400000 in
theorem Clone (a : Addr) (n c : Nat) (l : List UInt8) (hn : n ≤ 70368744177664) (w : World) (hl : Bytes w (some a) n c l) :
    Calls Tryd.prog 13 #[.slice (some a) n c] w fun e w' => ∃ v, e = .returned v ∧ w'.ownsRow w.heap.size 5 1 v n (l.map bv) ∧ Below w.heap.size w w' := by
  have hb1 := (Below.refl w.heap.size w).alloc (Nat.le_refl _) (.cells #[] 5)
  have hown1 : (w.alloc (.cells #[] 5)).ownsRow w.heap.size 5 1 (.slice (some ⟨w.heap.size, 0, none⟩) 0 0) 0 (([] : List UInt8).map bv) :=
    own_splice (Z := []) (xs := []) (by rw [splice_nil]; exact Has.new w 5 []) (Nat.le_refl _) rfl (Nat.le_refl _) (Nat.zero_le _) rfl
  have hl1 := hl.keep hb1
  have HB := Lib.hid (show 0 + n ≤ 140737488355328 by omega)
  have hnil : ∀ u, (binOp .eql 24 (.slice (some a) n c) (.slice none 0 0)).run Tryd.prog u = .ok (.bool false) u := fun u => by
    simp only [binOp]
    simp [run_equal_slice_nil u 24 5 (some a) n c Tryd.underlying24]
  go_enter Tryd.func13, Tryd.ntmps13
  go_wp2_with (at_builtin; (refine app8 rfl (.tmp 5) (.tmp 6) rfl w.heap.size (.slice (some ⟨w.heap.size, 0, none⟩) 0 0) 0 [] rfl hown1 (some a) n c l rfl hl1 HB.out hb1.size ?_); intro v2 w2 hown2 hg2)
  rw [Nat.zero_add, List.nil_append] at hown2
  go_ret
  exact ⟨_, rfl, hown2, hb1.grown hg2 hb1.size (fun k hk => (hown1.lt k hk).1)⟩
set_option maxRecDepth 10000 in
set_option maxHeartbeats 1000000 in
theorem OpenShort (k : List UInt8) (hk : k.length = 32) (A : Option Addr) (n c : Nat) (l : List UInt8) (B : Option Addr) (m d : Nat) (b : List UInt8) (hm : m < 16) (w : World) (hl' : Bytes w B m d b) :
    Calls Tryd.prog 8 #[.agg (k.map bv).toArray, .slice A n c, .slice B m d] w fun e w' => ∃ A' n' c', e = .returned (.tuple #[.slice A' n' c', .bool (openOk k l b)]) ∧ Bytes w' A' n' c' (openN k l b) ∧ Below w.heap.size w w' := by
  have hb1 := (Below.refl w.heap.size w).alloc (Nat.le_refl _) (.cells (k.map bv).toArray 23)
  have hd1 : decide ((m : Int) - 16 < 0) = true := decide_eq_true (by omega)
  have ho := open_short k l b (by rw [hl'.len]; exact hm)
  rw [ho.1, ho.2]
  clear ho
  go_enter Tryd.func8, Tryd.ntmps8
  go_wp2_with fail
  go_region
  go_wp2
  go_ret2
  exact ⟨none, 0, 0, rfl, Row.nil _, hb1.drew⟩
set_option maxRecDepth 10000 in
set_option maxHeartbeats 1000000 in
theorem OpenLong (k : List UInt8) (hk : k.length = 32) (A : Option Addr) (n c : Nat) (l : List UInt8) (bb off p d : Nat) (b : List UInt8) (hn : n ≤ 8796093022208) (hp : p ≤ 8796093022208) (w : World) (hl : Bytes w A n c l) (hl' : Bytes w (some ⟨bb, off, none⟩) (p + 16) d b) (hT : Tab w) :
    Calls Tryd.prog 8 #[.agg (k.map bv).toArray, .slice A n c, .slice (some ⟨bb, off, none⟩) (p + 16) d] w fun e w' => ∃ A' n' c', e = .returned (.tuple #[.slice A' n' c', .bool (openOk k l b)]) ∧ Bytes w' A' n' c' (openN k l b) ∧ Below w.heap.size w w' := by
  have hG : 0 < w.heap.size := World.block_lt_of_cell? w _ (hT 0 (by omega))
  have hb1 := (Below.refl w.heap.size w).alloc (Nat.le_refl _) (.cells (k.map bv).toArray 23)
  have HQ1 := Has.new w 23 (k.map bv)
  have hbl := hl'.len
  have hpd16 : p + 16 ≤ d := hl'.2.1
  obtain ⟨U, hU⟩ : ∃ U, U = b.take p := ⟨_, rfl⟩
  obtain ⟨V, hV⟩ : ∃ V, V = b.drop p := ⟨_, rfl⟩
  have hVl : V.length = 16 := by rw [hV, List.length_drop]; omega
  have hbU : Bytes w (some ⟨bb, off, none⟩) p d U := by rw [hU]; exact hl'.head p (by omega)
  have hbV : Bytes w (some ⟨bb, off + p, none⟩) 16 (d - p) V := by
    have h := hl'.tail p (by omega)
    rw [show p + 16 - p = 16 by omega] at h
    rw [hV]; exact h
  obtain ⟨T, hTg⟩ : ∃ T, T = tagN k l U := ⟨_, rfl⟩
  have hTl : T.length = 16 := by rw [hTg, tagN_len]
  have KT0 := tagOf k hk A n c l (some ⟨bb, off, none⟩) p d U (by omega) (by omega) (w.alloc (.cells (k.map bv).toArray 23)).drew (hl.keep hb1.drew) (hbU.keep hb1.drew) (hT.keep hb1.drew)
  rw [← hTg] at KT0
  have KT := Lib.hid KT0
  have hd1 : decide ((p : Int) < 0) = false := decide_eq_false (by omega)
  have hpd : ¬ p = d := by omega
  have hp0 : (0 : Int) ≤ (p : Int) := by omega
  have hpd2 : (p : Int) ≤ (d : Int) := by omega
  have hpd3 : (p : Int) ≤ (p : Int) + 16 := by omega
  have hpd4 : (p : Int) + 16 ≤ (d : Int) := by omega
  have hpd' : ¬ d = p := by omega
  have heq := cmp_tag T V hTl hVl
  have hat : ∀ u, (Instr.arrayAt 33 (.slice (some ⟨bb, off + p, none⟩) 16 (d - p))).run Tryd.prog u = .ok (.pointer (some ⟨bb, off + p, none⟩)) u := fun u => by
    simp [Instr.arrayAt, run_underlying Tryd.underlying33]
  have hu2 := Tryd.underlying23
  have hi2 : (Tryd.prog.info? 23).map (·.size) = some (k.map bv).length := by rw [List.length_map, hk]; exact size_key
  have hu3 := Tryd.underlying33
  have hi3 : (Tryd.prog.info? 33).map (·.size) = some (V.map bv).length := by rw [List.length_map, hVl]; exact size_tag
  have HRG := Lib.hid (fun (u : World) (h : Below (w.alloc (.cells (k.map bv).toArray 23)).drew.heap.size (w.alloc (.cells (k.map bv).toArray 23)).drew u) => And.intro (Has.range (Has.keep (w := (w.alloc (.cells (k.map bv).toArray 23)).drew) HQ1 h HQ1.lt) 0 (k.map bv) (by rw [List.drop_zero, List.take_length])) (Row.range ((hbV.keep hb1.drew).keep h)))
  have HR0 := Lib.hid (Below.refl (w.alloc (.cells (k.map bv).toArray 23)).drew.heap.size (w.alloc (.cells (k.map bv).toArray 23)).drew)
  have HB1 := Lib.hid hb1.drew
  have HKL := Lib.hid hk
  have HT := Lib.hid hT
  have HU := Lib.hid (And.intro hU hbU)
  have HV := Lib.hid (And.intro hV hTg)
  have HBL := Lib.hid hbl
  have HQ := Lib.hid (show Has (w.alloc (.cells (k.map bv).toArray 23)).drew w.heap.size 23 (k.map bv) from HQ1)
  clear hU hV hTg hTl hVl hbV KT0 HQ1 hb1 hbl hbU hl'
  by_cases hTV : T = V
  · rw [show (T == V) = true by simp [hTV]] at heq
    have HTV := Lib.hid hTV
    clear hTV
    go_enter Tryd.func8, Tryd.ntmps8
    go_wp2_with fail
    refine wp_region_held_drew (S := fun w' => w'.rangeAt w.heap.size 0 (k.map bv) ∧ w'.rangeAt bb (off + p) (V.map bv)) (by kernel_rfl) (HRG.out _ HR0.out) (fun hHeld => ?_)
    refine wpAnyH_take (i := 0) (v := ?v0) rfl (by kernel_rfl) (by kernel_rfl) (by kernel_rfl) (fun _ _ _ h => h) (Or.inl ⟨by rfl, ?y0⟩) (by assumption) ?r0
    case y0 => (intro u hSu; (try dsimp only at hSu); go_simp; try with_reducible rfl)
    try simp only [List.getElem_toArray, List.getElem_cons_succ, List.getElem_cons_zero, Act.put, List.setIfInBounds_toArray, List.set_cons_zero, List.set_cons_succ]
    refine wpAnyH_take (i := 1) (v := ?v1) rfl (by kernel_rfl) (by kernel_rfl) (by kernel_rfl) (fun _ _ _ h => h) (Or.inl ⟨by rfl, ?y1⟩) (by assumption) ?r1
    case y1 => (intro u hSu; (try dsimp only at hSu); go_simp; try with_reducible rfl)
    try simp only [List.getElem_toArray, List.getElem_cons_succ, List.getElem_cons_zero, Act.put, List.setIfInBounds_toArray, List.set_cons_zero, List.set_cons_succ]
    refine wpAnyH_take (i := 2) (v := ?v2) rfl (by kernel_rfl) (by kernel_rfl) (by kernel_rfl) (fun _ _ _ h => h) (Or.inl ⟨by rfl, ?y2⟩) (by assumption) ?r2
    case y2 => (intro u hSu; (try dsimp only at hSu); go_simp; try with_reducible rfl)
    try simp only [List.getElem_toArray, List.getElem_cons_succ, List.getElem_cons_zero, Act.put, List.setIfInBounds_toArray, List.set_cons_zero, List.set_cons_succ]
    refine' wpAnyH_take (i := 3) (v := _) rfl (by kernel_rfl) (by kernel_rfl) (by kernel_rfl) (fun _ _ _ h => h) (yieldsIf_load_mid (by rfl) _ _ rfl _ _ rfl _ _ (fun _ h => h.1) hu2 rfl hi2) (by assumption) ?r3
    try simp only [List.getElem_toArray, List.getElem_cons_succ, List.getElem_cons_zero, Act.put, List.setIfInBounds_toArray, List.set_cons_zero, List.set_cons_succ]
    refine wpAnyH_take (i := 4) (v := ?v4) rfl (by kernel_rfl) (by kernel_rfl) (by kernel_rfl) (fun _ _ _ h => h) (Or.inl ⟨by rfl, ?y4⟩) (by assumption) ?r4
    case y4 => (intro u hSu; (try dsimp only at hSu); go_simp; try with_reducible rfl)
    try simp only [List.getElem_toArray, List.getElem_cons_succ, List.getElem_cons_zero, Act.put, List.setIfInBounds_toArray, List.set_cons_zero, List.set_cons_succ]
    refine wpAnyH_take (i := 5) (v := ?v5) rfl (by kernel_rfl) (by kernel_rfl) (by kernel_rfl) (fun _ _ _ h => h) (Or.inl ⟨by rfl, ?y5⟩) (by assumption) ?r5
    case y5 => (intro u hSu; (try dsimp only at hSu); go_simp; try with_reducible rfl)
    try simp only [List.getElem_toArray, List.getElem_cons_succ, List.getElem_cons_zero, Act.put, List.setIfInBounds_toArray, List.set_cons_zero, List.set_cons_succ]
    refine wpAnyH_take (i := 6) (v := ?v6) rfl (by kernel_rfl) (by kernel_rfl) (by kernel_rfl) (fun _ _ _ h => h) (Or.inl ⟨by rfl, ?y6⟩) (by assumption) ?r6
    case y6 => (intro u hSu; (try dsimp only at hSu); go_simp; try with_reducible rfl)
    try simp only [List.getElem_toArray, List.getElem_cons_succ, List.getElem_cons_zero, Act.put, List.setIfInBounds_toArray, List.set_cons_zero, List.set_cons_succ]
    refine wpAnyH_take (i := 7) (v := ?v7) rfl (by kernel_rfl) (by kernel_rfl) (by kernel_rfl) (fun _ _ _ h => h) (Or.inl ⟨by rfl, ?y7⟩) (by assumption) ?r7
    case y7 => (intro u hSu; (try dsimp only at hSu); go_simp; try with_reducible rfl)
    try simp only [List.getElem_toArray, List.getElem_cons_succ, List.getElem_cons_zero, Act.put, List.setIfInBounds_toArray, List.set_cons_zero, List.set_cons_succ]
    refine wpAnyH_take (i := 9) (v := ?v9) rfl (by kernel_rfl) (by kernel_rfl) (by kernel_rfl) (fun _ _ _ h => h) (Or.inl ⟨by rfl, ?y9⟩) (by assumption) ?r9
    case y9 => (intro u hSu; (try dsimp only at hSu); go_simp; try with_reducible rfl)
    try simp only [List.getElem_toArray, List.getElem_cons_succ, List.getElem_cons_zero, Act.put, List.setIfInBounds_toArray, List.set_cons_zero, List.set_cons_succ]
    refine wpAnyH_take (i := 10) (v := ?v10) rfl (by kernel_rfl) (by kernel_rfl) (by kernel_rfl) (fun _ _ _ h => h) (Or.inl ⟨by rfl, ?y10⟩) (by assumption) ?r10
    case y10 => (intro u hSu; (try dsimp only at hSu); go_simp; try with_reducible rfl)
    try simp only [List.getElem_toArray, List.getElem_cons_succ, List.getElem_cons_zero, Act.put, List.setIfInBounds_toArray, List.set_cons_zero, List.set_cons_succ]
    refine wpAnyH_take (i := 11) (v := ?v11) rfl (by kernel_rfl) (by kernel_rfl) (by kernel_rfl) (fun _ _ _ h => h) (Or.inl ⟨by rfl, ?y11⟩) (by assumption) ?r11
    case y11 => (intro u hSu; (try dsimp only at hSu); go_simp; try with_reducible rfl)
    try simp only [List.getElem_toArray, List.getElem_cons_succ, List.getElem_cons_zero, Act.put, List.setIfInBounds_toArray, List.set_cons_zero, List.set_cons_succ]
    refine wpAnyH_take (i := 12) (v := ?v12) rfl (by kernel_rfl) (by kernel_rfl) (by kernel_rfl) (fun _ _ _ h => h) (Or.inl ⟨by rfl, ?y12⟩) (by assumption) ?r12
    case y12 => (intro u hSu; (try dsimp only at hSu); go_simp; try with_reducible rfl)
    try simp only [List.getElem_toArray, List.getElem_cons_succ, List.getElem_cons_zero, Act.put, List.setIfInBounds_toArray, List.set_cons_zero, List.set_cons_succ]
    refine' wpAnyH_take (i := 13) (v := _) rfl (by kernel_rfl) (by kernel_rfl) (by kernel_rfl) (fun _ _ _ h => h) (yieldsIf_load_mid (by rfl) _ _ rfl _ _ rfl _ _ (fun _ h => h.2) hu3 rfl hi3) (by assumption) ?r13
    try simp only [List.getElem_toArray, List.getElem_cons_succ, List.getElem_cons_zero, Act.put, List.setIfInBounds_toArray, List.set_cons_zero, List.set_cons_succ]
    refine wpAnyH_ready (rs := [8]) (by kernel_rfl) (by simp) ?_
    refine AllReadyH.cons rfl (fun K hK => ?_) AllReadyH.nil
    go_simp
    go_at_call 12
    with_reducible refine (KT.out).mono ?_
    rintro e w2 ⟨rfl, hb2⟩
    go_simp
    refine hK.out _ _ (HRG.out _ hb2) (fun hHeld2 => ?_)
    clear hK K
    try simp only [List.getElem_toArray, List.getElem_cons_succ, List.getElem_cons_zero, Act.put, List.setIfInBounds_toArray, List.set_cons_zero, List.set_cons_succ]
    refine wpAnyH_take (i := 14) (v := ?v14) rfl (by kernel_rfl) (by kernel_rfl) (by kernel_rfl) (fun _ _ _ h => h) (Or.inl ⟨by rfl, ?y14⟩) (by assumption) ?r14
    case y14 => (intro u hSu; (try dsimp only at hSu); go_simp; try with_reducible rfl)
    try simp only [List.getElem_toArray, List.getElem_cons_succ, List.getElem_cons_zero, Act.put, List.setIfInBounds_toArray, List.set_cons_zero, List.set_cons_succ]
    refine wpAnyH_take (i := 15) (v := ?v15) rfl (by kernel_rfl) (by kernel_rfl) (by kernel_rfl) (fun _ _ _ h => h) (Or.inl ⟨by rfl, ?y15⟩) (by assumption) ?r15
    case y15 => (intro u hSu; (try dsimp only at hSu); go_simp; try with_reducible rfl)
    try simp only [List.getElem_toArray, List.getElem_cons_succ, List.getElem_cons_zero, Act.put, List.setIfInBounds_toArray, List.set_cons_zero, List.set_cons_succ]
    refine wpAnyH_done (by kernel_rfl) ?_ _
    have hbw2 := HB1.out.trans (hb2.mono HB1.out.size)
    have HQ2 := HQ.out.keep hb2 HQ.out.lt
    have hU2 := HU.out.2.keep hbw2
    have KC := Lib.hid (Clone ⟨bb, off, none⟩ p d U (by omega) w2 hU2)
    have hw2 := hbw2.size
    clear heq hat hu2 hi2 hu3 hi3 HRG HR0 HB1 KT HQ hb2 hHeld hHeld2 hU2 hd1
    go_wp2_with fail
    refine (KC.out).mono ?_
    rintro e w3 ⟨v3, rfl, hown3, hb3⟩
    have hbw3 := hbw2.trans (hb3.mono hbw2.size)
    have HQ3 := HQ2.keep hb3 HQ2.lt
    have KX := Lib.hid (xorOwn k HKL.out w2.heap.size p v3 U (by omega) w3 hown3 hb3.size (HT.out.keep hbw3) (by omega))
    clear KC HQ2 hown3
    go_wp2_with ((with_reducible refine wpList_load_key rfl (.tmp 3) rfl w.heap.size rfl k HKL.out HQ3 ?_))
    refine (KX.out).mono ?_
    rintro e w4 ⟨rfl, hown4, hb4⟩
    obtain ⟨A4, c4, rfl, hr4⟩ := Row.own hown4
    have ho := open_right k l b (by rw [HBL.out]; omega) (by rw [HBL.out, Nat.add_sub_cancel, ← HU.out.1, ← HV.out.1, ← HV.out.2]; exact HTV.out)
    rw [HBL.out, Nat.add_sub_cancel, ← HU.out.1] at ho
    have HO := Lib.hid ho
    clear ho KX HQ3 hown4
    go_wp2_with fail
    go_ret2
    exact ⟨A4, p, c4, by rw [HO.out.1]; rfl, by rw [HO.out.2]; exact hr4, hbw2.trans ((hb3.trans (hb4.mono (Nat.le_refl _))).mono hbw2.size)⟩
  · rw [show (T == V) = false by simp [hTV]] at heq
    have HTV := Lib.hid hTV
    clear hTV
    go_enter Tryd.func8, Tryd.ntmps8
    go_wp2_with fail
    refine wp_region_held_drew (S := fun w' => w'.rangeAt w.heap.size 0 (k.map bv) ∧ w'.rangeAt bb (off + p) (V.map bv)) (by kernel_rfl) (HRG.out _ HR0.out) (fun hHeld => ?_)
    refine wpAnyH_take (i := 0) (v := ?vb0) rfl (by kernel_rfl) (by kernel_rfl) (by kernel_rfl) (fun _ _ _ h => h) (Or.inl ⟨by rfl, ?yb0⟩) (by assumption) ?rb0
    case yb0 => (intro u hSu; (try dsimp only at hSu); go_simp; try with_reducible rfl)
    try simp only [List.getElem_toArray, List.getElem_cons_succ, List.getElem_cons_zero, Act.put, List.setIfInBounds_toArray, List.set_cons_zero, List.set_cons_succ]
    refine wpAnyH_take (i := 1) (v := ?vb1) rfl (by kernel_rfl) (by kernel_rfl) (by kernel_rfl) (fun _ _ _ h => h) (Or.inl ⟨by rfl, ?yb1⟩) (by assumption) ?rb1
    case yb1 => (intro u hSu; (try dsimp only at hSu); go_simp; try with_reducible rfl)
    try simp only [List.getElem_toArray, List.getElem_cons_succ, List.getElem_cons_zero, Act.put, List.setIfInBounds_toArray, List.set_cons_zero, List.set_cons_succ]
    refine wpAnyH_take (i := 2) (v := ?vb2) rfl (by kernel_rfl) (by kernel_rfl) (by kernel_rfl) (fun _ _ _ h => h) (Or.inl ⟨by rfl, ?yb2⟩) (by assumption) ?rb2
    case yb2 => (intro u hSu; (try dsimp only at hSu); go_simp; try with_reducible rfl)
    try simp only [List.getElem_toArray, List.getElem_cons_succ, List.getElem_cons_zero, Act.put, List.setIfInBounds_toArray, List.set_cons_zero, List.set_cons_succ]
    refine' wpAnyH_take (i := 3) (v := _) rfl (by kernel_rfl) (by kernel_rfl) (by kernel_rfl) (fun _ _ _ h => h) (yieldsIf_load_mid (by rfl) _ _ rfl _ _ rfl _ _ (fun _ h => h.1) hu2 rfl hi2) (by assumption) ?rb3
    try simp only [List.getElem_toArray, List.getElem_cons_succ, List.getElem_cons_zero, Act.put, List.setIfInBounds_toArray, List.set_cons_zero, List.set_cons_succ]
    refine wpAnyH_take (i := 4) (v := ?vb4) rfl (by kernel_rfl) (by kernel_rfl) (by kernel_rfl) (fun _ _ _ h => h) (Or.inl ⟨by rfl, ?yb4⟩) (by assumption) ?rb4
    case yb4 => (intro u hSu; (try dsimp only at hSu); go_simp; try with_reducible rfl)
    try simp only [List.getElem_toArray, List.getElem_cons_succ, List.getElem_cons_zero, Act.put, List.setIfInBounds_toArray, List.set_cons_zero, List.set_cons_succ]
    refine wpAnyH_take (i := 5) (v := ?vb5) rfl (by kernel_rfl) (by kernel_rfl) (by kernel_rfl) (fun _ _ _ h => h) (Or.inl ⟨by rfl, ?yb5⟩) (by assumption) ?rb5
    case yb5 => (intro u hSu; (try dsimp only at hSu); go_simp; try with_reducible rfl)
    try simp only [List.getElem_toArray, List.getElem_cons_succ, List.getElem_cons_zero, Act.put, List.setIfInBounds_toArray, List.set_cons_zero, List.set_cons_succ]
    refine wpAnyH_take (i := 6) (v := ?vb6) rfl (by kernel_rfl) (by kernel_rfl) (by kernel_rfl) (fun _ _ _ h => h) (Or.inl ⟨by rfl, ?yb6⟩) (by assumption) ?rb6
    case yb6 => (intro u hSu; (try dsimp only at hSu); go_simp; try with_reducible rfl)
    try simp only [List.getElem_toArray, List.getElem_cons_succ, List.getElem_cons_zero, Act.put, List.setIfInBounds_toArray, List.set_cons_zero, List.set_cons_succ]
    refine wpAnyH_take (i := 7) (v := ?vb7) rfl (by kernel_rfl) (by kernel_rfl) (by kernel_rfl) (fun _ _ _ h => h) (Or.inl ⟨by rfl, ?yb7⟩) (by assumption) ?rb7
    case yb7 => (intro u hSu; (try dsimp only at hSu); go_simp; try with_reducible rfl)
    try simp only [List.getElem_toArray, List.getElem_cons_succ, List.getElem_cons_zero, Act.put, List.setIfInBounds_toArray, List.set_cons_zero, List.set_cons_succ]
    refine wpAnyH_take (i := 9) (v := ?vb9) rfl (by kernel_rfl) (by kernel_rfl) (by kernel_rfl) (fun _ _ _ h => h) (Or.inl ⟨by rfl, ?yb9⟩) (by assumption) ?rb9
    case yb9 => (intro u hSu; (try dsimp only at hSu); go_simp; try with_reducible rfl)
    try simp only [List.getElem_toArray, List.getElem_cons_succ, List.getElem_cons_zero, Act.put, List.setIfInBounds_toArray, List.set_cons_zero, List.set_cons_succ]
    refine wpAnyH_take (i := 10) (v := ?vb10) rfl (by kernel_rfl) (by kernel_rfl) (by kernel_rfl) (fun _ _ _ h => h) (Or.inl ⟨by rfl, ?yb10⟩) (by assumption) ?rb10
    case yb10 => (intro u hSu; (try dsimp only at hSu); go_simp; try with_reducible rfl)
    try simp only [List.getElem_toArray, List.getElem_cons_succ, List.getElem_cons_zero, Act.put, List.setIfInBounds_toArray, List.set_cons_zero, List.set_cons_succ]
    refine wpAnyH_take (i := 11) (v := ?vb11) rfl (by kernel_rfl) (by kernel_rfl) (by kernel_rfl) (fun _ _ _ h => h) (Or.inl ⟨by rfl, ?yb11⟩) (by assumption) ?rb11
    case yb11 => (intro u hSu; (try dsimp only at hSu); go_simp; try with_reducible rfl)
    try simp only [List.getElem_toArray, List.getElem_cons_succ, List.getElem_cons_zero, Act.put, List.setIfInBounds_toArray, List.set_cons_zero, List.set_cons_succ]
    refine wpAnyH_take (i := 12) (v := ?vb12) rfl (by kernel_rfl) (by kernel_rfl) (by kernel_rfl) (fun _ _ _ h => h) (Or.inl ⟨by rfl, ?yb12⟩) (by assumption) ?rb12
    case yb12 => (intro u hSu; (try dsimp only at hSu); go_simp; try with_reducible rfl)
    try simp only [List.getElem_toArray, List.getElem_cons_succ, List.getElem_cons_zero, Act.put, List.setIfInBounds_toArray, List.set_cons_zero, List.set_cons_succ]
    refine' wpAnyH_take (i := 13) (v := _) rfl (by kernel_rfl) (by kernel_rfl) (by kernel_rfl) (fun _ _ _ h => h) (yieldsIf_load_mid (by rfl) _ _ rfl _ _ rfl _ _ (fun _ h => h.2) hu3 rfl hi3) (by assumption) ?rb13
    try simp only [List.getElem_toArray, List.getElem_cons_succ, List.getElem_cons_zero, Act.put, List.setIfInBounds_toArray, List.set_cons_zero, List.set_cons_succ]
    refine wpAnyH_ready (rs := [8]) (by kernel_rfl) (by simp) ?_
    refine AllReadyH.cons rfl (fun K hK => ?_) AllReadyH.nil
    go_simp
    go_at_call 12
    with_reducible refine (KT.out).mono ?_
    rintro e w2 ⟨rfl, hb2⟩
    go_simp
    refine hK.out _ _ (HRG.out _ hb2) (fun hHeld2 => ?_)
    clear hK K
    try simp only [List.getElem_toArray, List.getElem_cons_succ, List.getElem_cons_zero, Act.put, List.setIfInBounds_toArray, List.set_cons_zero, List.set_cons_succ]
    refine wpAnyH_take (i := 14) (v := ?vb14) rfl (by kernel_rfl) (by kernel_rfl) (by kernel_rfl) (fun _ _ _ h => h) (Or.inl ⟨by rfl, ?yb14⟩) (by assumption) ?rb14
    case yb14 => (intro u hSu; (try dsimp only at hSu); go_simp; try with_reducible rfl)
    try simp only [List.getElem_toArray, List.getElem_cons_succ, List.getElem_cons_zero, Act.put, List.setIfInBounds_toArray, List.set_cons_zero, List.set_cons_succ]
    refine wpAnyH_take (i := 15) (v := ?vb15) rfl (by kernel_rfl) (by kernel_rfl) (by kernel_rfl) (fun _ _ _ h => h) (Or.inl ⟨by rfl, ?yb15⟩) (by assumption) ?rb15
    case yb15 => (intro u hSu; (try dsimp only at hSu); go_simp; try with_reducible rfl)
    try simp only [List.getElem_toArray, List.getElem_cons_succ, List.getElem_cons_zero, Act.put, List.setIfInBounds_toArray, List.set_cons_zero, List.set_cons_succ]
    refine wpAnyH_done (by kernel_rfl) ?_ _
    have hbw2 := HB1.out.trans (hb2.mono HB1.out.size)
    have ho := open_wrong k l b (by rw [HBL.out, Nat.add_sub_cancel, ← HU.out.1, ← HV.out.1, ← HV.out.2]; exact HTV.out)
    have HO := Lib.hid ho
    clear ho heq hat hu2 hi2 hu3 hi3 HRG HR0 HB1 KT HQ hb2 hHeld hHeld2 hd1
    go_wp2_with fail
    go_ret2
    exact ⟨none, 0, 0, by rw [HO.out.1]; rfl, by rw [HO.out.2]; exact Row.nil _, hbw2⟩
theorem Open (k : List UInt8) (hk : k.length = 32) (A : Option Addr) (n c : Nat) (l : List UInt8) (B : Option Addr) (m d : Nat) (b : List UInt8) (hn : n ≤ 8796093022208) (hm : m ≤ 8796093022208) (w : World) (hl : Bytes w A n c l) (hl' : Bytes w B m d b) (hT : Tab w) :
    Calls Tryd.prog 8 #[.agg (k.map bv).toArray, .slice A n c, .slice B m d] w fun e w' => ∃ A' n' c', e = .returned (.tuple #[.slice A' n' c', .bool (openOk k l b)]) ∧ Bytes w' A' n' c' (openN k l b) ∧ Below w.heap.size w w' := by
  by_cases h : m < 16
  · exact OpenShort k hk A n c l B m d b h w hl'
  · obtain ⟨p, rfl⟩ : ∃ p, m = p + 16 := ⟨m - 16, by omega⟩
    obtain ⟨bb, off, rfl, _, _⟩ := hl'.at_ (by omega)
    exact OpenLong k hk A n c l bb off p d b hn (by omega) w hl hl' hT
end sealing
end Go.Proofs.YtekpekmfddbiaaaDoor
