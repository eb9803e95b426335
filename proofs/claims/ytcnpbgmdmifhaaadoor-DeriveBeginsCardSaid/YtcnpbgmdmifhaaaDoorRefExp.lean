/-
  Contract of the reference's Expand.
-/
import Derived.Test.YtcnpbgmdmifhaaaDoorDerExp
import Derived.Test.YtcnpbgmdmifhaaaDoorStepApp
namespace Go.Proofs.YtcnpbgmdmifhaaaDoor
open Go.ChangeShapes Go.WideShapes Go.ChangeAt Go.RowKit
set_option linter.unusedVariables false
set_option linter.unusedSimpArgs false

theorem i64_and255 (a : Nat) (ha : a < 256) : bits .and .i64 (a : Int) 255 = (a : Int) := by
  have h : ∀ x : Fin 256, bits .and .i64 (x.val : Int) 255 = (x.val : Int) := by decide +kernel
  exact h ⟨a, ha⟩
theorem lit1' (u : World) (j : Nat) (hj : j ≤ 254) : Bytes (u.alloc (.cells #[.int .u8 ((j : Int) + 1)] 5)) (some ⟨u.heap.size, 0, none⟩) 1 1 [UInt8.ofNat (j + 1)] := by
  have h := Bytes.lit u [UInt8.ofNat (j + 1)] (by simp [maxLen])
  rw [List.map_cons, List.map_nil, bv_ofNat (j + 1) (by omega)] at h
  exact h
theorem own_keep {w w' : World} {base : Nat} {e : TypeId} {v : Value} {n : Nat} {xs : List Value} (h : w.ownsRow base e 1 v n xs) (hb : Below w.heap.size w w') : w'.ownsRow base e 1 v n xs :=
  h.kept (row := none) ⟨hb.os, hb.tape, hb.output, hb.size, fun k hk _ => hb.block k hk⟩ (by cases hv : v.ownBlock <;> simp)

namespace refExp
set_option maxHeartbeats 400000 in
theorem ExpandNone (k : List UInt8) (hk : k.length = 32) (s : ByteArray) (z : Int) (hz : z < 1 ∨ 8160 < z) (w : World) :
    Calls Tryd.prog 8 #[.agg (k.map bv).toArray, .string s, .int .i64 z] w fun e w' => e = .returned (.slice none 0 0) ∧ Below w.heap.size w w' := by
  have hb0 := (Below.refl w.heap.size w).alloc (Nat.le_refl _) (.cells (k.map bv).toArray 23)
  by_cases h1 : z < 1
  · go_enter Tryd.func8, Tryd.ntmps8
    go_wp2_with fail
    go_ret
    exact ⟨rfl, hb0⟩
  · have h2 : 8160 < z := by omega
    go_enter Tryd.func8, Tryd.ntmps8
    go_wp2_with fail
    go_ret
    exact ⟨rfl, hb0⟩
set_option maxRecDepth 10000 in
set_option maxHeartbeats 1000000 in
theorem ExpandIn (k : List UInt8) (hk : k.length = 32) (l : List UInt8) (m : Nat) (hl : l.length = m) (hm : m ≤ 70368744177000) (n : Nat) (hn1 : 1 ≤ n) (hn2 : n ≤ 8160) (w : World) :
    Calls Tryd.prog 8 #[.agg (k.map bv).toArray, .string (str l), .int .i64 (n : Int)] w fun e w' => ∃ v, e = .returned v ∧ w'.ownsRow w.heap.size 5 1 v n ((expN k l n).map bv) ∧ Below w.heap.size w w' := by
  have h1 : ¬ (n : Int) < 1 := by omega
  have h2 : ¬ (8160 : Int) < (n : Int) := by omega
  have hb0 := (Below.refl w.heap.size w).alloc (Nat.le_refl _) (.cells (k.map bv).toArray 23)
  have HQ0 := Has.new w 23 (k.map bv)
  have HKL := Lib.hid hk
  have HLM := Lib.hid hl
  go_enter Tryd.func8, Tryd.ntmps8
  go_wp2_with fail
  have hq0 := HQ0.lt
  change Code.wp _ _ _ _ (w.alloc (.cells (k.map bv).toArray 23))
  generalize (w.alloc (.cells (k.map bv).toArray 23)) = w1 at *
  go_loopw [7, 8, 9, 10, 11] (fun vo vt i _ _ wr => ∃ j p q : Nat, Hid (p = 32 * j) ∧ Hid (q = (tN k l j).length) ∧ p ≤ n + 31 ∧ q ≤ 32 ∧ i = .int .i64 ((j + 1 : Nat) : Int) ∧ wr.ownsRow (w.heap.size + 1) 5 1 vo p ((outN k l j).map bv) ∧ wr.ownsRow (w.heap.size + 1) 5 1 vt q ((tN k l j).map bv) ∧ Has wr w.heap.size 23 (k.map bv) ∧ Below w.heap.size w wr ∧ w.heap.size + 1 ≤ wr.heap.size) (fun vo _ _ _ _ _ => match vo with | .slice _ a _ => n + 31 - a | _ => 0)
  case atStart => exact ⟨0, 0, 0, Lib.hid rfl, Lib.hid rfl, by omega, by omega, rfl, World.ownsRow_nil _ _ _ _, World.ownsRow_nil _ _ _ _, HQ0, hb0, hq0⟩
  case round =>
    clear HQ0 hb0 hq0
    obtain ⟨j, p, q, HP, HTQ, hp, hq, rfl, hown7, hown8, HQ, hb, hsz⟩ := hrel
    obtain ⟨A7, c7, rfl, hr7⟩ := Row.own hown7
    obtain ⟨A8, c8, rfl, hr8⟩ := Row.own hown8
    by_cases hlt : p < n
    · have hj : j ≤ 254 := by have := HP.out; omega
      have HB1 := Lib.hid (show 0 + q ≤ 140737488355328 by omega)
      have HB2 := Lib.hid (show 0 + q + m ≤ 140737488355328 by omega)
      have hr8' : Bytes wr A8 q c8 (tN k l j) := hr8
      clear hr7 hr8
      go_wp2_with (first
        | (at_builtin; (refine app8 rfl (.const (.slice none 0 0)) (.tmp 24) rfl wr.heap.size (.slice none 0 0) 0 [] rfl (World.ownsRow_nil _ _ _ _) A8 q c8 (tN k l j) rfl hr8' HB1.out (Nat.le_refl _) ?_); intro v3 w3 hown3 hg3; have hb3 : Below wr.heap.size wr w3 := (Below.refl _ _).grown hg3 (Nat.le_refl _) (fun k hk => by cases hk))
        | (at_builtin; (refine app_str rfl (.tmp 25) (.tmp 26) rfl wr.heap.size v3 (0 + q) ([] ++ tN k l j) rfl hown3 m l rfl HLM.out HB2.out hb3.size ?_); intro v4 w4 hown4 hg4; have hb4 : Below wr.heap.size wr w4 := hb3.grown hg4 hb3.size (fun k hk => (hown3.lt k hk).1)))
      rw [List.nil_append, Nat.zero_add] at hown4
      obtain ⟨N, hN⟩ : ∃ N, N = q + m := ⟨_, rfl⟩
      rw [← hN] at hown4
      have hand : bits .and .i64 ((j : Int) + 1) 255 = (j : Int) + 1 := i64_and255 (j + 1) (by omega)
      have hwr : IntKind.u8.wrap ((j : Int) + 1) = (j : Int) + 1 := by rw [IntKind.wrap_u8]; omega
      obtain ⟨R, hR⟩ : ∃ R, R = tN k l (j + 1) := ⟨_, rfl⟩
      have hRl : R.length = 32 := by rw [hR, tN_len _ (by omega)]
      have hi2 : (Tryd.prog.info? 23).map (·.size) = some (R.map bv).length := by rw [List.length_map, hRl]; exact size_key
      have hal : ∀ u : World, (u.alloc (.cells #[.int .u8 0, .int .u8 0, .int .u8 0, .int .u8 0, .int .u8 0, .int .u8 0, .int .u8 0, .int .u8 0, .int .u8 0, .int .u8 0, .int .u8 0, .int .u8 0, .int .u8 0, .int .u8 0, .int .u8 0, .int .u8 0, .int .u8 0, .int .u8 0, .int .u8 0, .int .u8 0, .int .u8 0, .int .u8 0, .int .u8 0, .int .u8 0, .int .u8 0, .int .u8 0, .int .u8 0, .int .u8 0, .int .u8 0, .int .u8 0, .int .u8 0, .int .u8 0] 23)).there u.heap.size 0 (R.map bv).length := fun u => Has.there (newKey u) 0 (R.map bv).length (by rw [List.length_map, hRl]; decide)
      have hu2 := Tryd.underlying23
      have hone2 := one_bv R
      have HCT := Lib.hid (fun (u : World) (g : Nat) (h : Has u g 23 zkey) => Has.there h 0 (R.map bv).length (by rw [List.length_map, hRl]; decide))
      have HR := Lib.hid (And.intro hR hRl)
      have KM := Lib.hid (fun (A9 : Option Addr) (c9 : Nat) (u : World) (hu : Below wr.heap.size wr u) (h : Row u A9 (N + 1) c9 ((tN k l j ++ l ++ [UInt8.ofNat (j + 1)]).map bv)) => show Calls Tryd.prog 14 #[.slice (some ⟨w.heap.size, 0, none⟩) 32 32, .slice A9 (N + 1) c9] u fun e w' => e = .returned (.agg (R.map bv).toArray) ∧ Below u.heap.size u w' by
        rw [hR, tN_succ]
        exact refMac.Mac _ 32 32 k A9 (N + 1) c9 _ u ((HQ.bytes 32 HKL.out (by simp [maxLen])).keep hu) h (by omega) (by omega))
      have hba1 := hb4.alloc hb4.size (.cells #[.int .u8 0, .int .u8 0, .int .u8 0, .int .u8 0, .int .u8 0, .int .u8 0, .int .u8 0, .int .u8 0, .int .u8 0, .int .u8 0, .int .u8 0, .int .u8 0, .int .u8 0, .int .u8 0, .int .u8 0, .int .u8 0, .int .u8 0, .int .u8 0, .int .u8 0, .int .u8 0, .int .u8 0, .int .u8 0, .int .u8 0, .int .u8 0, .int .u8 0, .int .u8 0, .int .u8 0, .int .u8 0, .int .u8 0, .int .u8 0, .int .u8 0, .int .u8 0] 23)
      have hba2 := hb4.alloc hb4.size (.cells #[.int .u8 ((j : Int) + 1)] 5)
      have HB1 := Lib.hid (hba1.alloc hba1.size (.cells #[.int .u8 ((j : Int) + 1)] 5)).drew
      have HB2 := Lib.hid (hba2.alloc hba2.size (.cells #[.int .u8 0, .int .u8 0, .int .u8 0, .int .u8 0, .int .u8 0, .int .u8 0, .int .u8 0, .int .u8 0, .int .u8 0, .int .u8 0, .int .u8 0, .int .u8 0, .int .u8 0, .int .u8 0, .int .u8 0, .int .u8 0, .int .u8 0, .int .u8 0, .int .u8 0, .int .u8 0, .int .u8 0, .int .u8 0, .int .u8 0, .int .u8 0, .int .u8 0, .int .u8 0, .int .u8 0, .int .u8 0, .int .u8 0, .int .u8 0, .int .u8 0, .int .u8 0] 23)).drew
      have HB3 := Lib.hid hba2.drew
      have hk1 := (Below.refl w4.heap.size w4).alloc (Nat.le_refl _) (.cells #[.int .u8 0, .int .u8 0, .int .u8 0, .int .u8 0, .int .u8 0, .int .u8 0, .int .u8 0, .int .u8 0, .int .u8 0, .int .u8 0, .int .u8 0, .int .u8 0, .int .u8 0, .int .u8 0, .int .u8 0, .int .u8 0, .int .u8 0, .int .u8 0, .int .u8 0, .int .u8 0, .int .u8 0, .int .u8 0, .int .u8 0, .int .u8 0, .int .u8 0, .int .u8 0, .int .u8 0, .int .u8 0, .int .u8 0, .int .u8 0, .int .u8 0, .int .u8 0] 23)
      have hk2 := (Below.refl w4.heap.size w4).alloc (Nat.le_refl _) (.cells #[.int .u8 ((j : Int) + 1)] 5)
      have HOW1 := Lib.hid (own_keep hown4 (hk1.alloc hk1.size (.cells #[.int .u8 ((j : Int) + 1)] 5)).drew)
      have HOW2 := Lib.hid (own_keep hown4 (hk2.alloc hk2.size (.cells #[.int .u8 0, .int .u8 0, .int .u8 0, .int .u8 0, .int .u8 0, .int .u8 0, .int .u8 0, .int .u8 0, .int .u8 0, .int .u8 0, .int .u8 0, .int .u8 0, .int .u8 0, .int .u8 0, .int .u8 0, .int .u8 0, .int .u8 0, .int .u8 0, .int .u8 0, .int .u8 0, .int .u8 0, .int .u8 0, .int .u8 0, .int .u8 0, .int .u8 0, .int .u8 0, .int .u8 0, .int .u8 0, .int .u8 0, .int .u8 0, .int .u8 0, .int .u8 0] 23)).drew)
      have HOW3 := Lib.hid (own_keep hown4 hk2.drew)
      have HL1 := Lib.hid (show Bytes ((w4.alloc (.cells #[.int .u8 0, .int .u8 0, .int .u8 0, .int .u8 0, .int .u8 0, .int .u8 0, .int .u8 0, .int .u8 0, .int .u8 0, .int .u8 0, .int .u8 0, .int .u8 0, .int .u8 0, .int .u8 0, .int .u8 0, .int .u8 0, .int .u8 0, .int .u8 0, .int .u8 0, .int .u8 0, .int .u8 0, .int .u8 0, .int .u8 0, .int .u8 0, .int .u8 0, .int .u8 0, .int .u8 0, .int .u8 0, .int .u8 0, .int .u8 0, .int .u8 0, .int .u8 0] 23)).alloc (.cells #[.int .u8 ((j : Int) + 1)] 5)).drew (some ⟨w4.heap.size + 1, 0, none⟩) 1 1 [UInt8.ofNat (j + 1)] by
        have h := lit1' (w4.alloc (.cells #[.int .u8 0, .int .u8 0, .int .u8 0, .int .u8 0, .int .u8 0, .int .u8 0, .int .u8 0, .int .u8 0, .int .u8 0, .int .u8 0, .int .u8 0, .int .u8 0, .int .u8 0, .int .u8 0, .int .u8 0, .int .u8 0, .int .u8 0, .int .u8 0, .int .u8 0, .int .u8 0, .int .u8 0, .int .u8 0, .int .u8 0, .int .u8 0, .int .u8 0, .int .u8 0, .int .u8 0, .int .u8 0, .int .u8 0, .int .u8 0, .int .u8 0, .int .u8 0] 23)) j hj
        rw [show (w4.alloc (.cells #[.int .u8 0, .int .u8 0, .int .u8 0, .int .u8 0, .int .u8 0, .int .u8 0, .int .u8 0, .int .u8 0, .int .u8 0, .int .u8 0, .int .u8 0, .int .u8 0, .int .u8 0, .int .u8 0, .int .u8 0, .int .u8 0, .int .u8 0, .int .u8 0, .int .u8 0, .int .u8 0, .int .u8 0, .int .u8 0, .int .u8 0, .int .u8 0, .int .u8 0, .int .u8 0, .int .u8 0, .int .u8 0, .int .u8 0, .int .u8 0, .int .u8 0, .int .u8 0] 23)).heap.size = w4.heap.size + 1 by simp] at h
        exact h)
      have HL3 := Lib.hid (show Bytes (w4.alloc (.cells #[.int .u8 ((j : Int) + 1)] 5)).drew (some ⟨w4.heap.size, 0, none⟩) 1 1 [UInt8.ofNat (j + 1)] from lit1' w4 j hj)
      have HL2 := Lib.hid (show Bytes ((w4.alloc (.cells #[.int .u8 ((j : Int) + 1)] 5)).alloc (.cells #[.int .u8 0, .int .u8 0, .int .u8 0, .int .u8 0, .int .u8 0, .int .u8 0, .int .u8 0, .int .u8 0, .int .u8 0, .int .u8 0, .int .u8 0, .int .u8 0, .int .u8 0, .int .u8 0, .int .u8 0, .int .u8 0, .int .u8 0, .int .u8 0, .int .u8 0, .int .u8 0, .int .u8 0, .int .u8 0, .int .u8 0, .int .u8 0, .int .u8 0, .int .u8 0, .int .u8 0, .int .u8 0, .int .u8 0, .int .u8 0, .int .u8 0, .int .u8 0] 23)).drew (some ⟨w4.heap.size, 0, none⟩) 1 1 [UInt8.ofNat (j + 1)] from (lit1' w4 j hj).keep (((Below.refl (w4.alloc (.cells #[.int .u8 ((j : Int) + 1)] 5)).heap.size (w4.alloc (.cells #[.int .u8 ((j : Int) + 1)] 5))).alloc (Nat.le_refl _) (.cells #[.int .u8 0, .int .u8 0, .int .u8 0, .int .u8 0, .int .u8 0, .int .u8 0, .int .u8 0, .int .u8 0, .int .u8 0, .int .u8 0, .int .u8 0, .int .u8 0, .int .u8 0, .int .u8 0, .int .u8 0, .int .u8 0, .int .u8 0, .int .u8 0, .int .u8 0, .int .u8 0, .int .u8 0, .int .u8 0, .int .u8 0, .int .u8 0, .int .u8 0, .int .u8 0, .int .u8 0, .int .u8 0, .int .u8 0, .int .u8 0, .int .u8 0, .int .u8 0] 23)).drew))
      have HZ1 := Lib.hid (show Has ((w4.alloc (.cells #[.int .u8 0, .int .u8 0, .int .u8 0, .int .u8 0, .int .u8 0, .int .u8 0, .int .u8 0, .int .u8 0, .int .u8 0, .int .u8 0, .int .u8 0, .int .u8 0, .int .u8 0, .int .u8 0, .int .u8 0, .int .u8 0, .int .u8 0, .int .u8 0, .int .u8 0, .int .u8 0, .int .u8 0, .int .u8 0, .int .u8 0, .int .u8 0, .int .u8 0, .int .u8 0, .int .u8 0, .int .u8 0, .int .u8 0, .int .u8 0, .int .u8 0, .int .u8 0] 23)).alloc (.cells #[.int .u8 ((j : Int) + 1)] 5)).drew w4.heap.size 23 zkey from (newKey w4).alloc (.cells #[.int .u8 ((j : Int) + 1)] 5))
      have HZ2 := Lib.hid (show Has ((w4.alloc (.cells #[.int .u8 ((j : Int) + 1)] 5)).alloc (.cells #[.int .u8 0, .int .u8 0, .int .u8 0, .int .u8 0, .int .u8 0, .int .u8 0, .int .u8 0, .int .u8 0, .int .u8 0, .int .u8 0, .int .u8 0, .int .u8 0, .int .u8 0, .int .u8 0, .int .u8 0, .int .u8 0, .int .u8 0, .int .u8 0, .int .u8 0, .int .u8 0, .int .u8 0, .int .u8 0, .int .u8 0, .int .u8 0, .int .u8 0, .int .u8 0, .int .u8 0, .int .u8 0, .int .u8 0, .int .u8 0, .int .u8 0, .int .u8 0] 23)).drew (w4.heap.size + 1) 23 zkey from (newKey (w4.alloc (.cells #[.int .u8 ((j : Int) + 1)] 5))).at_ (by simp))
      have HBB := Lib.hid (show N + 1 ≤ 140737488355328 by omega)
      have h4 := Lib.hid (fun k hk => (hown4.lt k hk))
      have HQ' := Lib.hid HQ
      have HO7 := Lib.hid hown7
      have hb' := Lib.hid hb
      have HW4 := Lib.hid hb4.size
      clear hown3 hg3 hb3 hg4 hown7 hown8 HQ hb hb4 hown4 hba1 hba2 hk1 hk2 hr8' hR hRl hN
      go_region_held_law (fun _ => True) (trivial)
        (first
        | ((refine step_app8 (by rfl) (.tmp 29) (.tmp 33) (by rfl) wr.heap.size v4 N (tN k l j ++ l) (by rfl) HOW1.out (some ⟨w4.heap.size + 1, 0, none⟩) 1 1 [UInt8.ofNat (j + 1)] (by rfl) HL1.out HBB.out HB1.out.size ?_); intro v9 w9 hown9 hg9; have hb9 := HB1.out.grown hg9 HB1.out.size (fun k hk => (h4.out k hk).1); have HZ9 := HZ1.out.grown hg9 (fun e => by have := (h4.out _ e.symm).2; omega); obtain ⟨A9, c9, rfl, hr9⟩ := Row.own hown9)
        | ((refine step_app8 (by rfl) (.tmp 29) (.tmp 33) (by rfl) wr.heap.size v4 N (tN k l j ++ l) (by rfl) HOW2.out (some ⟨w4.heap.size, 0, none⟩) 1 1 [UInt8.ofNat (j + 1)] (by rfl) HL2.out HBB.out HB2.out.size ?_); intro v9 w9 hown9 hg9; have hb9 := HB2.out.grown hg9 HB2.out.size (fun k hk => (h4.out k hk).1); have HZ9 := HZ2.out.grown hg9 (fun e => by have := (h4.out _ e.symm).2; omega); obtain ⟨A9, c9, rfl, hr9⟩ := Row.own hown9)
        | ((refine step_app8 (by rfl) (.tmp 29) (.tmp 33) (by rfl) wr.heap.size v4 N (tN k l j ++ l) (by rfl) HOW3.out (some ⟨w4.heap.size, 0, none⟩) 1 1 [UInt8.ofNat (j + 1)] (by rfl) HL3.out HBB.out HB3.out.size ?_); intro v9 w9 hown9 hg9; have hb9 := HB3.out.grown hg9 HB3.out.size (fun k hk => (h4.out k hk).1); obtain ⟨A9, c9, rfl, hr9⟩ := Row.own hown9)
        | (go_simp; go_at_call 14; refine (KM.out A9 c9 w9 hb9 hr9).mono ?_; rintro e w10 ⟨rfl, hb10⟩; have hB10 := hb9.trans (hb10.mono hb9.size); have HZ10 := HZ9.keep hb10 HZ9.lt; have hth := HCT.out w10 _ HZ10)
        | (go_simp; go_at_call 14; refine (KM.out A9 c9 (w9.alloc (.cells #[.int .u8 0, .int .u8 0, .int .u8 0, .int .u8 0, .int .u8 0, .int .u8 0, .int .u8 0, .int .u8 0, .int .u8 0, .int .u8 0, .int .u8 0, .int .u8 0, .int .u8 0, .int .u8 0, .int .u8 0, .int .u8 0, .int .u8 0, .int .u8 0, .int .u8 0, .int .u8 0, .int .u8 0, .int .u8 0, .int .u8 0, .int .u8 0, .int .u8 0, .int .u8 0, .int .u8 0, .int .u8 0, .int .u8 0, .int .u8 0, .int .u8 0, .int .u8 0] 23)) (newKey_below hb9 hb9.size) (hr9.keep (newKey_below (Below.refl _ _) (Nat.le_refl _)))).mono ?_; rintro e w10 ⟨rfl, hb10⟩; have hB10 := (newKey_below hb9 hb9.size).trans (hb10.mono (newKey_below hb9 hb9.size).size); have HZ10 := (newKey w9).keep hb10 (newKey w9).lt; have hth := HCT.out w10 _ HZ10)
        | (go_simp; go_at_call 14; refine (KM.out A9 c9 w9 hb9 hr9).mono ?_; rintro e w10 ⟨rfl, hb10⟩; have hB10 := hb9.trans (hb10.mono hb9.size)))
      all_goals go_upto_region 10 with fail
      all_goals (
        first
        | (change Code.wp _ _ _ _ ((w10.alloc (.cells #[.int .u8 0, .int .u8 0, .int .u8 0, .int .u8 0, .int .u8 0, .int .u8 0, .int .u8 0, .int .u8 0, .int .u8 0, .int .u8 0, .int .u8 0, .int .u8 0, .int .u8 0, .int .u8 0, .int .u8 0, .int .u8 0, .int .u8 0, .int .u8 0, .int .u8 0, .int .u8 0, .int .u8 0, .int .u8 0, .int .u8 0, .int .u8 0, .int .u8 0, .int .u8 0, .int .u8 0, .int .u8 0, .int .u8 0, .int .u8 0, .int .u8 0, .int .u8 0] 23)).setCells w10.heap.size 0 (R.map bv))
           have F := key_new (B := wr.heap.size) (a := wr) hB10 hB10.size HR.out.2
           have F2 := Lib.hid (And.intro F.2.1 (And.intro (show wr.heap.size ≤ w10.heap.size from F.1) (And.intro (HQ'.out.keep F.2.2 HQ'.out.lt) (And.intro (own_keep HO7.out F.2.2) (And.intro F.2.2.size (hb'.out.trans (F.2.2.mono hb'.out.size)))))))
           clear F
           generalize ((w10.alloc (.cells #[.int .u8 0, .int .u8 0, .int .u8 0, .int .u8 0, .int .u8 0, .int .u8 0, .int .u8 0, .int .u8 0, .int .u8 0, .int .u8 0, .int .u8 0, .int .u8 0, .int .u8 0, .int .u8 0, .int .u8 0, .int .u8 0, .int .u8 0, .int .u8 0, .int .u8 0, .int .u8 0, .int .u8 0, .int .u8 0, .int .u8 0, .int .u8 0, .int .u8 0, .int .u8 0, .int .u8 0, .int .u8 0, .int .u8 0, .int .u8 0, .int .u8 0, .int .u8 0] 23)).setCells w10.heap.size 0 (R.map bv)) = wx at *
           generalize w10.heap.size = g9 at *)
        | (change Code.wp _ _ _ _ (w10.setCells w4.heap.size 0 (R.map bv))
           have F := key_put (B := wr.heap.size) (a := wr) hB10 HZ10 HW4.out HR.out.2
           have F2 := Lib.hid (And.intro F.2.1 (And.intro (show wr.heap.size ≤ w4.heap.size from F.1) (And.intro (HQ'.out.keep F.2.2 HQ'.out.lt) (And.intro (own_keep HO7.out F.2.2) (And.intro F.2.2.size (hb'.out.trans (F.2.2.mono hb'.out.size)))))))
           clear F
           generalize (w10.setCells w4.heap.size 0 (R.map bv)) = wx at *
           generalize w4.heap.size = g9 at *)
        | (change Code.wp _ _ _ _ (w10.setCells (w4.heap.size + 1) 0 (R.map bv))
           have F := key_put (B := wr.heap.size) (a := wr) hB10 HZ10 (Nat.le_trans HW4.out (Nat.le_succ _)) HR.out.2
           have F2 := Lib.hid (And.intro F.2.1 (And.intro (show wr.heap.size ≤ (w4.heap.size + 1) from F.1) (And.intro (HQ'.out.keep F.2.2 HQ'.out.lt) (And.intro (own_keep HO7.out F.2.2) (And.intro F.2.2.size (hb'.out.trans (F.2.2.mono hb'.out.size)))))))
           clear F
           generalize (w10.setCells (w4.heap.size + 1) 0 (R.map bv)) = wx at *
           generalize (w4.heap.size + 1) = g9 at *)
        | (change Code.wp _ _ _ _ (w10.setCells w9.heap.size 0 (R.map bv))
           have F := key_put (B := wr.heap.size) (a := wr) hB10 HZ10 hb9.size HR.out.2
           have F2 := Lib.hid (And.intro F.2.1 (And.intro (show wr.heap.size ≤ w9.heap.size from F.1) (And.intro (HQ'.out.keep F.2.2 HQ'.out.lt) (And.intro (own_keep HO7.out F.2.2) (And.intro F.2.2.size (hb'.out.trans (F.2.2.mono hb'.out.size)))))))
           clear F
           generalize (w10.setCells w9.heap.size 0 (R.map bv)) = wx at *
           generalize w9.heap.size = g9 at *)
        obtain ⟨H9, hg9', HQ9, hO9, hsz9, hb9'⟩ := F2.out
        have h7lt := HO7.out.lt
        clear F2 hand hwr hi2 hal hu2 hone2 HCT KM HB1 HB2 HB3 HOW1 HOW2 HOW3 HL1 HL2 HL3 HZ1 HZ2 HBB h4 HQ' HO7 hb' HW4
        have hS9 := H9.bytes 32 HR.out.2 (by simp [maxLen])
        have HC1 := Lib.hid (show 0 + 32 ≤ 140737488355328 by omega)
        have HC2 := Lib.hid (show p + (0 + 32) ≤ 140737488355328 by omega)
        have HS2 := Lib.hid (show w.heap.size + 1 ≤ wx.heap.size from Nat.le_trans hsz hsz9)
        have HLT := Lib.hid h7lt
        have HSZ9 := Lib.hid hsz9
        have hb99 := Lib.hid hb9'
        clear hg9 hb9 hr9 hown9 hb10 hB10 HB1 HB2 H9 hsz9 h7lt hb9'
        go_wp2_with (first
          | (at_builtin; (refine app8 rfl (.const (.slice none 0 0)) (.tmp 36) rfl wx.heap.size (.slice none 0 0) 0 [] rfl (World.ownsRow_nil _ _ _ _) (some ⟨g9, 0, none⟩) 32 32 R rfl hS9 HC1.out (Nat.le_refl _) ?_); intro v12 w12 hown12 hg12; have hb12 : Below wx.heap.size wx w12 := (Below.refl _ _).grown hg12 (Nat.le_refl _) (fun k hk => by cases hk); have hO12 := own_keep hO9 hb12; have hlt12 := hown12.lt; obtain ⟨A12, c12, rfl, hr12⟩ := Row.own hown12; have hr12' : Bytes w12 A12 (0 + 32) c12 R := hr12; have HS12 := Nat.le_trans HS2.out hb12.size)
          | (at_builtin; (refine app8 rfl (.tmp 38) (.tmp 39) rfl (w.heap.size + 1) (.slice A7 p c7) p (outN k l j) rfl hO12 A12 (0 + 32) c12 R rfl hr12' HC2.out HS12 ?_); intro v13 w13 hown13 hg13))
        have hb13 := (hb99.out.trans (hb12.mono hb99.out.size)).grown hg13 (Nat.le_trans hb99.out.size hb12.size) (fun k hk => by have := (HLT.out k hk).1; omega)
        have HQ13 := (HQ9.keep hb12 HQ9.lt).grown hg13 (fun e => by have := (HLT.out _ e.symm).1; omega)
        have hown8' := hown12.kept hg13 (by
          cases hq8 : (Value.slice A12 (0 + 32) c12).ownBlock with
          | none => exact Or.inl rfl
          | some k8 =>
            refine Or.inr (fun e => ?_)
            have h1 := (hlt12 k8 hq8).1
            have h2 := (HLT.out k8 e.symm).2
            have h3 := HSZ9.out
            omega)
        obtain ⟨A13, c13, rfl, hr13⟩ := Row.own hown13
        have hsz13 : w.heap.size + 1 ≤ w13.heap.size := Nat.le_trans HS12 hg13.size
        clear hO12 hr12 hr12' hg12 hg13 hb12 hown12 hO9 HQ9 hS9 hr13
        go_wp2
        go_roundw
        case rel =>
          refine ⟨j + 1, p + (0 + 32), 0 + 32, Lib.hid (by have := HP.out; omega), Lib.hid (by rw [← HR.out.1, HR.out.2]), by omega, by omega, by go_num, ?_, ?_, HQ13, hb13, hsz13⟩
          · rw [outN_succ, ← HR.out.1]
            exact hown13
          · rw [← HR.out.1]
            exact own_base hown8' HS2.out
        case measure => simp; omega)
    · have hrow := hr7
      obtain ⟨b7, o7, rfl, hb7, _⟩ := hr7.2.2.2.2 (by omega)
      have hc7 : (n : Int) ≤ (c7 : Int) := by have := hr7.2.1; omega
      have hr7' : Bytes wr (some ⟨b7, o7, none⟩) n c7 (expN k l n) := by
        have h := Row.head hrow n (by omega)
        rw [← List.map_take, expN_of j n (by have := HP.out; omega)] at h
        exact h
      have HC1 := Lib.hid (show 0 + n ≤ 140737488355328 by omega)
      clear hrow hr7 hr8 hown7 hown8
      go_wp2_with (at_builtin; (refine app8 rfl (.const (.slice none 0 0)) (.tmp 43) rfl wr.heap.size (.slice none 0 0) 0 [] rfl (World.ownsRow_nil _ _ _ _) (some ⟨b7, o7, none⟩) n c7 (expN k l n) rfl hr7' HC1.out (Nat.le_refl _) ?_); intro v12 w12 hown12 hg12; have hb12 : Below wr.heap.size wr w12 := (Below.refl _ _).grown hg12 (Nat.le_refl _) (fun k hk => by cases hk))
      rw [List.nil_append, Nat.zero_add] at hown12
      go_ret
      exact ⟨_, rfl, own_base hown12 hb.size, hb.trans (hb12.mono hb.size)⟩
end refExp
end Go.Proofs.YtcnpbgmdmifhaaaDoor
