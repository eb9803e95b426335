/-
  Contract of sha.Parts.
-/
import Derived.Test.YtgjepiblhpmaiaaDoorShaSum
namespace Go.Proofs.YtgjepiblhpmaiaaDoor
open Go.ChangeShapes Go.WideShapes Go.ChangeAt Go.RowKit
set_option linter.unusedVariables false
set_option linter.unusedSimpArgs false

/-- A slice of bytes among others. -/
structure Part where
  A : Option Addr
  n : Nat
  c : Nat
  l : List UInt8
def Part.val (p : Part) : Value := .slice p.A p.n p.c
/-- The slice '.slice A n c' leads to the parts ps. -/
def PartsAt (w : World) (A : Option Addr) (n c : Nat) (ps : List Part) : Prop := Row w A n c (ps.map Part.val) ∧ ∀ p ∈ ps, Bytes w p.A p.n p.c p.l
theorem PartsAt.keep {w w' : World} {A : Option Addr} {n c : Nat} {ps : List Part} (h : PartsAt w A n c ps) (hb : Below w.heap.size w w') : PartsAt w' A n c ps := ⟨h.1.keep hb, fun p hp => (h.2 p hp).keep hb⟩
/-- The parts, each behind its length. -/
def partsN (ps : List Part) : List UInt8 := ps.flatMap fun p => be64 p.n ++ p.l
theorem partsN_snoc (ps : List Part) (j : Nat) (h : j < ps.length) : partsN (ps.take (j + 1)) = (partsN (ps.take j) ++ be64 ps[j].n) ++ ps[j].l := by
  rw [List.take_succ_eq_append_getElem h, partsN, partsN, List.flatMap_append, List.flatMap_cons, List.flatMap_nil, List.append_nil, List.append_assoc]

namespace sha
set_option maxHeartbeats 1000000 in
theorem Parts (A : Option Addr) (n c : Nat) (ps : List Part) (w : World) (hps : PartsAt w A n c ps) (hT : Tab w) :
    Calls Tryd.prog 24 #[.slice A n c] w fun e w' => e = .returned (.agg ((shaN (partsN ps)).map bv).toArray) ∧ Below w.heap.size w w' := by
  have hpl : ps.length = n := by simpa using hps.1.1
  have hcm := hps.1.2.2.1
  have hnc := hps.1.2.1
  obtain ⟨hz, hsz⟩ := zero_of_info zero_digest
  obtain ⟨z, hzz⟩ : ∃ z, z = dcells ⟨0, 0, 0, 0, 0, 0, 0, 0⟩ (List.replicate 64 0) 0 0 := ⟨_, rfl⟩
  obtain ⟨d, hd⟩ : ∃ d, d = dcells h0N (List.replicate 64 0) 0 0 := ⟨_, rfl⟩
  have hzl : z.length = 74 := by rw [hzz]; exact dcells_len (by simp)
  have hdl : d.length = 74 := by rw [hd]; exact dcells_len (by simp)
  have SZ := Lib.hid (show (Tryd.prog.info? 58).map (·.size) = some d.length by rw [hdl]; exact hsz)
  have LL := Lib.hid (hzl.trans hdl.symm)
  have OC := Lib.hid (hd ▸ one_dcells0 h0N)
  have hb1 := (Below.refl w.heap.size w).alloc (Nat.le_refl _) (.cells ((List.replicate 32 0 : List UInt8).map bv).toArray 42)
  have HR1 := Has.new w 42 ((List.replicate 32 0 : List UInt8).map bv)
  have K0 := newDigest (w.alloc (.cells ((List.replicate 32 0 : List UInt8).map bv).toArray 42))
  rw [← hd] at K0
  have K := Lib.hid K0
  have Hd := Lib.hid hd
  have hTl := World.block_lt_of_cell? w _ (hT 0 (by omega))
  rw [← hzz] at hz
  have HP := Lib.hid hps
  have HPL := Lib.hid hpl
  have hn63 : n ≤ 9223372036854775807 := by unfold maxLen at hcm; omega
  clear hzz hd hzl hdl hsz K0 hps hpl hcm hnc
  go_enter Tryd.func24, Tryd.ntmps24
  go_wp2_with fail
  refine (K.out).mono ?_
  rintro e w2 ⟨rfl, hb2⟩
  have hb := hb1.trans (hb2.mono hb1.size)
  have HR := HR1.keep hb2 HR1.lt
  have H0 := Has.new w2 58 z
  have hb3 := hb.alloc hb.size (.cells z.toArray 58)
  have HR3 := HR.alloc (.cells z.toArray 58)
  have hszl := HR.lt
  have hB2 := hb.size
  clear HR HR1 hb1 hb2 K hb
  go_wp2_with ((with_reducible refine wpList_store_has rfl 58 (.tmp 3) (.tmp 6) rfl w2.heap.size rfl d rfl 58 z H0 SZ.out LL.out OC.out ?_); intro w4 o4 H4; have hb4 := o4.below hb3 hB2; have HR4 := HR3.only o4 (by omega))
  have hd4 := dig_new (Hd.out ▸ H4)
  have hG : 0 ≠ w2.heap.size := by have : 0 < w.heap.size := hTl; omega
  clear HR3 H0 H4 o4 hb3 hz
  go_loopw [9] (fun i wr => ∃ j : Nat, j ≤ n ∧ i = .int .i64 j ∧ Dig wr w2.heap.size (partsN (ps.take j)) ∧ Has wr w.heap.size 42 ((List.replicate 32 0 : List UInt8).map bv) ∧ Below w.heap.size w wr) (fun i _ => n - (intOf i).toNat)
  case atStart => exact ⟨0, by omega, rfl, hd4, HR4, hb4⟩
  case round =>
    clear hd4 HR4 hb4
    obtain ⟨j, hj, rfl, hdj, HR, hb⟩ := hrel
    by_cases hlt : j < n
    · have hjl : j < ps.length := by rw [HPL.out]; exact hlt
      obtain ⟨b, off, rfl, hbl, hc⟩ := (HP.out.1).2.2.2.2 (by omega)
      obtain ⟨p, hp⟩ : ∃ p, p = ps[j] := ⟨_, rfl⟩
      have cj : wr.cell? ⟨b, off + j, none⟩ = some (.slice p.A p.n p.c) := by
        rw [hb.cell (p := ⟨b, off + j, none⟩) hbl, hc j hlt, List.getElem?_map, List.getElem?_eq_getElem hjl, hp]
        rfl
      have hpB := HP.out.2 p (hp ▸ List.getElem_mem hjl)
      have hple := hpB.le
      have hjn : (j : Int) < (n : Int) := by omega
      have KP := Lib.hid (wordsPut.put64 none 0 0 [] p.n wr (Row.nil wr) (by omega))
      have Hp := Lib.hid hp
      clear hp hc
      go_wp2_with fail
      refine (KP.out).mono ?_
      rintro e w5 ⟨v5, rfl, hown5, hb5⟩
      have hoff5 := hdj.lt
      have hd5 := hdj.keep hb5
      have HR5 := HR.keep hb5 HR.lt
      have hbw5 := hb.trans (hb5.mono hb.size)
      obtain ⟨A5, c5, rfl, hr5⟩ := Row.own hown5
      have KW := Lib.hid (write w2.heap.size _ A5 (0 + 8) c5 _ w5 hd5 hr5 (own_off hown5 (by omega) _) (hT.keep hbw5) hG)
      clear hown5 hr5 KP hb5 hd5 hdj HR
      go_wp2_with fail
      refine (KW.out).mono ?_
      rintro e w6 ⟨rfl, hd6, hS6⟩
      have hbw6 := hS6.below hbw5 hB2 hbw5.size
      have HR6 := HR5.save hS6 (by omega)
      have KX := Lib.hid (write w2.heap.size _ p.A p.n p.c p.l w6 hd6 (hpB.keep hbw6) (Off.of_row hpB hB2) (hT.keep hbw6) hG)
      clear KW hd6 hS6 HR5 hbw5
      go_wp2_with fail
      refine (KX.out).mono ?_
      rintro e w7 ⟨rfl, hd7, hS7⟩
      have hbw7 := hS7.below hbw6 hB2 hbw6.size
      have HR7 := HR6.save hS7 (by omega)
      clear KX hS7 HR6 hbw6
      go_wp2_with fail
      go_roundw
      case rel => exact ⟨j + 1, by omega, by go_num, by rw [partsN_snoc ps j hjl, ← Hp.out]; simpa using hd7, HR7, hbw7⟩
      case measure => simp [intOf]; omega
    · obtain rfl : j = n := by omega
      rw [List.take_of_length_le (Nat.le_of_eq HPL.out)] at hdj
      have KS0 := sum w2.heap.size _ wr hdj (hT.keep hb) hG
      obtain ⟨Ks, hKs⟩ : ∃ K, K = (shaN (partsN ps)).map bv := ⟨_, rfl⟩
      have hKl : Ks.length = 32 := by rw [hKs, List.length_map, shaN, keyN_len]
      have SK := Lib.hid (show (Tryd.prog.info? 42).map (·.size) = some Ks.length by rw [hKl]; kernel_rfl)
      have LK := Lib.hid (show ((List.replicate 32 0 : List UInt8).map bv).length = Ks.length by rw [List.length_map, hKl, List.length_replicate])
      have OK := Lib.hid (show ∀ u ∈ Ks, u.oneCell' = true from hKs ▸ one_bv _)
      rw [← hKs] at KS0
      have KS := Lib.hid KS0
      have HKs := Lib.hid hKs
      clear hKs hKl KS0 hdj hlt
      go_wp2_with fail
      refine (KS.out).mono ?_
      rintro e w6 ⟨rfl, hS6⟩
      have hb6 := hS6.below hb hB2 hb.size
      have HR6 := HR.save hS6 (by omega)
      clear KS hS6 hb HR
      go_wp2_with ((with_reducible refine wpList_store_has rfl 42 (.tmp 2) (.tmp 21) rfl w.heap.size rfl Ks rfl 42 _ HR6 SK.out LK.out OK.out ?_); intro w7 o7 H7)
      refine ret_has Tryd.results24 w.heap.size ?_ 42 Ks H7 _ Tryd.underlying42 rfl SK.out ?_ ⟨by rw [HKs.out], o7.below hb6 (Nat.le_refl _)⟩
      · rfl
      · rfl
end sha
end Go.Proofs.YtgjepiblhpmaiaaDoor
