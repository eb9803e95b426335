/-
  Contract of the reference's Numbers.
-/
import Derived.Test.YtikmhhhnegdfoaaDoorRefPrimes
import Derived.Test.YtikmhhhnegdfoaaDoorRefSha
import Derived.BigRegion
namespace Go.Proofs.YtikmhhhnegdfoaaDoor
open Go.ChangeShapes Go.WideShapes Go.ChangeAt Go.RowKit
set_option linter.unusedVariables false
set_option linter.unusedSimpArgs false

theorem Tryd.infoWord : (Tryd.prog.info? 37).map (fun i => (i.zero, i.size, i.bytes)) = some (some (.int .u32 0), 1, 4) := by kernel_rfl
/-- 'append(s, x...)' of numbers of 32 bits. -/
theorem app32 {w : World} {ops : Array Oper} {rest : List Oper} {o : Oper} {a : Act} {Q : Exit → Act → World → Prop} (hgd : o.guard = none) (s x : Operand)
    (ho : o.op = .call { callee := .builtin .append, args := #[s, x], argTypes := #[36, 36] })
    (base : Nat) (v : Value) (n : Nat) (l : List Nat) (hs : a.eval s = v) (hown : w.ownsRow base 37 1 v n (l.map uv))
    (A : Option Addr) (m c : Nat) (l' : List Nat) (hx : a.eval x = .slice A m c) (hr : Row w A m c (l'.map uv)) (hbytes : (n + m) * 4 ≤ 140737488355328) (hbase : base ≤ w.heap.size)
    (h : ∀ v' w', w'.ownsRow base 37 1 v' (n + m) ((l ++ l').map uv) → w.grownBy w' v.ownBlock → wpList Tryd.prog ops Q rest (a.put o.dst v') w') : wpList Tryd.prog ops Q (o :: rest) a w := by
  obtain ⟨i0, hi, hz0, hz1, hz2⟩ := info_parts Tryd.infoWord
  exact wpList_appendRow hgd s x 36 ho base 37 i0 (.int .u32 0) 4 Tryd.underlying36 hi hz0 hz1 hz2 rfl v n (l.map uv) hs hown A m c (l'.map uv) hx hr (one_uv l') (by decide) hbytes hbase fun v' w' h2 h3 => h v' w' (by rw [List.map_append]; exact h2) h3
theorem row_lit32 (w : World) (l : List Nat) (h63 : l.length ≤ maxLen) : Row (w.alloc (.cells (l.map uv).toArray 37)) (some ⟨w.heap.size, 0, none⟩) l.length l.length (l.map uv) := by
  have h := (Has.new w 37 (l.map uv)).row 0 l.length l.length (by simp) (Nat.le_refl _) h63
  have e : ((l.map uv).drop 0).take l.length = l.map uv := by rw [List.drop_zero]; exact List.take_of_length_le (by simp)
  rw [e] at h
  exact h

namespace refWide
def cubesN (l : List Nat) : List Nat := l.map fun p => behindN p true
theorem numbers_k : cubesN (PS 310) = kN := by decide +kernel
theorem numbers_h : ((PS 310).take 8).map (fun p => behindN p false) = h0N.list := by decide +kernel
/-- The array when j of its 8 numbers are there. -/
def atF (j i : Nat) : Nat := if i < j then h0N.list.getD i 0 else 0
theorem atF_end : wN 8 (atF 8) = h0N.list.map uv := rfl
theorem PS_at (j : Nat) (h : j < 64) : ∃ p, (PS 310)[j]? = some p ∧ p < 4294967296 := by
  have hl : j < (PS 310).length := by rw [PS_310]; exact h
  refine ⟨_, List.getElem?_eq_getElem hl, ?_⟩
  have := (PS_pos 310 _ (List.getElem_mem hl)).2
  omega
theorem cubes_step (j p : Nat) (h : (PS 310)[j]? = some p) : cubesN ((PS 310).take j) ++ [behindN p true] = cubesN ((PS 310).take (j + 1)) := by
  obtain ⟨hl, e⟩ := List.getElem?_eq_some_iff.1 h
  rw [cubesN, cubesN, List.take_succ_eq_append_getElem hl, List.map_append, e]
  rfl
theorem first_at (j p : Nat) (hj : j < 8) (h : (PS 310)[j]? = some p) : behindN p false = h0N.list.getD j 0 := by
  rw [← numbers_h]
  simp [hj, h]
set_option maxRecDepth 10000 in
set_option maxHeartbeats 800000 in
theorem Numbers (w : World) :
    Calls Tryd.prog 15 #[] w fun e w' => ∃ A c, e = .returned (.tuple #[.slice A 64 c, .agg (h0N.list.map uv).toArray]) ∧ Row w' A 64 c (kN.map uv) ∧ Below w.heap.size w w' := by
  have hb0 := Below.refl w.heap.size w
  have HB := Lib.hid (fun (p : Nat) (u : World) (hp : p < 4294967296) => behind_true p u hp)
  have HC := Lib.hid (fun (p : Nat) (u : World) (hp : p < 4294967296) => behind_false p u hp)
  obtain ⟨L, hL⟩ : ∃ L, L = PS 310 := ⟨_, rfl⟩
  have K0 := fun u => primes u
  rw [← hL] at K0
  have K := Lib.hid K0
  have HL := Lib.hid hL
  have hL64 : L.length = 64 := by rw [hL, PS_310]
  have HAT := Lib.hid (hL ▸ PS_at)
  have HST := Lib.hid (hL ▸ cubes_step)
  have HFI := Lib.hid (hL ▸ first_at)
  have HLL := Lib.hid hL64
  clear K0 hL hL64
  have S8x := Lib.hid (show (Tryd.prog.info? 38).map (·.size) = some (wN 8 (atF 8)).length by rw [wN_len]; kernel_rfl)
  go_enter Tryd.func15, Tryd.ntmps15
  have H1 : Has (w.alloc (.cells #[.int .u32 0, .int .u32 0, .int .u32 0, .int .u32 0, .int .u32 0, .int .u32 0, .int .u32 0, .int .u32 0] 38)) w.heap.size 38 (wN 8 (atF 0)) := Has.new w 38 (wN 8 (atF 0))
  have hb1 := hb0.alloc (Nat.le_refl _) (.cells #[.int .u32 0, .int .u32 0, .int .u32 0, .int .u32 0, .int .u32 0, .int .u32 0, .int .u32 0, .int .u32 0] 38)
  go_wp2_with fail
  refine (K.out _).mono ?_
  rintro e w2 ⟨A, c, rfl, hr, hb2⟩
  have H2 := H1.keep hb2 H1.lt
  have hbw2 := hb1.trans (hb2.mono hb1.size)
  obtain ⟨pb, po, rfl, hpb, hpc⟩ := hr.2.2.2.2 (by omega)
  have H3 : Has (w2.alloc (.cells #[.int .u32 0, .int .u32 0, .int .u32 0, .int .u32 0, .int .u32 0, .int .u32 0, .int .u32 0, .int .u32 0] 38)) w2.heap.size 38 (wN 8 (atF 0)) := Has.new w2 38 (wN 8 (atF 0))
  have H2' := H2.alloc (.cells #[.int .u32 0, .int .u32 0, .int .u32 0, .int .u32 0, .int .u32 0, .int .u32 0, .int .u32 0, .int .u32 0] 38)
  have hbw3 := hbw2.alloc hbw2.size (.cells #[.int .u32 0, .int .u32 0, .int .u32 0, .int .u32 0, .int .u32 0, .int .u32 0, .int .u32 0, .int .u32 0] 38)
  have hpc3 : ∀ j p, L[j]? = some p → (w2.alloc (.cells #[.int .u32 0, .int .u32 0, .int .u32 0, .int .u32 0, .int .u32 0, .int .u32 0, .int .u32 0, .int .u32 0] 38)).cell? ⟨pb, po + j, none⟩ = some (qv p) := by
    intro j p hp
    have hj : j < 64 := by have := (List.getElem?_eq_some_iff.1 hp).1; rw [HLL.out] at this; exact this
    have h := hpc j hj
    rw [List.getElem?_map, hp] at h
    rw [← ((Below.refl w2.heap.size w2).alloc (Nat.le_refl _) (.cells #[.int .u32 0, .int .u32 0, .int .u32 0, .int .u32 0, .int .u32 0, .int .u32 0, .int .u32 0, .int .u32 0] 38)).cell (p := ⟨pb, po + j, none⟩) hpb] at h
    exact h
  have hr1 := H1.lt
  have hsz2 : w.heap.size < w2.heap.size := H2.lt
  clear K H1 H2 hb1 hb2 hbw2 hpc hr hb0
  have hsz3 : (w2.alloc (.cells #[.int .u32 0, .int .u32 0, .int .u32 0, .int .u32 0, .int .u32 0, .int .u32 0, .int .u32 0, .int .u32 0] 38)).heap.size = w2.heap.size + 1 := by simp
  go_wp2
  generalize hW : (w2.alloc (.cells #[.int .u32 0, .int .u32 0, .int .u32 0, .int .u32 0, .int .u32 0, .int .u32 0, .int .u32 0, .int .u32 0] 38)) = w3 at *
  clear hW
  have HPC := Lib.hid hpc3
  clear hpc3
  go_loopw [3, 5] (fun v i wr => ∃ j : Nat, j ≤ 64 ∧ i = .int .i64 (j : Int) ∧ wr.ownsRow w3.heap.size 37 1 v j ((cubesN (L.take j)).map uv) ∧ Below w3.heap.size w3 wr) (fun _ i _ => 64 - (intOf i).toNat)
  case atStart => exact ⟨0, by omega, rfl, World.ownsRow_nil _ _ _ _, Below.refl _ _⟩
  case round =>
    obtain ⟨j, hj, rfl, hown, hb⟩ := hrel
    obtain ⟨A3, c3, rfl, hr3⟩ := Row.own hown
    by_cases hlt : j < 64
    · obtain ⟨p, hp, hpl⟩ := HAT.out j hlt
      have c0 : wr.cell? ⟨pb, po + j, none⟩ = some (.int .u64 (p : Int)) := (hb.cell (p := ⟨pb, po + j, none⟩) (show pb < w3.heap.size by omega)).trans (HPC.out j p hp)
      have hstep := HST.out j p hp
      obtain ⟨l, hl⟩ : ∃ l, l = cubesN (L.take j) := ⟨_, rfl⟩
      obtain ⟨b, hbb⟩ : ∃ b, b = behindN p true := ⟨_, rfl⟩
      have K0 := HB.out p wr hpl
      rw [← hbb] at K0 hstep
      rw [← hl] at hstep hown
      have K := Lib.hid K0
      have HS := Lib.hid hstep
      clear K0 hstep hbb hl hp hr3
      go_wp2_with (first
        | (go_at_call 24; refine (K.out).mono ?_; rintro e w' ⟨rfl, rfl⟩)
        | (at_builtin; (refine app32 rfl (.tmp 12) (.tmp 18) rfl w3.heap.size (.slice A3 j c3) j l rfl (hown.alloc _) (some ⟨wr.heap.size, 0, none⟩) 1 1 [b] rfl (row_lit32 wr [b] (by simp [maxLen])) (by omega) (Nat.le_trans hb.size (by simp)) ?_); intro v8 w8 hown8 hg8))
      go_roundw
      case rel => exact ⟨j + 1, by omega, by go_num, by rw [← HS.out]; exact hown8, (hb.alloc hb.size _).grown hg8 (Nat.le_trans hb.size (by simp)) (fun k hk => (hown.lt k hk).1)⟩
      case measure => simp [intOf]; omega
    · obtain rfl : j = 64 := by omega
      have e : cubesN (L.take 64) = kN := by rw [List.take_of_length_le (by rw [HLL.out]; exact Nat.le_refl _), HL.out, numbers_k]
      rw [e] at hown hr3
      have H4 := H3.keep hb H3.lt
      have H1r := H2'.keep hb H2'.lt
      have hoff := own_off hown (show w2.heap.size < w3.heap.size by omega)
      have hoffR := own_off hown (show w.heap.size < w3.heap.size by omega)
      have HR3 := Lib.hid hr3
      have hbw := hbw3.trans (hb.mono hbw3.size)
      have hgw := H4.lt
      obtain ⟨wo, hwo⟩ : ∃ x : World, x = wr := ⟨_, rfl⟩
      subst hwo
      clear hown hr3 H3 H2' e
      rw [show ((64 : Nat) : Int) = 64 from rfl]
      go_wp2
      go_loopw [6] (fun i wr => ∃ j : Nat, j ≤ 8 ∧ i = .int .i64 (j : Int) ∧ Has wr w2.heap.size 38 (wN 8 (atF j)) ∧ Only w2.heap.size wo wr) (fun i _ => 8 - (intOf i).toNat)
      case atStart => exact ⟨0, by omega, rfl, H4, Only.refl _ _⟩
      case round =>
        clear H4
        obtain ⟨j, hj, rfl, H, ho⟩ := hrel
        by_cases hlt2 : j < 8
        · obtain ⟨p, hp, hpl⟩ := HAT.out j (by omega)
          have c0 : wr.cell? ⟨pb, po + j, none⟩ = some (.int .u64 (p : Int)) := (ho.cell ⟨pb, po + j, none⟩ (show pb ≠ w2.heap.size by omega)).trans ((hb.cell (p := ⟨pb, po + j, none⟩) (show pb < w3.heap.size by omega)).trans (HPC.out j p hp))
          have cj := (H.cell j).trans (wN_at (atF j) j hlt2)
          have fj := H.froz j
          have hfst := HFI.out j p hlt2 hp
          obtain ⟨b, hbb⟩ : ∃ b, b = behindN p false := ⟨_, rfl⟩
          have K0 := HC.out p wr hpl
          rw [← hbb] at K0 hfst
          have K := Lib.hid K0
          have HS := Lib.hid hfst
          clear K0 hfst hbb hp
          go_wp2_with (go_at_call 24; refine (K.out).mono ?_; rintro e w' ⟨rfl, rfl⟩)
          go_roundw
          case rel =>
            refine ⟨j + 1, by omega, by go_num, ?_, ho.trans (Only.setCell _ _ _ _)⟩
            have h := H.set j (.int .u32 (b : Int))
            rw [wN_set (atF j) (atF (j + 1)) j (fun i hi hne => by unfold atF; by_cases h1 : i < j <;> by_cases h2 : i < j + 1 <;> first | (simp [h1, h2]; done) | omega) (.int .u32 (b : Int)) (by rw [HS.out]; simp [atF, uv])] at h
            exact h
          case measure => simp [intOf]; omega
        · obtain rfl : j = 8 := by omega
          have HZ := H1r.only ho (show w.heap.size ≠ w2.heap.size by omega)
          have hrow := Row.only HR3.out ho (hoff _)
          have D : ∀ i, i < 8 → wr.cell? ⟨w2.heap.size, i, none⟩ = (h0N.list.map uv)[i]? := fun i hi => by rw [H.cell i, atF_end]
          have c0 : wr.cell? ⟨w2.heap.size, 0, none⟩ = some (.int .u32 1779033703) := D 0 (by omega)
          have c1 : wr.cell? ⟨w2.heap.size, 1, none⟩ = some (.int .u32 3144134277) := D 1 (by omega)
          have c2 : wr.cell? ⟨w2.heap.size, 2, none⟩ = some (.int .u32 1013904242) := D 2 (by omega)
          have c3' : wr.cell? ⟨w2.heap.size, 3, none⟩ = some (.int .u32 2773480762) := D 3 (by omega)
          have c4 : wr.cell? ⟨w2.heap.size, 4, none⟩ = some (.int .u32 1359893119) := D 4 (by omega)
          have c5 : wr.cell? ⟨w2.heap.size, 5, none⟩ = some (.int .u32 2600822924) := D 5 (by omega)
          have c6 : wr.cell? ⟨w2.heap.size, 6, none⟩ = some (.int .u32 528734635) := D 6 (by omega)
          have c7 : wr.cell? ⟨w2.heap.size, 7, none⟩ = some (.int .u32 1541459225) := D 7 (by omega)
          have Z0 : ∀ i, i < 8 → wr.cell? ⟨w.heap.size, i, none⟩ = (wN 8 (atF 0))[i]? := fun i hi => HZ.cell i
          have z0 : wr.cell? ⟨w.heap.size, 0, none⟩ = some (.int .u32 0) := Z0 0 (by omega)
          have f0 := HZ.froz 0
          have z1 : wr.cell? ⟨w.heap.size, 1, none⟩ = some (.int .u32 0) := Z0 1 (by omega)
          have f1 := HZ.froz 1
          have z2 : wr.cell? ⟨w.heap.size, 2, none⟩ = some (.int .u32 0) := Z0 2 (by omega)
          have f2 := HZ.froz 2
          have z3 : wr.cell? ⟨w.heap.size, 3, none⟩ = some (.int .u32 0) := Z0 3 (by omega)
          have f3 := HZ.froz 3
          have z4 : wr.cell? ⟨w.heap.size, 4, none⟩ = some (.int .u32 0) := Z0 4 (by omega)
          have f4 := HZ.froz 4
          have z5 : wr.cell? ⟨w.heap.size, 5, none⟩ = some (.int .u32 0) := Z0 5 (by omega)
          have f5 := HZ.froz 5
          have z6 : wr.cell? ⟨w.heap.size, 6, none⟩ = some (.int .u32 0) := Z0 6 (by omega)
          have f6 := HZ.froz 6
          have z7 : wr.cell? ⟨w.heap.size, 7, none⟩ = some (.int .u32 0) := Z0 7 (by omega)
          have f7 := HZ.froz 7
          have hne := Lib.hid hsz2
          clear D Z0
          go_wp2
          go_region
          go_wp2
          have HZ8 : Has ((((((((wr.setCell ⟨w.heap.size, 0, none⟩ (.int .u32 1779033703)).setCell ⟨w.heap.size, 1, none⟩ (.int .u32 3144134277)).setCell ⟨w.heap.size, 2, none⟩ (.int .u32 1013904242)).setCell ⟨w.heap.size, 3, none⟩ (.int .u32 2773480762)).setCell ⟨w.heap.size, 4, none⟩ (.int .u32 1359893119)).setCell ⟨w.heap.size, 5, none⟩ (.int .u32 2600822924)).setCell ⟨w.heap.size, 6, none⟩ (.int .u32 528734635)).setCell ⟨w.heap.size, 7, none⟩ (.int .u32 1541459225)) w.heap.size 38 (h0N.list.map uv) := (((((((HZ.set 0 (.int .u32 1779033703)).set 1 (.int .u32 3144134277)).set 2 (.int .u32 1013904242)).set 3 (.int .u32 2773480762)).set 4 (.int .u32 1359893119)).set 5 (.int .u32 2600822924)).set 6 (.int .u32 528734635)).set 7 (.int .u32 1541459225)
          have oE8 : Only w.heap.size wr ((((((((wr.setCell ⟨w.heap.size, 0, none⟩ (.int .u32 1779033703)).setCell ⟨w.heap.size, 1, none⟩ (.int .u32 3144134277)).setCell ⟨w.heap.size, 2, none⟩ (.int .u32 1013904242)).setCell ⟨w.heap.size, 3, none⟩ (.int .u32 2773480762)).setCell ⟨w.heap.size, 4, none⟩ (.int .u32 1359893119)).setCell ⟨w.heap.size, 5, none⟩ (.int .u32 2600822924)).setCell ⟨w.heap.size, 6, none⟩ (.int .u32 528734635)).setCell ⟨w.heap.size, 7, none⟩ (.int .u32 1541459225)) := ((((((((Only.setCell _ _ _ _)).trans (Only.setCell _ _ _ _)).trans (Only.setCell _ _ _ _)).trans (Only.setCell _ _ _ _)).trans (Only.setCell _ _ _ _)).trans (Only.setCell _ _ _ _)).trans (Only.setCell _ _ _ _)).trans (Only.setCell _ _ _ _)
          obtain ⟨w5, hw5⟩ : ∃ x, x = ((((((((wr.setCell ⟨w.heap.size, 0, none⟩ (.int .u32 1779033703)).setCell ⟨w.heap.size, 1, none⟩ (.int .u32 3144134277)).setCell ⟨w.heap.size, 2, none⟩ (.int .u32 1013904242)).setCell ⟨w.heap.size, 3, none⟩ (.int .u32 2773480762)).setCell ⟨w.heap.size, 4, none⟩ (.int .u32 1359893119)).setCell ⟨w.heap.size, 5, none⟩ (.int .u32 2600822924)).setCell ⟨w.heap.size, 6, none⟩ (.int .u32 528734635)).setCell ⟨w.heap.size, 7, none⟩ (.int .u32 1541459225)) := ⟨_, rfl⟩
          rw [← hw5] at HZ8 oE8 ⊢
          clear hw5
          have HE : Has w5.drew w.heap.size 38 (h0N.list.map uv) := HZ8.keep (Below.refl _ _).drew HZ8.lt
          have hrowE : Row w5.drew A3 64 c3 (kN.map uv) := hrow.only oE8.drew (hoffR 64)
          have hbE : Below w.heap.size w w5.drew := oE8.drew.below (ho.below hbw (Nat.le_of_lt hne.out)) (Nat.le_refl _)
          exact ret_tmp_has Tryd.results15 (.slice A3 64 c3) rfl w.heap.size rfl 38 (h0N.list.map uv) HE _ Tryd.underlying38 rfl (by kernel_rfl) rfl ⟨A3, c3, rfl, hrowE, hbE⟩
end refWide
end Go.Proofs.YtikmhhhnegdfoaaDoor
