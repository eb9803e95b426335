/-
  Contract of the reference's primes.
-/
import Derived.Test.YtikmhhhnegdfoaaDoorRefBehindB
import Derived.Test.YtikmhhhnegdfoaaDoorShaFns
namespace Go.Proofs.YtikmhhhnegdfoaaDoor
open Go.ChangeShapes Go.WideShapes Go.ChangeAt Go.RowKit
set_option linter.unusedVariables false
set_option linter.unusedSimpArgs false

theorem Tryd.info64 : (Tryd.prog.info? 34).map (fun i => (i.zero, i.size, i.bytes)) = some (some (.int .u64 0), 1, 8) := by kernel_rfl
/-- A number of 64 bits as a cell. -/
def qv (x : Nat) : Value := .int .u64 (x : Int)
theorem one_qv (l : List Nat) : ∀ u ∈ l.map qv, u.oneCell' = true := by
  intro u hu
  obtain ⟨c, _, rfl⟩ := List.mem_map.1 hu
  rfl
/-- 'append(s, x...)' of numbers of 64 bits. -/
theorem app64 {w : World} {ops : Array Oper} {rest : List Oper} {o : Oper} {a : Act} {Q : Exit → Act → World → Prop} (hgd : o.guard = none) (s x : Operand)
    (ho : o.op = .call { callee := .builtin .append, args := #[s, x], argTypes := #[54, 54] })
    (base : Nat) (v : Value) (n : Nat) (l : List Nat) (hs : a.eval s = v) (hown : w.ownsRow base 34 1 v n (l.map qv))
    (A : Option Addr) (m c : Nat) (l' : List Nat) (hx : a.eval x = .slice A m c) (hr : Row w A m c (l'.map qv)) (hbytes : (n + m) * 8 ≤ 140737488355328) (hbase : base ≤ w.heap.size)
    (h : ∀ v' w', w'.ownsRow base 34 1 v' (n + m) ((l ++ l').map qv) → w.grownBy w' v.ownBlock → wpList Tryd.prog ops Q rest (a.put o.dst v') w') : wpList Tryd.prog ops Q (o :: rest) a w := by
  obtain ⟨i0, hi, hz0, hz1, hz2⟩ := info_parts Tryd.info64
  exact wpList_appendRow hgd s x 54 ho base 34 i0 (.int .u64 0) 8 Tryd.underlying54 hi hz0 hz1 hz2 rfl v n (l.map qv) hs hown A m c (l'.map qv) hx hr (one_qv l') (by decide) hbytes hbase fun v' w' h2 h3 => h v' w' (by rw [List.map_append]; exact h2) h3
theorem row_lit64 (w : World) (l : List Nat) (h63 : l.length ≤ maxLen) : Row (w.alloc (.cells (l.map qv).toArray 34)) (some ⟨w.heap.size, 0, none⟩) l.length l.length (l.map qv) := by
  have h := (Has.new w 34 (l.map qv)).row 0 l.length l.length (by simp) (Nat.le_refl _) h63
  have e : ((l.map qv).drop 0).take l.length = l.map qv := by rw [List.drop_zero]; exact List.take_of_length_le (by simp)
  rw [e] at h
  exact h

namespace refWide
def primeN (l : List Nat) (x : Nat) : Bool := l.all fun p => x % p != 0
/-- The primes below k + 2. -/
def PS : Nat → List Nat
  | 0 => []
  | k + 1 => if primeN (PS k) (k + 2) then PS k ++ [k + 2] else PS k
theorem PS_mono (k : Nat) : (PS k).length ≤ (PS (k + 1)).length := by
  rw [PS]; split <;> simp
theorem PS_le {k m : Nat} (h : k ≤ m) : (PS k).length ≤ (PS m).length := by
  induction h with
  | refl => exact Nat.le_refl _
  | step _ ih => exact Nat.le_trans ih (PS_mono _)
theorem PS_309 : (PS 309).length = 63 := by decide +kernel
theorem PS_310 : (PS 310).length = 64 := by decide +kernel
theorem PS_pos (k : Nat) : ∀ p ∈ PS k, 0 < p ∧ p < k + 2 := by
  induction k with
  | zero => intro p hp; cases hp
  | succ k ih =>
    intro p hp
    rw [PS] at hp
    split at hp
    · rcases List.mem_append.1 hp with h | h
      · have := ih p h; omega
      · rw [List.mem_singleton] at h; omega
    · have := ih p hp; omega
set_option maxHeartbeats 800000 in
theorem primes (w : World) :
    Calls Tryd.prog 23 #[.int .i64 64] w fun e w' => ∃ A c, e = .returned (.slice A 64 c) ∧ Row w' A 64 c ((PS 310).map qv) ∧ Below w.heap.size w w' := by
  have hb0 := Below.refl w.heap.size w
  go_enter Tryd.func23, Tryd.ntmps23
  go_wp2
  go_loopw [3, 4] (fun v x wr => ∃ (k N : Nat), k ≤ 310 ∧ N = (PS k).length ∧ x = .int .u64 ((k + 2 : Nat) : Int) ∧ wr.ownsRow w.heap.size 34 1 v N ((PS k).map qv) ∧ Below w.heap.size w wr) (fun _ x _ => 312 - (intOf x).toNat)
  case atStart => exact ⟨0, 0, by omega, rfl, rfl, World.ownsRow_nil _ _ _ _, hb0⟩
  case round =>
    clear hb0
    obtain ⟨k, N, hk, hN, rfl, hown, hb⟩ := hrel
    obtain ⟨A, c, rfl, hr⟩ := Row.own hown
    by_cases hlt : k < 310
    · have hN64 : N < 64 := by have h1 := PS_le (show k ≤ 309 by omega); rw [PS_309] at h1; omega
      obtain ⟨l, hl⟩ : ∃ l, l = PS k := ⟨_, rfl⟩
      obtain ⟨x, hx⟩ : ∃ x, x = k + 2 := ⟨_, rfl⟩
      have hpos := Lib.hid (hl ▸ PS_pos k)
      have hstep : PS (k + 1) = if primeN l x then l ++ [x] else l := by rw [PS, hl, hx]
      have HS := Lib.hid (And.intro hstep hx)
      rw [← hl] at hown hr hN
      rw [← hx]
      have HN := Lib.hid hN
      have hx0 : x < 312 := by omega
      clear hl hstep hx hN
      go_wp2
      go_loop [5, 6] (fun b i => ∃ j : Nat, j ≤ N ∧ i = .int .i64 (j : Int) ∧ b = .bool (primeN (l.take j) x)) (fun _ i => N - (intOf i).toNat)
      case atStart => exact ⟨0, by omega, rfl, rfl⟩
      case round =>
        obtain ⟨j, hj, rfl, rfl⟩ := hrel
        by_cases hjN : j < N
        · obtain ⟨pb, po, rfl, hpb, hpc⟩ := hr.2.2.2.2 (by omega)
          have hjl : j < l.length := by have := HN.out; omega
          obtain ⟨p, hp⟩ : ∃ p, p = l[j] := ⟨_, rfl⟩
          have hp0 : 0 < p := (hpos.out p (hp ▸ List.getElem_mem hjl)).1
          have hp1 : p < 312 := by have := (hpos.out p (hp ▸ List.getElem_mem hjl)).2; omega
          have c0 : wr.cell? ⟨pb, po + j, none⟩ = some (.int .u64 (p : Int)) := by rw [hpc j hjN, List.getElem?_map, List.getElem?_eq_getElem hjl, ← hp]; rfl
          obtain ⟨f, hf⟩ : ∃ f, f = primeN (l.take j) x := ⟨_, rfl⟩
          have hs1 : primeN (l.take (j + 1)) x = (f && x % p != 0) := by rw [hf, hp, primeN, List.take_succ_eq_append_getElem hjl, List.all_append]; simp [primeN]
          obtain ⟨m, hm⟩ : ∃ m, m = x % p := ⟨_, rfl⟩
          have em : (x : Int).tmod (p : Int) = (m : Int) := by rw [Int.tmod_eq_emod_of_nonneg (by omega), hm]; simp
          have hm1 : m < 312 := by rw [hm]; exact Nat.lt_of_le_of_lt (Nat.mod_le _ _) hx0
          rw [← hm] at hs1
          rw [← hf]
          have HS1 := Lib.hid hs1
          clear hf hs1 hm hp hpc hjl
          cases f
          · go_wp2
            go_round
            case rel => exact ⟨j + 1, by omega, by simp, by rw [HS1.out]; simp⟩
            case measure => simp [intOf]; omega
          · by_cases hm0 : m = 0
            · subst hm0
              go_wp2
              go_round
              case rel => exact ⟨j + 1, by omega, by simp, by rw [HS1.out]; simp⟩
              case measure => simp [intOf]; omega
            · have hm0' : (0 : Int) < (m : Int) := by omega
              go_wp2
              go_round
              case rel => exact ⟨j + 1, by omega, by simp, by
                have e1 : ((m : Int) != 0) = true := by rw [bne_iff_ne]; omega
                have e2 : (m != 0) = true := by rw [bne_iff_ne]; exact hm0
                rw [HS1.out]; simp only [e1, e2, Bool.true_and]⟩
              case measure => simp [intOf]; omega
        · obtain rfl : j = N := by omega
          have e : l.take j = l := List.take_of_length_le (by rw [← HN.out]; exact Nat.le_refl _)
          rw [e]
          obtain ⟨f, hf⟩ : ∃ f, f = primeN l x := ⟨_, rfl⟩
          rw [← hf]
          have HF := Lib.hid hf
          clear hf e
          cases f
          · have h1 : PS (k + 1) = l := by rw [HS.out.1, ← HF.out]; rfl
            have H1 := Lib.hid h1
            clear h1
            go_wp2
            go_roundw
            case rel => exact ⟨k + 1, j, by omega, by rw [H1.out]; exact HN.out, by have h2 := HS.out.2; exact congrArg (Value.int .u64) (by omega), by rw [H1.out]; exact hown, hb⟩
            case measure => simp [intOf]; omega
          · have h1 : PS (k + 1) = l ++ [x] := by rw [HS.out.1, ← HF.out]; rfl
            have H1 := Lib.hid h1
            clear h1
            go_wp2_with (at_builtin; (refine app64 rfl (.tmp 30) (.tmp 32) rfl w.heap.size (.slice A j c) j l rfl (hown.alloc _) (some ⟨wr.heap.size, 0, none⟩) 1 1 [x] rfl (row_lit64 wr [x] (by simp [maxLen])) (by omega) (Nat.le_trans hb.size (by simp)) ?_); intro v8 w8 hown8 hg8)
            go_roundw
            case rel => exact ⟨k + 1, j + 1, by omega, by rw [H1.out, List.length_append, ← HN.out]; rfl, by have h2 := HS.out.2; exact congrArg (Value.int .u64) (by omega), by rw [H1.out]; exact hown8, (hb.alloc hb.size _).grown hg8 (Nat.le_trans hb.size (by simp)) (fun k hk => (hown.lt k hk).1)⟩
            case measure => simp [intOf]; omega
    · obtain rfl : k = 310 := by omega
      rw [PS_310] at hN
      subst hN
      go_wp2
      go_ret
      exact ⟨A, c, rfl, hr, hb⟩
end refWide
end Go.Proofs.YtikmhhhnegdfoaaDoor
