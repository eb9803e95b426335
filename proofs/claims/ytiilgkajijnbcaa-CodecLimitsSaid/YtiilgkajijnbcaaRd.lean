/-
  Contracts of the methods of the reference's reader.
-/
import Derived.Test.YtiilgkajijnbcaaRdSpec
import Derived.Test.YtiilgkajijnbcaaLow
import Derived.Deep.RegionHeldLaw
import Derived.BigQuiet
namespace Go.Proofs.Ytiilgkajijnbcaa
open Go.ChangeShapes Go.WideShapes Go.ChangeAt Go.RowKit
set_option linter.unusedVariables false
set_option linter.unusedSimpArgs false

/-- Block g holds the reader s of the bytes '.slice A n c'. -/
def Rdr (w : World) (g : Nat) (A : Option Addr) (n c : Nat) (s : St) : Prop := Has w g 104 [.slice A n c, .int .i64 (s.pos : Int), .int .i64 (s.e : Int)]
section
variable {w w' : World} {g n c : Nat} {A : Option Addr} {s : St}
theorem Rdr.c0 (h : Rdr w g A n c s) : w.cell? ⟨g, 0, none⟩ = some (.slice A n c) := h.cell 0
theorem Rdr.c1 (h : Rdr w g A n c s) : w.cell? ⟨g, 1, none⟩ = some (.int .i64 (s.pos : Int)) := h.cell 1
theorem Rdr.c2 (h : Rdr w g A n c s) : w.cell? ⟨g, 2, none⟩ = some (.int .i64 (s.e : Int)) := h.cell 2
theorem Rdr.lt (h : Rdr w g A n c s) : g < w.heap.size := Has.lt h
theorem Rdr.keep {B : Nat} (h : Rdr w g A n c s) (hb : Below B w w') (hg : g < B) : Rdr w' g A n c s := Has.keep h hb hg
theorem Rdr.alloc (h : Rdr w g A n c s) (o : Obj) : Rdr (w.alloc o) g A n c s := Has.alloc h o
theorem Rdr.only {k : Nat} (h : Rdr w g A n c s) (ho : Only k w w') (hk : g ≠ k) : Rdr w' g A n c s := Has.only h ho hk
end
/-- A part of a slice of bytes. -/
theorem Bytes.sub {w : World} {a : Addr} {n c : Nat} {b : List UInt8} (h : Bytes w (some a) n c b) (p k : Nat) (hn : p + k ≤ n) : Bytes w (some (a.add p)) k (c - p) ((b.drop p).take k) := by
  obtain ⟨h1, h2, h3, h0, h4⟩ := h
  refine ⟨by rw [List.length_map] at h1; simp; omega, by omega, by omega, fun h => (by cases h), fun hk => ?_⟩
  obtain ⟨b0, off, e, hlt, hc⟩ := h4 (by omega)
  obtain rfl : a = ⟨b0, off, none⟩ := by injection e
  refine ⟨b0, off + p, by rw [add_plain], hlt, fun j hj => ?_⟩
  rw [Nat.add_assoc, hc (p + j) (by omega)]
  simp [hj]
theorem rdFail (g : Nat) (A : Option Addr) (n c : Nat) (s : St) (k : Nat) (w : World) (H : Rdr w g A n c s) :
    Calls Try.prog 72 #[.pointer (some ⟨g, 0, none⟩), .int .i64 (k : Int)] w fun e w' => e = .returned (.tuple #[]) ∧ Rdr w' g A n c (failS k s) ∧ Only g w w' := by
  obtain ⟨p, e⟩ := s
  have c2 := H.c2
  have f2 := Has.froz H 2
  by_cases h0 : e = 0
  · subst h0
    have HS := Lib.hid (show Rdr (w.setCell ⟨g, 2, none⟩ (.int .i64 (k : Int))) g A n c (failS k ⟨p, 0⟩) from Has.set H 2 (.int .i64 (k : Int)))
    go_enter Try.func72, Try.ntmps72
    go_wp2_with fail
    go_end0
    exact ⟨rfl, HS.out, Only.setCell _ _ _ _⟩
  · have h1 : ((e : Int) == 0) = false := by simp; omega
    have HS := Lib.hid (show Rdr w g A n c (failS k ⟨p, e⟩) by rw [failS, if_neg h0]; exact H)
    clear h0
    go_enter Try.func72, Try.ntmps72
    go_wp2_with fail
    go_end0
    exact ⟨rfl, HS.out, Only.refl _ _⟩

namespace rdTake
theorem bad (g : Nat) (A : Option Addr) (n c : Nat) (s : St) (k : Nat) (h0 : s.e ≠ 0) (w : World) (H : Rdr w g A n c s) :
    Calls Try.prog 58 #[.pointer (some ⟨g, 0, none⟩), .int .i64 (k : Int)] w fun e w' => e = .returned (.slice none 0 0) ∧ w = w' := by
  obtain ⟨p, e⟩ := s
  have c2 := H.c2
  have h1 : ((e : Int) == 0) = false := by simp; omega
  clear h0
  go_enter Try.func58, Try.ntmps58
  go_wp2_with fail
  go_ret
  exact ⟨rfl, rfl⟩
theorem short (g : Nat) (A : Option Addr) (n c p : Nat) (k : Nat) (hp : p ≤ n) (hn : n ≤ 9223372036854775807) (hk : k ≤ 1099511627776) (h1 : n < p + k) (w : World) (H : Rdr w g A n c ⟨p, 0⟩) :
    Calls Try.prog 58 #[.pointer (some ⟨g, 0, none⟩), .int .i64 (k : Int)] w fun e w' => e = .returned (.slice none 0 0) ∧ Rdr w' g A n c ⟨p, 4⟩ ∧ Save g w w' := by
  have c0 := H.c0
  have c1 := H.c1
  have c2 := H.c2
  have h2 : (n : Int) - (p : Int) < (k : Int) := by omega
  have KF := Lib.hid (fun (w : World) (H : Rdr w g A n c ⟨p, 0⟩) => show Calls Try.prog 72 #[.pointer (some ⟨g, 0, none⟩), .int .i64 4] w (fun e w' => e = .returned (.tuple #[]) ∧ Rdr w' g A n c ⟨p, 4⟩ ∧ Only g w w') from rdFail g A n c ⟨p, 0⟩ 4 w H)
  have HD := Lib.hid (show Rdr w.drew g A n c ⟨p, 0⟩ from H)
  have hw1 : IntKind.i64.wrap ((n : Int) - (p : Int)) = (n : Int) - (p : Int) := by rw [IntKind.wrap_i64]; omega
  go_enter Try.func58, Try.ntmps58
  go_wp2_with fail
  go_quiet (fail)
  go_wp2_with fail
  refine Calls.mono (KF.out (World.drewN _ _) H) ?_
  rintro e w2 ⟨rfl, H2, o2⟩
  go_wp2_with fail
  go_ret
  exact ⟨rfl, H2, ⟨o2.os, o2.tape, o2.output, Nat.le_of_eq o2.size.symm, fun k hk hg => o2.block k hg⟩⟩
set_option maxHeartbeats 1000000 in
theorem good (g : Nat) (a : Addr) (n c p q : Nat) (b : List UInt8) (k : Nat) (hne : ¬ c = p) (hk : k ≤ 1099511627776) (hq : p + k = q) (hqn : q ≤ n) (w : World) (H : Rdr w g (some a) n c ⟨p, 0⟩) (hb : Bytes w (some a) n c b) (hA : Off g (some a) n) :
    Calls Try.prog 58 #[.pointer (some ⟨g, 0, none⟩), .int .i64 (k : Int)] w fun e w' => ∃ v, e = .returned v ∧ w'.ownsRow w.heap.size 5 1 v k (((b.drop p).take k).map bv) ∧ Rdr w' g (some a) n c ⟨q, 0⟩ ∧ Save g w w' := by
  have c0 := H.c0
  have c1 := H.c1
  have c2 := H.c2
  have f1 := Has.froz H 1
  have hle := hb.le
  have hnc := hb.2.1
  have hcm := hb.2.2.1
  have h2 : ¬ (n : Int) - (p : Int) < (k : Int) := by omega
  have e1 : (p : Int) + (k : Int) = (q : Int) := by omega
  have e2 : (q : Int) - (k : Int) = (p : Int) := by omega
  have b1 : (q : Int) ≤ (n : Int) := by omega
  have b2 : (p : Int) ≤ (q : Int) := by omega
  have b3 : (n : Int) ≤ (c : Int) := by omega
  have w1 : IntKind.i64.wrap ((q : Int) - (k : Int)) = (p : Int) := by rw [IntKind.wrap_i64]; omega
  have w2 : IntKind.i64.wrap (p : Int) = (p : Int) := by rw [IntKind.wrap_i64]; omega
  have w3 : IntKind.i64.wrap (q : Int) = (q : Int) := by rw [IntKind.wrap_i64]; omega
  have HQ := Lib.hid hq
  have HB := Lib.hid hb
  have HA := Lib.hid hA
  clear hq hqn hb hA hnc
  go_enter Try.func58, Try.ntmps58
  go_wp2_with fail
  go_quiet (fail)
  go_wp2_with fail
  have H2 : Rdr ((w.drewN nq).setCell ⟨g, 1, none⟩ (.int .i64 (q : Int))) g (some a) n c ⟨q, 0⟩ := Has.set (show Has (w.drewN nq) g 104 [.slice (some a) n c, .int .i64 (p : Int), .int .i64 ((0 : Nat) : Int)] from H) 1 (.int .i64 (q : Int))
  have S2 : Save g w ((w.drewN nq).setCell ⟨g, 1, none⟩ (.int .i64 (q : Int))) := (((Only.refl g w).drewN nq).trans (Only.setCell (w.drewN nq) g 1 (.int .i64 (q : Int)))).save
  change Code.wp _ _ _ _ ((w.drewN nq).setCell ⟨g, 1, none⟩ (.int .i64 (q : Int)))
  generalize ((w.drewN nq).setCell ⟨g, 1, none⟩ (.int .i64 (q : Int))) = w2 at *
  have hb2 : Bytes w2.drew (some a) n c b := Row.save HB.out S2.drew HA.out
  clear H c0 c1 c2 f1
  have c0 := H2.c0
  have c1 := H2.c1
  have hk2 := hb2.sub p k (by have := HQ.out; omega)
  have HR := Lib.hid (show Bytes w2.drew (some (a.add p)) (q - p) (c - p) ((b.drop p).take k) by
    rw [show q - p = k by have := HQ.out; omega]
    exact hk2)
  have HO := Lib.hid (World.ownsRow_nil w2.drew w.heap.size 5 1)
  have HM := Lib.hid (show 0 + (q - p) ≤ 140737488355328 by have := HQ.out; omega)
  have HS := Lib.hid (show w.heap.size ≤ w2.drew.heap.size from S2.size)
  have HK := Lib.hid (fun (w9 : World) (hg9 : w2.drew.grownBy w9 (Value.slice none 0 0).ownBlock) => show Rdr w9 g (some a) n c ⟨q, 0⟩ from Has.grown (w := w2.drew) H2 hg9 (by simp [Value.ownBlock]))
  go_region_held_law (fun w' => w'.cell? ⟨g, 0, none⟩ = some (.slice (some a) n c) ∧ w'.cell? ⟨g, 1, none⟩ = some (.int .i64 (q : Int))) (first | exact ⟨c0, c1⟩ | exact ⟨(HK.out _ hg9).c0, (HK.out _ hg9).c1⟩)
    (first | ((refine step_app8 (by rfl) (.const (.slice none 0 0)) (.tmp 47) (by rfl) w.heap.size (.slice none 0 0) 0 [] (by rfl) HO.out (some (a.add p)) (q - p) (c - p) ((b.drop p).take k) (by rfl) HR.out HM.out HS.out ?_); intro v9 w9 hown9 hg9; simp only [List.getElem_toArray, List.getElem_cons_succ, List.getElem_cons_zero]))
  go_wp2_with fail
  go_ret
  refine ⟨_, rfl, ?_, HK.out _ hg9, (S2.drew).trans ⟨hg9.os, hg9.tape, hg9.output, hg9.size, fun k hk _ => hg9.block k hk (by simp [Value.ownBlock])⟩⟩
  rw [show 0 + (q - p) = k by have := HQ.out; omega, List.nil_append] at hown9
  exact hown9
set_option maxHeartbeats 1000000 in
theorem edge (g : Nat) (a : Addr) (n p q : Nat) (b : List UInt8) (k : Nat) (hk : k ≤ 1099511627776) (hq : p + k = q) (hqn : q ≤ n) (w : World) (H : Rdr w g (some a) n p ⟨p, 0⟩) (hb : Bytes w (some a) n p b) (hA : Off g (some a) n) :
    Calls Try.prog 58 #[.pointer (some ⟨g, 0, none⟩), .int .i64 (k : Int)] w fun e w' => ∃ v, e = .returned v ∧ w'.ownsRow w.heap.size 5 1 v k (((b.drop p).take k).map bv) ∧ Rdr w' g (some a) n p ⟨q, 0⟩ ∧ Save g w w' := by
  have c0 := H.c0
  have c1 := H.c1
  have c2 := H.c2
  have f1 := Has.froz H 1
  have hle := hb.le
  have hnc := hb.2.1
  have hcm := hb.2.2.1
  have h2 : ¬ (n : Int) - (p : Int) < (k : Int) := by omega
  have e1 : (p : Int) + (k : Int) = (q : Int) := by omega
  have e2 : (q : Int) - (k : Int) = (p : Int) := by omega
  have b1 : (q : Int) ≤ (n : Int) := by omega
  have b2 : (p : Int) ≤ (q : Int) := by omega
  have b3 : (n : Int) ≤ (p : Int) := by omega
  have b4 : p ≤ q := by omega
  have HK0 := Lib.hid (show k = 0 by omega)
  have w1 : IntKind.i64.wrap ((q : Int) - (k : Int)) = (p : Int) := by rw [IntKind.wrap_i64]; omega
  have w2 : IntKind.i64.wrap (p : Int) = (p : Int) := by rw [IntKind.wrap_i64]; omega
  have w3 : IntKind.i64.wrap (q : Int) = (q : Int) := by rw [IntKind.wrap_i64]; omega
  have HQ := Lib.hid hq
  have HB := Lib.hid hb
  have HA := Lib.hid hA
  clear hq hqn hb hA hnc
  go_enter Try.func58, Try.ntmps58
  go_wp2_with fail
  go_quiet (fail)
  go_wp2_with fail
  have H2 : Rdr ((w.drewN nq).setCell ⟨g, 1, none⟩ (.int .i64 (q : Int))) g (some a) n p ⟨q, 0⟩ := Has.set (show Has (w.drewN nq) g 104 [.slice (some a) n p, .int .i64 (p : Int), .int .i64 ((0 : Nat) : Int)] from H) 1 (.int .i64 (q : Int))
  have S2 : Save g w ((w.drewN nq).setCell ⟨g, 1, none⟩ (.int .i64 (q : Int))) := (((Only.refl g w).drewN nq).trans (Only.setCell (w.drewN nq) g 1 (.int .i64 (q : Int)))).save
  change Code.wp _ _ _ _ ((w.drewN nq).setCell ⟨g, 1, none⟩ (.int .i64 (q : Int)))
  generalize ((w.drewN nq).setCell ⟨g, 1, none⟩ (.int .i64 (q : Int))) = w2 at *
  have hb2 : Bytes w2.drew (some a) n p b := Row.save HB.out S2.drew HA.out
  clear H c0 c1 c2 f1
  have c0 := H2.c0
  have c1 := H2.c1
  have HR := Lib.hid (show Bytes w2.drew (some a) 0 0 [] from ⟨rfl, Nat.le_refl _, by simp [maxLen], fun h => (by cases h), fun h => absurd h (by omega)⟩)
  have HO := Lib.hid (World.ownsRow_nil w2.drew w.heap.size 5 1)
  have HM := Lib.hid (show 0 + 0 ≤ 140737488355328 by omega)
  have HS := Lib.hid (show w.heap.size ≤ w2.drew.heap.size from S2.size)
  have HK := Lib.hid (fun (w9 : World) (hg9 : w2.drew.grownBy w9 (Value.slice none 0 0).ownBlock) => show Rdr w9 g (some a) n p ⟨q, 0⟩ from Has.grown (w := w2.drew) H2 hg9 (by simp [Value.ownBlock]))
  go_region_held_law (fun w' => w'.cell? ⟨g, 0, none⟩ = some (.slice (some a) n p) ∧ w'.cell? ⟨g, 1, none⟩ = some (.int .i64 (q : Int))) (first | exact ⟨c0, c1⟩ | exact ⟨(HK.out _ hg9).c0, (HK.out _ hg9).c1⟩)
    (first | ((refine step_app8 (by rfl) (.const (.slice none 0 0)) (.tmp 47) (by rfl) w.heap.size (.slice none 0 0) 0 [] (by rfl) HO.out (some a) 0 0 [] (by rfl) HR.out HM.out HS.out ?_); intro v9 w9 hown9 hg9; simp only [List.getElem_toArray, List.getElem_cons_succ, List.getElem_cons_zero]))
  go_wp2_with fail
  go_ret
  refine ⟨_, rfl, ?_, HK.out _ hg9, (S2.drew).trans ⟨hg9.os, hg9.tape, hg9.output, hg9.size, fun k hk _ => hg9.block k hk (by simp [Value.ownBlock])⟩⟩
  rw [List.append_nil] at hown9
  rw [HK0.out, List.take_zero]
  exact hown9
set_option maxHeartbeats 1000000 in
theorem none_ (g : Nat) (w : World) (H : Rdr w g none 0 0 ⟨0, 0⟩) :
    Calls Try.prog 58 #[.pointer (some ⟨g, 0, none⟩), .int .i64 0] w fun e w' => ∃ v, e = .returned v ∧ w'.ownsRow w.heap.size 5 1 v 0 [] ∧ Rdr w' g none 0 0 ⟨0, 0⟩ ∧ Save g w w' := by
  have c0 := H.c0
  have c1 : w.cell? ⟨g, 1, none⟩ = some (.int .i64 0) := H.c1
  have c2 : w.cell? ⟨g, 2, none⟩ = some (.int .i64 0) := H.c2
  have f1 := Has.froz H 1
  go_enter Try.func58, Try.ntmps58
  go_wp2_with fail
  go_quiet (fail)
  go_wp2_with fail
  have H2 : Rdr ((w.drewN nq).setCell ⟨g, 1, none⟩ (.int .i64 0)) g none 0 0 ⟨0, 0⟩ := Has.set (show Has (w.drewN nq) g 104 [.slice none 0 0, .int .i64 ((0 : Nat) : Int), .int .i64 ((0 : Nat) : Int)] from H) 1 (.int .i64 0)
  have S2 : Save g w ((w.drewN nq).setCell ⟨g, 1, none⟩ (.int .i64 0)) := (((Only.refl g w).drewN nq).trans (Only.setCell (w.drewN nq) g 1 (.int .i64 0))).save
  change Code.wp _ _ _ _ ((w.drewN nq).setCell ⟨g, 1, none⟩ (.int .i64 0))
  generalize ((w.drewN nq).setCell ⟨g, 1, none⟩ (.int .i64 0)) = w2 at *
  clear H c0 c1 c2 f1
  have c0 := H2.c0
  have c1 : w2.cell? ⟨g, 1, none⟩ = some (.int .i64 0) := H2.c1
  have HR := Lib.hid (show Bytes w2.drew none 0 0 [] from Row.nil _)
  have HO := Lib.hid (World.ownsRow_nil w2.drew w.heap.size 5 1)
  have HM := Lib.hid (show 0 + 0 ≤ 140737488355328 by omega)
  have HS := Lib.hid (show w.heap.size ≤ w2.drew.heap.size from S2.size)
  have HK := Lib.hid (fun (w9 : World) (hg9 : w2.drew.grownBy w9 (Value.slice none 0 0).ownBlock) => show Rdr w9 g none 0 0 ⟨0, 0⟩ from Has.grown (w := w2.drew) H2 hg9 (by simp [Value.ownBlock]))
  go_region_held_law (fun w' => w'.cell? ⟨g, 0, none⟩ = some (.slice none 0 0) ∧ w'.cell? ⟨g, 1, none⟩ = some (.int .i64 0)) (first | exact ⟨c0, c1⟩ | exact ⟨(HK.out _ hg9).c0, (HK.out _ hg9).c1⟩)
    (first | ((refine step_app8 (by rfl) (.const (.slice none 0 0)) (.tmp 47) (by rfl) w.heap.size (.slice none 0 0) 0 [] (by rfl) HO.out none 0 0 [] (by rfl) HR.out HM.out HS.out ?_); intro v9 w9 hown9 hg9; simp only [List.getElem_toArray, List.getElem_cons_succ, List.getElem_cons_zero]))
  go_wp2_with fail
  go_ret
  exact ⟨_, rfl, hown9, HK.out _ hg9, (S2.drew).trans ⟨hg9.os, hg9.tape, hg9.output, hg9.size, fun k hk _ => hg9.block k hk (by simp [Value.ownBlock])⟩⟩
end rdTake
theorem rdTake' (g : Nat) (A : Option Addr) (n c : Nat) (b : List UInt8) (s s' : St) (k : Nat) (l : List UInt8) (h : takeS b k s = (l, s')) (hs : s.ok b) (hk : k ≤ 1099511627776) (w : World) (H : Rdr w g A n c s) (hb : Bytes w A n c b) (hA : Off g A n) :
    Calls Try.prog 58 #[.pointer (some ⟨g, 0, none⟩), .int .i64 (k : Int)] w fun e w' => ∃ v, e = .returned v ∧ w'.ownsRow w.heap.size 5 1 v l.length (l.map bv) ∧ Rdr w' g A n c s' ∧ Save g w w' := by
  have hl := hb.len
  have hn := hb.le
  unfold takeS at h
  obtain ⟨p, e⟩ := s
  by_cases h0 : e = 0
  · subst h0
    rw [if_pos rfl] at h
    have hp : p ≤ n := by have := hs.1; rw [hl] at this; exact this
    by_cases h1 : n < p + k
    · rw [if_pos (by rw [hl]; exact h1)] at h
      cases h
      exact (rdTake.short g A n c p k hp hn hk h1 w H).mono fun e w' h => ⟨_, h.1, World.ownsRow_nil _ _ _ _, h.2⟩
    · rw [if_neg (by rw [hl]; exact h1)] at h
      cases h
      have hlen : ((b.drop p).take k).length = k := by simp; omega
      rw [hlen]
      rcases A with _ | a
      · have hc0 := hb.2.2.2.1 rfl
        have hn0 : n = 0 := by have := hb.2.1; omega
        subst hc0 hn0
        obtain rfl : p = 0 := by omega
        obtain rfl : k = 0 := by omega
        exact rdTake.none_ g w H
      · by_cases hcp : c = p
        · subst hcp
          exact rdTake.edge g a n c (c + k) b k hk rfl (by omega) w H hb hA
        · exact rdTake.good g a n c p (p + k) b k hcp hk rfl (by omega) w H hb hA
  · rw [if_neg h0] at h
    cases h
    refine (rdTake.bad g A n c ⟨p, e⟩ k h0 w H).mono fun e w' h => ⟨_, h.1, World.ownsRow_nil _ _ _ _, ?_⟩
    rw [← h.2]
    exact ⟨H, Save.refl _ _⟩
end Go.Proofs.Ytiilgkajijnbcaa
