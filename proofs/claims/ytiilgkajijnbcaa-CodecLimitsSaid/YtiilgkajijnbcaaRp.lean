/-
  Contracts of the methods of the package's reader: fail, take, number, count.
-/
import Derived.Test.YtiilgkajijnbcaaRd
import Derived.Test.YtiilgkajijnbcaaRdB
import Derived.Test.YtiilgkajijnbcaaRdC
import Derived.Test.YtiilgkajijnbcaaApi
namespace Go.Proofs.Ytiilgkajijnbcaa
open Go.ChangeShapes Go.WideShapes Go.ChangeAt Go.RowKit
set_option linter.unusedVariables false
set_option linter.unusedSimpArgs false

/-- Block g holds the reader: what is left are the bytes of b from s.pos on; they lie below block B. -/
def Rdp (B : Nat) (w : World) (g : Nat) (b : List UInt8) (s : St) : Prop :=
  ∃ A n c, Has w g 85 [.slice A n c, .int .i64 (s.e : Int)] ∧ Bytes w A n c (b.drop s.pos) ∧ (0 < n → ∀ x, A = some x → x.block < B) ∧ B ≤ g
theorem Row.older {B : Nat} {w w' : World} {A : Option Addr} {n c : Nat} {xs : List Value} (h : Row w A n c xs) (hA : 0 < n → ∀ x, A = some x → x.block < B) (hb : Below B w w') : Row w' A n c xs := by
  obtain ⟨h1, h2, h3, h0, h4⟩ := h
  refine ⟨h1, h2, h3, h0, fun hn => ?_⟩
  obtain ⟨b, off, rfl, hlt, hc⟩ := h4 hn
  have hB : b < B := hA hn _ rfl
  refine ⟨b, off, rfl, Nat.lt_of_lt_of_le hlt hb.size, fun j hj => (hb.cell (p := ⟨b, off + j, none⟩) hB).trans (hc j hj)⟩
section
variable {B g : Nat} {w w' : World} {b : List UInt8} {s : St}
theorem Rdp.lt (h : Rdp B w g b s) : g < w.heap.size := by obtain ⟨A, n, c, h1, _⟩ := h; exact h1.lt
theorem Rdp.ge (h : Rdp B w g b s) : B ≤ g := by obtain ⟨A, n, c, _, _, _, h1⟩ := h; exact h1
theorem Rdp.step (h : Rdp B w g b s) (hg : w'.heap[g]? = w.heap[g]?) (hb : Below B w w') : Rdp B w' g b s := by
  obtain ⟨A, n, c, h1, h2, h3, h4⟩ := h
  exact ⟨A, n, c, hg.trans h1, Row.older h2 h3 hb, h3, h4⟩
theorem Rdp.keep (h : Rdp B w g b s) (hb : Below w.heap.size w w') : Rdp B w' g b s :=
  h.step (hb.block g h.lt) (hb.mono (Nat.le_trans h.ge (Nat.le_of_lt h.lt)))
theorem Rdp.save {k : Nat} (h : Rdp B w g b s) (ho : Save k w w') (hk : g ≠ k) (hB : B ≤ k) : Rdp B w' g b s :=
  h.step (ho.block g h.lt hk) (Save.below (Below.refl B w) ho hB (Nat.le_trans h.ge (Nat.le_of_lt h.lt)))
theorem Rdp.only {k : Nat} (h : Rdp B w g b s) (ho : Only k w w') (hk : g ≠ k) (hB : B ≤ k) : Rdp B w' g b s := h.save ho.save hk hB
theorem Rdp.alloc (h : Rdp B w g b s) (o : Obj) : Rdp B (w.alloc o) g b s := h.keep ((Below.refl _ _).alloc (Nat.le_refl _) o)
theorem Rdp.drew (h : Rdp B w g b s) : Rdp B w.drew g b s := h
theorem Rdp.cast {g' : Nat} (h : Rdp B w g b s) (e : g = g') : Rdp B w g' b s := e ▸ h
end
/-- A new reader. -/
theorem newRdp {B : Nat} (w : World) (A : Option Addr) (n c : Nat) (b : List UInt8) (h : Bytes w A n c b) (hA : 0 < n → ∀ x, A = some x → x.block < B) (hB : B ≤ w.heap.size) :
    Rdp B (w.alloc (.cells #[.slice A n c, .int .i64 0] 85)) w.heap.size b ⟨0, 0⟩ :=
  ⟨A, n, c, Has.new w 85 [.slice A n c, .int .i64 0], by rw [List.drop_zero]; exact h.keep ((Below.refl _ _).alloc (Nat.le_refl _) _), hA, hB⟩
theorem Row.oldA {w : World} {A : Option Addr} {n c : Nat} {xs : List Value} (h : Row w A n c xs) : 0 < n → ∀ x, A = some x → x.block < w.heap.size := fun hn x hx => by
  obtain ⟨b, off, e, hb, _⟩ := h.2.2.2.2 hn
  subst hx
  cases e
  exact hb

theorem rpFail (B g : Nat) (b : List UInt8) (s : St) (k : Nat) (w : World) (H : Rdp B w g b s) :
    Calls Try.prog 70 #[.pointer (some ⟨g, 0, none⟩), .int .i64 (k : Int)] w fun e w' => e = .returned (.tuple #[]) ∧ Rdp B w' g b (failS k s) ∧ Only g w w' := by
  obtain ⟨p, e⟩ := s
  obtain ⟨A, n, c, h1, h2, h3, h4⟩ := H
  have c1 : w.cell? ⟨g, 1, none⟩ = some (.int .i64 (e : Int)) := h1.cell 1
  have f1 := Has.froz h1 1
  by_cases h0 : e = 0
  · subst h0
    have HO := Only.setCell w g 1 (.int .i64 (k : Int))
    have HS := Lib.hid (show Rdp B (w.setCell ⟨g, 1, none⟩ (.int .i64 (k : Int))) g b (failS k ⟨p, 0⟩) from
      ⟨A, n, c, Has.set h1 1 (.int .i64 (k : Int)), Row.older h2 h3 (HO.below (Below.refl B w) h4), h3, h4⟩)
    clear h1 h2 HO
    go_enter Try.func70, Try.ntmps70
    go_wp2_with fail
    go_end0
    exact ⟨rfl, HS.out, Only.setCell _ _ _ _⟩
  · have h0' : ((e : Int) == 0) = false := by simp; omega
    have HS := Lib.hid (show Rdp B w g b (failS k ⟨p, e⟩) by rw [failS, if_neg h0]; exact ⟨A, n, c, h1, h2, h3, h4⟩)
    clear h0 h1 h2
    go_enter Try.func70, Try.ntmps70
    go_wp2_with fail
    go_end0
    exact ⟨rfl, HS.out, Only.refl _ _⟩
theorem rpFail2 (B g : Nat) (b : List UInt8) (s s' : St) (h : failS 2 s = s') (w : World) (H : Rdp B w g b s) :
    Calls Try.prog 70 #[.pointer (some ⟨g, 0, none⟩), .int .i64 2] w fun e w' => e = .returned (.tuple #[]) ∧ Rdp B w' g b s' ∧ Only g w w' := by
  subst h
  exact rpFail B g b s 2 w H
theorem rpFail4 (B g : Nat) (b : List UInt8) (s s' : St) (h : failS 4 s = s') (w : World) (H : Rdp B w g b s) :
    Calls Try.prog 70 #[.pointer (some ⟨g, 0, none⟩), .int .i64 4] w fun e w' => e = .returned (.tuple #[]) ∧ Rdp B w' g b s' ∧ Only g w w' := by
  subst h
  exact rpFail B g b s 4 w H

namespace rpTake
theorem bad (B g : Nat) (b : List UInt8) (s : St) (k : Nat) (h0 : s.e ≠ 0) (w : World) (H : Rdp B w g b s) :
    Calls Try.prog 42 #[.pointer (some ⟨g, 0, none⟩), .int .i64 (k : Int)] w fun e w' => e = .returned (.slice none 0 0) ∧ Rdp B w' g b s ∧ Save g w w' := by
  obtain ⟨p, e⟩ := s
  have hf : failS 4 ⟨p, e⟩ = ⟨p, e⟩ := by rw [failS, if_neg h0]
  have KF := Lib.hid (rpFail4 B g b ⟨p, e⟩ _ hf w H)
  obtain ⟨A, n, c, h1, h2, h3, h4⟩ := id H
  have c0 : w.cell? ⟨g, 0, none⟩ = some (.slice A n c) := h1.cell 0
  have c1 : w.cell? ⟨g, 1, none⟩ = some (.int .i64 (e : Int)) := h1.cell 1
  have e1 : ((e : Int) == 0) = false := by simp; exact fun h => h0 (by omega)
  have HH := Lib.hid H
  clear h0 h1 h2 hf H
  by_cases hn : n < k
  · have hnk : (n : Int) < (k : Int) := by omega
    clear hn
    go_enter Try.func42, Try.ntmps42
    go_wp2_with fail
    refine (KF.out).mono ?_
    rintro e' w2 ⟨rfl, H2, o2⟩
    obtain ⟨A2, n2, c2, g1, g2, g3, g4⟩ := id H2
    have d1 : w2.cell? ⟨g, 1, none⟩ = some (.int .i64 (e : Int)) := g1.cell 1
    have HX := Lib.hid H2
    clear g1 g2 H2 KF
    go_wp2_with fail
    go_ret
    exact ⟨rfl, HX.out, o2.save⟩
  · have hnk : ¬ (n : Int) < (k : Int) := by omega
    clear hn
    go_enter Try.func42, Try.ntmps42
    go_wp2_with fail
    go_ret
    exact ⟨rfl, HH.out, Save.refl _ _⟩
theorem short (B g : Nat) (b : List UInt8) (p k : Nat) (h1 : b.length < p + k) (hp : p ≤ b.length) (w : World) (H : Rdp B w g b ⟨p, 0⟩) :
    Calls Try.prog 42 #[.pointer (some ⟨g, 0, none⟩), .int .i64 (k : Int)] w fun e w' => e = .returned (.slice none 0 0) ∧ Rdp B w' g b ⟨p, 4⟩ ∧ Save g w w' := by
  have KF := Lib.hid (rpFail4 B g b ⟨p, 0⟩ ⟨p, 4⟩ rfl w H)
  obtain ⟨A, n, c, g1, g2, g3, g4⟩ := id H
  have hl := g2.len
  rw [List.length_drop] at hl
  have c0 : w.cell? ⟨g, 0, none⟩ = some (.slice A n c) := g1.cell 0
  have hnk : (n : Int) < (k : Int) := by show (n : Int) < (k : Int); have : b.length - p = n := hl; omega
  clear h1 hp g1 g2 H hl
  go_enter Try.func42, Try.ntmps42
  go_wp2_with fail
  refine (KF.out).mono ?_
  rintro e' w2 ⟨rfl, H2, o2⟩
  obtain ⟨A2, n2, c2, g1, g2, g3', g4'⟩ := id H2
  have d1 : w2.cell? ⟨g, 1, none⟩ = some (.int .i64 4) := g1.cell 1
  have HX := Lib.hid H2
  clear g1 g2 H2 KF
  go_wp2_with fail
  go_ret
  exact ⟨rfl, HX.out, o2.save⟩
set_option maxHeartbeats 1000000 in
theorem good (B g : Nat) (a : Addr) (n c p k : Nat) (b : List UInt8) (hne : ¬ c = k) (hk : k ≤ n) (hk8 : k ≤ 1099511627776) (w : World) (h1 : Has w g 85 [.slice (some a) n c, .int .i64 0]) (h2 : Bytes w (some a) n c (b.drop p)) (h3 : 0 < n → ∀ x, some a = some x → x.block < B) (h4 : B ≤ g) :
    Calls Try.prog 42 #[.pointer (some ⟨g, 0, none⟩), .int .i64 (k : Int)] w fun e w' => ∃ v, e = .returned v ∧ w'.ownsRow w.heap.size 5 1 v k (((b.drop p).take k).map bv) ∧ Rdp B w' g b ⟨p + k, 0⟩ ∧ Save g w w' := by
  have c0 : w.cell? ⟨g, 0, none⟩ = some (.slice (some a) n c) := h1.cell 0
  have c1 : w.cell? ⟨g, 1, none⟩ = some (.int .i64 0) := h1.cell 1
  have hgl := h1.lt
  have hle := h2.le
  have hnc := h2.2.1
  have hcm := h2.2.2.1
  have e1 : ¬ (n : Int) < (k : Int) := by omega
  have b1 : (k : Int) ≤ (n : Int) := by omega
  have b3 : (n : Int) ≤ (c : Int) := by omega
  have HR := Lib.hid (show Bytes w (some a) k c ((b.drop p).take k) by
    have := h2.sub 0 k (by omega)
    rw [List.drop_zero, Nat.sub_zero] at this
    obtain ⟨r1, r2, r3, r4, r5⟩ := this
    refine ⟨r1, by omega, r3, r4, fun hk0 => ?_⟩
    obtain ⟨b0, off, e0, hlt, hc⟩ := r5 hk0
    refine ⟨b0, off, ?_, hlt, hc⟩
    rw [← e0]
    unfold Addr.add
    simp)
  have HF := Lib.hid (fun (u : World) (hb : Below w.heap.size w u) => show Rdp B (u.setCell ⟨g, 0, none⟩ (.slice (some (a.add k)) (n - k) (c - k))) g b ⟨p + k, 0⟩ from by
    have hg1 := Has.set (h1.keep hb hgl) 0 (.slice (some (a.add k)) (n - k) (c - k))
    refine ⟨some (a.add k), n - k, c - k, hg1, ?_, fun hn x hx => ?_, h4⟩
    · have h := h2.sub k (n - k) (by omega)
      have hl := h2.len
      have e : ((b.drop p).drop k).take (n - k) = b.drop (p + k) := by
        rw [List.drop_drop, List.take_of_length_le (by rw [List.length_drop] at hl ⊢; omega)]
      rw [e] at h
      exact Row.older h (fun hn x hx => by
        obtain rfl := Option.some.inj hx
        have := h3 (by omega) a rfl
        show (a.add k).block < B
        unfold Addr.add; split <;> exact this) ((Only.setCell u g 0 _).below (hb.mono (by omega)) h4)
    · obtain rfl := Option.some.inj hx
      have := h3 (by omega) a rfl
      show (a.add k).block < B
      unfold Addr.add; split <;> exact this)
  have HC := Lib.hid (fun (u : World) (hb : Below w.heap.size w u) => show u.cell? ⟨g, 0, none⟩ = some (.slice (some a) n c) ∧ u.frozen? ⟨g, 0, none⟩ = false from ⟨(h1.keep hb hgl).cell 0, (h1.keep hb hgl).froz 0⟩)
  have HM := Lib.hid (show 0 + k ≤ 140737488355328 by omega)
  clear h1 h2 h3 hnc
  go_enter Try.func42, Try.ntmps42
  go_wp2_with (at_builtin; (refine app8 rfl (.const (.slice none 0 0)) (.tmp 25) rfl w.heap.size (.slice none 0 0) 0 [] rfl (World.ownsRow_nil _ _ _ _) (some a) k c ((b.drop p).take k) rfl HR.out HM.out (Nat.le_refl _) ?_); intro v2 w2 hown2 hg2; have hb2 : Below w.heap.size w w2 := (Below.refl _ _).grown hg2 (Nat.le_refl _) (fun k hk => by cases hk); obtain ⟨d0, f0⟩ := HC.out w2 hb2)
  go_ret
  refine ⟨_, rfl, own_save ?_ (Only.setCell _ _ _ _).save hgl, HF.out w2 hb2, (Save.of_below hb2).trans (Only.setCell _ _ _ _).save⟩
  simpa using hown2
set_option maxHeartbeats 1000000 in
theorem edge (B g : Nat) (a : Addr) (p k : Nat) (b : List UInt8) (hk8 : k ≤ 1099511627776) (w : World) (h1 : Has w g 85 [.slice (some a) k k, .int .i64 0]) (h2 : Bytes w (some a) k k (b.drop p)) (h3 : 0 < k → ∀ x, some a = some x → x.block < B) (h4 : B ≤ g) :
    Calls Try.prog 42 #[.pointer (some ⟨g, 0, none⟩), .int .i64 (k : Int)] w fun e w' => ∃ v, e = .returned v ∧ w'.ownsRow w.heap.size 5 1 v k (((b.drop p).take k).map bv) ∧ Rdp B w' g b ⟨p + k, 0⟩ ∧ Save g w w' := by
  have c0 : w.cell? ⟨g, 0, none⟩ = some (.slice (some a) k k) := h1.cell 0
  have c1 : w.cell? ⟨g, 1, none⟩ = some (.int .i64 0) := h1.cell 1
  have hgl := h1.lt
  have hcm := h2.2.2.1
  have HT := Lib.hid (show (b.drop p).take k = b.drop p from List.take_of_length_le (Nat.le_of_eq h2.len))
  have HR := Lib.hid h2
  have HF := Lib.hid (fun (u : World) (hb : Below w.heap.size w u) => show Rdp B (u.setCell ⟨g, 0, none⟩ (.slice (some a) 0 0)) g b ⟨p + k, 0⟩ from by
    have hg1 := Has.set (h1.keep hb hgl) 0 (.slice (some a) 0 0)
    refine ⟨some a, 0, 0, hg1, ?_, fun hn => absurd hn (by omega), h4⟩
    have hl := h2.len
    rw [List.length_drop] at hl
    have e : b.drop (p + k) = [] := List.drop_eq_nil_of_le (by omega)
    show Bytes _ _ _ _ (b.drop (p + k))
    rw [e]
    exact ⟨rfl, Nat.le_refl _, by simp [maxLen], fun h => (by cases h), fun h => absurd h (by omega)⟩)
  have HC := Lib.hid (fun (u : World) (hb : Below w.heap.size w u) => show u.cell? ⟨g, 0, none⟩ = some (.slice (some a) k k) ∧ u.frozen? ⟨g, 0, none⟩ = false from ⟨(h1.keep hb hgl).cell 0, (h1.keep hb hgl).froz 0⟩)
  have HM := Lib.hid (show 0 + k ≤ 140737488355328 by omega)
  clear h1 h2 h3
  go_enter Try.func42, Try.ntmps42
  go_wp2_with (at_builtin; (refine app8 rfl (.const (.slice none 0 0)) (.tmp 25) rfl w.heap.size (.slice none 0 0) 0 [] rfl (World.ownsRow_nil _ _ _ _) (some a) k k (b.drop p) rfl HR.out HM.out (Nat.le_refl _) ?_); intro v2 w2 hown2 hg2; have hb2 : Below w.heap.size w w2 := (Below.refl _ _).grown hg2 (Nat.le_refl _) (fun k hk => by cases hk); obtain ⟨d0, f0⟩ := HC.out w2 hb2)
  go_ret
  refine ⟨_, rfl, own_save ?_ (Only.setCell _ _ _ _).save hgl, HF.out w2 hb2, (Save.of_below hb2).trans (Only.setCell _ _ _ _).save⟩
  rw [Nat.zero_add, List.nil_append, ← HT.out] at hown2
  simpa using hown2
theorem none_ (B g : Nat) (p : Nat) (b : List UInt8) (w : World) (h1 : Has w g 85 [.slice none 0 0, .int .i64 0]) (h2 : Bytes w none 0 0 (b.drop p)) (h4 : B ≤ g) :
    Calls Try.prog 42 #[.pointer (some ⟨g, 0, none⟩), .int .i64 0] w fun e w' => ∃ v, e = .returned v ∧ w'.ownsRow w.heap.size 5 1 v 0 [] ∧ Rdp B w' g b ⟨p, 0⟩ ∧ Save g w w' := by
  have c0 : w.cell? ⟨g, 0, none⟩ = some (.slice none 0 0) := h1.cell 0
  have c1 : w.cell? ⟨g, 1, none⟩ = some (.int .i64 0) := h1.cell 1
  have hgl := h1.lt
  have f0 := h1.froz 0
  have HF := Lib.hid (show Rdp B (w.setCell ⟨g, 0, none⟩ (.slice none 0 0)) g b ⟨p, 0⟩ from by
    have hg1 := Has.set h1 0 (.slice none 0 0)
    refine ⟨none, 0, 0, hg1, ?_, fun hn => absurd hn (by omega), h4⟩
    have hl := h2.len
    show Bytes _ _ _ _ (b.drop p)
    rw [List.eq_nil_of_length_eq_zero hl]
    exact Row.nil _)
  have HR := Lib.hid (show Bytes w none 0 0 [] from Row.nil w)
  have HM := Lib.hid (show 0 + 0 ≤ 140737488355328 by omega)
  clear h1 h2
  go_enter Try.func42, Try.ntmps42
  go_wp2_with fail
  go_ret
  exact ⟨_, rfl, World.ownsRow_nil _ _ _ _, HF.out, (Only.setCell _ _ _ _).save⟩
end rpTake
theorem rpTake' (B g : Nat) (b : List UInt8) (s s' : St) (k : Nat) (l : List UInt8) (h : takeS b k s = (l, s')) (hs : s.ok b) (hk : k ≤ 1099511627776) (w : World) (H : Rdp B w g b s) :
    Calls Try.prog 42 #[.pointer (some ⟨g, 0, none⟩), .int .i64 (k : Int)] w fun e w' => ∃ v, e = .returned v ∧ w'.ownsRow w.heap.size 5 1 v l.length (l.map bv) ∧ Rdp B w' g b s' ∧ Save g w w' := by
  unfold takeS at h
  by_cases h0 : s.e = 0
  · obtain ⟨p, e⟩ := s
    obtain rfl : e = 0 := h0
    rw [if_pos rfl] at h
    have hp : p ≤ b.length := hs.1
    by_cases h1 : b.length < p + k
    · rw [if_pos h1] at h
      cases h
      exact (rpTake.short B g b p k h1 hp w H).mono fun e w' h => ⟨_, h.1, World.ownsRow_nil _ _ _ _, h.2⟩
    · rw [if_neg h1] at h
      cases h
      have hlen : ((b.drop p).take k).length = k := by simp; omega
      rw [hlen]
      obtain ⟨A, n, c, g1, g2, g3, g4⟩ := H
      have hl := g2.len
      rw [List.length_drop] at hl
      have hl : b.length - p = n := hl
      rcases A with _ | a
      · have hc0 := g2.2.2.2.1 rfl
        have hn0 : n = 0 := by have := g2.2.1; omega
        subst hc0 hn0
        obtain rfl : k = 0 := by omega
        exact rpTake.none_ B g p b w g1 g2 g4
      · by_cases hcp : c = k
        · subst hcp
          obtain rfl : n = c := by have := g2.2.1; omega
          exact rpTake.edge B g a p n b hk w g1 g2 g3 g4
        · exact rpTake.good B g a n c p k b hcp (by omega) hk w g1 g2 g3 g4
  · rw [if_neg h0] at h
    cases h
    exact (rpTake.bad B g b s k h0 w H).mono fun e w' h => ⟨_, h.1, World.ownsRow_nil _ _ _ _, h.2⟩

/-! ### number -/
theorem mostS_full (b : List UInt8) (s : St) : mostS b 18446744073709551615 s = numS b s := by
  have := numS_lt b s
  unfold mostS
  rw [if_neg (by omega)]
theorem failS_zero (s : St) : failS 0 s = s := by
  unfold failS
  split
  · next h => obtain ⟨p, e⟩ := s; exact congrArg (St.mk p) h.symm
  · rfl
theorem failS_same (k : Nat) (s : St) (h : s.e ≠ 0) : failS k s = s := by rw [failS, if_neg h]
set_option maxHeartbeats 1000000 in
theorem rpNum' (B g : Nat) (b : List UInt8) (s s' : St) (m x : Nat) (h : mostS b m s = (x, s')) (hm : m < 18446744073709551616) (hs : s.ok b) (w : World) (H : Rdp B w g b s) :
    Calls Try.prog 52 #[.pointer (some ⟨g, 0, none⟩), .int .u64 (m : Int)] w fun e w' => e = .returned (.int .u64 (x : Int)) ∧ Rdp B w' g b s' ∧ Save g w w' := by
  obtain ⟨l, s1, ht⟩ : ∃ l s1, takeS b 8 s = (l, s1) := ⟨_, _, rfl⟩
  obtain ⟨y, hy⟩ : ∃ y, (if s1.e = 0 then be l else 0) = y := ⟨_, rfl⟩
  have hnum : numS b s = (y, s1) := by unfold numS; rw [ht]; simp only []; rw [hy]
  have hy64 : y < 18446744073709551616 := by have := numS_lt b s; rw [hnum] at this; exact this
  obtain ⟨q, hq⟩ : ∃ q : Nat, q = if s1.e = 0 then 0 else 4 := ⟨_, rfl⟩
  have hfq : failS q s1 = s1 := by
    by_cases h0 : s1.e = 0
    · rw [hq, if_pos h0]; exact failS_zero _
    · exact failS_same _ _ h0
  have KT := Lib.hid (show Calls Try.prog 42 #[.pointer (some ⟨g, 0, none⟩), .int .i64 8] w _ from rpTake' B g b s s1 8 l ht hs (by omega) w H)
  have hgv : getV l 0 8 = (y : Int) ∧ getE l 0 8 = (q : Int) := by
    by_cases h0 : s1.e = 0
    · have hl8 : l.length = 8 := by
        have := takeS_good (b := b) (s := s) 8 (by rw [ht]; exact h0)
        rw [ht] at this
        exact this
      rw [if_pos h0] at hy hq
      subst hy hq
      exact ⟨get8 l hl8, by unfold getE; rw [if_neg (by omega), if_neg (by omega)]; rfl⟩
    · have hl0 : l = [] := by
        have := takeS_bad (b := b) (s := s) 8 (by rw [ht]; exact h0)
        rw [ht] at this
        exact this
      rw [if_neg h0] at hy hq
      subst hy hq hl0
      exact ⟨rfl, rfl⟩
  have KG := Lib.hid (fun (A : Option Addr) (c n : Nat) (u : World) (hn : Bytes u A n c l) => show Calls Try.prog 71 #[.slice A n c, .int .i64 0] u (fun e w' => e = .returned (.tuple #[.int .u64 (y : Int), .int .i64 (q : Int)]) ∧ u = w') from by
    have := wordsGet.get64 A n c l 0 u hn
    rw [hgv.1, hgv.2] at this
    exact this)
  have KF := Lib.hid (fun (u : World) (H : Rdp B u g b s1) => show Calls Try.prog 70 #[.pointer (some ⟨g, 0, none⟩), .int .i64 (q : Int)] u (fun e w' => e = .returned (.tuple #[]) ∧ Rdp B w' g b s1 ∧ Only g u w') from by
    have := rpFail B g b s1 q u H
    rw [hfq] at this
    exact this)
  obtain ⟨m8, hm8⟩ : ∃ m, l.length = m := ⟨_, rfl⟩
  rw [hm8] at KT
  have HM8 := Lib.hid hm8
  clear hfq hgv hq hy H hs ht hm8
  by_cases hmy : m < y
  · rw [mostS_big hnum hmy] at h
    obtain ⟨rfl, hf⟩ := Prod.mk.inj h
    have KF2 := Lib.hid (fun (u : World) (H : Rdp B u g b s1) => rpFail2 B g b s1 s' hf u H)
    have h1 : (m : Int) < (y : Int) := by omega
    clear h hf hnum hmy
    go_enter Try.func52, Try.ntmps52
    go_wp2_with fail
    refine (KT.out).mono ?_
    rintro e w2 ⟨v, rfl, hown, H2, S2⟩
    obtain ⟨A2, c2, rfl, hr2⟩ := Row.own hown
    have KG2 := Lib.hid (KG.out A2 c2 m8 w2 hr2)
    have HX := Lib.hid H2
    clear hown hr2 H2 KT KG
    go_wp2_with fail
    refine (KG2.out).mono ?_
    rintro e w' ⟨rfl, rfl⟩
    go_wp2_with fail
    refine (KF.out _ HX.out).mono ?_
    rintro e w3 ⟨rfl, H3, o3⟩
    have HX3 := Lib.hid H3
    have S3 := S2.trans o3.save
    clear HX H3 KG2
    go_wp2_with fail
    refine (KF2.out _ HX3.out).mono ?_
    rintro e w4 ⟨rfl, H4, o4⟩
    go_wp2_with fail
    go_ret
    exact ⟨rfl, H4, S3.trans o4.save⟩
  · rw [mostS_small hnum hmy] at h
    obtain ⟨rfl, rfl⟩ := Prod.mk.inj h
    have h1 : ¬ (m : Int) < (y : Int) := by omega
    clear h hnum hmy
    go_enter Try.func52, Try.ntmps52
    go_wp2_with fail
    refine (KT.out).mono ?_
    rintro e w2 ⟨v, rfl, hown, H2, S2⟩
    obtain ⟨A2, c2, rfl, hr2⟩ := Row.own hown
    have KG2 := Lib.hid (KG.out A2 c2 m8 w2 hr2)
    have HX := Lib.hid H2
    clear hown hr2 H2 KT KG
    go_wp2_with fail
    refine (KG2.out).mono ?_
    rintro e w' ⟨rfl, rfl⟩
    go_wp2_with fail
    refine (KF.out _ HX.out).mono ?_
    rintro e w3 ⟨rfl, H3, o3⟩
    have HX3 := Lib.hid H3
    have S3 := S2.trans o3.save
    clear HX H3 KG2
    go_wp2_with fail
    go_ret
    exact ⟨rfl, HX3.out, S3⟩
theorem rpAny' (B g : Nat) (b : List UInt8) (s s' : St) (x : Nat) (h : numS b s = (x, s')) (hs : s.ok b) (w : World) (H : Rdp B w g b s) :
    Calls Try.prog 52 #[.pointer (some ⟨g, 0, none⟩), .int .u64 18446744073709551615] w fun e w' => e = .returned (.int .u64 (x : Int)) ∧ Rdp B w' g b s' ∧ Save g w w' :=
  rpNum' B g b s s' 18446744073709551615 x (by rw [mostS_full]; exact h) (by omega) hs w H
theorem rpCount' (B g : Nat) (b : List UInt8) (s s' : St) (m x : Nat) (h : mostS b m s = (x, s')) (hm : m ≤ 9223372036854775807) (hs : s.ok b) (w : World) (H : Rdp B w g b s) :
    Calls Try.prog 48 #[.pointer (some ⟨g, 0, none⟩), .int .i64 (m : Int)] w fun e w' => e = .returned (.int .i64 (x : Int)) ∧ Rdp B w' g b s' ∧ Save g w w' := by
  have hx : x ≤ m := by have := mostS_le b m s; rw [h] at this; exact this
  have h2 : (x : Int) ≤ 9223372036854775807 := by omega
  have h3 : (m : Int) ≤ 9223372036854775807 := by omega
  have KN := Lib.hid (rpNum' B g b s s' m x h (by omega) hs w H)
  clear h hm hs H hx
  go_enter Try.func48, Try.ntmps48
  go_wp2_with fail
  refine (KN.out).mono ?_
  rintro e w2 ⟨rfl, H2, S2⟩
  go_wp2_with fail
  go_ret
  exact ⟨rfl, H2, S2⟩
end Go.Proofs.Ytiilgkajijnbcaa
