/-
  Contracts of slices.ContainsFunc of slices of bytes and of entries; of the package's tooLong, lengthOfEach, alike.
-/
import Derived.Test.YtiilgkajijnbcaaPut
import Derived.Deep.LoopGhost
import Derived.Deep.Draws
namespace Go.Proofs.Ytiilgkajijnbcaa
open Go.ChangeShapes Go.WideShapes Go.ChangeAt Go.RowKit
set_option linter.unusedVariables false
set_option linter.unusedSimpArgs false

theorem any_take_succ {α : Type} [Inhabited α] (p : α → Bool) (l : List α) (j : Nat) (h : j < l.length) : (l.take (j + 1)).any p = ((l.take j).any p || p (l.getD j default)) := by
  rw [List.take_succ_eq_append_getElem h, List.any_append]
  simp [h]
theorem any_hit {α : Type} [Inhabited α] (p : α → Bool) (l : List α) (j : Nat) (h : j < l.length) (hp : p (l.getD j default) = true) : l.any p = true := by
  refine List.any_eq_true.2 ⟨l.getD j default, ?_, hp⟩
  rw [List.getD_eq_getElem?_getD, List.getElem?_eq_getElem h]
  exact List.getElem_mem h
theorem getD_mem' {α : Type} [Inhabited α] (l : List α) (j : Nat) (h : j < l.length) : l.getD j default ∈ l := by
  rw [List.getD_eq_getElem?_getD, List.getElem?_eq_getElem h]
  exact List.getElem_mem h
/-- Cell j of a row of parts. -/
theorem pc_at {w : World} {A : Option Addr} {n c : Nat} {ps : List Pc} (h : Row w A n c (ps.map Pc.val)) (hn : 0 < n) :
    ∃ b off, A = some ⟨b, off, none⟩ ∧ b < w.heap.size ∧ ∀ j, j < n → w.cell? ⟨b, off + j, none⟩ = some (.slice (ps.getD j default).A (ps.getD j default).n (ps.getD j default).c) := by
  have hl : ps.length = n := by simpa using h.1
  obtain ⟨b, off, e, hb, hc⟩ := h.2.2.2.2 hn
  refine ⟨b, off, e, hb, fun j hj => (hc j hj).trans ?_⟩
  have hj' : j < ps.length := by omega
  simp [hj', Pc.val]
set_option maxHeartbeats 1000000 in
theorem idxBytes (gf : Nat) (lb : Array Value) (eg : ∀ args w, (callFunc gf args).run Try.prog w = .ok (.enter gf args) w) (A : Option Addr) (n c : Nat) (ps : List Pc) (p : Pc → Bool) (w : World) (h : Row w A n c (ps.map Pc.val))
    (hp : ∀ W q, q ∈ ps → Below w.heap.size w W → Calls Try.prog gf (#[.slice q.A q.n q.c] ++ lb) W fun e w' => e = .returned (.bool (p q)) ∧ Below w.heap.size w w') :
    Calls Try.prog 81 #[.slice A n c, .func (.func gf) #[] lb] w fun e w' => ∃ r : Int, e = .returned (.int .i64 r) ∧ decide (0 ≤ r) = ps.any p ∧ Below w.heap.size w w' := by
  have hl : ps.length = n := by simpa using h.1
  have hle : n ≤ 9223372036854775807 := by have := h.2.1; have := h.2.2.1; unfold maxLen at this; omega
  have HH := Lib.hid h
  have HL := Lib.hid hl
  have HP := Lib.hid hp
  clear h hl hp
  go_enter Try.func81, Try.ntmps81
  go_wp2
  go_loopg [5, 8] n (fun gg _ s8 wr => ∃ kk : Nat, kk ≤ n ∧ n - kk ≤ gg ∧ s8 = .int .i64 kk ∧ Hid (Below w.heap.size w wr) ∧ Hid ((ps.take kk).any p = false))
  case atStart => exact ⟨0, Nat.zero_le _, by omega, rfl, Lib.hid (Below.refl _ w), Lib.hid (by simp)⟩
  case round =>
    obtain ⟨kk, hkk, hg, rfl, BW, AN⟩ := hrel
    by_cases hlt : kk < n
    · have hltz : (kk : Int) < (n : Int) := by omega
      obtain ⟨b, off, rfl, hbl, hc⟩ := pc_at HH.out (by omega)
      have hkl : kk < ps.length := by rw [HL.out]; exact hlt
      have hcall := HP.out wr (ps.getD kk default) (getD_mem' ps kk hkl) BW.out
      have c0 := (BW.out.cell (p := ⟨b, off + kk, none⟩) hbl).trans (hc kk hlt)
      have hst := any_take_succ p ps kk hkl
      have hht := any_hit p ps kk hkl
      obtain ⟨y, hy⟩ : ∃ y, ps.getD kk default = y := ⟨_, rfl⟩
      rw [hy] at hcall c0 hst hht
      cases hq : p y with
      | true =>
        rw [hq] at hcall
        have HE := Lib.hid (hht hq)
        clear hc hst hht hy
        go_wp2_with (go_at_fn gf; refine hcall.mono ?_; rintro e w' ⟨rfl, hb'⟩)
        go_ret
        exact ⟨_, rfl, by rw [HE.out]; exact decide_eq_true (by omega), hb'⟩
      | false =>
        rw [hq] at hcall hst
        rw [AN.out] at hst
        have HE := Lib.hid (show (ps.take (kk + 1)).any p = false from hst)
        clear hc hst hht hy
        go_wp2_with (go_at_fn gf; refine hcall.mono ?_; rintro e w' ⟨rfl, hb'⟩)
        go_roundg (n - (kk + 1))
        case measure => omega
        case rel => exact ⟨kk + 1, by omega, by omega, by go_num, Lib.hid hb', HE⟩
    · have hltz : ¬ (kk : Int) < (n : Int) := by omega
      have HE := Lib.hid (show ps.any p = false by
        have := AN.out
        rw [List.take_of_length_le (by rw [HL.out]; omega)] at this
        exact this)
      go_wp2
      go_ret
      exact ⟨_, rfl, by rw [HE.out]; rfl, BW.out⟩
theorem hasBytes (gf : Nat) (lb : Array Value) (eg : ∀ args w, (callFunc gf args).run Try.prog w = .ok (.enter gf args) w) (A : Option Addr) (n c : Nat) (ps : List Pc) (p : Pc → Bool) (v : Bool) (hv : ps.any p = v) (w : World) (h : Row w A n c (ps.map Pc.val))
    (hp : ∀ W q, q ∈ ps → Below w.heap.size w W → Calls Try.prog gf (#[.slice q.A q.n q.c] ++ lb) W fun e w' => e = .returned (.bool (p q)) ∧ Below w.heap.size w w') :
    Calls Try.prog 74 #[.slice A n c, .func (.func gf) #[] lb] w fun e w' => e = .returned (.bool v) ∧ Below w.heap.size w w' := by
  have K := Lib.hid (idxBytes gf lb eg A n c ps p w h hp)
  rw [hv] at K
  clear h hp hv
  go_enter Try.func74, Try.ntmps74
  go_wp2_with fail
  refine (K.out).mono ?_
  rintro e w' ⟨r, rfl, hr, hb⟩
  have HR := Lib.hid hr
  clear hr K
  go_wp2_with fail
  go_ret
  exact ⟨ret_bool HR.out, hb⟩
/-! ### tooLong, lengthOfEach, alike -/
theorem fn_long : ∀ args w, (callFunc 75 args).run Try.prog w = .ok (.enter 75 args) w := enters_of Try.func75 (by kernel_rfl) rfl
theorem long1 (A : Option Addr) (n c : Nat) (w : World) : Calls Try.prog 75 #[.slice A n c] w fun e w' => e = .returned (.bool (decide (1048576 < n))) ∧ Below w.heap.size w w' := by
  by_cases h : 1048576 < n
  · rw [decide_eq_true h]
    have h1 : (1048576 : Int) < (n : Int) := by omega
    clear h
    go_enter Try.func75, Try.ntmps75
    go_wp2_with fail
    go_ret
    exact ⟨rfl, Below.refl _ _⟩
  · rw [decide_eq_false h]
    have h1 : ¬ (1048576 : Int) < (n : Int) := by omega
    clear h
    go_enter Try.func75, Try.ntmps75
    go_wp2_with fail
    go_ret
    exact ⟨rfl, Below.refl _ _⟩
theorem cTooLong' (A : Option Addr) (n c : Nat) (ps : List Pc) (v : Bool) (hv : (ps.any fun p => decide (1048576 < p.n)) = v) (w : World) (h : Row w A n c (ps.map Pc.val)) :
    Calls Try.prog 62 #[.slice A n c] w fun e w' => e = .returned (.bool v) ∧ Below w.heap.size w w' := by
  have K := Lib.hid (hasBytes 75 #[] fn_long A n c ps (fun p => decide (1048576 < p.n)) v hv w h (fun W q _ hb => (long1 q.A q.n q.c W).mono fun e w' h => ⟨h.1, hb.trans (h.2.mono hb.size)⟩))
  clear h hv
  go_enter Try.func62, Try.ntmps62
  go_wp2_with fail
  refine (K.out).mono ?_
  rintro e w' ⟨rfl, hb⟩
  go_wp2_with fail
  go_ret
  exact ⟨rfl, hb⟩
def eachP (ps : List Pc) : Nat := (ps.getD 0 default).n
theorem cEach' (A : Option Addr) (n c : Nat) (ps : List Pc) (z : Nat) (hz : eachP ps = z) (w : World) (h : Row w A n c (ps.map Pc.val)) :
    Calls Try.prog 66 #[.slice A n c] w fun e w' => e = .returned (.int .i64 (z : Int)) ∧ w = w' := by
  subst hz
  have hl : ps.length = n := by simpa using h.1
  by_cases h0 : n = 0
  · subst h0
    obtain rfl : ps = [] := List.eq_nil_of_length_eq_zero hl
    have he : eachP [] = 0 := rfl
    rw [he]
    clear h hl he
    go_enter Try.func66, Try.ntmps66
    go_wp2_with fail
    go_ret
    exact ⟨rfl, rfl⟩
  · obtain ⟨b, off, rfl, hbl, hc⟩ := pc_at h (by omega)
    have c0 := hc 0 (by omega)
    rw [Nat.add_zero] at c0
    have h1 : ((n : Int) == 0) = false := by simp; exact h0
    have h2 : (0 : Int) < (n : Int) := by omega
    unfold eachP
    obtain ⟨y, hy⟩ : ∃ y, ps.getD 0 default = y := ⟨_, rfl⟩
    rw [hy] at c0 ⊢
    clear hc h hl h0 hy
    go_enter Try.func66, Try.ntmps66
    go_wp2_with fail
    go_ret
    exact ⟨rfl, rfl⟩
theorem fn_alike : ∀ args w, (callFunc 76 args).run Try.prog w = .ok (.enter 76 args) w := enters_of Try.func76 (by kernel_rfl) rfl
theorem alike1 (B : Option Addr) (m d : Nat) (A : Option Addr) (n c : Nat) (ps : List Pc) (z g : Nat) (hz : eachP ps = z) (w : World) (h : Row w A n c (ps.map Pc.val)) (H : Has w g 77 [.slice A n c]) :
    Calls Try.prog 76 #[.slice B m d, .pointer (some ⟨g, 0, none⟩)] w fun e w' => e = .returned (.bool (decide (m ≠ z))) ∧ Below w.heap.size w w' := by
  have K := Lib.hid (cEach' A n c ps z hz w h)
  have c0 : w.cell? ⟨g, 0, none⟩ = some (.slice A n c) := H.cell 0
  clear hz h H
  by_cases hm : m = z
  · subst hm
    rw [decide_eq_false (fun h => h rfl)]
    go_enter Try.func76, Try.ntmps76
    go_wp2_with fail
    refine (K.out).mono ?_
    rintro e w' ⟨rfl, rfl⟩
    go_wp2_with fail
    go_ret
    exact ⟨ret_bool (by simp), Below.refl _ _⟩
  · rw [decide_eq_true hm]
    have h1 : ((m : Int) == (z : Int)) = false := by simp; omega
    have h2 := Lib.hid (show ¬ (m : Int) = (z : Int) by omega)
    clear hm
    go_enter Try.func76, Try.ntmps76
    go_wp2_with fail
    refine (K.out).mono ?_
    rintro e w' ⟨rfl, rfl⟩
    go_wp2_with fail
    go_ret
    exact ⟨ret_bool (by simp [h2.out]), Below.refl _ _⟩
theorem cAlike' (A : Option Addr) (n c : Nat) (ps : List Pc) (v : Bool) (hv : (ps.any fun p => decide (p.n ≠ eachP ps)) = v) (w : World) (h : Row w A n c (ps.map Pc.val)) :
    Calls Try.prog 63 #[.slice A n c] w fun e w' => e = .returned (.bool (!v)) ∧ Below w.heap.size w w' := by
  have hb1 := (Below.refl w.heap.size w).alloc (Nat.le_refl _) (.cells #[.slice A n c] 77)
  have H1 := Has.new w 77 [.slice A n c]
  have h1 := h.keep hb1
  have d0 : (w.alloc (.cells #[.slice A n c] 77)).cell? ⟨w.heap.size, 0, none⟩ = some (.slice A n c) := H1.cell 0
  have hz1 : (w.alloc (.cells #[.slice A n c] 77)).heap.size = w.heap.size + 1 := by simp
  have K := Lib.hid (hasBytes 76 #[.pointer (some ⟨w.heap.size, 0, none⟩)] fn_alike A n c ps (fun p => decide (p.n ≠ eachP ps)) v hv (w.alloc (.cells #[.slice A n c] 77)) h1
    (fun W q _ hb => (show Calls Try.prog 76 (#[.slice q.A q.n q.c] ++ #[.pointer (some ⟨w.heap.size, 0, none⟩)]) W _ from alike1 q.A q.n q.c A n c ps (eachP ps) w.heap.size rfl W (h1.keep hb) (Has.keep H1 hb (by omega))).mono fun e w' h => ⟨h.1, hb.trans (h.2.mono hb.size)⟩))
  have HB1 := Lib.hid hb1
  clear h hv H1 h1 hb1 hz1
  go_enter Try.func63, Try.ntmps63
  go_wp2_with fail
  refine (K.out).mono ?_
  rintro e w' ⟨rfl, hb⟩
  go_wp2_with fail
  go_ret
  exact ⟨rfl, HB1.out.trans (hb.mono HB1.out.size)⟩
end Go.Proofs.Ytiilgkajijnbcaa
