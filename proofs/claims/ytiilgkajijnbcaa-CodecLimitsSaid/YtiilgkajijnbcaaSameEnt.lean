/-
  Contracts of the reference's SameEntry, SameEntries, of entries that are the same.
-/
import Derived.Test.YtiilgkajijnbcaaApi
import Derived.Deep.RegionHeld
namespace Go.Proofs.Ytiilgkajijnbcaa
open Go.ChangeShapes Go.WideShapes Go.ChangeAt Go.RowKit
set_option linter.unusedVariables false
set_option linter.unusedSimpArgs false

theorem sameEntry (x : Nat) (A : Option Addr) (n c : Nat) (B : Option Addr) (m d : Nat) (l : List UInt8) (w : World) (hA : Bytes w A n c l) (hB : Bytes w B m d l) :
    Calls Try.prog 44 #[.agg #[.int .u64 (x : Int), .slice A n c], .agg #[.int .u64 (x : Int), .slice B m d]] w fun e w' => e = .returned (.bool true) ∧ Below w.heap.size w w' := by
  have hb1 := (Below.refl w.heap.size w).alloc (Nat.le_refl _) (.cells #[.int .u64 (x : Int), .slice A n c] 39)
  have hb2 := hb1.alloc hb1.size (.cells #[.int .u64 (x : Int), .slice B m d] 39)
  have H1 := (Has.new w 39 [.int .u64 (x : Int), .slice A n c]).alloc (.cells #[.int .u64 (x : Int), .slice B m d] 39)
  have H2 := (Has.new (w.alloc (.cells #[.int .u64 (x : Int), .slice A n c] 39)) 39 [.int .u64 (x : Int), .slice B m d]).at_ (show _ = w.heap.size + 1 by simp)
  have c0 : ((w.alloc (.cells #[.int .u64 (x : Int), .slice A n c] 39)).alloc (.cells #[.int .u64 (x : Int), .slice B m d] 39)).cell? ⟨w.heap.size, 0, none⟩ = some (.int .u64 (x : Int)) := H1.cell 0
  have c1 : ((w.alloc (.cells #[.int .u64 (x : Int), .slice A n c] 39)).alloc (.cells #[.int .u64 (x : Int), .slice B m d] 39)).cell? ⟨w.heap.size, 1, none⟩ = some (.slice A n c) := H1.cell 1
  have d0 : ((w.alloc (.cells #[.int .u64 (x : Int), .slice A n c] 39)).alloc (.cells #[.int .u64 (x : Int), .slice B m d] 39)).cell? ⟨w.heap.size + 1, 0, none⟩ = some (.int .u64 (x : Int)) := H2.cell 0
  have d1 : ((w.alloc (.cells #[.int .u64 (x : Int), .slice A n c] 39)).alloc (.cells #[.int .u64 (x : Int), .slice B m d] 39)).cell? ⟨w.heap.size + 1, 1, none⟩ = some (.slice B m d) := H2.cell 1
  have s1 := run_str (P := Try.prog) Try.underlying25 Try.underlying5 Try.underlying9 (hA.keep hb2)
  have s2 := run_str (P := Try.prog) Try.underlying25 Try.underlying5 Try.underlying9 (hB.keep hb2)
  clear hb1 H1 H2 hA hB
  go_enter Try.func44, Try.ntmps44
  go_wp2_with fail
  go_ret
  exact ⟨rfl, hb2⟩
set_option maxHeartbeats 1000000 in
theorem sameEntries (A : Option Addr) (n c : Nat) (es : List Ent) (B : Option Addr) (m d : Nat) (fs : List Ent) (w : World) (hA : Entries w A n c es) (hB : Entries w B m d fs) (h : es.map Ent.data = fs.map Ent.data) :
    Calls Try.prog 16 #[.slice A n c, .slice B m d] w fun e w' => e = .returned (.bool true) ∧ Below w.heap.size w w' := by
  have hmn : m = n := by
    have := congrArg List.length h
    rw [List.length_map, List.length_map, hA.2.1, hB.2.1] at this
    exact this.symm
  subst hmn
  have hle := hA.le
  have HA := Lib.hid hA
  have HB := Lib.hid hB
  have HD := Lib.hid (show ∀ j, j < m → (es.getD j default).data = (fs.getD j default).data from fun j hj => by
    have h1 : j < es.length := by rw [hA.2.1]; exact hj
    have h2 : j < fs.length := by rw [hB.2.1]; exact hj
    have h3 : (es.map Ent.data)[j]'(by simpa using h1) = (fs.map Ent.data)[j]'(by simpa using h2) := by simp [h]
    simpa [h1, h2] using h3)
  clear hA hB h
  go_enter Try.func16, Try.ntmps16
  go_wp2_with fail
  go_loopw [5] (fun i wr => ∃ j : Nat, j ≤ m ∧ i = .int .i64 j ∧ Below w.heap.size w wr) (fun i _ => m - (intOf i).toNat)
  case atStart => exact ⟨0, Nat.zero_le _, rfl, Below.refl _ _⟩
  case round =>
    obtain ⟨j, hj, rfl, hb⟩ := hrel
    by_cases hlt : j < m
    · obtain ⟨b, off, rfl, hbl, hc⟩ := HA.out.at_ (by omega)
      obtain ⟨b', off', rfl, hbl', hc'⟩ := HB.out.at_ (by omega)
      obtain ⟨c0, c1⟩ := hc j hlt
      obtain ⟨d0, d1⟩ := hc' j hlt
      have hx := HD.out j hlt
      have hl1 : (es.getD j default).ok w := by
        refine HA.out.2.2 _ ?_
        rw [List.getD_eq_getElem?_getD, List.getElem?_eq_getElem (by rw [HA.out.2.1]; exact hlt)]
        exact List.getElem_mem _
      have hl2 : (fs.getD j default).ok w := by
        refine HB.out.2.2 _ ?_
        rw [List.getD_eq_getElem?_getD, List.getElem?_eq_getElem (by rw [HB.out.2.1]; exact hlt)]
        exact List.getElem_mem _
      obtain ⟨e, he⟩ : ∃ e, es.getD j default = e := ⟨_, rfl⟩
      obtain ⟨f, hf⟩ : ∃ e, fs.getD j default = e := ⟨_, rfl⟩
      rw [he] at c0 c1 hl1 hx
      rw [hf] at d0 d1 hl2 hx
      obtain ⟨hx1, hx2⟩ := Prod.mk.inj hx
      rw [← hx1] at d0
      have hl2' := hl2.1
      rw [← hx2] at hl2'
      have hjn : (j : Int) < (m : Int) := by omega
      have KE := Lib.hid (fun (u : World) (h : Below w.heap.size w u) => sameEntry e.x e.A e.n e.c f.A f.n f.c e.l u (hl1.1.keep h) (hl2'.keep h))
      have HC := Lib.hid (fun (u : World) (h : Below w.heap.size w u) => show (u.cell? ⟨b, off + j * 2, none⟩ = some (.int .u64 (e.x : Int)) ∧ u.cell? ⟨b, off + j * 2 + 1, none⟩ = some (.slice e.A e.n e.c)) ∧ u.cell? ⟨b', off' + j * 2, none⟩ = some (.int .u64 (e.x : Int)) ∧ u.cell? ⟨b', off' + j * 2 + 1, none⟩ = some (.slice f.A f.n f.c) from
        ⟨⟨(h.cell (p := ⟨b, off + j * 2, none⟩) hbl).trans c0, (h.cell (p := ⟨b, off + j * 2 + 1, none⟩) hbl).trans c1⟩, (h.cell (p := ⟨b', off' + j * 2, none⟩) hbl').trans d0, (h.cell (p := ⟨b', off' + j * 2 + 1, none⟩) hbl').trans d1⟩)
      clear hc hc' c0 c1 d0 d1 hl1 hl2 hl2' hx hx1 hx2 he hf
      go_wp2_with fail
      go_region_held (fun w' => (w'.cell? ⟨b, off + j * 2, none⟩ = some (.int .u64 (e.x : Int)) ∧ w'.cell? ⟨b, off + j * 2 + 1, none⟩ = some (.slice e.A e.n e.c)) ∧ w'.cell? ⟨b', off' + j * 2, none⟩ = some (.int .u64 (e.x : Int)) ∧ w'.cell? ⟨b', off' + j * 2 + 1, none⟩ = some (.slice f.A f.n f.c))
        (first | exact HC.out _ (by assumption) | exact HC.out _ (Below.drew (by assumption)))
        (first | (go_at_call 44; with_reducible refine (KE.out _ hb.drew).mono ?_; rintro e' w5 ⟨rfl, hb50⟩; have hb5 := hb.drew.trans (hb50.mono hb.drew.size)))
      go_wp2_with fail
      go_roundw
      case rel => exact ⟨j + 1, by omega, by go_num, hb5⟩
      case measure => simp [intOf]; omega
    · obtain rfl : j = m := by omega
      go_wp2_with fail
      go_ret
      exact ⟨rfl, hb⟩
end Go.Proofs.Ytiilgkajijnbcaa
