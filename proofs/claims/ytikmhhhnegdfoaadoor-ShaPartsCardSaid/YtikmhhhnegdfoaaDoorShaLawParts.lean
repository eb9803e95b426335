/-
  ShaParts: the walk.
-/
import Derived.Test.YtikmhhhnegdfoaaDoorShaLaw
import Derived.Test.YtikmhhhnegdfoaaDoorShaParts
import Derived.Deep.RegionHeld
namespace Go.Proofs.YtikmhhhnegdfoaaDoor
open Go.ChangeShapes Go.WideShapes Go.ChangeAt Go.RowKit
set_option linter.unusedVariables false
set_option linter.unusedSimpArgs false

namespace shaPartsLaw
set_option maxHeartbeats 400000 in
theorem out (A : Option Addr) (n c : Nat) (B : Option Addr) (m d : Nat) (w : World) (hT : Tab w) (h : 200 < n ∨ 200 < m) :
    Calls Tryd.prog 6 #[.slice A n c, .slice B m d] w fun e w' => e = .returned (.bool true) ∧ Below w.heap.size w w' := by
  have K := Lib.hid (shaLaw.alive w hT)
  by_cases h1 : 200 < n
  · have h1' : (200 : Int) < (n : Int) := by omega
    go_enter Tryd.func6, Tryd.ntmps6
    go_wp2_with fail
    refine (K.out).mono ?_
    rintro e w2 ⟨rfl, hb⟩
    go_wp2_with fail
    go_ret
    exact ⟨rfl, hb⟩
  · have h2 : 200 < m := by omega
    have h1' : ¬ (200 : Int) < (n : Int) := by omega
    have h2' : (200 : Int) < (m : Int) := by omega
    go_enter Tryd.func6, Tryd.ntmps6
    go_wp2_with fail
    refine (K.out).mono ?_
    rintro e w2 ⟨rfl, hb⟩
    go_wp2_with fail
    go_ret
    exact ⟨rfl, hb⟩
set_option maxHeartbeats 2000000 in
theorem inn (A : Option Addr) (n c : Nat) (l : List UInt8) (B : Option Addr) (m d : Nat) (l' : List UInt8) (w : World) (hl : Bytes w A n c l) (hl' : Bytes w B m d l') (hT : Tab w) (hn : n ≤ 200) (hm : m ≤ 200) :
    Calls Tryd.prog 6 #[.slice A n c, .slice B m d] w fun e w' => e = .returned (.bool true) ∧ Below w.heap.size w w' := by
  have K := Lib.hid (shaLaw.alive w hT)
  have h1' : ¬ (200 : Int) < (n : Int) := by omega
  have h2' : ¬ (200 : Int) < (m : Int) := by omega
  obtain ⟨ps, hps⟩ : ∃ ps : List Part, ps = [⟨A, n, c, l⟩, ⟨B, m, d, l'⟩] := ⟨_, rfl⟩
  obtain ⟨all, hall⟩ : ∃ x, x = partsN ps := ⟨_, rfl⟩
  have hall2 : all = ((be64 n ++ l) ++ be64 m) ++ l' := by rw [hall, hps]; simp [partsN]
  obtain ⟨Ks, hKs⟩ : ∃ K, K = (shaN all).map bv := ⟨_, rfl⟩
  have hKl : Ks.length = 32 := by rw [hKs, List.length_map, shaN_len]
  have heq1 := eq_key (shaN all) (shaN_len _)
  rw [← hKs] at heq1
  have SZ := Lib.hid (show (Tryd.prog.info? 26).map (·.size) = some Ks.length by rw [hKl]; kernel_rfl)
  have LL := Lib.hid (show ((List.replicate 32 0 : List UInt8).map bv).length = Ks.length by rw [List.length_map, hKl, List.length_replicate])
  have OC := Lib.hid (show ∀ u ∈ Ks, u.oneCell' = true from hKs ▸ one_bv _)
  have HA := Lib.hid (And.intro hps (And.intro hall (And.intro hall2 (And.intro hKs hKl))))
  clear hps hall hall2 hKs hKl
  go_enter Tryd.func6, Tryd.ntmps6
  go_wp2_with fail
  refine (K.out).mono ?_
  rintro e w2 ⟨rfl, hb2⟩
  have hPA : PartsAt (w2.alloc (.cells #[.slice A n c, .slice B m d] 22)) (some ⟨w2.heap.size, 0, none⟩) 2 2 ps := by
    have h0 := (Has.new w2 22 [.slice A n c, .slice B m d]).row 0 2 2 (by simp) (Nat.le_refl _) (by simp [maxLen])
    have hbw := hb2.alloc hb2.size (.cells #[.slice A n c, .slice B m d] 22)
    rw [HA.out.1]
    refine ⟨h0, fun p hp => ?_⟩
    simp only [List.mem_cons, List.not_mem_nil, or_false] at hp
    rcases hp with rfl | rfl
    · exact hl.keep hbw
    · exact hl'.keep hbw
  have hb3 := hb2.alloc hb2.size (.cells #[.slice A n c, .slice B m d] 22)
  have KP0 := sha.Parts _ 2 2 ps _ hPA (hT.keep hb3)
  rw [← HA.out.2.1, ← HA.out.2.2.2.1] at KP0
  have KP := Lib.hid KP0
  clear KP0 hPA K hb2
  go_wp2_with fail
  refine (KP.out).mono ?_
  rintro e w4 ⟨rfl, hb4⟩
  have hbw4 := hb3.trans (hb4.mono hb3.size)
  have H0 : Has (w4.alloc (.cells #[.int .u8 0, .int .u8 0, .int .u8 0, .int .u8 0, .int .u8 0, .int .u8 0, .int .u8 0, .int .u8 0, .int .u8 0, .int .u8 0, .int .u8 0, .int .u8 0, .int .u8 0, .int .u8 0, .int .u8 0, .int .u8 0, .int .u8 0, .int .u8 0, .int .u8 0, .int .u8 0, .int .u8 0, .int .u8 0, .int .u8 0, .int .u8 0, .int .u8 0, .int .u8 0, .int .u8 0, .int .u8 0, .int .u8 0, .int .u8 0, .int .u8 0, .int .u8 0] 26)) w4.heap.size 26 ((List.replicate 32 0 : List UInt8).map bv) := Has.new w4 26 ((List.replicate 32 0 : List UInt8).map bv)
  have hb5 := hbw4.alloc hbw4.size (.cells #[.int .u8 0, .int .u8 0, .int .u8 0, .int .u8 0, .int .u8 0, .int .u8 0, .int .u8 0, .int .u8 0, .int .u8 0, .int .u8 0, .int .u8 0, .int .u8 0, .int .u8 0, .int .u8 0, .int .u8 0, .int .u8 0, .int .u8 0, .int .u8 0, .int .u8 0, .int .u8 0, .int .u8 0, .int .u8 0, .int .u8 0, .int .u8 0, .int .u8 0, .int .u8 0, .int .u8 0, .int .u8 0, .int .u8 0, .int .u8 0, .int .u8 0, .int .u8 0] 26)
  have hB4 := hbw4.size
  clear KP hb3 hb4 hbw4
  go_wp2_with ((with_reducible refine wpList_store_has rfl 26 (.tmp 6) (.tmp 25) rfl w4.heap.size rfl Ks rfl 26 _ H0 SZ.out LL.out OC.out ?_); intro w5 o5 H5)
  have hbw5 := o5.below hb5 hB4
  clear H0 o5 hb5
  refine (refPut.put64 none 0 0 [] n w5 (Row.nil w5) (by omega) (by omega)).mono ?_
  rintro e w6 ⟨v6, rfl, hown6, hb6⟩
  have hl6 := (hl.keep hbw5).keep (hb6.mono (Nat.le_refl _))
  have HB1 := Lib.hid (show 0 + 8 + n ≤ 140737488355328 by omega)
  go_wp2_with (at_builtin; (refine app8 rfl (.tmp 30) (.tmp 31) rfl w5.heap.size v6 (0 + 8) ([] ++ be64 n) rfl hown6 A n c l rfl hl6 HB1.out hb6.size ?_); intro v7 w7 hown7 hg7)
  have hb7 : Below w5.heap.size w5 w7 := hb6.grown hg7 hb6.size (fun k hk => (hown6.lt k hk).1)
  obtain ⟨A7, c7, rfl, hr7⟩ := Row.own hown7
  clear hown6 hg7 hl6 hown7 hb6
  refine (refPut.put64 A7 (0 + 8 + n) c7 _ m w7 hr7 (by omega) (by omega)).mono ?_
  rintro e w8 ⟨v8, rfl, hown8, hb8⟩
  have hb8' : Below w5.heap.size w5 w8 := hb7.trans (hb8.mono hb7.size)
  have hl8 := (hl'.keep hbw5).keep hb8'
  have HB2 := Lib.hid (show 0 + 8 + n + 8 + m ≤ 140737488355328 by omega)
  go_wp2_with (at_builtin; (refine app8 rfl (.tmp 37) (.tmp 38) rfl w7.heap.size v8 (0 + 8 + n + 8) (([] ++ be64 n ++ l) ++ be64 m) rfl hown8 B m d l' rfl hl8 HB2.out hb8.size ?_); intro v9 w9 hown9 hg9)
  have hb9 : Below w5.heap.size w5 w9 := hb8'.grown hg9 hb8'.size (fun k hk => Nat.le_trans hb7.size (hown8.lt k hk).1)
  obtain ⟨A9, c9, rfl, hr9⟩ := Row.own hown9
  have hr9' : Bytes w9 A9 (0 + 8 + n + 8 + m) c9 all := by rw [HA.out.2.2.1]; simpa [Bytes] using hr9
  have H9 := H5.keep hb9 H5.lt
  have hbw9 := hbw5.trans (hb9.mono hbw5.size)
  clear hown8 hg9 hl8 hown9 hr9 hr7 hb7 hb8 hb8' hb9 H5 hbw5
  have hTw : ∀ u, Below w9.heap.size w9 u → Tab u := fun u h => (hT.keep hbw9).keep h
  obtain ⟨Y, hY⟩ : ∃ K, K = (shaN []).map bv := ⟨_, rfl⟩
  obtain ⟨Zs, hZs⟩ : ∃ K, K = (shaN (be64 0)).map bv := ⟨_, rfl⟩
  have heq2 := eq_key (shaN []) (shaN_len _)
  have heq3 := eq_key (shaN (be64 0)) (shaN_len _)
  rw [← hY] at heq2
  rw [← hZs] at heq3
  have K1 := Lib.hid (show Calls Tryd.prog 9 #[.slice A9 (0 + 8 + n + 8 + m) c9] w9.drew fun e w' => e = .returned (.agg Ks.toArray) ∧ Below w9.heap.size w9 w' by
    rw [HA.out.2.2.2.1]
    exact (sha.Sum A9 _ c9 all w9.drew (hr9'.keep (Below.refl _ _).drew) (hTw _ (Below.refl _ _).drew)).mono fun e w' hh => ⟨hh.1, (Below.refl w9.heap.size w9).drew.trans hh.2⟩)
  have K2 := Lib.hid (fun (u : World) (h : Below w9.heap.size w9 u) => show Calls Tryd.prog 11 #[.slice none 0 0] u fun e w' => e = .returned (.agg Y.toArray) ∧ Below w9.heap.size w9 w' by
    rw [hY]
    exact (sha.Parts none 0 0 [] u ⟨Row.nil u, fun p hp => by cases hp⟩ (hTw u h)).mono fun e w' hh => ⟨hh.1, h.trans (hh.2.mono h.size)⟩)
  have K3 := Lib.hid (fun (u : World) (h : Below w9.heap.size w9 u) => show Calls Tryd.prog 9 #[.slice none 0 0] u fun e w' => e = .returned (.agg Y.toArray) ∧ Below w9.heap.size w9 w' by
    rw [hY]
    exact (sha.Sum none 0 0 [] u (Row.nil u) (hTw u h)).mono fun e w' hh => ⟨hh.1, h.trans (hh.2.mono h.size)⟩)
  have K4 := Lib.hid (fun (u : World) (g : Nat) (h : Below w9.heap.size w9 u) (H : Has u g 22 [.slice none 0 0]) => show Calls Tryd.prog 11 #[.slice (some ⟨g, 0, none⟩) 1 1] u fun e w' => e = .returned (.agg Zs.toArray) ∧ Below u.heap.size u w' by
    have e : partsN [⟨none, 0, 0, []⟩] = be64 0 := by simp [partsN]
    rw [hZs, ← e]
    exact sha.Parts _ 1 1 [⟨none, 0, 0, []⟩] _ ⟨H.row 0 1 1 (by simp) (Nat.le_refl _) (by simp [maxLen]), fun p hp => by simp at hp; subst hp; exact Row.nil _⟩ (hTw _ h))
  have K5 := Lib.hid (fun (u : World) (g : Nat) (h : Below w9.heap.size w9 u) (H : Has u g 5 (noughts 8)) => show Calls Tryd.prog 9 #[.slice (some ⟨g, 0, none⟩) 8 8] u fun e w' => e = .returned (.agg Zs.toArray) ∧ Below w9.heap.size w9 w' by
    have e : be64 0 = [0, 0, 0, 0, 0, 0, 0, 0] := by simp [be64, be32]
    rw [hZs, e]
    exact (sha.Sum _ 8 8 [0, 0, 0, 0, 0, 0, 0, 0] _ (H.row 0 8 8 (by simp [noughts]) (Nat.le_refl _) (by simp [maxLen])) (hTw _ h)).mono fun e w' hh => ⟨hh.1, h.trans (hh.2.mono h.size)⟩)
  have hmk : ∀ u, (Instr.makeSlice 22 (.int .i64 8) (.int .i64 8)).run Tryd.prog u = .ok (.slice (some ⟨u.heap.size, 0, none⟩) 8 8) (u.alloc (.cells (noughts 8).toArray 5)) := fun u => run_make8 8 8 (Nat.le_refl _) (by omega) u
  have hu26 := Tryd.underlying26
  have hi26 := SZ.out
  have hk32 := HA.out.2.2.2.2
  have hone := OC.out
  have HRG := Lib.hid (fun (u : World) (h : Below w9.heap.size w9 u) => Has.range (H9.keep h H9.lt) 0 Ks (by rw [List.drop_zero, List.take_length]))
  clear hTw hY hZs hr9' H9
  go_region_held (fun w' => w'.rangeAt w4.heap.size 0 Ks)
    (first | exact HRG.out _ (Below.refl _ _).drew | exact HRG.out _ (by assumption) | exact HRG.out _ (hb13.alloc hb13.size _) | exact HRG.out _ ((hb13.alloc hb13.size _).alloc (Nat.le_trans hb13.size (by simp)) _) | exact HRG.out _ (hb14.alloc hb14.size _))
    (first
    | (go_at_call 9; with_reducible refine (K1.out).mono ?_; rintro e w11 ⟨rfl, hb11⟩)
    | (go_at_call 11; with_reducible refine (K2.out w11 hb11).mono ?_; rintro e w12 ⟨rfl, hb12⟩)
    | (go_at_call 9; with_reducible refine (K3.out w12 hb12).mono ?_; rintro e w13 ⟨rfl, hb13⟩)
    | (go_at_call 11; with_reducible refine (K4.out (w13.alloc (.cells #[.slice none 0 0] 22)) w13.heap.size (hb13.alloc hb13.size _) (Has.new w13 _ _)).mono ?_; rintro e w14 ⟨rfl, hbz⟩; have hb14 := (hb13.alloc hb13.size _).trans (hbz.mono (Nat.le_trans hb13.size (by simp))))
    | (go_at_call 11; with_reducible refine (K4.out ((w13.alloc (.cells #[.slice none 0 0] 22)).alloc (.cells (noughts 8).toArray 5)) w13.heap.size ((hb13.alloc hb13.size _).alloc (Nat.le_trans hb13.size (by simp)) _) ((Has.new w13 _ _).alloc _)).mono ?_; rintro e w14 ⟨rfl, hbz⟩; have HN := ((Has.new (w13.alloc (.cells #[.slice none 0 0] 22)) 5 (noughts 8)).at_ (show _ = w13.heap.size + 1 by simp)).keep hbz (by simp); have hb14 := ((hb13.alloc hb13.size _).alloc (Nat.le_trans hb13.size (by simp)) _).trans (hbz.mono (by have := hb13.size; simp; omega)))
    | (go_at_call 11; with_reducible refine (K4.out ((w13.alloc (.cells (noughts 8).toArray 5)).alloc (.cells #[.slice none 0 0] 22)) (w13.heap.size + 1) ((hb13.alloc hb13.size _).alloc (Nat.le_trans hb13.size (by simp)) _) ((Has.new (w13.alloc (.cells (noughts 8).toArray 5)) 22 [.slice none 0 0]).at_ (by simp))).mono ?_; rintro e w14 ⟨rfl, hbz⟩; have HN := ((Has.new w13 5 (noughts 8)).alloc (.cells #[.slice none 0 0] 22)).keep hbz (by simp; omega); have hb14 := ((hb13.alloc hb13.size _).alloc (Nat.le_trans hb13.size (by simp)) _).trans (hbz.mono (by have := hb13.size; simp; omega)))
    | (go_at_call 9; with_reducible refine (K5.out (w14.alloc (.cells (noughts 8).toArray 5)) w14.heap.size (hb14.alloc hb14.size _) (Has.new w14 _ _)).mono ?_; rintro e w15 ⟨rfl, hb15⟩)
    | (go_at_call 9; with_reducible refine (K5.out w14 _ hb14 HN).mono ?_; rintro e w15 ⟨rfl, hb15⟩))
  all_goals go_wp2
  all_goals go_ret
  all_goals exact ⟨rfl, hbw9.trans (hb15.mono hbw9.size)⟩
theorem all (A : Option Addr) (n c : Nat) (l : List UInt8) (B : Option Addr) (m d : Nat) (l' : List UInt8) (w : World) (hl : Bytes w A n c l) (hl' : Bytes w B m d l') (hT : Tab w) :
    Calls Tryd.prog 6 #[.slice A n c, .slice B m d] w fun e w' => e = .returned (.bool true) ∧ Below w.heap.size w w' := by
  by_cases h : 200 < n ∨ 200 < m
  · exact out A n c B m d w hT h
  · exact inn A n c l B m d l' w hl hl' hT (by omega) (by omega)
end shaPartsLaw
end Go.Proofs.YtikmhhhnegdfoaaDoor
