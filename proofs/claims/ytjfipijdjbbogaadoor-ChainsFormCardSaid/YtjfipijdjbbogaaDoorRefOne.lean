/-
  Contract of the reference's One (chapter 14).
-/
import Derived.Test.YtjfipijdjbbogaaDoorChainSpec
import Derived.Test.YtjfipijdjbbogaaDoorRefOrder
import Derived.Test.YtjfipijdjbbogaaDoorRefNew
import Derived.Test.YtjfipijdjbbogaaDoorDec
import Derived.Deep.RegionHeld
namespace Go.Proofs.YtjfipijdjbbogaaDoor
open Go.ChangeShapes Go.WideShapes Go.ChangeAt Go.RowKit
set_option linter.unusedVariables false
set_option linter.unusedSimpArgs false

theorem nameC_str (chain : Int) : str (nameC chain) = (⟨#[99, 104, 97, 105, 110, 32]⟩ : ByteArray) ++ str (Lib.itoa chain) := by
  rw [nameC, ← str_add]
  rfl
set_option maxHeartbeats 1000000 in
set_option maxRecDepth 10000 in
theorem refOneBad (seed : List UInt8) (servers chain k : Int) (h : badC servers chain k) (w : World) :
    Calls Tryd.prog 12 #[.agg (seed.map bv).toArray, .int .i64 servers, .int .i64 chain, .int .i64 k] w fun e' w' => e' = .returned (.tuple #[.slice none 0 0, .int .i64 1]) ∧ Below w.heap.size w w' := by
  have hb := (Below.refl w.heap.size w).alloc (Nat.le_refl _) (.cells (seed.map bv).toArray 23)
  by_cases h1 : servers < 1
  · clear h
    go_enter Tryd.func12, Tryd.ntmps12
    go_wp2_with fail
    go_ret2
    exact ⟨rfl, hb⟩
  by_cases h2 : 1000 < servers
  · clear h
    go_enter Tryd.func12, Tryd.ntmps12
    go_wp2_with fail
    go_ret2
    exact ⟨rfl, hb⟩
  by_cases h3 : k < 1
  · clear h
    go_enter Tryd.func12, Tryd.ntmps12
    go_wp2_with fail
    go_ret2
    exact ⟨rfl, hb⟩
  by_cases h4 : 20 < k
  · clear h
    go_enter Tryd.func12, Tryd.ntmps12
    go_wp2_with fail
    go_ret2
    exact ⟨rfl, hb⟩
  by_cases h5 : servers < k
  · clear h
    go_enter Tryd.func12, Tryd.ntmps12
    go_wp2_with fail
    go_ret2
    exact ⟨rfl, hb⟩
  have h6 : chain < 0 := by unfold badC at h; omega
  clear h
  go_enter Tryd.func12, Tryd.ntmps12
  go_wp2_with fail
  go_ret2
  exact ⟨rfl, hb⟩
set_option maxHeartbeats 1000000 in
set_option maxRecDepth 10000 in
theorem refOne (seed : List UInt8) (hs : seed.length = 32) (servers chain k : Int) (h0 : -9223372036854775808 ≤ chain) (h1 : chain ≤ 9223372036854775807) (p : List Int) (e : Nat) (h : oneB seed servers chain k = (p, e)) (w : World) :
    Calls Tryd.prog 12 #[.agg (seed.map bv).toArray, .int .i64 servers, .int .i64 chain, .int .i64 k] w fun e' w' => ∃ v, e' = .returned (.tuple #[v, .int .i64 (e : Int)]) ∧ w'.ownsRow w.heap.size 3 1 v p.length (p.map iv) ∧ Below w.heap.size w w' := by
  by_cases hbad : badC servers chain k
  · rw [oneB_bad hbad] at h
    cases h
    exact (refOneBad seed servers chain k hbad w).mono fun e' w' h => ⟨_, h.1, World.ownsRow_nil _ _ _ _, h.2⟩
  have hns : 1 ≤ servers ∧ servers ≤ 1000 ∧ 1 ≤ k ∧ k ≤ 20 ∧ k ≤ servers ∧ 0 ≤ chain := by unfold badC at hbad; omega
  obtain ⟨k, rfl⟩ : ∃ m : Nat, k = (m : Int) := ⟨k.toNat, by omega⟩
  obtain ⟨servers, rfl⟩ : ∃ m : Nat, servers = (m : Int) := ⟨servers.toNat, by omega⟩
  have f1 : ¬ (servers : Int) < 1 := by omega
  have f2 : ¬ 1000 < (servers : Int) := by omega
  have f3 : ¬ (k : Int) < 1 := by omega
  have f4 : ¬ 20 < (k : Int) := by omega
  have f5 : ¬ (servers : Int) < (k : Int) := by omega
  have f6 : ¬ chain < 0 := by omega
  obtain ⟨⟨po, eo, jo⟩, ho⟩ : ∃ r : List Int × Nat × Nat, orderB seed (nameC chain) servers 0 = r := ⟨_, rfl⟩
  obtain ⟨s, hss⟩ : ∃ s, str (Lib.itoa chain) = s := ⟨_, rfl⟩
  have hnl := nameC_len chain h0 h1
  have KD0 := refDec chain h0 h1
  have hz : ¬ 9223372036854775807 < 6 + s.size := by
    rw [← hss, str_size]
    have := Lib.itoa_length_le chain h0 h1
    omega
  have hb0 := (Below.refl w.heap.size w).alloc (Nat.le_refl _) (.cells (seed.map bv).toArray 23)
  have H0 := Has.new w 23 (seed.map bv)
  have KN0 := fun u => refNew' seed (nameC chain) hs u
  rw [hss] at KD0
  rw [nameC_str, hss] at KN0
  have KD := Lib.hid KD0
  have KN := Lib.hid KN0
  have KO := Lib.hid (fun (g : Nat) (u : World) (H : StrmR u g seed (nameC chain) 0) => refOrder g seed (nameC chain) servers 0 po eo jo ho (by omega) hs hnl u H)
  have SX := Lib.hid (show (Tryd.prog.info? 23).map (·.size) = some (seed.map bv).length by rw [List.length_map, hs]; exact size_key)
  have hrg1 : (w.alloc (.cells (seed.map bv).toArray 23)).rangeAt w.heap.size 0 (seed.map bv) := Has.range H0 0 (seed.map bv) (by rw [List.drop_zero, List.take_length])
  have HRG := Lib.hid (fun (u : World) (h : Below (w.alloc (.cells (seed.map bv).toArray 23)).drew.heap.size (w.alloc (.cells (seed.map bv).toArray 23)).drew u) => Has.range (Has.keep (w := (w.alloc (.cells (seed.map bv).toArray 23)).drew) H0 h H0.lt) 0 (seed.map bv) (by rw [List.drop_zero, List.take_length]))
  have hu1 := Tryd.underlying23
  have hi1 := SX.out
  have hone1 := one_bv seed
  have hlen1 : (seed.map bv).length = 32 := by rw [List.length_map, hs]
  have HSO := Lib.hid (And.intro hs (And.intro ho hbad))
  have HH := Lib.hid h
  have HB0 := Lib.hid hb0
  clear hs ho h hnl KD0 KN0 hss hns hbad hb0 H0 h0 h1
  go_enter Tryd.func12, Tryd.ntmps12
  go_wp2_with fail
  go_region_held (fun w' => w'.rangeAt w.heap.size 0 (seed.map bv))
    (first | exact hrg1 | exact HRG.out _ hb9 | exact HRG.out _ hb10)
    (first
    | (go_at_call 23; with_reducible refine (KD.out _).mono ?_; rintro e8 w8 ⟨rfl, rfl⟩)
    | (go_at_call 22; with_reducible refine (KN.out _).mono ?_; rintro e9 w9 ⟨g, rfl, X9, hg9, hb9⟩)
    | (go_at_call 21; with_reducible refine (KO.out _ _ X9).mono ?_; rintro e10 w10 ⟨A, m, c, rfl, H10, X10, S10⟩; have hb10 := Save.below hb9 S10 hg9 hb9.size))
  rename_i hHeld
  have hbw := HB0.out.drew.trans (hb10.mono HB0.out.size)
  by_cases he : eo = 0
  · subst he
    have hor := orderB_in (seed := seed) (name := nameC chain) (show servers ≤ 1000 by omega) 0
    rw [HSO.out.2.1] at hor
    have hpo : Ord po servers := by
      rcases hor with h | h
      · exact h.2
      · exact absurd h.1 (by show ¬ (0 : Nat) = 9; omega)
    obtain rfl : m = servers := by rw [← H10.len, hpo.1]
    have hp := HH.out
    rw [oneB_hit HSO.out.2.2 HSO.out.2.1, Int.toNat_natCast] at hp
    obtain ⟨e1, e2⟩ := Prod.mk.inj hp
    obtain ⟨b, off, rfl, hbl, _⟩ := H10.at_ (by omega)
    have hmc := H10.2.1
    have hkc : (k : Int) ≤ (c : Int) := by omega
    have hcm := H10.2.2.1
    have R := Row.head H10 k (by omega)
    rw [← List.map_take, e1] at R
    have hpl : p.length = k := by rw [← e1, List.length_take, hpo.1]; omega
    have HE := Lib.hid e2
    have HB := Lib.hid hbw
    have HPL := Lib.hid hpl
    have hk20 : k ≤ 20 := by omega
    clear hHeld hor hpo hp e1 e2 H10 X10 S10 hb9 hb10 X9 hbw hpl HSO hbl
    go_wp2_with (at_builtin; (refine appI rfl (.const (.slice none 0 0)) (.tmp 50) rfl w10.heap.size (.slice none 0 0) 0 [] rfl (World.ownsRow_nil _ _ _ _) (some ⟨b, off, none⟩) k c p rfl R (by omega) (Nat.le_refl _) ?_); intro v8 w8 hown8 hg8)
    go_ret2
    rw [Nat.zero_add, List.nil_append, ← HPL.out] at hown8
    exact ⟨v8, by rw [← HE.out]; rfl, own_base hown8 HB.out.size, HB.out.trans (((Below.refl w10.heap.size w10).grown hg8 (Nat.le_refl _) (fun k hk => by cases hk)).mono HB.out.size)⟩
  · have hp := HH.out
    rw [oneB_miss HSO.out.2.2 HSO.out.2.1 he] at hp
    obtain ⟨e1, e2⟩ := Prod.mk.inj hp
    have HE := Lib.hid (And.intro e1 e2)
    have hef : ((eo : Int) == 0) = false := by simp; exact he
    have he0 : ¬ eo = 0 := he
    clear hHeld hp e1 e2 H10 X10 S10 hb9 hb10 X9 he
    go_wp2_with fail
    go_ret2
    exact ⟨_, by rw [← HE.out.2]; rfl, by rw [← HE.out.1]; exact World.ownsRow_nil _ _ _ _, hbw⟩
end Go.Proofs.YtjfipijdjbbogaaDoor
