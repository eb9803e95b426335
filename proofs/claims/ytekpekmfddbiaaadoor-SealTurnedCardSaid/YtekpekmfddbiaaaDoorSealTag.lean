/-
  Contract of seal.tagOf.
-/
import Derived.Test.YtekpekmfddbiaaaDoorSealKs
import Derived.Test.YtekpekmfddbiaaaDoorConcat
import Derived.Deep.Cut
namespace Go.Proofs.YtekpekmfddbiaaaDoor
open Go.ChangeShapes Go.WideShapes Go.ChangeAt Go.RowKit
set_option linter.unusedVariables false
set_option linter.unusedSimpArgs false

theorem key_put {B g : Nat} {a u : World} {R : List UInt8} (hb : Below B a u) (H : Has u g 23 zkey) (hg : B ≤ g) (hR : R.length = 32) :
    B ≤ g ∧ Has (u.setCells g 0 (R.map bv)) g 23 (R.map bv) ∧ Below B a (u.setCells g 0 (R.map bv)) := by
  have H2 := Has.setCells (R.map bv) 0 u _ H (by rw [List.length_map, hR]; decide)
  rw [show splice zkey 0 (R.map bv) = R.map bv by rw [splice, List.length_map, hR, show List.drop (0 + 32) zkey = [] from rfl]; simp] at H2
  exact ⟨hg, H2, (Only.setCells g (R.map bv) 0 u).below hb hg⟩
theorem key_new {B : Nat} {a u : World} {R : List UInt8} (hb : Below B a u) (hB : B ≤ u.heap.size) (hR : R.length = 32) :
    B ≤ u.heap.size ∧ Has ((u.alloc (.cells #[.int .u8 0, .int .u8 0, .int .u8 0, .int .u8 0, .int .u8 0, .int .u8 0, .int .u8 0, .int .u8 0, .int .u8 0, .int .u8 0, .int .u8 0, .int .u8 0, .int .u8 0, .int .u8 0, .int .u8 0, .int .u8 0, .int .u8 0, .int .u8 0, .int .u8 0, .int .u8 0, .int .u8 0, .int .u8 0, .int .u8 0, .int .u8 0, .int .u8 0, .int .u8 0, .int .u8 0, .int .u8 0, .int .u8 0, .int .u8 0, .int .u8 0, .int .u8 0] 23)).setCells u.heap.size 0 (R.map bv)) u.heap.size 23 (R.map bv) ∧ Below B a ((u.alloc (.cells #[.int .u8 0, .int .u8 0, .int .u8 0, .int .u8 0, .int .u8 0, .int .u8 0, .int .u8 0, .int .u8 0, .int .u8 0, .int .u8 0, .int .u8 0, .int .u8 0, .int .u8 0, .int .u8 0, .int .u8 0, .int .u8 0, .int .u8 0, .int .u8 0, .int .u8 0, .int .u8 0, .int .u8 0, .int .u8 0, .int .u8 0, .int .u8 0, .int .u8 0, .int .u8 0, .int .u8 0, .int .u8 0, .int .u8 0, .int .u8 0, .int .u8 0, .int .u8 0] 23)).setCells u.heap.size 0 (R.map bv)) :=
  key_put (newKey_below hb hB) (newKey u) hB hR
def ztag : List Value := (List.replicate 16 0 : List UInt8).map bv
theorem size_tag : (Tryd.prog.info? 33).map (·.size) = some 16 := by kernel_rfl

namespace sealing
set_option maxRecDepth 10000 in
set_option maxHeartbeats 1600000 in
theorem tagOf (k : List UInt8) (hk : k.length = 32) (A : Option Addr) (n c : Nat) (l : List UInt8) (B : Option Addr) (m d : Nat) (l' : List UInt8) (hn : n ≤ 17592186044416) (hm : m ≤ 17592186044416) (w : World) (hl : Bytes w A n c l) (hl' : Bytes w B m d l') (hT : Tab w) :
    Calls Tryd.prog 12 #[.agg (k.map bv).toArray, .slice A n c, .slice B m d] w fun e w' => e = .returned (.agg ((tagN k l l').map bv).toArray) ∧ Below w.heap.size w w' := by
  have hb1 := (Below.refl w.heap.size w).alloc (Nat.le_refl _) (.cells (k.map bv).toArray 23)
  have hb2 := hb1.alloc hb1.size (.cells #[.int .u8 0, .int .u8 0, .int .u8 0, .int .u8 0, .int .u8 0, .int .u8 0, .int .u8 0, .int .u8 0, .int .u8 0, .int .u8 0, .int .u8 0, .int .u8 0, .int .u8 0, .int .u8 0, .int .u8 0, .int .u8 0] 33)
  have HQ2 := (Has.new w 23 (k.map bv)).alloc (.cells #[.int .u8 0, .int .u8 0, .int .u8 0, .int .u8 0, .int .u8 0, .int .u8 0, .int .u8 0, .int .u8 0, .int .u8 0, .int .u8 0, .int .u8 0, .int .u8 0, .int .u8 0, .int .u8 0, .int .u8 0, .int .u8 0] 33)
  have HR2 : Has ((w.alloc (.cells (k.map bv).toArray 23)).alloc (.cells #[.int .u8 0, .int .u8 0, .int .u8 0, .int .u8 0, .int .u8 0, .int .u8 0, .int .u8 0, .int .u8 0, .int .u8 0, .int .u8 0, .int .u8 0, .int .u8 0, .int .u8 0, .int .u8 0, .int .u8 0, .int .u8 0] 33)) (w.heap.size + 1) 33 ztag := (Has.new (w.alloc (.cells (k.map bv).toArray 23)) 33 ztag).at_ (show _ = w.heap.size + 1 by simp)
  have HKL := Lib.hid hk
  have hw2 : ((w.alloc (.cells (k.map bv).toArray 23)).alloc (.cells #[.int .u8 0, .int .u8 0, .int .u8 0, .int .u8 0, .int .u8 0, .int .u8 0, .int .u8 0, .int .u8 0, .int .u8 0, .int .u8 0, .int .u8 0, .int .u8 0, .int .u8 0, .int .u8 0, .int .u8 0, .int .u8 0] 33)).heap.size = w.heap.size + 1 + 1 := by simp
  have hll := hl.len
  have hll' := hl'.len
  clear hb1
  go_enter Tryd.func12, Tryd.ntmps12
  go_wp2_with fail
  change Calls _ _ _ (((w.alloc (.cells (k.map bv).toArray 23)).alloc (.cells #[.int .u8 0, .int .u8 0, .int .u8 0, .int .u8 0, .int .u8 0, .int .u8 0, .int .u8 0, .int .u8 0, .int .u8 0, .int .u8 0, .int .u8 0, .int .u8 0, .int .u8 0, .int .u8 0, .int .u8 0, .int .u8 0] 33)).alloc (.cells #[.int .u8 116] 5)) _
  generalize ((w.alloc (.cells (k.map bv).toArray 23)).alloc (.cells #[.int .u8 0, .int .u8 0, .int .u8 0, .int .u8 0, .int .u8 0, .int .u8 0, .int .u8 0, .int .u8 0, .int .u8 0, .int .u8 0, .int .u8 0, .int .u8 0, .int .u8 0, .int .u8 0, .int .u8 0, .int .u8 0] 33)) = w2 at *
  have hsz2 := HR2.lt
  have es2 : w2.heap.size = w.heap.size + 1 + 1 := hw2
  have hl1 := litK w2 116 (by omega)
  rw [es2] at hl1
  refine (wordsPut.put64 (some ⟨w.heap.size + 1 + 1, 0, none⟩) 1 1 [116] n _ hl1 (by omega)).mono ?_
  rintro e w3 ⟨v3, rfl, hown3, hb3⟩
  have hB3 : Below w2.heap.size w2 w3 := ((Below.refl _ _).alloc (Nat.le_refl _) _).trans (hb3.mono (by simp))
  have hbw3 := hb2.trans (hB3.mono hb2.size)
  have HQ3 := HQ2.keep hB3 HQ2.lt
  have HR3 := HR2.keep hB3 HR2.lt
  obtain ⟨A3, c3, rfl, hr3⟩ := Row.own hown3
  have hl3 := hl.keep hbw3
  have hl3' := hl'.keep hbw3
  obtain ⟨T, hT'⟩ : ∃ T, T = ([116] ++ be64 n) ++ l ++ l' := ⟨_, rfl⟩
  obtain ⟨N, hN⟩ : ∃ N, N = T.length := ⟨_, rfl⟩
  obtain ⟨R, hR⟩ : ∃ R, R = macN k T := ⟨_, rfl⟩
  have hRl : R.length = 32 := by rw [hR, macN_len]
  have hNb : N ≤ 70368744177600 := by rw [hN, hT']; simp [be64_len, hll, hll']; omega
  have hcat : ([116] ++ be64 n) ++ (l ++ l') = T := by rw [hT', List.append_assoc ([116] ++ be64 n)]
  have htag : tagN k l l' = R.take 16 := by rw [tagN, hR, hT', hll]
  have KC := Lib.hid (fun (u : World) (g : Nat) (H : Has u g 24 [.slice A3 9 c3, .slice A n c, .slice B m d]) (hu : Below w3.heap.size w3 u) =>
    show Calls Tryd.prog 19 #[.slice (some ⟨g, 0, none⟩) 3 3] u fun e w' => ∃ v, e = .returned v ∧ w'.ownsRow u.heap.size 5 1 v N (T.map bv) ∧ Below u.heap.size u w' by
      have hc : catN [⟨A3, 9, c3, [116] ++ be64 n⟩, ⟨A, n, c, l⟩, ⟨B, m, d, l'⟩] = T := by rw [← hcat]; simp [catN]
      have h := slicesOf.Concat (some ⟨g, 0, none⟩) 3 3 [⟨A3, 9, c3, [116] ++ be64 n⟩, ⟨A, n, c, l⟩, ⟨B, m, d, l'⟩] u
        ⟨H.row 0 3 3 (by simp) (Nat.le_refl _) (by simp [maxLen]), fun p hp => by
          simp only [List.mem_cons, List.not_mem_nil, or_false] at hp
          rcases hp with rfl | rfl | rfl
          · exact Row.keep hr3 hu
          · exact Row.keep hl3 hu
          · exact Row.keep hl3' hu⟩ (by rw [hc, ← hN]; exact hNb)
      rw [hc, ← hN] at h
      exact h)
  have KM := Lib.hid (fun (A9 : Option Addr) (c9 : Nat) (u : World) (hu : Below w3.heap.size w3 u) (h : Row u A9 N c9 (T.map bv)) => show Calls Tryd.prog 18 #[.slice (some ⟨w.heap.size, 0, none⟩) 32 32, .slice A9 N c9] u fun e w' => e = .returned (.agg (R.map bv).toArray) ∧ Below u.heap.size u w' by
    rw [hR]
    exact mac.Of _ 32 32 k A9 N c9 _ u ((HQ3.bytes 32 HKL.out (by simp [maxLen])).keep hu) h (by omega) (hT.keep (hbw3.trans (hu.mono hbw3.size))))
  have HL1 := Lib.hid (show Has ((w3.alloc (.cells #[.int .u8 0, .int .u8 0, .int .u8 0, .int .u8 0, .int .u8 0, .int .u8 0, .int .u8 0, .int .u8 0, .int .u8 0, .int .u8 0, .int .u8 0, .int .u8 0, .int .u8 0, .int .u8 0, .int .u8 0, .int .u8 0, .int .u8 0, .int .u8 0, .int .u8 0, .int .u8 0, .int .u8 0, .int .u8 0, .int .u8 0, .int .u8 0, .int .u8 0, .int .u8 0, .int .u8 0, .int .u8 0, .int .u8 0, .int .u8 0, .int .u8 0, .int .u8 0] 23)).alloc (.cells #[.slice A3 9 c3, .slice A n c, .slice B m d] 24)).drew (w3.heap.size + 1) 24 [.slice A3 9 c3, .slice A n c, .slice B m d] from (Has.new (w3.alloc (.cells #[.int .u8 0, .int .u8 0, .int .u8 0, .int .u8 0, .int .u8 0, .int .u8 0, .int .u8 0, .int .u8 0, .int .u8 0, .int .u8 0, .int .u8 0, .int .u8 0, .int .u8 0, .int .u8 0, .int .u8 0, .int .u8 0, .int .u8 0, .int .u8 0, .int .u8 0, .int .u8 0, .int .u8 0, .int .u8 0, .int .u8 0, .int .u8 0, .int .u8 0, .int .u8 0, .int .u8 0, .int .u8 0, .int .u8 0, .int .u8 0, .int .u8 0, .int .u8 0] 23)) 24 [.slice A3 9 c3, .slice A n c, .slice B m d]).at_ (by simp))
  have HL2 := Lib.hid (show Has ((w3.alloc (.cells #[.slice A3 9 c3, .slice A n c, .slice B m d] 24)).alloc (.cells #[.int .u8 0, .int .u8 0, .int .u8 0, .int .u8 0, .int .u8 0, .int .u8 0, .int .u8 0, .int .u8 0, .int .u8 0, .int .u8 0, .int .u8 0, .int .u8 0, .int .u8 0, .int .u8 0, .int .u8 0, .int .u8 0, .int .u8 0, .int .u8 0, .int .u8 0, .int .u8 0, .int .u8 0, .int .u8 0, .int .u8 0, .int .u8 0, .int .u8 0, .int .u8 0, .int .u8 0, .int .u8 0, .int .u8 0, .int .u8 0, .int .u8 0, .int .u8 0] 23)).drew w3.heap.size 24 [.slice A3 9 c3, .slice A n c, .slice B m d] from (Has.new w3 24 [.slice A3 9 c3, .slice A n c, .slice B m d]).alloc (.cells #[.int .u8 0, .int .u8 0, .int .u8 0, .int .u8 0, .int .u8 0, .int .u8 0, .int .u8 0, .int .u8 0, .int .u8 0, .int .u8 0, .int .u8 0, .int .u8 0, .int .u8 0, .int .u8 0, .int .u8 0, .int .u8 0, .int .u8 0, .int .u8 0, .int .u8 0, .int .u8 0, .int .u8 0, .int .u8 0, .int .u8 0, .int .u8 0, .int .u8 0, .int .u8 0, .int .u8 0, .int .u8 0, .int .u8 0, .int .u8 0, .int .u8 0, .int .u8 0] 23))
  have HL3 := Lib.hid (show Has (w3.alloc (.cells #[.slice A3 9 c3, .slice A n c, .slice B m d] 24)).drew w3.heap.size 24 [.slice A3 9 c3, .slice A n c, .slice B m d] from Has.new w3 24 [.slice A3 9 c3, .slice A n c, .slice B m d])
  have HZ1 := Lib.hid (show Has ((w3.alloc (.cells #[.int .u8 0, .int .u8 0, .int .u8 0, .int .u8 0, .int .u8 0, .int .u8 0, .int .u8 0, .int .u8 0, .int .u8 0, .int .u8 0, .int .u8 0, .int .u8 0, .int .u8 0, .int .u8 0, .int .u8 0, .int .u8 0, .int .u8 0, .int .u8 0, .int .u8 0, .int .u8 0, .int .u8 0, .int .u8 0, .int .u8 0, .int .u8 0, .int .u8 0, .int .u8 0, .int .u8 0, .int .u8 0, .int .u8 0, .int .u8 0, .int .u8 0, .int .u8 0] 23)).alloc (.cells #[.slice A3 9 c3, .slice A n c, .slice B m d] 24)).drew w3.heap.size 23 zkey from (newKey w3).alloc (.cells #[.slice A3 9 c3, .slice A n c, .slice B m d] 24))
  have HZ2 := Lib.hid (show Has ((w3.alloc (.cells #[.slice A3 9 c3, .slice A n c, .slice B m d] 24)).alloc (.cells #[.int .u8 0, .int .u8 0, .int .u8 0, .int .u8 0, .int .u8 0, .int .u8 0, .int .u8 0, .int .u8 0, .int .u8 0, .int .u8 0, .int .u8 0, .int .u8 0, .int .u8 0, .int .u8 0, .int .u8 0, .int .u8 0, .int .u8 0, .int .u8 0, .int .u8 0, .int .u8 0, .int .u8 0, .int .u8 0, .int .u8 0, .int .u8 0, .int .u8 0, .int .u8 0, .int .u8 0, .int .u8 0, .int .u8 0, .int .u8 0, .int .u8 0, .int .u8 0] 23)).drew (w3.heap.size + 1) 23 zkey from (newKey (w3.alloc (.cells #[.slice A3 9 c3, .slice A n c, .slice B m d] 24))).at_ (by simp))
  have hr0 := Below.refl w3.heap.size w3
  have HB1 := Lib.hid (show Below w3.heap.size w3 ((w3.alloc (.cells #[.int .u8 0, .int .u8 0, .int .u8 0, .int .u8 0, .int .u8 0, .int .u8 0, .int .u8 0, .int .u8 0, .int .u8 0, .int .u8 0, .int .u8 0, .int .u8 0, .int .u8 0, .int .u8 0, .int .u8 0, .int .u8 0, .int .u8 0, .int .u8 0, .int .u8 0, .int .u8 0, .int .u8 0, .int .u8 0, .int .u8 0, .int .u8 0, .int .u8 0, .int .u8 0, .int .u8 0, .int .u8 0, .int .u8 0, .int .u8 0, .int .u8 0, .int .u8 0] 23)).alloc (.cells #[.slice A3 9 c3, .slice A n c, .slice B m d] 24)).drew from ((newKey_below hr0 (Nat.le_refl _)).alloc (newKey_below hr0 (Nat.le_refl _)).size _).drew)
  have HB2 := Lib.hid (show Below w3.heap.size w3 ((w3.alloc (.cells #[.slice A3 9 c3, .slice A n c, .slice B m d] 24)).alloc (.cells #[.int .u8 0, .int .u8 0, .int .u8 0, .int .u8 0, .int .u8 0, .int .u8 0, .int .u8 0, .int .u8 0, .int .u8 0, .int .u8 0, .int .u8 0, .int .u8 0, .int .u8 0, .int .u8 0, .int .u8 0, .int .u8 0, .int .u8 0, .int .u8 0, .int .u8 0, .int .u8 0, .int .u8 0, .int .u8 0, .int .u8 0, .int .u8 0, .int .u8 0, .int .u8 0, .int .u8 0, .int .u8 0, .int .u8 0, .int .u8 0, .int .u8 0, .int .u8 0] 23)).drew from (newKey_below (hr0.alloc (Nat.le_refl _) (.cells #[.slice A3 9 c3, .slice A n c, .slice B m d] 24)) (hr0.alloc (Nat.le_refl _) (.cells #[.slice A3 9 c3, .slice A n c, .slice B m d] 24)).size).drew)
  have HB3 := Lib.hid (show Below w3.heap.size w3 (w3.alloc (.cells #[.slice A3 9 c3, .slice A n c, .slice B m d] 24)).drew from (hr0.alloc (Nat.le_refl _) (.cells #[.slice A3 9 c3, .slice A n c, .slice B m d] 24)).drew)
  have HCT := Lib.hid (fun (u : World) (g : Nat) (h : Has u g 23 zkey) => Has.there h 0 (R.map bv).length (by rw [List.length_map, hRl]; decide))
  have hal : ∀ u : World, (u.alloc (.cells #[.int .u8 0, .int .u8 0, .int .u8 0, .int .u8 0, .int .u8 0, .int .u8 0, .int .u8 0, .int .u8 0, .int .u8 0, .int .u8 0, .int .u8 0, .int .u8 0, .int .u8 0, .int .u8 0, .int .u8 0, .int .u8 0, .int .u8 0, .int .u8 0, .int .u8 0, .int .u8 0, .int .u8 0, .int .u8 0, .int .u8 0, .int .u8 0, .int .u8 0, .int .u8 0, .int .u8 0, .int .u8 0, .int .u8 0, .int .u8 0, .int .u8 0, .int .u8 0] 23)).there u.heap.size 0 (R.map bv).length := fun u => Has.there (newKey u) 0 (R.map bv).length (by rw [List.length_map, hRl]; decide)
  have hu2 := Tryd.underlying23
  have hi2 : (Tryd.prog.info? 23).map (·.size) = some (R.map bv).length := by rw [List.length_map, hRl]; exact size_key
  have hone2 := one_bv R
  have HR := Lib.hid (And.intro htag hRl)
  have HR3' := Lib.hid HR3
  have hbw3' := Lib.hid hbw3
  clear hT' hN hR hRl hcat htag HQ3 HR3 hbw3 hB3 hr3 hl3 hl3' hr0 hown3 hb3 hb2 HQ2 HR2 hl1 hsz2 es2 hw2 hl hl' hll hll'
  go_wp2
  go_region_held (fun _ => True) (trivial)
    (first
    | (go_at_call 19; with_reducible refine (KC.out _ _ HL1.out HB1.out).mono ?_; rintro e w9 ⟨v9, rfl, hown9, hb9⟩; obtain ⟨A9, c9, rfl, hr9⟩ := Row.own hown9; have hB9 := HB1.out.trans (hb9.mono HB1.out.size); have HZ9 := HZ1.out.keep hb9 HZ1.out.lt)
    | (go_at_call 19; with_reducible refine (KC.out _ _ HL2.out HB2.out).mono ?_; rintro e w9 ⟨v9, rfl, hown9, hb9⟩; obtain ⟨A9, c9, rfl, hr9⟩ := Row.own hown9; have hB9 := HB2.out.trans (hb9.mono HB2.out.size); have HZ9 := HZ2.out.keep hb9 HZ2.out.lt)
    | (go_at_call 19; with_reducible refine (KC.out _ _ HL3.out HB3.out).mono ?_; rintro e w9 ⟨v9, rfl, hown9, hb9⟩; obtain ⟨A9, c9, rfl, hr9⟩ := Row.own hown9; have hB9 := HB3.out.trans (hb9.mono HB3.out.size))
    | (go_at_call 18; with_reducible refine (KM.out A9 c9 w9 hB9 hr9).mono ?_; rintro e w10 ⟨rfl, hb10⟩; have hB10 := hB9.trans (hb10.mono hB9.size); have HZ10 := HZ9.keep hb10 HZ9.lt; have hth := HCT.out w10 _ HZ10)
    | (go_at_call 18; with_reducible refine (KM.out A9 c9 w9 hB9 hr9).mono ?_; rintro e w10 ⟨rfl, hb10⟩; have hB10 := hB9.trans (hb10.mono hB9.size))
    | (go_at_call 18; with_reducible refine (KM.out A9 c9 _ (newKey_below hB9 hB9.size) (hr9.keep (newKey_below (Below.refl _ _) (Nat.le_refl _)))).mono ?_; rintro e w10 ⟨rfl, hb10⟩; have hB10 := (newKey_below hB9 hB9.size).trans (hb10.mono (newKey_below hB9 hB9.size).size); have HZ10 := (newKey w9).keep hb10 (newKey w9).lt; have hth := HCT.out w10 _ HZ10))
  all_goals go_upto_region 3 with fail
  all_goals (
    first
    | (change Code.wp _ _ _ _ ((w10.alloc (.cells #[.int .u8 0, .int .u8 0, .int .u8 0, .int .u8 0, .int .u8 0, .int .u8 0, .int .u8 0, .int .u8 0, .int .u8 0, .int .u8 0, .int .u8 0, .int .u8 0, .int .u8 0, .int .u8 0, .int .u8 0, .int .u8 0, .int .u8 0, .int .u8 0, .int .u8 0, .int .u8 0, .int .u8 0, .int .u8 0, .int .u8 0, .int .u8 0, .int .u8 0, .int .u8 0, .int .u8 0, .int .u8 0, .int .u8 0, .int .u8 0, .int .u8 0, .int .u8 0] 23)).setCells w10.heap.size 0 (R.map bv))
       have F := key_new hB10 hB10.size HR.out.2
       have F2 := Lib.hid (And.intro F.2.1 (And.intro (HR3'.out.keep F.2.2 HR3'.out.lt) (hbw3'.out.trans (F.2.2.mono hbw3'.out.size))))
       clear F
       generalize ((w10.alloc (.cells #[.int .u8 0, .int .u8 0, .int .u8 0, .int .u8 0, .int .u8 0, .int .u8 0, .int .u8 0, .int .u8 0, .int .u8 0, .int .u8 0, .int .u8 0, .int .u8 0, .int .u8 0, .int .u8 0, .int .u8 0, .int .u8 0, .int .u8 0, .int .u8 0, .int .u8 0, .int .u8 0, .int .u8 0, .int .u8 0, .int .u8 0, .int .u8 0, .int .u8 0, .int .u8 0, .int .u8 0, .int .u8 0, .int .u8 0, .int .u8 0, .int .u8 0, .int .u8 0] 23)).setCells w10.heap.size 0 (R.map bv)) = wx at *
       generalize w10.heap.size = g9 at *)
    | (change Code.wp _ _ _ _ (w10.setCells w3.heap.size 0 (R.map bv))
       have F := key_put hB10 HZ10 (Nat.le_refl _) HR.out.2
       have F2 := Lib.hid (And.intro F.2.1 (And.intro (HR3'.out.keep F.2.2 HR3'.out.lt) (hbw3'.out.trans (F.2.2.mono hbw3'.out.size))))
       clear F
       generalize (w10.setCells w3.heap.size 0 (R.map bv)) = wx at *
       generalize w3.heap.size = g9 at *)
    | (change Code.wp _ _ _ _ (w10.setCells (w3.heap.size + 1) 0 (R.map bv))
       have F := key_put hB10 HZ10 (Nat.le_succ _) HR.out.2
       have F2 := Lib.hid (And.intro F.2.1 (And.intro (HR3'.out.keep F.2.2 HR3'.out.lt) (hbw3'.out.trans (F.2.2.mono hbw3'.out.size))))
       clear F
       generalize (w10.setCells (w3.heap.size + 1) 0 (R.map bv)) = wx at *
       generalize (w3.heap.size + 1) = g9 at *)
    | (change Code.wp _ _ _ _ (w10.setCells w9.heap.size 0 (R.map bv))
       have F := key_put hB10 HZ10 hB9.size HR.out.2
       have F2 := Lib.hid (And.intro F.2.1 (And.intro (HR3'.out.keep F.2.2 HR3'.out.lt) (hbw3'.out.trans (F.2.2.mono hbw3'.out.size))))
       clear F
       generalize (w10.setCells w9.heap.size 0 (R.map bv)) = wx at *
       generalize w9.heap.size = g9 at *)
    obtain ⟨H9, HT9, hb9'⟩ := F2.out
    have hrg : wx.rangeAt g9 0 ((R.take 16).map bv) := Has.range H9 0 _ (by rw [List.drop_zero, List.length_map, List.length_take, HR.out.2, List.map_take]; rfl)
    have hat : ∀ u, (Instr.arrayAt 33 (.slice (some ⟨g9, 0, none⟩) 16 32)).run Tryd.prog u = .ok (.pointer (some ⟨g9, 0, none⟩)) u := fun u => by
      simp [Instr.arrayAt, run_underlying Tryd.underlying33]
    have S16 := Lib.hid (show (Tryd.prog.info? 33).map (·.size) = some ((R.take 16).map bv).length by rw [List.length_map, List.length_take, HR.out.2]; exact size_tag)
    have L16 := Lib.hid (show ztag.length = ((R.take 16).map bv).length by rw [List.length_map, List.length_take, HR.out.2]; rfl)
    clear F2 H9 hal hi2 hu2 hone2 HCT HR3' hbw3'
    go_wp2_with (first
      | ((with_reducible refine wpList_load_mid rfl 33 (.tmp 22) rfl g9 0 rfl ((R.take 16).map bv) _ hrg Tryd.underlying33 rfl S16.out ?_))
      | ((with_reducible refine wpList_store_has rfl 33 (.tmp 6) (.tmp 23) rfl (w.heap.size + 1) rfl ((R.take 16).map bv) rfl 33 ztag HT9 S16.out L16.out (one_bv _) ?_); intro w12 o12 H12))
    refine ret_has Tryd.results12 (w.heap.size + 1) ?_ 33 ((R.take 16).map bv) H12 _ Tryd.underlying33 rfl S16.out ?_ ⟨by rw [HR.out.1], o12.below hb9' (by omega)⟩
    · rfl
    · rfl)
end sealing
end Go.Proofs.YtekpekmfddbiaaaDoor
