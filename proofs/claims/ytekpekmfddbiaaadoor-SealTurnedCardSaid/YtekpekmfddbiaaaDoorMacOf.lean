/-
  Contract of mac.Of.
-/
import Derived.Test.YtekpekmfddbiaaaDoorMac
import Derived.Deep.RegionHeldLaw
import Derived.Deep.RegionHeld
namespace Go.Proofs.YtekpekmfddbiaaaDoor
open Go.ChangeShapes Go.WideShapes Go.ChangeAt Go.RowKit
set_option linter.unusedVariables false
set_option linter.unusedSimpArgs false

namespace mac
set_option maxRecDepth 10000 in
set_option maxHeartbeats 800000 in
theorem Of (A : Option Addr) (n c : Nat) (l : List UInt8) (B : Option Addr) (m d : Nat) (l' : List UInt8) (w : World) (hl : Bytes w A n c l) (hl' : Bytes w B m d l') (hm : m ≤ 70368744177664) (hT : Tab w) :
    Calls Tryd.prog 18 #[.slice A n c, .slice B m d] w fun e w' => e = .returned (.agg ((macN l l').map bv).toArray) ∧ Below w.heap.size w w' := by
  have HR := newKey w
  have hb1 := newKey_below (Below.refl w.heap.size w) (Nat.le_refl _)
  have K0 := block A n c l _ (hl.keep hb1) (hT.keep hb1)
  obtain ⟨X, hX⟩ : ∃ B, B = mblk l := ⟨_, rfl⟩
  have hXl : X.length = 64 := by rw [hX, mblk_len]
  rw [← hX] at K0
  have K := Lib.hid K0
  have H0 := Lib.hid (And.intro hX hXl)
  have SX := Lib.hid (show (Tryd.prog.info? 43).map (·.size) = some (X.map bv).length by rw [List.length_map, hXl]; exact size_blk)
  have LX := Lib.hid (show zblk.length = (X.map bv).length by rw [List.length_map, hXl]; rfl)
  have OX := Lib.hid (one_bv X)
  clear hX hXl K0
  go_enter Tryd.func18, Tryd.ntmps18
  go_wp2_with fail
  refine (K.out).mono ?_
  rintro e w2 ⟨rfl, hb2⟩
  have hbw2 := hb1.trans (hb2.mono hb1.size)
  have HR2 := HR.keep hb2 HR.lt
  have H3 := newBlk w2
  have HR3 := HR2.alloc (.cells #[.int .u8 0, .int .u8 0, .int .u8 0, .int .u8 0, .int .u8 0, .int .u8 0, .int .u8 0, .int .u8 0, .int .u8 0, .int .u8 0, .int .u8 0, .int .u8 0, .int .u8 0, .int .u8 0, .int .u8 0, .int .u8 0, .int .u8 0, .int .u8 0, .int .u8 0, .int .u8 0, .int .u8 0, .int .u8 0, .int .u8 0, .int .u8 0, .int .u8 0, .int .u8 0, .int .u8 0, .int .u8 0, .int .u8 0, .int .u8 0, .int .u8 0, .int .u8 0, .int .u8 0, .int .u8 0, .int .u8 0, .int .u8 0, .int .u8 0, .int .u8 0, .int .u8 0, .int .u8 0, .int .u8 0, .int .u8 0, .int .u8 0, .int .u8 0, .int .u8 0, .int .u8 0, .int .u8 0, .int .u8 0, .int .u8 0, .int .u8 0, .int .u8 0, .int .u8 0, .int .u8 0, .int .u8 0, .int .u8 0, .int .u8 0, .int .u8 0, .int .u8 0, .int .u8 0, .int .u8 0, .int .u8 0, .int .u8 0, .int .u8 0, .int .u8 0] 43)
  have hb3 : Below w.heap.size w (w2.alloc (.cells #[.int .u8 0, .int .u8 0, .int .u8 0, .int .u8 0, .int .u8 0, .int .u8 0, .int .u8 0, .int .u8 0, .int .u8 0, .int .u8 0, .int .u8 0, .int .u8 0, .int .u8 0, .int .u8 0, .int .u8 0, .int .u8 0, .int .u8 0, .int .u8 0, .int .u8 0, .int .u8 0, .int .u8 0, .int .u8 0, .int .u8 0, .int .u8 0, .int .u8 0, .int .u8 0, .int .u8 0, .int .u8 0, .int .u8 0, .int .u8 0, .int .u8 0, .int .u8 0, .int .u8 0, .int .u8 0, .int .u8 0, .int .u8 0, .int .u8 0, .int .u8 0, .int .u8 0, .int .u8 0, .int .u8 0, .int .u8 0, .int .u8 0, .int .u8 0, .int .u8 0, .int .u8 0, .int .u8 0, .int .u8 0, .int .u8 0, .int .u8 0, .int .u8 0, .int .u8 0, .int .u8 0, .int .u8 0, .int .u8 0, .int .u8 0, .int .u8 0, .int .u8 0, .int .u8 0, .int .u8 0, .int .u8 0, .int .u8 0, .int .u8 0, .int .u8 0] 43)) := hbw2.alloc hbw2.size _
  have hr2 := HR2.lt
  clear HR hb1 hb2 K HR2
  go_wp2_with (first
    | ((with_reducible refine wpList_store_has rfl 43 (.tmp 5) (.tmp 8) rfl w2.heap.size rfl (X.map bv) rfl 43 zblk H3 SX.out LX.out OX.out ?_); intro w4 o4 H4; have HR4 := HR3.only o4 (by omega); have hb4 := o4.below hb3 hbw2.size)
    | ((with_reducible refine wpList_load_has rfl 43 (.tmp 5) rfl w2.heap.size rfl 43 (X.map bv) H4 _ Tryd.underlying43 rfl SX.out ?_)))
  refine (masked X H0.out.2 54 (by omega) B m d l' w4 (hl'.keep hb4) hm).mono ?_
  rintro e w5 ⟨v5, rfl, hown5, hb5⟩
  obtain ⟨A5, c5, rfl, hr5⟩ := Row.own hown5
  have hbw5 := hb4.trans (hb5.mono hb4.size)
  have H45 := H4.keep hb5 H4.lt
  have HR5 := HR4.keep hb5 HR4.lt
  obtain ⟨I, hI⟩ : ∃ I, I = shaN (mask 54 X ++ l') := ⟨_, rfl⟩
  have hIl : I.length = 32 := by rw [hI, shaN_len]
  have KS0 := sha.Sum A5 (64 + m) c5 (mask 54 X ++ l') w5 hr5 (hT.keep hbw5)
  rw [← hI] at KS0
  have KS := Lib.hid KS0
  have HI := Lib.hid (And.intro hI hIl)
  have hw45 := H45.lt
  clear hown5 hr5 hI hIl KS0 hb5 H4 HR4 hb4 o4 H3 HR3 hb3
  go_wp2_with fail
  refine (KS.out).mono ?_
  rintro e w6 ⟨rfl, hb6⟩
  have hbw6 := hbw5.trans (hb6.mono hbw5.size)
  have H46 := H45.keep hb6 hw45
  have HR6 := HR5.keep hb6 HR5.lt
  have HK := newKey w6
  have H47 := H46.alloc (.cells #[.int .u8 0, .int .u8 0, .int .u8 0, .int .u8 0, .int .u8 0, .int .u8 0, .int .u8 0, .int .u8 0, .int .u8 0, .int .u8 0, .int .u8 0, .int .u8 0, .int .u8 0, .int .u8 0, .int .u8 0, .int .u8 0, .int .u8 0, .int .u8 0, .int .u8 0, .int .u8 0, .int .u8 0, .int .u8 0, .int .u8 0, .int .u8 0, .int .u8 0, .int .u8 0, .int .u8 0, .int .u8 0, .int .u8 0, .int .u8 0, .int .u8 0, .int .u8 0] 23)
  have HR7 := HR6.alloc (.cells #[.int .u8 0, .int .u8 0, .int .u8 0, .int .u8 0, .int .u8 0, .int .u8 0, .int .u8 0, .int .u8 0, .int .u8 0, .int .u8 0, .int .u8 0, .int .u8 0, .int .u8 0, .int .u8 0, .int .u8 0, .int .u8 0, .int .u8 0, .int .u8 0, .int .u8 0, .int .u8 0, .int .u8 0, .int .u8 0, .int .u8 0, .int .u8 0, .int .u8 0, .int .u8 0, .int .u8 0, .int .u8 0, .int .u8 0, .int .u8 0, .int .u8 0, .int .u8 0] 23)
  have hb7 := newKey_below hbw6 hbw6.size
  have hr6 := HR6.lt
  have hw46 := H46.lt
  clear KS hbw5 H45 HR5 hb6 H46 HR6
  go_wp2_with ((with_reducible refine wpList_store_key rfl (.tmp 6) (.tmp 12) rfl w6.heap.size rfl I HI.out.2 rfl zkey HK rfl ?_); intro w8 o8 H8)
  have H48 := H47.only o8 (by omega)
  have HR8 := HR7.only o8 (by omega)
  have hb8 := o8.below hb7 hbw6.size
  have hI8 := H8.bytes 32 HI.out.2 (by simp [maxLen])
  clear HK H47 HR7 hb7 o8 hbw6
  have KM := Lib.hid (show Calls Tryd.prog 25 #[.agg (X.map bv).toArray, .int .u8 92, .slice (some ⟨w6.heap.size, 0, none⟩) 32 32] w8.drew (fun e w' => ∃ v, e = .returned v ∧ w'.ownsRow w8.drew.heap.size 5 1 v 96 ((mask 92 X ++ I).map bv) ∧ Below w8.drew.heap.size w8.drew w') from masked X H0.out.2 92 (by omega) (some ⟨w6.heap.size, 0, none⟩) 32 32 I w8.drew (hI8.keep (Below.refl _ _).drew) (by omega))
  obtain ⟨R, hR⟩ : ∃ R, R = shaN (mask 92 X ++ I) := ⟨_, rfl⟩
  have hRl : R.length = 32 := by rw [hR, shaN_len]
  have hRm : R = macN l l' := by rw [hR, HI.out.1, H0.out.1, macN]
  have KT := Lib.hid (fun (A9 : Option Addr) (c9 : Nat) (w9 : World) (hb9 : Below w8.drew.heap.size w8.drew w9) (h : Row w9 A9 96 c9 ((mask 92 X ++ I).map bv)) => show Calls Tryd.prog 24 #[.slice A9 96 c9] w9 fun e w' => e = .returned (.agg (R.map bv).toArray) ∧ Below w9.heap.size w9 w' by
    rw [hR]
    exact sha.Sum A9 96 c9 _ w9 h (hT.keep (hb8.drew.trans (hb9.mono hb8.size))))
  have HC := Lib.hid (fun (u : World) (hb : Below w8.drew.heap.size w8.drew u) => Has.keep (w := w8.drew) HR8 hb HR8.lt)
  have HCT := Lib.hid (fun (u : World) (h : Has u w.heap.size 23 zkey) => Has.there h 0 (R.map bv).length (by rw [List.length_map, hRl]; decide))
  have SR := Lib.hid (show (Tryd.prog.info? 23).map (·.size) = some (R.map bv).length by rw [List.length_map, hRl]; exact size_key)
  have HRR := Lib.hid (And.intro hRl hRm)
  have hu1 := Tryd.underlying43
  have hi1 := SX.out
  have hone1 := OX.out
  have hrg1 : w8.rangeAt w2.heap.size 0 (X.map bv) := Has.range H48 0 (X.map bv) (by rw [List.drop_zero, List.take_length])
  have HRG := Lib.hid (fun (u : World) (h : Below w8.drew.heap.size w8.drew u) => Has.range (Has.keep (w := w8.drew) H48 h H48.lt) 0 (X.map bv) (by rw [List.drop_zero, List.take_length]))
  have HRS := Lib.hid (fun (u : World) (h : Below w8.drew.heap.size w8.drew u) => Has.range ((Has.keep (w := w8.drew) H48 h H48.lt).only (Only.setCells w.heap.size (R.map bv) 0 u) (by omega)) 0 (X.map bv) (by rw [List.drop_zero, List.take_length]))
  have hu2 := Tryd.underlying23
  have hi2 := SR.out
  have hone2 := one_bv R
  have hk1 := H0.out.2
  clear hR hRl hRm H48 H8 hI8
  go_region_held (fun w' => w'.rangeAt w2.heap.size 0 (X.map bv))
    (first | exact hrg1 | exact HRG.out _ hb9 | exact HRG.out _ (hb9.trans (hb10.mono hb9.size)) | exact HRS.out _ (hb9.trans (hb10.mono hb9.size)))
    (first
    | (go_at_call 25; with_reducible refine (KM.out).mono ?_; rintro e w9 ⟨v9, rfl, hown9, hb9⟩; obtain ⟨A9, c9, rfl, hr9⟩ := Row.own hown9)
    | (go_at_call 24; with_reducible refine (KT.out A9 c9 w9 hb9 hr9).mono ?_; rintro e w10 ⟨rfl, hb10⟩; have HR10 := HC.out w10 (hb9.trans (hb10.mono hb9.size)); have hth := HCT.out w10 HR10))
  have hB := hb9.trans (hb10.mono hb9.size)
  have hb12 := (Only.setCells w.heap.size (R.map bv) 0 w10).below (hb8.drew.trans (hB.mono hb8.size)) (Nat.le_refl _)
  have H12 := Has.setCells (R.map bv) 0 w10 _ HR10 (by rw [List.length_map, HRR.out.1]; decide)
  rw [show splice zkey 0 (R.map bv) = R.map bv by rw [splice, List.length_map, HRR.out.1, show List.drop (0 + 32) zkey = [] from rfl]; simp] at H12
  clear hth HR10 hu1 hi1 hone1 hrg1 hu2 hi2 hone2 hk1
  go_wp2
  refine ret_key Tryd.results18 w.heap.size ?_ R HRR.out.1 H12 ?_ ⟨by rw [HRR.out.2], hb12⟩
  · rfl
  · rfl
end mac
end Go.Proofs.YtekpekmfddbiaaaDoor
