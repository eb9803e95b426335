/-
  Contract of the reference's ReadSubmission.
-/
import Derived.Test.YtiilgkajijnbcaaApiSub
import Derived.Test.YtiilgkajijnbcaaRdKey
import Derived.Test.YtiilgkajijnbcaaRdNote
namespace Go.Proofs.Ytiilgkajijnbcaa
open Go.ChangeShapes Go.WideShapes Go.ChangeAt Go.RowKit
set_option linter.unusedVariables false
set_option linter.unusedSimpArgs false

set_option maxRecDepth 10000 in
set_option maxHeartbeats 900000 in
theorem refReadSubmission' (A : Option Addr) (n c : Nat) (b : List UInt8) (w : World) (hb : Bytes w A n c b) :
    Calls Try.prog 27 #[.slice A n c] w fun e w' => ∃ (d : SubD) (A' : Option Addr) (m c' k : Nat), e = .returned (.tuple #[.agg (scells d.u d.x A' m c' d.pc d.ps d.sc d.ss).toArray, .int .i64 (k : Int)]) ∧ submissionS b = (d, k) ∧ Bytes w' A' m c' d.l ∧ d.ok ∧ Below w.heap.size w w' := by
  obtain ⟨r, hr0⟩ : ∃ r : SubR b, True := ⟨subR b, trivial⟩
  obtain ⟨o1, o2, o3, o4, o5, o6, o7, o8, hul, hn20, hxs⟩ := r.ok
  obtain ⟨q, h9⟩ : ∃ q, endS b r.s8 = q := ⟨_, rfl⟩
  have hspec := submissionS_eq r h9
  obtain ⟨RR, hRR⟩ : ∃ R, submissionS b = R := ⟨_, rfl⟩
  rw [hRR] at hspec ⊢
  clear hRR
  obtain ⟨u, x, nn, l, pc, ps, sc, ss, s1, s2, s3, s4, s5, s6, s7, s8, h1, h2, h3, h4, h5, h6, h7, h8⟩ := r
  simp only [] at o1 o2 o3 o4 o5 o6 o7 o8 hul hn20 h9 hspec hxs
  have HD := Lib.hid (show SubD.ok ⟨u, x, l, pc, ps, sc, ss⟩ from ⟨hul, hxs⟩)
  have hb1 := (Below.refl w.heap.size w).alloc (Nat.le_refl _) (.cells #[.int .u8 0, .int .u8 0, .int .u8 0, .int .u8 0, .int .u8 0, .int .u8 0, .int .u8 0, .int .u8 0, .int .u8 0, .int .u8 0, .int .u8 0, .int .u8 0, .int .u8 0, .int .u8 0, .int .u8 0, .int .u8 0, .int .u8 0, .int .u8 0, .int .u8 0, .int .u8 0, .int .u8 0, .int .u8 0, .int .u8 0, .int .u8 0, .int .u8 0, .int .u8 0, .int .u8 0, .int .u8 0, .int .u8 0, .int .u8 0, .int .u8 0, .int .u8 0, .int .u64 0, .slice none 0 0, .int .u64 0, .int .u64 0, .int .u64 0, .int .u64 0] 43)
  have hb2 := hb1.alloc hb1.size (.cells #[.slice A n c, .int .i64 0, .int .i64 0] 104)
  have b3 := hb2.alloc hb2.size (.cells #[.int .u8 0, .int .u8 0, .int .u8 0, .int .u8 0, .int .u8 0, .int .u8 0, .int .u8 0, .int .u8 0, .int .u8 0, .int .u8 0, .int .u8 0, .int .u8 0, .int .u8 0, .int .u8 0, .int .u8 0, .int .u8 0, .int .u8 0, .int .u8 0, .int .u8 0, .int .u8 0, .int .u8 0, .int .u8 0, .int .u8 0, .int .u8 0, .int .u8 0, .int .u8 0, .int .u8 0, .int .u8 0, .int .u8 0, .int .u8 0, .int .u8 0, .int .u8 0, .int .u64 0, .slice none 0 0, .int .u64 0, .int .u64 0, .int .u64 0, .int .u64 0] 43)
  have HR3 := ((newSub w).alloc (.cells #[.slice A n c, .int .i64 0, .int .i64 0] 104)).alloc (.cells #[.int .u8 0, .int .u8 0, .int .u8 0, .int .u8 0, .int .u8 0, .int .u8 0, .int .u8 0, .int .u8 0, .int .u8 0, .int .u8 0, .int .u8 0, .int .u8 0, .int .u8 0, .int .u8 0, .int .u8 0, .int .u8 0, .int .u8 0, .int .u8 0, .int .u8 0, .int .u8 0, .int .u8 0, .int .u8 0, .int .u8 0, .int .u8 0, .int .u8 0, .int .u8 0, .int .u8 0, .int .u8 0, .int .u8 0, .int .u8 0, .int .u8 0, .int .u8 0, .int .u64 0, .slice none 0 0, .int .u64 0, .int .u64 0, .int .u64 0, .int .u64 0] 43)
  have H3 := ((newRdr (w.alloc (.cells #[.int .u8 0, .int .u8 0, .int .u8 0, .int .u8 0, .int .u8 0, .int .u8 0, .int .u8 0, .int .u8 0, .int .u8 0, .int .u8 0, .int .u8 0, .int .u8 0, .int .u8 0, .int .u8 0, .int .u8 0, .int .u8 0, .int .u8 0, .int .u8 0, .int .u8 0, .int .u8 0, .int .u8 0, .int .u8 0, .int .u8 0, .int .u8 0, .int .u8 0, .int .u8 0, .int .u8 0, .int .u8 0, .int .u8 0, .int .u8 0, .int .u8 0, .int .u8 0, .int .u64 0, .slice none 0 0, .int .u64 0, .int .u64 0, .int .u64 0, .int .u64 0] 43)) A n c).alloc (.cells #[.int .u8 0, .int .u8 0, .int .u8 0, .int .u8 0, .int .u8 0, .int .u8 0, .int .u8 0, .int .u8 0, .int .u8 0, .int .u8 0, .int .u8 0, .int .u8 0, .int .u8 0, .int .u8 0, .int .u8 0, .int .u8 0, .int .u8 0, .int .u8 0, .int .u8 0, .int .u8 0, .int .u8 0, .int .u8 0, .int .u8 0, .int .u8 0, .int .u8 0, .int .u8 0, .int .u8 0, .int .u8 0, .int .u8 0, .int .u8 0, .int .u8 0, .int .u8 0, .int .u64 0, .slice none 0 0, .int .u64 0, .int .u64 0, .int .u64 0, .int .u64 0] 43))
  have HN3 := newSub ((w.alloc (.cells #[.int .u8 0, .int .u8 0, .int .u8 0, .int .u8 0, .int .u8 0, .int .u8 0, .int .u8 0, .int .u8 0, .int .u8 0, .int .u8 0, .int .u8 0, .int .u8 0, .int .u8 0, .int .u8 0, .int .u8 0, .int .u8 0, .int .u8 0, .int .u8 0, .int .u8 0, .int .u8 0, .int .u8 0, .int .u8 0, .int .u8 0, .int .u8 0, .int .u8 0, .int .u8 0, .int .u8 0, .int .u8 0, .int .u8 0, .int .u8 0, .int .u8 0, .int .u8 0, .int .u64 0, .slice none 0 0, .int .u64 0, .int .u64 0, .int .u64 0, .int .u64 0] 43)).alloc (.cells #[.slice A n c, .int .i64 0, .int .i64 0] 104))
  rw [show (w.alloc (.cells #[.int .u8 0, .int .u8 0, .int .u8 0, .int .u8 0, .int .u8 0, .int .u8 0, .int .u8 0, .int .u8 0, .int .u8 0, .int .u8 0, .int .u8 0, .int .u8 0, .int .u8 0, .int .u8 0, .int .u8 0, .int .u8 0, .int .u8 0, .int .u8 0, .int .u8 0, .int .u8 0, .int .u8 0, .int .u8 0, .int .u8 0, .int .u8 0, .int .u8 0, .int .u8 0, .int .u8 0, .int .u8 0, .int .u8 0, .int .u8 0, .int .u8 0, .int .u8 0, .int .u64 0, .slice none 0 0, .int .u64 0, .int .u64 0, .int .u64 0, .int .u64 0] 43)).heap.size = w.heap.size + 1 by simp] at H3
  rw [show ((w.alloc (.cells #[.int .u8 0, .int .u8 0, .int .u8 0, .int .u8 0, .int .u8 0, .int .u8 0, .int .u8 0, .int .u8 0, .int .u8 0, .int .u8 0, .int .u8 0, .int .u8 0, .int .u8 0, .int .u8 0, .int .u8 0, .int .u8 0, .int .u8 0, .int .u8 0, .int .u8 0, .int .u8 0, .int .u8 0, .int .u8 0, .int .u8 0, .int .u8 0, .int .u8 0, .int .u8 0, .int .u8 0, .int .u8 0, .int .u8 0, .int .u8 0, .int .u8 0, .int .u8 0, .int .u64 0, .slice none 0 0, .int .u64 0, .int .u64 0, .int .u64 0, .int .u64 0] 43)).alloc (.cells #[.slice A n c, .int .i64 0, .int .i64 0] 104)).heap.size = w.heap.size + 2 by simp] at HN3
  have hB3 := hb.keep b3
  have hO : Off (w.heap.size + 1) A n := Off.of_row hb (by omega)
  have z3 : (((w.alloc (.cells #[.int .u8 0, .int .u8 0, .int .u8 0, .int .u8 0, .int .u8 0, .int .u8 0, .int .u8 0, .int .u8 0, .int .u8 0, .int .u8 0, .int .u8 0, .int .u8 0, .int .u8 0, .int .u8 0, .int .u8 0, .int .u8 0, .int .u8 0, .int .u8 0, .int .u8 0, .int .u8 0, .int .u8 0, .int .u8 0, .int .u8 0, .int .u8 0, .int .u8 0, .int .u8 0, .int .u8 0, .int .u8 0, .int .u8 0, .int .u8 0, .int .u8 0, .int .u8 0, .int .u64 0, .slice none 0 0, .int .u64 0, .int .u64 0, .int .u64 0, .int .u64 0] 43)).alloc (.cells #[.slice A n c, .int .i64 0, .int .i64 0] 104)).alloc (.cells #[.int .u8 0, .int .u8 0, .int .u8 0, .int .u8 0, .int .u8 0, .int .u8 0, .int .u8 0, .int .u8 0, .int .u8 0, .int .u8 0, .int .u8 0, .int .u8 0, .int .u8 0, .int .u8 0, .int .u8 0, .int .u8 0, .int .u8 0, .int .u8 0, .int .u8 0, .int .u8 0, .int .u8 0, .int .u8 0, .int .u8 0, .int .u8 0, .int .u8 0, .int .u8 0, .int .u8 0, .int .u8 0, .int .u8 0, .int .u8 0, .int .u8 0, .int .u8 0, .int .u64 0, .slice none 0 0, .int .u64 0, .int .u64 0, .int .u64 0, .int .u64 0] 43)).heap.size = w.heap.size + 3 := by simp
  have o0 := St.start b
  have HBL := Lib.hid hb.len
  have HSP := Lib.hid hspec
  have HU := Lib.hid hul
  have K1 := Lib.hid (fun (w : World) (g : Nat) (H : Rdr w g A n c ⟨0, 0⟩) (hb : Bytes w A n c b) (hO : Off g A n) => rdKey' g A n c b ⟨0, 0⟩ s1 u h1 o0 w H hb hO)
  have K2 := Lib.hid (fun (w : World) (g : Nat) (H : Rdr w g A n c s1) (hb : Bytes w A n c b) (hO : Off g A n) => rdElem' g A n c b s1 s2 x h2 o1 w H hb hO)
  have K3 := Lib.hid (fun (w : World) (g : Nat) (H : Rdr w g A n c s2) (hb : Bytes w A n c b) (hO : Off g A n) => show Calls Try.prog 55 #[.pointer (some ⟨g, 0, none⟩), .int .u64 1048576] w (fun e w' => e = .returned (.int .i64 (nn : Int)) ∧ Rdr w' g A n c s3 ∧ Save g w w') from rdMost' g A n c b s2 s3 1048576 nn h3 (by omega) o2 w H hb hO)
  have K4 := Lib.hid (fun (w : World) (g : Nat) (H : Rdr w g A n c s3) (hb : Bytes w A n c b) (hO : Off g A n) => rdTake' g A n c b s3 s4 nn l h4 o3 (by omega) w H hb hO)
  have K5 := Lib.hid (fun (w : World) (g : Nat) (H : Rdr w g A n c s4) (hb : Bytes w A n c b) (hO : Off g A n) => rdNum' g A n c b s4 s5 pc h5 o4 w H hb hO)
  have K6 := Lib.hid (fun (w : World) (g : Nat) (H : Rdr w g A n c s5) (hb : Bytes w A n c b) (hO : Off g A n) => rdNum' g A n c b s5 s6 ps h6 o5 w H hb hO)
  have K7 := Lib.hid (fun (w : World) (g : Nat) (H : Rdr w g A n c s6) (hb : Bytes w A n c b) (hO : Off g A n) => rdNum' g A n c b s6 s7 sc h7 o6 w H hb hO)
  have K8 := Lib.hid (fun (w : World) (g : Nat) (H : Rdr w g A n c s7) (hb : Bytes w A n c b) (hO : Off g A n) => rdNum' g A n c b s7 s8 ss h8 o7 w H hb hO)
  have K9 := Lib.hid (fun (w : World) (g : Nat) (H : Rdr w g A n c s8) => rdEnd' g A n c b s8 q h9 hb.len w H)
  have HB0 := Lib.hid hb
  clear hxs hb1 hb2 o0 o1 o2 o3 o4 o5 o6 o7 o8 hul hn20 hr0 h1 h2 h3 h4 h5 h6 h7 h8 h9 hspec
  go_enter Try.func27, Try.ntmps27
  go_wp2_with fail
  change Calls _ _ _ (((w.alloc (.cells #[.int .u8 0, .int .u8 0, .int .u8 0, .int .u8 0, .int .u8 0, .int .u8 0, .int .u8 0, .int .u8 0, .int .u8 0, .int .u8 0, .int .u8 0, .int .u8 0, .int .u8 0, .int .u8 0, .int .u8 0, .int .u8 0, .int .u8 0, .int .u8 0, .int .u8 0, .int .u8 0, .int .u8 0, .int .u8 0, .int .u8 0, .int .u8 0, .int .u8 0, .int .u8 0, .int .u8 0, .int .u8 0, .int .u8 0, .int .u8 0, .int .u8 0, .int .u8 0, .int .u64 0, .slice none 0 0, .int .u64 0, .int .u64 0, .int .u64 0, .int .u64 0] 43)).alloc (.cells #[.slice A n c, .int .i64 0, .int .i64 0] 104)).alloc (.cells #[.int .u8 0, .int .u8 0, .int .u8 0, .int .u8 0, .int .u8 0, .int .u8 0, .int .u8 0, .int .u8 0, .int .u8 0, .int .u8 0, .int .u8 0, .int .u8 0, .int .u8 0, .int .u8 0, .int .u8 0, .int .u8 0, .int .u8 0, .int .u8 0, .int .u8 0, .int .u8 0, .int .u8 0, .int .u8 0, .int .u8 0, .int .u8 0, .int .u8 0, .int .u8 0, .int .u8 0, .int .u8 0, .int .u8 0, .int .u8 0, .int .u8 0, .int .u8 0, .int .u64 0, .slice none 0 0, .int .u64 0, .int .u64 0, .int .u64 0, .int .u64 0] 43)) _
  generalize (((w.alloc (.cells #[.int .u8 0, .int .u8 0, .int .u8 0, .int .u8 0, .int .u8 0, .int .u8 0, .int .u8 0, .int .u8 0, .int .u8 0, .int .u8 0, .int .u8 0, .int .u8 0, .int .u8 0, .int .u8 0, .int .u8 0, .int .u8 0, .int .u8 0, .int .u8 0, .int .u8 0, .int .u8 0, .int .u8 0, .int .u8 0, .int .u8 0, .int .u8 0, .int .u8 0, .int .u8 0, .int .u8 0, .int .u8 0, .int .u8 0, .int .u8 0, .int .u8 0, .int .u8 0, .int .u64 0, .slice none 0 0, .int .u64 0, .int .u64 0, .int .u64 0, .int .u64 0] 43)).alloc (.cells #[.slice A n c, .int .i64 0, .int .i64 0] 104)).alloc (.cells #[.int .u8 0, .int .u8 0, .int .u8 0, .int .u8 0, .int .u8 0, .int .u8 0, .int .u8 0, .int .u8 0, .int .u8 0, .int .u8 0, .int .u8 0, .int .u8 0, .int .u8 0, .int .u8 0, .int .u8 0, .int .u8 0, .int .u8 0, .int .u8 0, .int .u8 0, .int .u8 0, .int .u8 0, .int .u8 0, .int .u8 0, .int .u8 0, .int .u8 0, .int .u8 0, .int .u8 0, .int .u8 0, .int .u8 0, .int .u8 0, .int .u8 0, .int .u8 0, .int .u64 0, .slice none 0 0, .int .u64 0, .int .u64 0, .int .u64 0, .int .u64 0] 43)) = w3 at *
  have HU0 : (List.replicate 32 (0 : UInt8)).length = 32 := rfl
  refine (K1.out w3 (w.heap.size + 1) H3 hB3 hO).mono ?_
  rintro e w4 ⟨rfl, H4, S4⟩
  have HR4 := HR3.save S4 (by omega)
  have HN4 := HN3.save S4 (by omega)
  have hB4 := Row.save hB3 S4 hO
  have b4 := S4.below b3 (by omega) (by omega)
  have z4 := S4.size
  clear HR3 HN3 hB3 H3 b3 S4 K1
  go_wp2_with ((with_reducible refine wpList_store_part rfl 36 (.tmp 13) (.tmp 12) rfl (w.heap.size + 2) 0 rfl (u.map bv) rfl 43 _ HN4 (by rw [List.length_map, HU.out]; exact size_key) (by rw [List.length_map, HU.out, scells_len HU0]; omega) (one_bv u) ?_); intro w5 o5 HN50; rw [scells_key HU0 u HU.out] at HN50; have H5 := H4.only o5 (by omega); have HR5 := HR4.only o5 (by omega); have hB5 := Row.only hB4 o5 (Off.of_row HB0.out (by omega)); have b5 := o5.below b4 (by omega); have z5 := o5.size)
  have HN5 := HN50
  clear HU0 H4 HR4 HN4 HN50 hB4 b4 o5
  have HU0 := HU.out
  refine (K2.out w5 (w.heap.size + 1) H5 hB5 hO).mono ?_
  rintro e w6 ⟨rfl, H6, S6⟩
  have HR6 := HR5.save S6 (by omega)
  have HN6 := HN5.save S6 (by omega)
  have hB6 := Row.save hB5 S6 hO
  have b6 := S6.below b5 (by omega) (by omega)
  have z6 := S6.size
  clear HR5 HN5 hB5 H5 b5 S6 K2
  have cc6 : w6.cell? ⟨w.heap.size + 2, 32, none⟩ = some (.int .u64 0) := (HN6.cell 32).trans (scells_at HU0 0 (by omega))
  have ff6 := HN6.froz 32
  have HN70 := HN6.set 32 (.int .u64 (x : Int))
  rw [show (scells u 0 none 0 0 0 0 0 0).set 32 (.int .u64 (x : Int)) = (scells u x none 0 0 0 0 0 0) from scells_set HU0 0 _] at HN70
  go_wp2_with fail
  have H7 := H6.only (Only.setCell w6 (w.heap.size + 2) 32 (.int .u64 (x : Int))) (by omega)
  have HR7 := HR6.only (Only.setCell w6 (w.heap.size + 2) 32 (.int .u64 (x : Int))) (by omega)
  have HN7 : Has (w6.setCell ⟨w.heap.size + 2, 32, none⟩ (.int .u64 (x : Int))) (w.heap.size + 2) 43 (scells u x none 0 0 0 0 0 0) := HN70
  have hB7 := Row.only hB6 (Only.setCell w6 (w.heap.size + 2) 32 (.int .u64 (x : Int))) (Off.of_row hb (by omega))
  have b7 := (Only.setCell w6 (w.heap.size + 2) 32 (.int .u64 (x : Int))).below b6 (by omega)
  have z7 := (Only.setCell w6 (w.heap.size + 2) 32 (.int .u64 (x : Int))).size
  have FF7 := Lib.hid (Only.setCell w6 (w.heap.size + 2) 32 (.int .u64 (x : Int)))
  change Calls _ _ _ (w6.setCell ⟨w.heap.size + 2, 32, none⟩ (.int .u64 (x : Int))) _
  generalize (w6.setCell ⟨w.heap.size + 2, 32, none⟩ (.int .u64 (x : Int))) = w7 at *
  clear H6 HR6 HN6 HN70 hB6 b6 cc6 ff6
  refine (K3.out w7 (w.heap.size + 1) H7 hB7 hO).mono ?_
  rintro e w8 ⟨rfl, H8, S8⟩
  have HR8 := HR7.save S8 (by omega)
  have HN8 := HN7.save S8 (by omega)
  have hB8 := Row.save hB7 S8 hO
  have b8 := S8.below b7 (by omega) (by omega)
  have z8 := S8.size
  clear HR7 HN7 hB7 H7 b7 S8 K3
  go_wp2_with fail
  refine (K4.out w8 (w.heap.size + 1) H8 hB8 hO).mono ?_
  rintro e w9 ⟨v9, rfl, hown9, H9, S9⟩
  obtain ⟨A9, c9, rfl, hr9⟩ := Row.own hown9
  have off9 := own_off hown9 (show w.heap.size + 2 < w8.heap.size by omega) l.length
  have off9r := own_off hown9 (show w.heap.size < w8.heap.size by omega) l.length
  have off9g := own_off hown9 (show w.heap.size + 1 < w8.heap.size by omega) l.length
  have HR9 := HR8.save S9 (by omega)
  have HN9 := HN8.save S9 (by omega)
  have hB9 := Row.save hB8 S9 hO
  have b9 := S9.below b8 (by omega) (by omega)
  have z9 := S9.size
  clear HR8 HN8 hB8 H8 b8 S9 K4 hown9
  have cc9 : w9.cell? ⟨w.heap.size + 2, 33, none⟩ = some (.slice none 0 0) := (HN9.cell 33).trans (scells_at HU0 1 (by omega))
  have ff9 := HN9.froz 33
  have HN100 := HN9.set 33 (.slice A9 l.length c9)
  rw [show (scells u x none 0 0 0 0 0 0).set 33 (.slice A9 l.length c9) = (scells u x A9 l.length c9 0 0 0 0) from scells_set HU0 1 _] at HN100
  go_wp2_with fail
  have H10 := H9.only (Only.setCell w9 (w.heap.size + 2) 33 (.slice A9 l.length c9)) (by omega)
  have HR10 := HR9.only (Only.setCell w9 (w.heap.size + 2) 33 (.slice A9 l.length c9)) (by omega)
  have HN10 : Has (w9.setCell ⟨w.heap.size + 2, 33, none⟩ (.slice A9 l.length c9)) (w.heap.size + 2) 43 (scells u x A9 l.length c9 0 0 0 0) := HN100
  have hB10 := Row.only hB9 (Only.setCell w9 (w.heap.size + 2) 33 (.slice A9 l.length c9)) (Off.of_row hb (by omega))
  have b10 := (Only.setCell w9 (w.heap.size + 2) 33 (.slice A9 l.length c9)).below b9 (by omega)
  have z10 := (Only.setCell w9 (w.heap.size + 2) 33 (.slice A9 l.length c9)).size
  have FF10 := Lib.hid (Only.setCell w9 (w.heap.size + 2) 33 (.slice A9 l.length c9))
  change Calls _ _ _ (w9.setCell ⟨w.heap.size + 2, 33, none⟩ (.slice A9 l.length c9)) _
  generalize (w9.setCell ⟨w.heap.size + 2, 33, none⟩ (.slice A9 l.length c9)) = w10 at *
  clear H9 HR9 HN9 HN100 hB9 b9 cc9 ff9
  have r10 : Bytes w10 A9 l.length c9 l := Row.only hr9 FF10.out off9
  clear hr9
  refine (K5.out w10 (w.heap.size + 1) H10 hB10 hO).mono ?_
  rintro e w11 ⟨rfl, H11, S11⟩
  have HR11 := HR10.save S11 (by omega)
  have HN11 := HN10.save S11 (by omega)
  have hB11 := Row.save hB10 S11 hO
  have b11 := S11.below b10 (by omega) (by omega)
  have z11 := S11.size
  have r11 := Row.save r10 S11 off9g
  clear HR10 HN10 hB10 H10 b10 S11 K5 r10
  have cc11 : w11.cell? ⟨w.heap.size + 2, 34, none⟩ = some (.int .u64 0) := (HN11.cell 34).trans (scells_at HU0 2 (by omega))
  have ff11 := HN11.froz 34
  have HN120 := HN11.set 34 (.int .u64 (pc : Int))
  rw [show (scells u x A9 l.length c9 0 0 0 0).set 34 (.int .u64 (pc : Int)) = (scells u x A9 l.length c9 pc 0 0 0) from scells_set HU0 2 _] at HN120
  go_wp2_with fail
  have H12 := H11.only (Only.setCell w11 (w.heap.size + 2) 34 (.int .u64 (pc : Int))) (by omega)
  have HR12 := HR11.only (Only.setCell w11 (w.heap.size + 2) 34 (.int .u64 (pc : Int))) (by omega)
  have HN12 : Has (w11.setCell ⟨w.heap.size + 2, 34, none⟩ (.int .u64 (pc : Int))) (w.heap.size + 2) 43 (scells u x A9 l.length c9 pc 0 0 0) := HN120
  have hB12 := Row.only hB11 (Only.setCell w11 (w.heap.size + 2) 34 (.int .u64 (pc : Int))) (Off.of_row hb (by omega))
  have b12 := (Only.setCell w11 (w.heap.size + 2) 34 (.int .u64 (pc : Int))).below b11 (by omega)
  have z12 := (Only.setCell w11 (w.heap.size + 2) 34 (.int .u64 (pc : Int))).size
  have FF12 := Lib.hid (Only.setCell w11 (w.heap.size + 2) 34 (.int .u64 (pc : Int)))
  change Calls _ _ _ (w11.setCell ⟨w.heap.size + 2, 34, none⟩ (.int .u64 (pc : Int))) _
  generalize (w11.setCell ⟨w.heap.size + 2, 34, none⟩ (.int .u64 (pc : Int))) = w12 at *
  clear H11 HR11 HN11 HN120 hB11 b11 cc11 ff11
  have r12 : Bytes w12 A9 l.length c9 l := Row.only r11 FF12.out off9
  clear r11
  refine (K6.out w12 (w.heap.size + 1) H12 hB12 hO).mono ?_
  rintro e w13 ⟨rfl, H13, S13⟩
  have HR13 := HR12.save S13 (by omega)
  have HN13 := HN12.save S13 (by omega)
  have hB13 := Row.save hB12 S13 hO
  have b13 := S13.below b12 (by omega) (by omega)
  have z13 := S13.size
  have r13 := Row.save r12 S13 off9g
  clear HR12 HN12 hB12 H12 b12 S13 K6 r12
  have cc13 : w13.cell? ⟨w.heap.size + 2, 35, none⟩ = some (.int .u64 0) := (HN13.cell 35).trans (scells_at HU0 3 (by omega))
  have ff13 := HN13.froz 35
  have HN140 := HN13.set 35 (.int .u64 (ps : Int))
  rw [show (scells u x A9 l.length c9 pc 0 0 0).set 35 (.int .u64 (ps : Int)) = (scells u x A9 l.length c9 pc ps 0 0) from scells_set HU0 3 _] at HN140
  go_wp2_with fail
  have H14 := H13.only (Only.setCell w13 (w.heap.size + 2) 35 (.int .u64 (ps : Int))) (by omega)
  have HR14 := HR13.only (Only.setCell w13 (w.heap.size + 2) 35 (.int .u64 (ps : Int))) (by omega)
  have HN14 : Has (w13.setCell ⟨w.heap.size + 2, 35, none⟩ (.int .u64 (ps : Int))) (w.heap.size + 2) 43 (scells u x A9 l.length c9 pc ps 0 0) := HN140
  have hB14 := Row.only hB13 (Only.setCell w13 (w.heap.size + 2) 35 (.int .u64 (ps : Int))) (Off.of_row hb (by omega))
  have b14 := (Only.setCell w13 (w.heap.size + 2) 35 (.int .u64 (ps : Int))).below b13 (by omega)
  have z14 := (Only.setCell w13 (w.heap.size + 2) 35 (.int .u64 (ps : Int))).size
  have FF14 := Lib.hid (Only.setCell w13 (w.heap.size + 2) 35 (.int .u64 (ps : Int)))
  change Calls _ _ _ (w13.setCell ⟨w.heap.size + 2, 35, none⟩ (.int .u64 (ps : Int))) _
  generalize (w13.setCell ⟨w.heap.size + 2, 35, none⟩ (.int .u64 (ps : Int))) = w14 at *
  clear H13 HR13 HN13 HN140 hB13 b13 cc13 ff13
  have r14 : Bytes w14 A9 l.length c9 l := Row.only r13 FF14.out off9
  clear r13
  refine (K7.out w14 (w.heap.size + 1) H14 hB14 hO).mono ?_
  rintro e w15 ⟨rfl, H15, S15⟩
  have HR15 := HR14.save S15 (by omega)
  have HN15 := HN14.save S15 (by omega)
  have hB15 := Row.save hB14 S15 hO
  have b15 := S15.below b14 (by omega) (by omega)
  have z15 := S15.size
  have r15 := Row.save r14 S15 off9g
  clear HR14 HN14 hB14 H14 b14 S15 K7 r14
  have cc15 : w15.cell? ⟨w.heap.size + 2, 36, none⟩ = some (.int .u64 0) := (HN15.cell 36).trans (scells_at HU0 4 (by omega))
  have ff15 := HN15.froz 36
  have HN160 := HN15.set 36 (.int .u64 (sc : Int))
  rw [show (scells u x A9 l.length c9 pc ps 0 0).set 36 (.int .u64 (sc : Int)) = (scells u x A9 l.length c9 pc ps sc 0) from scells_set HU0 4 _] at HN160
  go_wp2_with fail
  have H16 := H15.only (Only.setCell w15 (w.heap.size + 2) 36 (.int .u64 (sc : Int))) (by omega)
  have HR16 := HR15.only (Only.setCell w15 (w.heap.size + 2) 36 (.int .u64 (sc : Int))) (by omega)
  have HN16 : Has (w15.setCell ⟨w.heap.size + 2, 36, none⟩ (.int .u64 (sc : Int))) (w.heap.size + 2) 43 (scells u x A9 l.length c9 pc ps sc 0) := HN160
  have hB16 := Row.only hB15 (Only.setCell w15 (w.heap.size + 2) 36 (.int .u64 (sc : Int))) (Off.of_row hb (by omega))
  have b16 := (Only.setCell w15 (w.heap.size + 2) 36 (.int .u64 (sc : Int))).below b15 (by omega)
  have z16 := (Only.setCell w15 (w.heap.size + 2) 36 (.int .u64 (sc : Int))).size
  have FF16 := Lib.hid (Only.setCell w15 (w.heap.size + 2) 36 (.int .u64 (sc : Int)))
  change Calls _ _ _ (w15.setCell ⟨w.heap.size + 2, 36, none⟩ (.int .u64 (sc : Int))) _
  generalize (w15.setCell ⟨w.heap.size + 2, 36, none⟩ (.int .u64 (sc : Int))) = w16 at *
  clear H15 HR15 HN15 HN160 hB15 b15 cc15 ff15
  have r16 : Bytes w16 A9 l.length c9 l := Row.only r15 FF16.out off9
  clear r15
  refine (K8.out w16 (w.heap.size + 1) H16 hB16 hO).mono ?_
  rintro e w17 ⟨rfl, H17, S17⟩
  have HR17 := HR16.save S17 (by omega)
  have HN17 := HN16.save S17 (by omega)
  have hB17 := Row.save hB16 S17 hO
  have b17 := S17.below b16 (by omega) (by omega)
  have z17 := S17.size
  have r17 := Row.save r16 S17 off9g
  clear HR16 HN16 hB16 H16 b16 S17 K8 r16
  have cc17 : w17.cell? ⟨w.heap.size + 2, 37, none⟩ = some (.int .u64 0) := (HN17.cell 37).trans (scells_at HU0 5 (by omega))
  have ff17 := HN17.froz 37
  have HN180 := HN17.set 37 (.int .u64 (ss : Int))
  rw [show (scells u x A9 l.length c9 pc ps sc 0).set 37 (.int .u64 (ss : Int)) = (scells u x A9 l.length c9 pc ps sc ss) from scells_set HU0 5 _] at HN180
  go_wp2_with fail
  have H18 := H17.only (Only.setCell w17 (w.heap.size + 2) 37 (.int .u64 (ss : Int))) (by omega)
  have HR18 := HR17.only (Only.setCell w17 (w.heap.size + 2) 37 (.int .u64 (ss : Int))) (by omega)
  have HN18 : Has (w17.setCell ⟨w.heap.size + 2, 37, none⟩ (.int .u64 (ss : Int))) (w.heap.size + 2) 43 (scells u x A9 l.length c9 pc ps sc ss) := HN180
  have hB18 := Row.only hB17 (Only.setCell w17 (w.heap.size + 2) 37 (.int .u64 (ss : Int))) (Off.of_row hb (by omega))
  have b18 := (Only.setCell w17 (w.heap.size + 2) 37 (.int .u64 (ss : Int))).below b17 (by omega)
  have z18 := (Only.setCell w17 (w.heap.size + 2) 37 (.int .u64 (ss : Int))).size
  have FF18 := Lib.hid (Only.setCell w17 (w.heap.size + 2) 37 (.int .u64 (ss : Int)))
  change Calls _ _ _ (w17.setCell ⟨w.heap.size + 2, 37, none⟩ (.int .u64 (ss : Int))) _
  generalize (w17.setCell ⟨w.heap.size + 2, 37, none⟩ (.int .u64 (ss : Int))) = w18 at *
  clear H17 HR17 HN17 HN180 hB17 b17 cc17 ff17
  have r18 : Bytes w18 A9 l.length c9 l := Row.only r17 FF18.out off9
  clear r17
  refine (K9.out w18 (w.heap.size + 1) H18).mono ?_
  rintro e w19 ⟨rfl, S19⟩
  have HR19 := HR18.save S19 (by omega)
  have HN19 := HN18.save S19 (by omega)
  have b19 := S19.below b18 (by omega) (by omega)
  have r19 : Bytes w19 A9 l.length c9 l := Row.save r18 S19 off9g
  have hlr := HR19.lt
  have hln := HN19.lt
  clear HR18 HN18 H18 hB18 b18 r18 S19 K9
  have HSP' := HSP.out
  by_cases hq : q = 0
  · subst hq
    rw [if_pos rfl] at HSP'
    have HS' := Lib.hid HSP'
    clear HSP' HSP
    go_wp2_with (first
      | ((with_reducible refine wpList_load_sub rfl (.tmp 5) rfl (w.heap.size + 2) rfl u x A9 l.length c9 pc ps sc ss HU0 HN19 ?_))
      | ((with_reducible refine wpList_store_sub rfl (.tmp 2) (.tmp 47) rfl w.heap.size rfl u x A9 l.length c9 pc ps sc ss HU0 rfl (scells (List.replicate 32 0) 0 none 0 0 0 0 0 0) HR19 rfl ?_); intro wz oz Hz))
    exact ret_has_tmp Try.results27 _ rfl w.heap.size rfl 43 (scells u x A9 l.length c9 pc ps sc ss) Hz _ Try.underlying43 rfl (by rw [scells_len HU0]; exact size_sub) rfl ⟨⟨u, x, l, pc, ps, sc, ss⟩, A9, l.length, c9, 0, rfl, HS'.out, Row.only r19 oz off9r, HD.out, oz.below b19 (Nat.le_refl _)⟩
  · have h1 : ((q : Int) == 0) = false := by simp; exact hq
    rw [if_neg hq] at HSP'
    have hbld : ∀ u, (Instr.build 43 #[]).run Try.prog u = .ok (.agg (scells (List.replicate 32 0) 0 none 0 0 0 0 0 0).toArray) u := fun u => run_build u _ #[] _ (by kernel_rfl)
    have HZL := Lib.hid (show (List.replicate 32 (0 : UInt8)).length = 32 from rfl)
    have HS' := Lib.hid HSP'
    clear HSP' HSP hq
    go_wp2_with (first
      | ((with_reducible refine wpList_store_sub rfl (.tmp 2) (.tmp 45) rfl w.heap.size rfl (List.replicate 32 0) 0 none 0 0 0 0 0 0 HZL.out rfl (scells (List.replicate 32 0) 0 none 0 0 0 0 0 0) HR19 rfl ?_); intro wz oz Hz))
    exact ret_has_tmp Try.results27 _ rfl w.heap.size rfl 43 (scells (List.replicate 32 0) 0 none 0 0 0 0 0 0) Hz _ Try.underlying43 rfl (by kernel_rfl) rfl ⟨subZero, none, 0, 0, q, rfl, HS'.out, Row.nil _, subZero_ok, oz.below b19 (Nat.le_refl _)⟩
end Go.Proofs.Ytiilgkajijnbcaa
