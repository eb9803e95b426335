/-
  Contract of the package's ReadSubmission.
-/
import Derived.Test.YtiilgkajijnbcaaRpKey
import Derived.Test.YtiilgkajijnbcaaRdNote
import Derived.Test.YtiilgkajijnbcaaRdSub
namespace Go.Proofs.Ytiilgkajijnbcaa
open Go.ChangeShapes Go.WideShapes Go.ChangeAt Go.RowKit
set_option linter.unusedVariables false
set_option linter.unusedSimpArgs false
set_option maxRecDepth 10000

theorem built_sub : ∀ (u : List UInt8) (x : Nat) (A : Option Addr) (n c pc ps sc ss : Nat), u.length = 32 → Try.prog.built 43 [(0, .agg (u.map bv).toArray), (1, .agg #[.int .u64 (x : Int), .slice A n c]), (2, .agg #[.int .u64 (pc : Int), .int .u64 (ps : Int)]), (3, .agg #[.int .u64 (sc : Int), .int .u64 (ss : Int)])] = some (scells u x A n c pc ps sc ss).toArray
  | [_, _, _, _, _, _, _, _, _, _, _, _, _, _, _, _, _, _, _, _, _, _, _, _, _, _, _, _, _, _, _, _], x, A, n, c, pc, ps, sc, ss, _ => by kernel_rfl
theorem wpList_build_sub {w : World} {ops : Array Oper} {rest : List Oper} {o : Oper} {a : Act} {Q : Exit → Act → World → Prop} (hgd : o.guard = none) (p1 p2 p3 p4 : Operand) (ho : o.op = .build 43 #[(0, p1), (1, p2), (2, p3), (3, p4)])
    (u : List UInt8) (x : Nat) (A : Option Addr) (n c pc ps sc ss : Nat) (hu : u.length = 32) (h1 : a.eval p1 = .agg (u.map bv).toArray) (h2 : a.eval p2 = .agg #[.int .u64 (x : Int), .slice A n c]) (h3 : a.eval p3 = .agg #[.int .u64 (pc : Int), .int .u64 (ps : Int)]) (h4 : a.eval p4 = .agg #[.int .u64 (sc : Int), .int .u64 (ss : Int)])
    (h : wpList Try.prog ops Q rest (a.put o.dst (.agg (scells u x A n c pc ps sc ss).toArray)) w) : wpList Try.prog ops Q (o :: rest) a w :=
  wpList_plain hgd fun K hK => by
    have e : (#[(0, p1), (1, p2), (2, p3), (3, p4)].map fun (i, x) => (i, a.eval x)) = #[(0, .agg (u.map bv).toArray), (1, .agg #[.int .u64 (x : Int), .slice A n c]), (2, .agg #[.int .u64 (pc : Int), .int .u64 (ps : Int)]), (3, .agg #[.int .u64 (sc : Int), .int .u64 (ss : Int)])] := by simp [h1, h2, h3, h4]
    have hr := run_build w 43 #[(0, .agg (u.map bv).toArray), (1, .agg #[.int .u64 (x : Int), .slice A n c]), (2, .agg #[.int .u64 (pc : Int), .int .u64 (ps : Int)]), (3, .agg #[.int .u64 (sc : Int), .int .u64 (ss : Int)])] _ (built_sub u x A n c pc ps sc ss hu)
    unfold Oper.wp execOp
    simp only [ho, e, Sem.run_bind, hr, Result.andThen_ok, Sem.run_pure]
    exact hK _ _ h
set_option maxHeartbeats 2000000 in
theorem progReadSubmission' (A : Option Addr) (n c : Nat) (b : List UInt8) (w : World) (hb : Bytes w A n c b) :
    Calls Try.prog 19 #[.slice A n c] w fun e w' => ∃ (d : SubD) (A' : Option Addr) (m c' k : Nat), e = .returned (.tuple #[.agg (scells d.u d.x A' m c' d.pc d.ps d.sc d.ss).toArray, .int .i64 (k : Int)]) ∧ submissionS b = (d, k) ∧ Bytes w' A' m c' d.l ∧ d.ok ∧ Below w.heap.size w w' := by
  obtain ⟨r, hr0⟩ : ∃ r : SubR b, True := ⟨subR b, trivial⟩
  obtain ⟨o1, o2, o3, o4, o5, o6, o7, o8, hul, hn20, hxs⟩ := r.ok
  obtain ⟨q, h9⟩ : ∃ q, endS b r.s8 = q := ⟨_, rfl⟩
  have hspec := submissionS_eq r h9
  obtain ⟨RR, hRR⟩ : ∃ R, submissionS b = R := ⟨_, rfl⟩
  rw [hRR] at hspec ⊢
  clear hRR
  obtain ⟨u, x, nn, l, pc, ps, sc, ss, s1, s2, s3, s4, s5, s6, s7, s8, h1, h2, h3, h4, h5, h6, h7, h8⟩ := r
  simp only [] at o1 o2 o3 o4 o5 o6 o7 o8 hul hn20 h9 hspec hxs
  have HD := Lib.hid (show SubD.ok ⟨u, x, l, pc, ps, sc, ss⟩ from ⟨hul, hxs⟩)
  have hb1 := (Below.refl w.heap.size w).alloc (Nat.le_refl _) (.cells #[.int .u8 0, .int .u8 0, .int .u8 0, .int .u8 0, .int .u8 0, .int .u8 0, .int .u8 0, .int .u8 0, .int .u8 0, .int .u8 0, .int .u8 0, .int .u8 0, .int .u8 0, .int .u8 0, .int .u8 0, .int .u8 0, .int .u8 0, .int .u8 0, .int .u8 0, .int .u8 0, .int .u8 0, .int .u8 0, .int .u8 0, .int .u8 0, .int .u8 0, .int .u8 0, .int .u8 0, .int .u8 0, .int .u8 0, .int .u8 0, .int .u8 0, .int .u8 0, .int .u64 0, .slice none 0 0, .int .u64 0, .int .u64 0, .int .u64 0, .int .u64 0] 43)
  have HR1 := (newSub w).alloc (.cells #[.slice A n c, .int .i64 0] 85)
  have hz1 : (w.alloc (.cells #[.int .u8 0, .int .u8 0, .int .u8 0, .int .u8 0, .int .u8 0, .int .u8 0, .int .u8 0, .int .u8 0, .int .u8 0, .int .u8 0, .int .u8 0, .int .u8 0, .int .u8 0, .int .u8 0, .int .u8 0, .int .u8 0, .int .u8 0, .int .u8 0, .int .u8 0, .int .u8 0, .int .u8 0, .int .u8 0, .int .u8 0, .int .u8 0, .int .u8 0, .int .u8 0, .int .u8 0, .int .u8 0, .int .u8 0, .int .u8 0, .int .u8 0, .int .u8 0, .int .u64 0, .slice none 0 0, .int .u64 0, .int .u64 0, .int .u64 0, .int .u64 0] 43)).heap.size = w.heap.size + 1 := by simp
  have H1 := (newRdp (B := w.heap.size) (w.alloc (.cells #[.int .u8 0, .int .u8 0, .int .u8 0, .int .u8 0, .int .u8 0, .int .u8 0, .int .u8 0, .int .u8 0, .int .u8 0, .int .u8 0, .int .u8 0, .int .u8 0, .int .u8 0, .int .u8 0, .int .u8 0, .int .u8 0, .int .u8 0, .int .u8 0, .int .u8 0, .int .u8 0, .int .u8 0, .int .u8 0, .int .u8 0, .int .u8 0, .int .u8 0, .int .u8 0, .int .u8 0, .int .u8 0, .int .u8 0, .int .u8 0, .int .u8 0, .int .u8 0, .int .u64 0, .slice none 0 0, .int .u64 0, .int .u64 0, .int .u64 0, .int .u64 0] 43)) A n c b (hb.keep hb1) hb.oldA (by omega)).cast hz1
  have hb2 := hb1.alloc hb1.size (.cells #[.slice A n c, .int .i64 0] 85)
  have hz2 : ((w.alloc (.cells #[.int .u8 0, .int .u8 0, .int .u8 0, .int .u8 0, .int .u8 0, .int .u8 0, .int .u8 0, .int .u8 0, .int .u8 0, .int .u8 0, .int .u8 0, .int .u8 0, .int .u8 0, .int .u8 0, .int .u8 0, .int .u8 0, .int .u8 0, .int .u8 0, .int .u8 0, .int .u8 0, .int .u8 0, .int .u8 0, .int .u8 0, .int .u8 0, .int .u8 0, .int .u8 0, .int .u8 0, .int .u8 0, .int .u8 0, .int .u8 0, .int .u8 0, .int .u8 0, .int .u64 0, .slice none 0 0, .int .u64 0, .int .u64 0, .int .u64 0, .int .u64 0] 43)).alloc (.cells #[.slice A n c, .int .i64 0] 85)).heap.size = w.heap.size + 2 := by simp
  have o0 := St.start b
  have HSP := Lib.hid hspec
  have HU := Lib.hid hul
  have K1 := Lib.hid (fun (q : World) (H : Rdp w.heap.size q (w.heap.size + 1) b ⟨0, 0⟩) => rpKey' w.heap.size (w.heap.size + 1) b ⟨0, 0⟩ s1 u h1 o0 q H)
  have K2 := Lib.hid (fun (q : World) (H : Rdp w.heap.size q (w.heap.size + 1) b s1) => rpElem' w.heap.size (w.heap.size + 1) b s1 s2 x h2 o1 q H)
  have K3 := Lib.hid (fun (q : World) (H : Rdp w.heap.size q (w.heap.size + 1) b s2) => show Calls Try.prog 48 #[.pointer (some ⟨w.heap.size + 1, 0, none⟩), .int .i64 1048576] q _ from rpCount' w.heap.size (w.heap.size + 1) b s2 s3 1048576 nn h3 (by omega) o2 q H)
  have K4 := Lib.hid (fun (q : World) (H : Rdp w.heap.size q (w.heap.size + 1) b s3) => rpTake' w.heap.size (w.heap.size + 1) b s3 s4 nn l h4 o3 (by omega) q H)
  have K5 := Lib.hid (fun (q : World) (H : Rdp w.heap.size q (w.heap.size + 1) b s4) => rpProof' w.heap.size (w.heap.size + 1) b s4 s5 s6 pc ps h5 h6 o4 q H)
  have K6 := Lib.hid (fun (q : World) (H : Rdp w.heap.size q (w.heap.size + 1) b s6) => rpProof' w.heap.size (w.heap.size + 1) b s6 s7 s8 sc ss h7 h8 o6 q H)
  have K7 := Lib.hid (fun (p : World) (H : Rdp w.heap.size p (w.heap.size + 1) b s8) => rpEnd' w.heap.size (w.heap.size + 1) b s8 q h9 o8 p H)
  clear hxs hb1 hz1 o0 o1 o2 o3 o4 o5 o6 o7 o8 hul hn20 hr0 h1 h2 h3 h4 h5 h6 h7 h8 h9 hspec hb
  go_enter Try.func19, Try.ntmps19
  go_wp2_with fail
  change Calls _ _ _ ((w.alloc (.cells #[.int .u8 0, .int .u8 0, .int .u8 0, .int .u8 0, .int .u8 0, .int .u8 0, .int .u8 0, .int .u8 0, .int .u8 0, .int .u8 0, .int .u8 0, .int .u8 0, .int .u8 0, .int .u8 0, .int .u8 0, .int .u8 0, .int .u8 0, .int .u8 0, .int .u8 0, .int .u8 0, .int .u8 0, .int .u8 0, .int .u8 0, .int .u8 0, .int .u8 0, .int .u8 0, .int .u8 0, .int .u8 0, .int .u8 0, .int .u8 0, .int .u8 0, .int .u8 0, .int .u64 0, .slice none 0 0, .int .u64 0, .int .u64 0, .int .u64 0, .int .u64 0] 43)).alloc (.cells #[.slice A n c, .int .i64 0] 85)) _
  generalize ((w.alloc (.cells #[.int .u8 0, .int .u8 0, .int .u8 0, .int .u8 0, .int .u8 0, .int .u8 0, .int .u8 0, .int .u8 0, .int .u8 0, .int .u8 0, .int .u8 0, .int .u8 0, .int .u8 0, .int .u8 0, .int .u8 0, .int .u8 0, .int .u8 0, .int .u8 0, .int .u8 0, .int .u8 0, .int .u8 0, .int .u8 0, .int .u8 0, .int .u8 0, .int .u8 0, .int .u8 0, .int .u8 0, .int .u8 0, .int .u8 0, .int .u8 0, .int .u8 0, .int .u8 0, .int .u64 0, .slice none 0 0, .int .u64 0, .int .u64 0, .int .u64 0, .int .u64 0] 43)).alloc (.cells #[.slice A n c, .int .i64 0] 85)) = w3 at *
  have HX3 := Lib.hid H1
  have HR3 := HR1
  have b3 := hb2
  have z3 : w.heap.size + 2 ≤ w3.heap.size := by omega
  clear H1 HR1 hb2 hz2
  refine (K1.out _ HX3.out).mono ?_
  rintro e w4 ⟨rfl, H4, S4⟩
  have HR4 := HR3.save S4 (by omega)
  have b4 := S4.below b3 (by omega) (by omega)
  have z4 : w.heap.size + 2 ≤ w4.heap.size := by have := S4.size; omega
  have HX4 := Lib.hid H4
  clear K1 HX3 HR3 b3 S4 H4
  go_wp2_with fail
  refine (K2.out _ HX4.out).mono ?_
  rintro e w5 ⟨rfl, H5, S5⟩
  have HR5 := HR4.save S5 (by omega)
  have b5 := S5.below b4 (by omega) (by omega)
  have z5 : w.heap.size + 2 ≤ w5.heap.size := by have := S5.size; omega
  have HX5 := Lib.hid H5
  clear K2 HX4 HR4 b4 S5 H5
  go_wp2_with fail
  refine (K3.out _ HX5.out).mono ?_
  rintro e w6 ⟨rfl, H6, S6⟩
  have HR6 := HR5.save S6 (by omega)
  have b6 := S6.below b5 (by omega) (by omega)
  have z6 : w.heap.size + 2 ≤ w6.heap.size := by have := S6.size; omega
  have HX6 := Lib.hid H6
  clear K3 HX5 HR5 b5 S6 H6
  go_wp2_with fail
  refine (K4.out _ HX6.out).mono ?_
  rintro e w7 ⟨v7, rfl, hown7, H7, S7⟩
  have HR7 := HR6.save S7 (by omega)
  have b7 := S7.below b6 (by omega) (by omega)
  have z7 : w.heap.size + 2 ≤ w7.heap.size := by have := S7.size; omega
  have HX7 := Lib.hid H7
  obtain ⟨A9, c9, rfl, hr7⟩ := Row.own hown7
  have hoff := own_off hown7 (show w.heap.size + 1 < w6.heap.size by omega) l.length
  have hoff0 := own_off hown7 (show w.heap.size < w6.heap.size by omega) l.length
  obtain ⟨m, hm⟩ : ∃ m, l.length = m := ⟨_, rfl⟩
  rw [hm] at hr7 hoff hoff0
  rw [hm]
  have R7 := Lib.hid (show Bytes w7 A9 m c9 l from hr7)
  clear K4 HX6 HR6 b6 S7 H7 hown7 hr7
  go_wp2_with fail
  refine (K5.out _ HX7.out).mono ?_
  rintro e w8 ⟨rfl, H8, S8⟩
  have HR8 := HR7.save S8 (by omega)
  have b8 := S8.below b7 (by omega) (by omega)
  have z8 : w.heap.size + 2 ≤ w8.heap.size := by have := S8.size; omega
  have HX8 := Lib.hid H8
  have R8 := Lib.hid (R7.out.save S8 hoff)
  clear K5 HX7 HR7 b7 S8 H8 R7
  go_wp2_with fail
  refine (K6.out _ HX8.out).mono ?_
  rintro e w9 ⟨rfl, H9, S9⟩
  have HR9 := HR8.save S9 (by omega)
  have b9 := S9.below b8 (by omega) (by omega)
  have z9 : w.heap.size + 2 ≤ w9.heap.size := by have := S9.size; omega
  have HX9 := Lib.hid H9
  have R9 := Lib.hid (R8.out.save S9 hoff)
  have HN9 := newSub w9
  have HR10 := HR9.alloc (.cells #[.int .u8 0, .int .u8 0, .int .u8 0, .int .u8 0, .int .u8 0, .int .u8 0, .int .u8 0, .int .u8 0, .int .u8 0, .int .u8 0, .int .u8 0, .int .u8 0, .int .u8 0, .int .u8 0, .int .u8 0, .int .u8 0, .int .u8 0, .int .u8 0, .int .u8 0, .int .u8 0, .int .u8 0, .int .u8 0, .int .u8 0, .int .u8 0, .int .u8 0, .int .u8 0, .int .u8 0, .int .u8 0, .int .u8 0, .int .u8 0, .int .u8 0, .int .u8 0, .int .u64 0, .slice none 0 0, .int .u64 0, .int .u64 0, .int .u64 0, .int .u64 0] 43)
  have H10 := Lib.hid (H9.alloc (.cells #[.int .u8 0, .int .u8 0, .int .u8 0, .int .u8 0, .int .u8 0, .int .u8 0, .int .u8 0, .int .u8 0, .int .u8 0, .int .u8 0, .int .u8 0, .int .u8 0, .int .u8 0, .int .u8 0, .int .u8 0, .int .u8 0, .int .u8 0, .int .u8 0, .int .u8 0, .int .u8 0, .int .u8 0, .int .u8 0, .int .u8 0, .int .u8 0, .int .u8 0, .int .u8 0, .int .u8 0, .int .u8 0, .int .u8 0, .int .u8 0, .int .u8 0, .int .u8 0, .int .u64 0, .slice none 0 0, .int .u64 0, .int .u64 0, .int .u64 0, .int .u64 0] 43))
  have b10 := b9.alloc b9.size (.cells #[.int .u8 0, .int .u8 0, .int .u8 0, .int .u8 0, .int .u8 0, .int .u8 0, .int .u8 0, .int .u8 0, .int .u8 0, .int .u8 0, .int .u8 0, .int .u8 0, .int .u8 0, .int .u8 0, .int .u8 0, .int .u8 0, .int .u8 0, .int .u8 0, .int .u8 0, .int .u8 0, .int .u8 0, .int .u8 0, .int .u8 0, .int .u8 0, .int .u8 0, .int .u8 0, .int .u8 0, .int .u8 0, .int .u8 0, .int .u8 0, .int .u8 0, .int .u8 0, .int .u64 0, .slice none 0 0, .int .u64 0, .int .u64 0, .int .u64 0, .int .u64 0] 43)
  have R10 := Lib.hid (R9.out.keep ((Below.refl w9.heap.size w9).alloc (Nat.le_refl _) (.cells #[.int .u8 0, .int .u8 0, .int .u8 0, .int .u8 0, .int .u8 0, .int .u8 0, .int .u8 0, .int .u8 0, .int .u8 0, .int .u8 0, .int .u8 0, .int .u8 0, .int .u8 0, .int .u8 0, .int .u8 0, .int .u8 0, .int .u8 0, .int .u8 0, .int .u8 0, .int .u8 0, .int .u8 0, .int .u8 0, .int .u8 0, .int .u8 0, .int .u8 0, .int .u8 0, .int .u8 0, .int .u8 0, .int .u8 0, .int .u8 0, .int .u8 0, .int .u8 0, .int .u64 0, .slice none 0 0, .int .u64 0, .int .u64 0, .int .u64 0, .int .u64 0] 43)))
  have offn : Off w9.heap.size A9 m := Off.of_row R9.out (Nat.le_refl _)
  have hzA : (w9.alloc (.cells #[.int .u8 0, .int .u8 0, .int .u8 0, .int .u8 0, .int .u8 0, .int .u8 0, .int .u8 0, .int .u8 0, .int .u8 0, .int .u8 0, .int .u8 0, .int .u8 0, .int .u8 0, .int .u8 0, .int .u8 0, .int .u8 0, .int .u8 0, .int .u8 0, .int .u8 0, .int .u8 0, .int .u8 0, .int .u8 0, .int .u8 0, .int .u8 0, .int .u8 0, .int .u8 0, .int .u8 0, .int .u8 0, .int .u8 0, .int .u8 0, .int .u8 0, .int .u8 0, .int .u64 0, .slice none 0 0, .int .u64 0, .int .u64 0, .int .u64 0, .int .u64 0] 43)).heap.size = w9.heap.size + 1 := by simp
  clear K6 HX8 HR8 b8 S9 H9 R8
  go_wp2_with (first
    | ((with_reducible refine wpList_store_sub rfl (.tmp 5) (.tmp 16) rfl w9.heap.size rfl u x A9 m c9 pc ps sc ss HU.out rfl (scells (List.replicate 32 0) 0 none 0 0 0 0 0 0) HN9 rfl ?_); intro w11 o11 H11)
    | ((with_reducible refine wpList_build_sub rfl (.tmp 9) (.tmp 13) (.tmp 14) (.tmp 15) rfl u x A9 m c9 pc ps sc ss HU.out rfl rfl rfl rfl ?_)))
  have HR11 := HR10.only o11 (by omega)
  have HX11 := Lib.hid (H10.out.only o11 (by omega) (by omega))
  have b11 := o11.below b10 (by omega)
  have z11 : w9.heap.size < w11.heap.size := by have := o11.size; omega
  have R11 := Lib.hid (Row.only R10.out o11 offn)
  obtain ⟨gn, hgn⟩ : ∃ gn, w9.heap.size = gn := ⟨_, rfl⟩
  rw [hgn] at H11 z11 z9 ⊢
  clear H10 HR10 b10 o11 R10 R9 HR9 b9 HX9 HN9 hzA offn hgn
  refine (K7.out _ HX11.out).mono ?_
  rintro e w12 ⟨rfl, S12⟩
  have HR12 := HR11.save S12 (by omega)
  have HN12 := H11.save S12 (by omega)
  have b12 := S12.below b11 (by omega) (by omega)
  have R12 := Lib.hid (show Bytes w12 A9 m c9 l from Row.save R11.out S12 hoff)
  clear HR11 H11 b11 R11 HX11 S12 K7
  have HSP' := HSP.out
  by_cases hq : q = 0
  · subst hq
    rw [if_pos rfl] at HSP'
    have HS' := Lib.hid HSP'
    clear HSP' HSP
    go_wp2_with (first
      | ((with_reducible refine wpList_load_sub rfl (.tmp 5) rfl gn rfl u x A9 m c9 pc ps sc ss HU.out HN12 ?_))
      | ((with_reducible refine wpList_store_sub rfl (.tmp 2) (.tmp 22) rfl w.heap.size rfl u x A9 m c9 pc ps sc ss HU.out rfl (scells (List.replicate 32 0) 0 none 0 0 0 0 0 0) HR12 rfl ?_); intro wz oz Hz))
    exact ret_has_tmp Try.results19 _ rfl w.heap.size rfl 43 (scells u x A9 m c9 pc ps sc ss) Hz _ Try.underlying43 rfl (by rw [scells_len HU.out]; exact size_sub) rfl ⟨⟨u, x, l, pc, ps, sc, ss⟩, A9, m, c9, 0, rfl, HS'.out, Row.only R12.out oz hoff0, HD.out, oz.below b12 (Nat.le_refl _)⟩
  · have h1 : ((q : Int) == 0) = false := by simp; exact hq
    rw [if_neg hq] at HSP'
    have hbld : ∀ u, (Instr.build 43 #[]).run Try.prog u = .ok (.agg (scells (List.replicate 32 0) 0 none 0 0 0 0 0 0).toArray) u := fun u => run_build u _ #[] _ (by kernel_rfl)
    have HZL := Lib.hid (show (List.replicate 32 (0 : UInt8)).length = 32 from rfl)
    have HS' := Lib.hid HSP'
    clear HSP' HSP hq
    go_wp2_with (first
      | ((with_reducible refine wpList_store_sub rfl (.tmp 2) (.tmp 20) rfl w.heap.size rfl (List.replicate 32 0) 0 none 0 0 0 0 0 0 HZL.out rfl (scells (List.replicate 32 0) 0 none 0 0 0 0 0 0) HR12 rfl ?_); intro wz oz Hz))
    exact ret_has_tmp Try.results19 _ rfl w.heap.size rfl 43 (scells (List.replicate 32 0) 0 none 0 0 0 0 0 0) Hz _ Try.underlying43 rfl (by rw [scells_len HZL.out]; exact size_sub) rfl ⟨subZero, none, 0, 0, q, rfl, HS'.out, Row.nil _, subZero_ok, oz.below b12 (Nat.le_refl _)⟩
end Go.Proofs.Ytiilgkajijnbcaa
