/-
  WordsPut: for all bytes and numbers, Put32 and Put64 answer as the reference does, and Get32 and Get64 read the numbers back.
-/
import Derived.Test.YtcnicaeimepgaaaWordsNarrow
import Derived.Test.YtcnicaeimepgaaaWordsGet
import Derived.Deep.RegionHeld
namespace Go.Proofs.Ytcnicaeimepgaaa
open Go.ChangeShapes Go.WideShapes Go.ChangeAt Go.RowKit
set_option linter.unusedVariables false
set_option linter.unusedSimpArgs false
namespace lawPut
theorem walkLong (A : Option Addr) (n c : Nat) (x y : Int) (w : World) (h2 : 200 < n) :
    Calls Try.prog 3 #[.slice A n c, .int .u32 x, .int .u64 y] w fun e w' => e = .returned (.bool true) ∧ Below w.heap.size w w' := by
  go_enter Try.func3, Try.ntmps3
  go_wp2_with fail
  refine (alive1 _).mono ?_
  rintro e w1 ⟨rfl, hb1⟩
  go_wp2
  go_ret
  exact ⟨rfl, hb1⟩

theorem be_be32 (x : Nat) (h : x < 4294967296) : be (be32 x) = x := by
  simp [be, be32]; omega
theorem be_be64 (x : Nat) (h : x < 18446744073709551616) : be (be64 x) = x := by
  simp [be, be64, be32]; omega
theorem get_be32 (l : List UInt8) (x : Nat) (h : x < 4294967296) : getV (l ++ be32 x) (l.length : Int) 4 = x ∧ getE (l ++ be32 x) (l.length : Int) 4 = 0 := by
  have hl := be32_len x
  have hd : ((l ++ be32 x).drop l.length).take 4 = be32 x := by rw [List.drop_left, List.take_of_length_le (by omega)]
  unfold getV getE
  rw [List.length_append, hl, Int.toNat_natCast, hd, be_be32 x h]
  rw [if_neg (by omega), if_neg (by omega), if_neg (by omega)]
  exact ⟨rfl, rfl⟩
theorem get_be64 (l : List UInt8) (x : Nat) (h : x < 18446744073709551616) : getV (l ++ be64 x) (l.length : Int) 8 = x ∧ getE (l ++ be64 x) (l.length : Int) 8 = 0 := by
  have hl := be64_len x
  have hd : ((l ++ be64 x).drop l.length).take 8 = be64 x := by rw [List.drop_left, List.take_of_length_le (by omega)]
  unfold getV getE
  rw [List.length_append, hl, Int.toNat_natCast, hd, be_be64 x h]
  rw [if_neg (by omega), if_neg (by omega), if_neg (by omega)]
  exact ⟨rfl, rfl⟩

set_option maxHeartbeats 1000000 in
theorem walk (A : Option Addr) (n c : Nat) (l : List UInt8) (x y : Nat) (w : World) (hl : Bytes w A n c l) (h2 : n ≤ 200) (hx : x < 4294967296) (hy : y < 18446744073709551616) :
    Calls Try.prog 3 #[.slice A n c, .int .u32 (x : Int), .int .u64 (y : Int)] w fun e w' => e = .returned (.bool true) ∧ Below w.heap.size w w' := by
  have HB := Lib.hid (show 0 + n ≤ 140737488355328 by omega)
  have G4 := Lib.hid (get_be32 l x hx)
  have G8 := Lib.hid (get_be64 l y hy)
  rw [hl.len] at G4 G8
  go_enter Try.func3, Try.ntmps3
  go_wp2_with fail
  refine (alive1 _).mono ?_
  rintro e w1 ⟨rfl, hb1⟩
  have hl1 := hl.keep hb1
  go_wp2_with (at_builtin; (refine app8 rfl (.const (.slice none 0 0)) (.tmp 23) rfl w1.heap.size (.slice none 0 0) 0 [] rfl (World.ownsRow_nil _ _ _ _) A n c l rfl hl1 HB.out (Nat.le_refl _) ?_); intro v2 w2 hown2 hg2)
  have hb2 : Below w1.heap.size w1 w2 := (Below.refl _ _).grown hg2 (Nat.le_refl _) (fun k hk => by cases hk)
  rw [Nat.zero_add, List.nil_append] at hown2
  obtain ⟨A2, c2, rfl, hr2⟩ := Row.own hown2
  refine (wordsPut.put32 A2 n c2 l x w2 hr2 (by omega) hx).mono ?_
  rintro e w3 ⟨v3, rfl, hown3, hb3⟩
  obtain ⟨A3, c3, rfl, hr3⟩ := Row.own hown3
  have hl3 := (hl1.keep hb2).keep hb3
  clear hown2 hr2 hown3 hg2
  go_wp2_with (at_builtin; (refine app8 rfl (.const (.slice none 0 0)) (.tmp 27) rfl w3.heap.size (.slice none 0 0) 0 [] rfl (World.ownsRow_nil _ _ _ _) A n c l rfl hl3 HB.out (Nat.le_refl _) ?_); intro v4 w4 hown4 hg4)
  have hb4 : Below w3.heap.size w3 w4 := (Below.refl _ _).grown hg4 (Nat.le_refl _) (fun k hk => by cases hk)
  rw [Nat.zero_add, List.nil_append] at hown4
  obtain ⟨A4, c4, rfl, hr4⟩ := Row.own hown4
  refine (wordsPut.put64 A4 n c4 l y w4 hr4 (by omega)).mono ?_
  rintro e w5 ⟨v5, rfl, hown5, hb5⟩
  obtain ⟨A5, c5, rfl, hr5⟩ := Row.own hown5
  have hb : Below w.heap.size w w5 := hb1.trans (((hb2.trans (hb3.mono hb2.size)).trans ((hb4.trans (hb5.mono hb4.size)).mono (Nat.le_trans hb2.size hb3.size))).mono hb1.size)
  have hl5 := (hl3.keep hb4).keep hb5
  have hp : Bytes w5 A3 (n + 4) c3 (l ++ be32 x) := (Row.keep hr3 hb4).keep hb5
  have hq : Bytes w5 A5 (n + 8) c5 (l ++ be64 y) := hr5
  clear hown4 hr4 hown5 hg4 hr3 hr5 hl3 hl1 hb1 hb2 hb3 hb4 hb5
  go_wp2_with fail
  refine (wordsGet.get32 A3 (n + 4) c3 _ _ _ hp).mono ?_
  rintro e w' ⟨rfl, rfl⟩
  rw [G4.out.1, G4.out.2]
  go_wp2_with fail
  refine (wordsGet.get64 A5 (n + 8) c5 _ _ _ hq).mono ?_
  rintro e w' ⟨rfl, rfl⟩
  rw [G8.out.1, G8.out.2]
  go_wp2_with fail
  have KS := fun (w : World) (A : Option Addr) (n c : Nat) (l : List UInt8) (h : Bytes w A n c l) => run_str (P := Try.prog) Try.underlying22 Try.underlying5 Try.underlying9 h
  have hS := fun (w' : World) (hw : Below w5.heap.size w5 w') => And.intro (KS w' A3 (n + 4) c3 (l ++ be32 x) (hp.keep hw)) (And.intro (KS w' A5 (n + 8) c5 (l ++ be64 y) (hq.keep hw)) hw)
  have HS := Lib.hid hS
  have HK := Lib.hid KS
  clear KS hS
  go_region_held (fun w' => Sem.run Try.prog (convert 22 9 (.slice A3 (n + 4) c3)) w' = .ok (.string (str (l ++ be32 x))) w' ∧ Sem.run Try.prog (convert 22 9 (.slice A5 (n + 8) c5)) w' = .ok (.string (str (l ++ be64 y))) w' ∧ Below w5.heap.size w5 w')
    (first | assumption | exact HS.out _ (by assumption) | exact HS.out _ (Below.refl _ _).drew)
    (first
    | (go_at_call 12; refine (refPut.put32 A n c l x _ (hl5.keep (Below.refl _ _).drew) (by omega) hx).mono ?_; rintro e w6 ⟨v6, rfl, hown6, hb6⟩; obtain ⟨A6, c6, rfl, hr6⟩ := Row.own hown6; have hb6' := (Below.refl w5.heap.size w5).drew.trans hb6; have K5 := HK.out w6 A6 (n + 4) c6 (l ++ be32 x) hr6)
    | (go_at_call 13; refine (refPut.put64 A n c l y w6 (hl5.keep hb6') (by omega) hy).mono ?_; rintro e w7 ⟨v7, rfl, hown7, hb7⟩; obtain ⟨A7, c7, rfl, hr7⟩ := Row.own hown7; have hb7' := hb6'.trans (hb7.mono hb6.size); have K7 := HK.out w7 A7 (n + 8) c7 (l ++ be64 y) hr7)
    | (go_at_call 14; refine (num1 _ _).mono ?_; rintro e w' ⟨rfl, rfl⟩))
  go_wp2
  go_ret
  exact ⟨rfl, hb.trans (hb7'.mono hb.size)⟩
theorem all (A : Option Addr) (n c : Nat) (l : List UInt8) (x y : Int) (w : World) (hl : Bytes w A n c l) (w1 : (Lit.int .u32 x).wf = true) (w2 : (Lit.int .u64 y).wf = true) :
    Calls Try.prog 3 #[.slice A n c, .int .u32 x, .int .u64 y] w fun e w' => e = .returned (.bool true) ∧ Below w.heap.size w w' := by
  have h1 : 0 ≤ x ∧ x ≤ 4294967295 := by simpa [Lit.wf, IntKind.min, IntKind.max, IntKind.signed, IntKind.bits] using w1
  have h2 : 0 ≤ y ∧ y ≤ 18446744073709551615 := by simpa [Lit.wf, IntKind.min, IntKind.max, IntKind.signed, IntKind.bits] using w2
  obtain ⟨x, rfl⟩ := Int.eq_ofNat_of_zero_le h1.1
  obtain ⟨y, rfl⟩ := Int.eq_ofNat_of_zero_le h2.1
  by_cases h : 200 < n
  · exact walkLong A n c _ _ w h
  · exact walk A n c l x y w hl (by omega) (by omega) (by omega)
end lawPut
end Go.Proofs.Ytcnicaeimepgaaa
