/-
  Contracts of proof's askKnow, askEqual, answer, Know, Equal and of the reference's answer, Know, Equal.
-/
import Derived.Test.YtgjepiblhpmaiaaDoorChallenge
import Derived.Test.YtgjepiblhpmaiaaDoorGroup
namespace Go.Proofs.YtgjepiblhpmaiaaDoor
open Go.ChangeShapes Go.WideShapes Go.ChangeAt Go.RowKit
set_option linter.unusedVariables false
set_option linter.unusedSimpArgs false

/-! ### The spec -/
def kKnow : List UInt8 := [107, 110, 111, 119]
def kEqual : List UInt8 := [101, 113, 117, 97, 108]
def answerS (c s d : Nat) : Nat := subS d (mulS c s)
theorem answerS_lt (c s d : Nat) : answerS c s d < 2305843009213693950 := subS_lt _ _
def backN (g x c s : Nat) : Nat := mulN (timesN g s) (timesN x c)
theorem backN_lt (g x c s : Nat) : backN g x c s < 2305843009213693951 := mulN_lt _ _
def knowC (g x d : Nat) : Nat := chalN kKnow [g, x, timesN g d]
def equalC (g x h y d : Nat) : Nat := chalN kEqual [g, x, h, y, timesN g d, timesN h d]
theorem knowC_lt (g x d : Nat) : knowC g x d < 2305843009213693950 := chalN_lt _ _
theorem equalC_lt (g x h y d : Nat) : equalC g x h y d < 2305843009213693950 := chalN_lt _ _
/-- What the numbers of a proof are held against. -/
def smallN (c s : Nat) : Prop := c < 2305843009213693950 ∧ s < 2305843009213693950
instance (c s : Nat) : Decidable (smallN c s) := inferInstanceAs (Decidable (_ ∧ _))
def okKnow (g x c s : Nat) : Prop := rightN g ∧ rightN x ∧ smallN c s ∧ c = chalN kKnow [g, x, backN g x c s]
instance (g x c s : Nat) : Decidable (okKnow g x c s) := inferInstanceAs (Decidable (_ ∧ _))
def okEqual (g x h y c s : Nat) : Prop := rightN g ∧ rightN x ∧ rightN h ∧ rightN y ∧ smallN c s ∧ c = chalN kEqual [g, x, h, y, backN g x c s, backN h y c s]
instance (g x h y c s : Nat) : Decidable (okEqual g x h y c s) := inferInstanceAs (Decidable (_ ∧ _))
theorem know_ok (g s d : Nat) (hg : rightN g) : okKnow g (timesN g s) (knowC g (timesN g s) d) (answerS (knowC g (timesN g s) d) s d) :=
  ⟨hg, rightN_times hg s, ⟨knowC_lt _ _ _, answerS_lt _ _ _⟩, by rw [backN, answerS, timesN_back hg]; rfl⟩
theorem equal_ok (g h s d : Nat) (hg : rightN g) (hh : rightN h) : okEqual g (timesN g s) h (timesN h s) (equalC g (timesN g s) h (timesN h s) d) (answerS (equalC g (timesN g s) h (timesN h s) d) s d) :=
  ⟨hg, rightN_times hg s, hh, rightN_times hh s, ⟨equalC_lt _ _ _ _ _, answerS_lt _ _ _⟩, by rw [backN, backN, answerS, timesN_back hg, timesN_back hh]; rfl⟩

/-! ### Proofs as values -/
theorem size_proof : (Tryd.prog.info? 27).map (·.size) = some 2 := by kernel_rfl
theorem newProof (w : World) (c s : Nat) : Has (w.alloc (.cells #[.int .u64 (c : Int), .int .u64 (s : Int)] 27)) w.heap.size 27 [nv c, nv s] := Has.new w 27 [nv c, nv s]
theorem newProof0 (w : World) : Has (w.alloc (.cells #[.int .u64 0, .int .u64 0] 27)) w.heap.size 27 [nv 0, nv 0] := Has.new w 27 [nv 0, nv 0]
section
variable {w : World} {ops : Array Oper} {rest : List Oper} {o : Oper} {a : Act} {Q : Exit → Act → World → Prop}
theorem wpList_store_proof (hgd : o.guard = none) (x y : Operand) (ho : o.op = .store 27 x y) (g : Nat) (hx : a.eval x = .pointer (some ⟨g, 0, none⟩)) (c s : Nat) (hy : a.eval y = .agg #[.int .u64 (c : Int), .int .u64 (s : Int)])
    (c0 s0 : Nat) (H : Has w g 27 [nv c0, nv s0])
    (h : ∀ w', Only g w w' → Has w' g 27 [nv c, nv s] → wpList Tryd.prog ops Q rest (a.put o.dst undef) w') : wpList Tryd.prog ops Q (o :: rest) a w :=
  wpList_store_has hgd 27 x y ho g hx [nv c, nv s] hy 27 _ H size_proof rfl (one_nv [c, s]) h
theorem wpList_load_proof (hgd : o.guard = none) (x : Operand) (ho : o.op = .load 27 x) (g : Nat) (hx : a.eval x = .pointer (some ⟨g, 0, none⟩)) (c s : Nat) (H : Has w g 27 [nv c, nv s])
    (h : wpList Tryd.prog ops Q rest (a.put o.dst (.agg #[.int .u64 (c : Int), .int .u64 (s : Int)])) w) : wpList Tryd.prog ops Q (o :: rest) a w :=
  wpList_load_has hgd 27 x ho g hx 27 [nv c, nv s] H _ Tryd.underlying27 rfl size_proof h
theorem ret_proof {fn : Func} {R : Ending → World → Prop} {p : Tmp} (h : fn.results = #[.cell p 27]) (g : Nat) (hp : a.tmps.getD p undef = .pointer (some ⟨g, 0, none⟩)) (c s : Nat) (H : Has w g 27 [nv c, nv s])
    (hf : a.defers = []) (hR : R (.returned (.agg #[.int .u64 (c : Int), .int .u64 (s : Int)])) w) : bodyPost Tryd.prog fn R .ret a w :=
  ret_has h g hp 27 [nv c, nv s] H _ Tryd.underlying27 rfl size_proof hf hR
end

/-! ### The challenges -/
theorem askKnow' {g x t c : Nat} (hc : chalN kKnow [g, x, t] = c) (hg : g < 18446744073709551616) (hx : x < 18446744073709551616) (ht : t < 18446744073709551616) (w : World) (hT : Tab w) :
    Calls Tryd.prog 30 #[.int .u64 (g : Int), .int .u64 (x : Int), .int .u64 (t : Int)] w fun e w' => e = .returned (.int .u64 (c : Int)) ∧ Below w.heap.size w w' := by
  subst hc
  have hb1 := (Below.refl w.heap.size w).alloc (Nat.le_refl _) (.cells ([g, x, t].map nv).toArray 23)
  have hN := Nums.lit w [g, x, t] (by simp [maxLen]) (by intro z hz; simp at hz; omega)
  have K := Lib.hid (show Calls Tryd.prog 9 #[.string { data := #[107, 110, 111, 119] }, .slice (some ⟨w.heap.size, 0, none⟩) 3 3] (w.alloc (.cells #[.int .u64 (g : Int), .int .u64 (x : Int), .int .u64 (t : Int)] 23)) _ from challenge kKnow _ 3 3 [g, x, t] _ (by decide) hN (by omega) (hT.keep hb1))
  have HB := Lib.hid hb1
  clear hN hb1
  go_enter Tryd.func30, Tryd.ntmps30
  go_wp2_with fail
  refine (K.out).mono ?_
  rintro e w2 ⟨rfl, hb2⟩
  go_wp2_with fail
  go_ret
  exact ⟨rfl, HB.out.trans (hb2.mono HB.out.size)⟩
theorem askEqual' {g x h y t u c : Nat} (hc : chalN kEqual [g, x, h, y, t, u] = c) (hg : g < 18446744073709551616) (hx : x < 18446744073709551616) (hh : h < 18446744073709551616) (hy : y < 18446744073709551616) (ht : t < 18446744073709551616) (hu : u < 18446744073709551616) (w : World) (hT : Tab w) :
    Calls Tryd.prog 33 #[.int .u64 (g : Int), .int .u64 (x : Int), .int .u64 (h : Int), .int .u64 (y : Int), .int .u64 (t : Int), .int .u64 (u : Int)] w fun e w' => e = .returned (.int .u64 (c : Int)) ∧ Below w.heap.size w w' := by
  subst hc
  have hb1 := (Below.refl w.heap.size w).alloc (Nat.le_refl _) (.cells ([g, x, h, y, t, u].map nv).toArray 23)
  have hN := Nums.lit w [g, x, h, y, t, u] (by simp [maxLen]) (by intro z hz; simp at hz; omega)
  have K := Lib.hid (show Calls Tryd.prog 9 #[.string { data := #[101, 113, 117, 97, 108] }, .slice (some ⟨w.heap.size, 0, none⟩) 6 6] (w.alloc (.cells #[.int .u64 (g : Int), .int .u64 (x : Int), .int .u64 (h : Int), .int .u64 (y : Int), .int .u64 (t : Int), .int .u64 (u : Int)] 23)) _ from challenge kEqual _ 6 6 [g, x, h, y, t, u] _ (by decide) hN (by omega) (hT.keep hb1))
  have HB := Lib.hid hb1
  clear hN hb1
  go_enter Tryd.func33, Tryd.ntmps33
  go_wp2_with fail
  refine (K.out).mono ?_
  rintro e w2 ⟨rfl, hb2⟩
  go_wp2_with fail
  go_ret
  exact ⟨rfl, HB.out.trans (hb2.mono HB.out.size)⟩

/-! ### The answers -/
theorem answer' {c s d r : Nat} (hr : answerS c s d = r) (hc : c < 18446744073709551616) (hs : s < 18446744073709551616) (hd : d < 18446744073709551616) (w : World) :
    Calls Tryd.prog 29 #[.int .u64 (c : Int), .int .u64 (s : Int), .int .u64 (d : Int)] w fun e w' => e = .returned (.agg #[.int .u64 (c : Int), .int .u64 (r : Int)]) ∧ Below w.heap.size w w' := by
  obtain ⟨m, hm⟩ : ∃ m, mulS c s = m := ⟨_, rfl⟩
  have bm : m < 2305843009213693950 := by rw [← hm]; exact mulS_lt _ _
  have C1 := Lib.hid (fun w => scalarMul' hm hc hs rfl rfl w)
  have C2 := Lib.hid (fun w => scalarSub' (show subS d m = r by rw [← hm]; exact hr) hd (by omega) rfl rfl w)
  have H1 := newProof0 w
  have hb1 := (Below.refl w.heap.size w).alloc (Nat.le_refl _) (.cells #[.int .u64 0, .int .u64 0] 27)
  clear hm hr
  go_enter Tryd.func29, Tryd.ntmps29
  go_wp2_with fail
  refine (C1.out _).mono ?_
  rintro e w' ⟨rfl, rfl⟩
  go_wp2_with fail
  refine (C2.out _).mono ?_
  rintro e w' ⟨rfl, rfl⟩
  go_wp2_with ((with_reducible refine wpList_store_proof rfl (.tmp 6) (.tmp 13) rfl w.heap.size rfl c r rfl 0 0 H1 ?_); intro w2 o2 H2)
  exact ret_proof Tryd.results29 w.heap.size rfl c r H2 rfl ⟨rfl, o2.below hb1 (Nat.le_refl _)⟩
theorem refAnswer' {c s d r : Nat} (hr : answerS c s d = r) (hc : c < 18446744073709551616) (hs : s < 18446744073709551616) (hd : d < 18446744073709551616) (w : World) :
    Calls Tryd.prog 32 #[.int .u64 (d : Int), .int .u64 (c : Int), .int .u64 (s : Int)] w fun e w' => e = .returned (.int .u64 (r : Int)) ∧ w = w' := by
  obtain ⟨m, hm⟩ : ∃ m, mulS c s = m := ⟨_, rfl⟩
  have bm : m < 2305843009213693950 := by rw [← hm]; exact mulS_lt _ _
  have C1 := Lib.hid (fun w => refMulN' hm hc hs rfl rfl w)
  have C2 := Lib.hid (fun w => refSubN' (show subS d m = r by rw [← hm]; exact hr) hd (by omega) rfl rfl w)
  clear hm hr
  go_enter Tryd.func32, Tryd.ntmps32
  go_wp2_with fail
  refine (C1.out _).mono ?_
  rintro e w' ⟨rfl, rfl⟩
  go_wp2_with fail
  refine (C2.out _).mono ?_
  rintro e w' ⟨rfl, rfl⟩
  go_wp2_with fail
  go_ret
  exact ⟨rfl, rfl⟩

/-! ### The proofs -/
theorem know' {g x s d t c r : Nat} (htt : timesN g d = t) (hc : chalN kKnow [g, x, t] = c) (hr : answerS c s d = r) (hg : g < 18446744073709551616) (hx : x < 18446744073709551616) (hs : s < 18446744073709551616) (hd : d < 18446744073709551616) (w : World) (hT : Tab w) :
    Calls Tryd.prog 11 #[.int .u64 (g : Int), .int .u64 (x : Int), .int .u64 (s : Int), .int .u64 (d : Int)] w fun e w' => e = .returned (.agg #[.int .u64 (c : Int), .int .u64 (r : Int)]) ∧ Below w.heap.size w w' := by
  have bt : t < 2305843009213693951 := by rw [← htt]; exact timesN_lt _ _
  have bc : c < 2305843009213693950 := by rw [← hc]; exact chalN_lt _ _
  have C1 := Lib.hid (fun w => groupTimes' htt hg hd rfl rfl w)
  have C2 := Lib.hid (fun w (h : Tab w) => askKnow' hc hg hx (by omega) w h)
  have C3 := Lib.hid (fun w => answer' hr (by omega) hs hd w)
  have H1 := newProof0 w
  have hb1 := (Below.refl w.heap.size w).alloc (Nat.le_refl _) (.cells #[.int .u64 0, .int .u64 0] 27)
  clear htt hc hr
  go_enter Tryd.func11, Tryd.ntmps11
  go_wp2_with fail
  refine (C1.out _).mono ?_
  rintro e w' ⟨rfl, rfl⟩
  go_wp2_with fail
  refine (C2.out _ (hT.keep hb1)).mono ?_
  rintro e w2 ⟨rfl, hb2⟩
  have H2 := H1.keep hb2 H1.lt
  have hbw2 := hb1.trans (hb2.mono hb1.size)
  go_wp2_with fail
  refine (C3.out _).mono ?_
  rintro e w3 ⟨rfl, hb3⟩
  have H3 := H2.keep hb3 H2.lt
  have hbw3 := hbw2.trans (hb3.mono hbw2.size)
  clear H1 H2 hb1 hb2 hb3 hbw2
  go_wp2_with ((with_reducible refine wpList_store_proof rfl (.tmp 8) (.tmp 17) rfl w.heap.size rfl c r rfl 0 0 H3 ?_); intro w4 o4 H4)
  exact ret_proof Tryd.results11 w.heap.size rfl c r H4 rfl ⟨rfl, o4.below hbw3 (Nat.le_refl _)⟩
theorem equal' {g x h y s d t u c r : Nat} (htt : timesN g d = t) (huu : timesN h d = u) (hc : chalN kEqual [g, x, h, y, t, u] = c) (hr : answerS c s d = r) (hg : g < 18446744073709551616) (hx : x < 18446744073709551616) (hh : h < 18446744073709551616) (hy : y < 18446744073709551616) (hs : s < 18446744073709551616) (hd : d < 18446744073709551616) (w : World) (hT : Tab w) :
    Calls Tryd.prog 13 #[.int .u64 (g : Int), .int .u64 (x : Int), .int .u64 (h : Int), .int .u64 (y : Int), .int .u64 (s : Int), .int .u64 (d : Int)] w fun e w' => e = .returned (.agg #[.int .u64 (c : Int), .int .u64 (r : Int)]) ∧ Below w.heap.size w w' := by
  have bt : t < 2305843009213693951 := by rw [← htt]; exact timesN_lt _ _
  have bu : u < 2305843009213693951 := by rw [← huu]; exact timesN_lt _ _
  have bc : c < 2305843009213693950 := by rw [← hc]; exact chalN_lt _ _
  have C1 := Lib.hid (fun w => groupTimes' htt hg hd rfl rfl w)
  have C4 := Lib.hid (fun w => groupTimes' huu hh hd rfl rfl w)
  have C2 := Lib.hid (fun w (h' : Tab w) => askEqual' hc hg hx hh hy (by omega) (by omega) w h')
  have C3 := Lib.hid (fun w => answer' hr (by omega) hs hd w)
  have H1 := newProof0 w
  have hb1 := (Below.refl w.heap.size w).alloc (Nat.le_refl _) (.cells #[.int .u64 0, .int .u64 0] 27)
  clear htt huu hc hr
  go_enter Tryd.func13, Tryd.ntmps13
  go_wp2_with fail
  refine (C1.out _).mono ?_
  rintro e w' ⟨rfl, rfl⟩
  go_wp2_with fail
  refine (C4.out _).mono ?_
  rintro e w' ⟨rfl, rfl⟩
  go_wp2_with fail
  refine (C2.out _ (hT.keep hb1)).mono ?_
  rintro e w2 ⟨rfl, hb2⟩
  have H2 := H1.keep hb2 H1.lt
  have hbw2 := hb1.trans (hb2.mono hb1.size)
  go_wp2_with fail
  refine (C3.out _).mono ?_
  rintro e w3 ⟨rfl, hb3⟩
  have H3 := H2.keep hb3 H2.lt
  have hbw3 := hbw2.trans (hb3.mono hbw2.size)
  clear H1 H2 hb1 hb2 hb3 hbw2
  go_wp2_with ((with_reducible refine wpList_store_proof rfl (.tmp 12) (.tmp 26) rfl w.heap.size rfl c r rfl 0 0 H3 ?_); intro w4 o4 H4)
  exact ret_proof Tryd.results13 w.heap.size rfl c r H4 rfl ⟨rfl, o4.below hbw3 (Nat.le_refl _)⟩
theorem refKnow' {g x s d t c r : Nat} (htt : timesN g d = t) (hc : chalN kKnow [g, x, t] = c) (hr : answerS c s d = r) (hg : g < 18446744073709551616) (hx : x < 18446744073709551616) (hs : s < 18446744073709551616) (hd : d < 18446744073709551616) (w : World) :
    Calls Tryd.prog 12 #[.int .u64 (g : Int), .int .u64 (x : Int), .int .u64 (s : Int), .int .u64 (d : Int)] w fun e w' => e = .returned (.agg #[.int .u64 (c : Int), .int .u64 (r : Int)]) ∧ Below w.heap.size w w' := by
  have bt : t < 2305843009213693951 := by rw [← htt]; exact timesN_lt _ _
  have bc : c < 2305843009213693950 := by rw [← hc]; exact chalN_lt _ _
  have C1 := Lib.hid (fun w => refTimes' htt hg hd rfl rfl w)
  have C3 := Lib.hid (fun w => refAnswer' hr (by omega) hs hd w)
  have H1 := (newProof0 w).alloc (.cells #[.int .u64 (g : Int), .int .u64 (x : Int), .int .u64 (t : Int)] 23)
  have hb0 := (Below.refl w.heap.size w).alloc (Nat.le_refl _) (.cells #[.int .u64 0, .int .u64 0] 27)
  have hb1 := hb0.alloc hb0.size (.cells #[.int .u64 (g : Int), .int .u64 (x : Int), .int .u64 (t : Int)] 23)
  have hN := Nums.lit (w.alloc (.cells #[.int .u64 0, .int .u64 0] 27)) [g, x, t] (by simp [maxLen]) (by intro z hz; simp at hz; omega)
  have hsz : (w.alloc (.cells #[.int .u64 0, .int .u64 0] 27)).heap.size = w.heap.size + 1 := by simp
  have K0 := refChallenge kKnow _ 3 3 [g, x, t] _ (by decide) hN (by omega)
  rw [hc, hsz] at K0
  have K := Lib.hid (show Calls Tryd.prog 10 #[.string { data := #[107, 110, 111, 119] }, .slice (some ⟨w.heap.size + 1, 0, none⟩) 3 3] ((w.alloc (.cells #[.int .u64 0, .int .u64 0] 27)).alloc (.cells #[.int .u64 (g : Int), .int .u64 (x : Int), .int .u64 (t : Int)] 23)) fun e w' => e = .returned (.int .u64 (c : Int)) ∧ Below ((w.alloc (.cells #[.int .u64 0, .int .u64 0] 27)).alloc (.cells #[.int .u64 (g : Int), .int .u64 (x : Int), .int .u64 (t : Int)] 23)).heap.size ((w.alloc (.cells #[.int .u64 0, .int .u64 0] 27)).alloc (.cells #[.int .u64 (g : Int), .int .u64 (x : Int), .int .u64 (t : Int)] 23)) w' from K0)
  clear htt hc hr hN hb0 hsz K0
  go_enter Tryd.func12, Tryd.ntmps12
  go_wp2_with fail
  refine (C1.out _).mono ?_
  rintro e w' ⟨rfl, rfl⟩
  go_wp2_with fail
  refine (K.out).mono ?_
  rintro e w2 ⟨rfl, hb2⟩
  have H2 := H1.keep hb2 H1.lt
  have hbw2 := hb1.trans (hb2.mono hb1.size)
  clear H1 hb1 hb2
  go_wp2_with fail
  refine (C3.out _).mono ?_
  rintro e w' ⟨rfl, rfl⟩
  go_wp2_with ((with_reducible refine wpList_store_proof rfl (.tmp 8) (.tmp 22) rfl w.heap.size rfl c r rfl 0 0 H2 ?_); intro w4 o4 H4)
  exact ret_proof Tryd.results12 w.heap.size rfl c r H4 rfl ⟨rfl, o4.below hbw2 (Nat.le_refl _)⟩
theorem refEqual' {g x h y s d t u c r : Nat} (htt : timesN g d = t) (huu : timesN h d = u) (hc : chalN kEqual [g, x, h, y, t, u] = c) (hr : answerS c s d = r) (hg : g < 18446744073709551616) (hx : x < 18446744073709551616) (hh : h < 18446744073709551616) (hy : y < 18446744073709551616) (hs : s < 18446744073709551616) (hd : d < 18446744073709551616) (w : World) :
    Calls Tryd.prog 14 #[.int .u64 (g : Int), .int .u64 (x : Int), .int .u64 (h : Int), .int .u64 (y : Int), .int .u64 (s : Int), .int .u64 (d : Int)] w fun e w' => e = .returned (.agg #[.int .u64 (c : Int), .int .u64 (r : Int)]) ∧ Below w.heap.size w w' := by
  have bt : t < 2305843009213693951 := by rw [← htt]; exact timesN_lt _ _
  have bu : u < 2305843009213693951 := by rw [← huu]; exact timesN_lt _ _
  have bc : c < 2305843009213693950 := by rw [← hc]; exact chalN_lt _ _
  have C1 := Lib.hid (fun w => refTimes' htt hg hd rfl rfl w)
  have C4 := Lib.hid (fun w => refTimes' huu hh hd rfl rfl w)
  have C3 := Lib.hid (fun w => refAnswer' hr (by omega) hs hd w)
  have H1 := (newProof0 w).alloc (.cells #[.int .u64 (g : Int), .int .u64 (x : Int), .int .u64 (h : Int), .int .u64 (y : Int), .int .u64 (t : Int), .int .u64 (u : Int)] 23)
  have hb0 := (Below.refl w.heap.size w).alloc (Nat.le_refl _) (.cells #[.int .u64 0, .int .u64 0] 27)
  have hb1 := hb0.alloc hb0.size (.cells #[.int .u64 (g : Int), .int .u64 (x : Int), .int .u64 (h : Int), .int .u64 (y : Int), .int .u64 (t : Int), .int .u64 (u : Int)] 23)
  have hN := Nums.lit (w.alloc (.cells #[.int .u64 0, .int .u64 0] 27)) [g, x, h, y, t, u] (by simp [maxLen]) (by intro z hz; simp at hz; omega)
  have hsz : (w.alloc (.cells #[.int .u64 0, .int .u64 0] 27)).heap.size = w.heap.size + 1 := by simp
  have K0 := refChallenge kEqual _ 6 6 [g, x, h, y, t, u] _ (by decide) hN (by omega)
  rw [hc, hsz] at K0
  have K := Lib.hid (show Calls Tryd.prog 10 #[.string { data := #[101, 113, 117, 97, 108] }, .slice (some ⟨w.heap.size + 1, 0, none⟩) 6 6] ((w.alloc (.cells #[.int .u64 0, .int .u64 0] 27)).alloc (.cells #[.int .u64 (g : Int), .int .u64 (x : Int), .int .u64 (h : Int), .int .u64 (y : Int), .int .u64 (t : Int), .int .u64 (u : Int)] 23)) fun e w' => e = .returned (.int .u64 (c : Int)) ∧ Below ((w.alloc (.cells #[.int .u64 0, .int .u64 0] 27)).alloc (.cells #[.int .u64 (g : Int), .int .u64 (x : Int), .int .u64 (h : Int), .int .u64 (y : Int), .int .u64 (t : Int), .int .u64 (u : Int)] 23)).heap.size ((w.alloc (.cells #[.int .u64 0, .int .u64 0] 27)).alloc (.cells #[.int .u64 (g : Int), .int .u64 (x : Int), .int .u64 (h : Int), .int .u64 (y : Int), .int .u64 (t : Int), .int .u64 (u : Int)] 23)) w' from K0)
  clear htt huu hc hr hN hb0 hsz K0
  go_enter Tryd.func14, Tryd.ntmps14
  go_wp2_with fail
  refine (C1.out _).mono ?_
  rintro e w' ⟨rfl, rfl⟩
  go_wp2_with fail
  refine (C4.out _).mono ?_
  rintro e w' ⟨rfl, rfl⟩
  go_wp2_with fail
  refine (K.out).mono ?_
  rintro e w2 ⟨rfl, hb2⟩
  have H2 := H1.keep hb2 H1.lt
  have hbw2 := hb1.trans (hb2.mono hb1.size)
  clear H1 hb1 hb2
  go_wp2_with fail
  refine (C3.out _).mono ?_
  rintro e w' ⟨rfl, rfl⟩
  go_wp2_with ((with_reducible refine wpList_store_proof rfl (.tmp 12) (.tmp 31) rfl w.heap.size rfl c r rfl 0 0 H2 ?_); intro w4 o4 H4)
  exact ret_proof Tryd.results14 w.heap.size rfl c r H4 rfl ⟨rfl, o4.below hbw2 (Nat.le_refl _)⟩
end Go.Proofs.YtgjepiblhpmaiaaDoor
