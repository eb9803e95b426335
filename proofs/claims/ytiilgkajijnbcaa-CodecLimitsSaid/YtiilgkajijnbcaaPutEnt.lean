/-
  Contracts of the package's boxes, sizes, isOutside, checkEntries.
-/
import Derived.Test.YtiilgkajijnbcaaHasFn
import Derived.Test.YtiilgkajijnbcaaWrEnt
import Derived.Test.YtiilgkajijnbcaaEntLaw
namespace Go.Proofs.Ytiilgkajijnbcaa
open Go.ChangeShapes Go.WideShapes Go.ChangeAt Go.RowKit
set_option linter.unusedVariables false
set_option linter.unusedSimpArgs false

/-- make([][]byte, n, n) -/
theorem run_makeBS (n : Nat) (hc : n ≤ 1048576) (u : World) : (Instr.makeSlice 77 (.int .i64 (n : Int)) (.int .i64 (n : Int))).run Try.prog u =
    .ok (.slice (some ⟨u.heap.size, 0, none⟩) n n) (u.alloc (.cells (List.replicate n (Value.slice none 0 0)).toArray 25)) := by
  obtain ⟨i0, hi, hz0, hz1, hz2⟩ := info_parts Try.infoBS
  have h := run_make (P := Try.prog) u 77 25 i0 (.slice none 0 0) Try.underlying77 hi hz0 .i64 .i64 (n : Int) (n : Int) (by omega) (by omega) (by rw [hz2]; omega) (by omega)
  have e : (madeCells #[Value.slice none 0 0] n) = (List.replicate n (Value.slice none 0 0)).toArray := by
    rw [← toList_madeCells_one]
  rw [Int.toNat_natCast] at h
  rw [← e]
  simpa [hz1, Value.cells] using h
/-- The first j of the values, then nil slices. -/
def halfP (ps : List Pc) (n j : Nat) : List Value := (ps.take j).map Pc.val ++ List.replicate (n - j) (Value.slice none 0 0)
theorem halfP_zero (ps : List Pc) (n : Nat) : halfP ps n 0 = List.replicate n (Value.slice none 0 0) := by simp [halfP]
theorem halfP_len {ps : List Pc} {n j : Nat} (h : ps.length = n) (hj : j ≤ n) : (halfP ps n j).length = n := by simp [halfP]; omega
theorem halfP_end {ps : List Pc} {n : Nat} (h : ps.length = n) : halfP ps n n = ps.map Pc.val := by rw [halfP, List.take_of_length_le (by omega)]; simp
theorem halfP_set {ps : List Pc} {n j : Nat} (h : ps.length = n) (hj : j < n) (v : Value) (hv : v = (ps.getD j default).val) : (halfP ps n j).set j v = halfP ps n (j + 1) := by
  have hj' : j < ps.length := by omega
  have e1 : (ps.getD j default) = ps[j] := by simp [hj']
  subst hv
  rw [e1, halfP, halfP, List.set_append_right _ _ (by simp; omega), List.take_succ_eq_append_getElem hj', List.map_append, List.append_assoc]
  congr 1
  rw [show n - j = (n - (j + 1)) + 1 by omega, List.replicate_succ]
  have : j - ((ps.take j).map Pc.val).length = 0 := by simp; omega
  rw [this]
  rfl
theorem size_ent : (Try.prog.info? 39).map (·.size) = some 2 := by kernel_rfl
def Ent.pc (e : Ent) : Pc := ⟨e.A, e.n, e.c, e.l⟩
theorem newEnt (w : World) : Has (w.alloc (.cells #[.int .u64 0, .slice none 0 0] 39)) w.heap.size 39 [.int .u64 0, .slice none 0 0] := Has.new w 39 [.int .u64 0, .slice none 0 0]
theorem one_xe (x : Nat) (A : Option Addr) (n c : Nat) : ∀ u ∈ [Value.int .u64 (x : Int), Value.slice A n c], u.oneCell' = true := by
  intro u hu
  simp only [List.mem_cons, List.not_mem_nil, or_false] at hu
  rcases hu with rfl | rfl <;> rfl
theorem getD_pc (es : List Ent) (j : Nat) (h : j < es.length) : (es.map Ent.pc).getD j default = (es.getD j default).pc := by
  rw [List.getD_eq_getElem?_getD, List.getElem?_map, List.getD_eq_getElem?_getD, List.getElem?_eq_getElem h]
  rfl
set_option maxHeartbeats 1000000 in
theorem cBoxes' (A : Option Addr) (n c : Nat) (es : List Ent) (hn : n ≤ 1048576) (w : World) (h : Entries w A n c es) :
    Calls Try.prog 35 #[.slice A n c] w fun e w' => ∃ A' c', e = .returned (.slice A' n c') ∧ PcsAt w' A' n c' (es.map Ent.pc) ∧ Below w.heap.size w w' := by
  have hle := h.le
  have hpl : (es.map Ent.pc).length = n := by rw [List.length_map]; exact h.2.1
  obtain ⟨ps, hps⟩ : ∃ ps, es.map Ent.pc = ps := ⟨_, rfl⟩
  have hG := fun j (hj : j < n) => show ps.getD j default = (es.getD j default).pc by rw [← hps]; exact getD_pc es j (by rw [h.2.1]; exact hj)
  rw [hps] at hpl ⊢
  have hB : ∀ p ∈ ps, Bytes w p.A p.n p.c p.l := fun p hp => by
    rw [← hps] at hp
    obtain ⟨e, he, rfl⟩ := List.mem_map.1 hp
    exact (h.2.2 e he).1
  have hmk := run_makeBS n hn w
  have hb1 := (Below.refl w.heap.size w).alloc (Nat.le_refl _) (.cells (List.replicate n (Value.slice none 0 0)).toArray 25)
  have H1 := Has.new w 25 (List.replicate n (Value.slice none 0 0))
  rw [← halfP_zero ps n] at H1 hb1 hmk
  have HH := Lib.hid h
  have HPL := Lib.hid hpl
  have HG := Lib.hid hG
  have HPB := Lib.hid hB
  clear h hpl hG hB hps
  go_enter Try.func35, Try.ntmps35
  go_wp2_with fail
  change Code.wp _ _ _ _ (w.alloc (.cells (halfP ps n 0).toArray 25))
  generalize (w.alloc (.cells (halfP ps n 0).toArray 25)) = w1 at *
  clear hmk
  go_loopw [11] (fun i wr => ∃ j : Nat, j ≤ n ∧ i = .int .i64 j ∧ Has wr w.heap.size 25 (halfP ps n j) ∧ Below w.heap.size w wr) (fun i _ => n - (intOf i).toNat)
  case atStart => exact ⟨0, Nat.zero_le _, rfl, H1, hb1⟩
  case round =>
    clear H1 hb1
    obtain ⟨j, hj, rfl, HK, hb⟩ := hrel
    by_cases hlt : j < n
    · obtain ⟨b, off, rfl, hbl, hc⟩ := HH.out.at_ (by omega)
      obtain ⟨c0, c1⟩ := hc j hlt
      have d0 := (hb.cell (p := ⟨b, off + j * 2, none⟩) hbl).trans c0
      have d1 := (hb.cell (p := ⟨b, off + j * 2 + 1, none⟩) hbl).trans c1
      have hge := HG.out j hlt
      obtain ⟨e, he⟩ : ∃ e, es.getD j default = e := ⟨_, rfl⟩
      rw [he] at d0 d1 hge
      have hjn : (j : Int) < (n : Int) := by omega
      have HN := newEnt wr
      have hlw := HK.lt
      have HK2 := HK.alloc (.cells #[.int .u64 0, .slice none 0 0] 39)
      have hb2 := hb.alloc hb.size (.cells #[.int .u64 0, .slice none 0 0] 39)
      have HSET := Lib.hid (show (halfP ps n j).set j (.slice e.A e.n e.c) = halfP ps n (j + 1) from halfP_set HPL.out hlt _ (by rw [hge]; rfl))
      have HJL := Lib.hid (show j < (halfP ps n j).length by rw [halfP_len HPL.out hj]; exact hlt)
      clear hc c0 c1 HK he hge
      go_wp2_with ((refine wpList_store_has rfl 39 (.tmp 5) (.tmp 15) rfl wr.heap.size rfl [.int .u64 (e.x : Int), .slice e.A e.n e.c] rfl 39 [.int .u64 0, .slice none 0 0] HN size_ent rfl (one_xe e.x e.A e.n e.c) ?_); intro w3 o3 H3; have f1 : w3.cell? ⟨wr.heap.size, 1, none⟩ = some (.slice e.A e.n e.c) := H3.cell 1; have HK3 := HK2.only o3 (Nat.ne_of_lt hlw); have fz := HK3.froz j; obtain ⟨vk, ck⟩ : ∃ v, w3.cell? ⟨w.heap.size, j, none⟩ = some v := ⟨_, (HK3.cell j).trans (List.getElem?_eq_getElem HJL.out)⟩)
      go_roundw
      case rel =>
        refine ⟨j + 1, by omega, by go_num, ?_, (Only.setCell _ _ _ _).below (o3.below hb2 hb.size) (Nat.le_refl _)⟩
        rw [← HSET.out]
        exact HK3.set j _
      case measure => simp [intOf]; omega
    · obtain rfl : j = n := by omega
      rw [halfP_end HPL.out] at HK
      have HR := Lib.hid (show PcsAt wr (some ⟨w.heap.size, 0, none⟩) j j ps from ⟨by
        have := HK.row 0 j j (by rw [List.length_map, HPL.out]; omega) (Nat.le_refl _) (by unfold maxLen; omega)
        rw [List.drop_zero, List.take_of_length_le (by rw [List.length_map, HPL.out]; omega)] at this
        exact this, fun p hp => (HPB.out p hp).keep hb⟩)
      clear HK
      go_wp2_with fail
      go_ret
      exact ⟨_, _, rfl, HR.out, hb⟩
/-- The two parts that tell how many there are, and how long each is. -/
theorem cSizes' (B : Nat) (A : Option Addr) (n c : Nat) (ps : List Pc) (z : Nat) (hz : eachP ps = z) (hz2 : z ≤ 9223372036854775807) (w : World) (h : Row w A n c (ps.map Pc.val)) (hB : B ≤ w.heap.size) :
    Calls Try.prog 34 #[.slice A n c] w fun e w' => ∃ g p q, e = .returned (.slice (some ⟨g, 0, none⟩) 2 2) ∧ w'.ownsRow w.heap.size 25 1 (.slice (some ⟨g, 0, none⟩) 2 2) 2 ([p, q].map Pc.val) ∧ PX B w' p ∧ PX B w' q ∧ p.l = be64 n ∧ q.l = be64 z ∧ Below w.heap.size w w' := by
  have hle : n ≤ 9223372036854775807 := by have := h.2.1; have := h.2.2.1; unfold maxLen at this; omega
  have K1 := Lib.hid (cCount' n hle w)
  have K2 := Lib.hid (fun (u : World) (hb : Below w.heap.size w u) => cEach' A n c ps z hz u (h.keep hb))
  have K3 := Lib.hid (fun (u : World) => cCount' z hz2 u)
  clear h hz hz2
  go_enter Try.func34, Try.ntmps34
  go_wp2_with fail
  refine (K1.out).mono ?_
  rintro e w2 ⟨v2, rfl, hown2, hb2⟩
  obtain ⟨A2, c2, rfl, hp2⟩ := PX.own (B := B) hown2
  have HP2 := Lib.hid hp2
  clear hown2 hp2 K1
  go_wp2_with fail
  refine (K2.out _ hb2).mono ?_
  rintro e w' ⟨rfl, rfl⟩
  go_wp2_with fail
  refine (K3.out _).mono ?_
  rintro e w3 ⟨v3, rfl, hown3, hb3⟩
  obtain ⟨A3, c3, rfl, hp3⟩ := PX.own (B := B) hown3
  have HP3 := Lib.hid (hp3.alloc (.cells #[.slice A2 8 c2, .slice A3 8 c3] 25))
  have HP2' := Lib.hid ((HP2.out.keep hb3).alloc (.cells #[.slice A2 8 c2, .slice A3 8 c3] 25))
  have hbw := hb2.trans (hb3.mono hb2.size)
  have HO := Lib.hid (own_litPc w3 w.heap.size [⟨A2, 8, c2, be64 n⟩, ⟨A3, 8, c3, be64 z⟩] 2 rfl (by decide) hbw.size)
  have HBW := Lib.hid (hbw.alloc hbw.size (.cells #[.slice A2 8 c2, .slice A3 8 c3] 25))
  clear hown3 hp3 K2 K3 HP2 hb2 hb3 hbw
  go_wp2_with fail
  go_ret
  exact ⟨w3.heap.size, ⟨A2, 8, c2, be64 n⟩, ⟨A3, 8, c3, be64 z⟩, rfl, HO.out, HP2'.out, HP3.out, rfl, rfl, HBW.out⟩
/-! ### isOutside, ContainsFunc of entries -/
theorem fn_outside : ∀ args w, (callFunc 65 args).run Try.prog w = .ok (.enter 65 args) w := enters_of Try.func65 (by kernel_rfl) rfl
theorem outside1 (x : Nat) (A : Option Addr) (n c : Nat) (v : Bool) (hv : decide (rightN x) = v) (hx : x < 18446744073709551616) (w : World) :
    Calls Try.prog 65 #[.agg #[.int .u64 (x : Int), .slice A n c]] w fun e w' => e = .returned (.bool (!v)) ∧ Below w.heap.size w w' := by
  have hb1 := (Below.refl w.heap.size w).alloc (Nat.le_refl _) (.cells #[.int .u64 (x : Int), .slice A n c] 39)
  have H1 := Has.new w 39 [.int .u64 (x : Int), .slice A n c]
  have c0 : (w.alloc (.cells #[.int .u64 (x : Int), .slice A n c] 39)).cell? ⟨w.heap.size, 0, none⟩ = some (.int .u64 (x : Int)) := H1.cell 0
  have A1 := Lib.hid (fun w => groupRight' hv hx rfl w)
  clear H1 hv hx
  go_enter Try.func65, Try.ntmps65
  go_wp2_with fail
  refine (A1.out _).mono ?_
  rintro e w' ⟨rfl, rfl⟩
  go_wp2_with fail
  go_ret
  exact ⟨rfl, hb1⟩
set_option maxHeartbeats 1000000 in
theorem idxEnt (A : Option Addr) (n c : Nat) (es : List Ent) (w : World) (h : Entries w A n c es) :
    Calls Try.prog 77 #[.slice A n c, .func (.func 65) #[] #[]] w fun e w' => ∃ r : Int, e = .returned (.int .i64 r) ∧ decide (0 ≤ r) = (es.any fun e => !decide (rightN e.x)) ∧ Below w.heap.size w w' := by
  have hle := h.le
  have eg := fn_outside
  have HH := Lib.hid h
  obtain ⟨p, hp⟩ : ∃ p : Ent → Bool, p = fun e => !decide (rightN e.x) := ⟨_, rfl⟩
  rw [← hp]
  have HP := Lib.hid (fun e => show (!decide (rightN e.x)) = p e by rw [hp])
  clear h hp
  go_enter Try.func77, Try.ntmps77
  go_wp2
  go_loopg [5, 8] n (fun gg _ s8 wr => ∃ kk : Nat, kk ≤ n ∧ n - kk ≤ gg ∧ s8 = .int .i64 kk ∧ Hid (Below w.heap.size w wr) ∧ Hid ((es.take kk).any p = false))
  case atStart => exact ⟨0, Nat.zero_le _, by omega, rfl, Lib.hid (Below.refl _ w), Lib.hid (by simp)⟩
  case round =>
    obtain ⟨kk, hkk, hg, rfl, BW, AN⟩ := hrel
    by_cases hlt : kk < n
    · have hltz : (kk : Int) < (n : Int) := by omega
      obtain ⟨b, off, rfl, hbl, hc⟩ := HH.out.at_ (by omega)
      obtain ⟨c0, c1⟩ := hc kk hlt
      have hkl : kk < es.length := by rw [HH.out.2.1]; exact hlt
      have d0 := (BW.out.cell (p := ⟨b, off + kk * 2, none⟩) hbl).trans c0
      have d1 := (BW.out.cell (p := ⟨b, off + kk * 2 + 1, none⟩) hbl).trans c1
      have hx64 := (HH.out.get kk hlt).2
      have hst := any_take_succ p es kk hkl
      have hht := any_hit p es kk hkl
      obtain ⟨y, hy⟩ : ∃ y, es.getD kk default = y := ⟨_, rfl⟩
      rw [hy] at d0 d1 hst hht hx64
      have hcall := (outside1 y.x y.A y.n y.c _ rfl hx64 wr).mono fun e w' h => And.intro h.1 (BW.out.trans (h.2.mono BW.out.size))
      rw [HP.out y] at hcall
      cases hq : p y with
      | true =>
        rw [hq] at hcall
        have HE := Lib.hid (hht hq)
        clear hc c0 c1 hst hht hy hx64 hq
        go_wp2_with (go_at_fn 65; refine hcall.mono ?_; rintro e w' ⟨rfl, hb'⟩)
        go_ret
        exact ⟨_, rfl, by rw [HE.out]; exact decide_eq_true (by omega), hb'⟩
      | false =>
        rw [hq] at hcall hst
        rw [AN.out] at hst
        have HE := Lib.hid (show (es.take (kk + 1)).any p = false from hst)
        clear hc c0 c1 hst hht hy hx64 hq
        go_wp2_with (go_at_fn 65; refine hcall.mono ?_; rintro e w' ⟨rfl, hb'⟩)
        go_roundg (n - (kk + 1))
        case measure => omega
        case rel => exact ⟨kk + 1, by omega, by omega, by go_num, Lib.hid hb', HE⟩
    · have hltz : ¬ (kk : Int) < (n : Int) := by omega
      have HE := Lib.hid (show es.any p = false by
        have := AN.out
        rw [List.take_of_length_le (by rw [HH.out.2.1]; omega)] at this
        exact this)
      go_wp2
      go_ret
      exact ⟨_, rfl, by rw [HE.out]; rfl, BW.out⟩
theorem hasEnt (A : Option Addr) (n c : Nat) (es : List Ent) (v : Bool) (hv : (es.any fun e => !decide (rightN e.x)) = v) (w : World) (h : Entries w A n c es) :
    Calls Try.prog 64 #[.slice A n c, .func (.func 65) #[] #[]] w fun e w' => e = .returned (.bool v) ∧ Below w.heap.size w w' := by
  have K := Lib.hid (idxEnt A n c es w h)
  rw [hv] at K
  clear h hv
  go_enter Try.func64, Try.ntmps64
  go_wp2_with fail
  refine (K.out).mono ?_
  rintro e w' ⟨r, rfl, hr, hb⟩
  have HR := Lib.hid hr
  clear hr K
  go_wp2_with fail
  go_ret
  exact ⟨ret_bool HR.out, hb⟩
/-! ### checkEntries -/
theorem any_or {α : Type} (p q : α → Bool) : ∀ l : List α, (l.any fun x => p x || q x) = (l.any p || l.any q)
  | [] => rfl
  | x :: l => by
    rw [List.any_cons, List.any_cons, List.any_cons, any_or p q l]
    cases p x <;> cases q x <;> cases l.any p <;> rfl
theorem any_map' {α β : Type} (f : α → β) (p : β → Bool) (l : List α) : (l.map f).any p = l.any fun x => p (f x) := by simp [List.any_map, Function.comp_def]
theorem any_same {α : Type} (p q : α → Bool) (l : List α) (h : ∀ x ∈ l, p x = q x) : l.any p = l.any q := by
  induction l with
  | nil => rfl
  | cons x l ih => rw [List.any_cons, List.any_cons, h x (by simp), ih fun y hy => h y (by simp [hy])]
section
variable {w : World} {A : Option Addr} {n c : Nat} {es : List Ent}
theorem Entries.long (h : Entries w A n c es) : ((es.map Ent.pc).any fun p => decide (1048576 < p.n)) = longE (es.map Ent.data) := by
  rw [any_map', longE, any_map']
  refine any_same _ _ _ fun e he => ?_
  have := (h.2.2 e he).1.len
  show decide (1048576 < e.n) = decide (1048576 < e.l.length)
  rw [this]
theorem Entries.each (h : Entries w A n c es) : eachP (es.map Ent.pc) = sizeN (es.map Ent.data) := by
  cases es with
  | nil => rfl
  | cons e r =>
    have := (h.2.2 e (by simp)).1.len
    show e.n = e.l.length
    omega
theorem Entries.odd (h : Entries w A n c es) : (((es.map Ent.pc).any fun p => decide (p.n ≠ eachP (es.map Ent.pc))) || (es.any fun e => !decide (rightN e.x))) = oddE (es.map Ent.data) := by
  rw [h.each]
  obtain ⟨z, hz⟩ : ∃ z, sizeN (es.map Ent.data) = z := ⟨_, rfl⟩
  rw [oddE, hz, any_map', any_map', ← any_or]
  refine any_same _ _ _ fun e he => ?_
  have := (h.2.2 e he).1.len
  show (decide (e.n ≠ z) || !decide (rightN e.x)) = decide (e.l.length ≠ z ∨ ¬ rightN e.x)
  rw [this]
  by_cases h1 : e.n = z <;> by_cases h2 : rightN e.x <;> simp [h1, h2]
end
theorem err_of {es : List (Nat × List UInt8)} {k : Nat} (h : (wEntries es).2 = k) : (1000 < es.length → k = 3) ∧ (¬ 1000 < es.length → longE es = true → k = 3) ∧ (¬ 1000 < es.length → longE es = false → oddE es = true → k = 1) ∧ (¬ 1000 < es.length → longE es = false → oddE es = false → k = 0) := by
  subst h
  unfold wEntries
  refine ⟨fun h => by rw [if_pos h], fun h h2 => by rw [if_neg h, if_pos h2], fun h h2 h3 => by rw [if_neg h, if_neg (by simp [h2]), if_pos h3], fun h h2 h3 => by rw [if_neg h, if_neg (by simp [h2]), if_neg (by simp [h3])]⟩
set_option maxHeartbeats 1000000 in
theorem cCheckE' (A : Option Addr) (n c : Nat) (es : List Ent) (k : Nat) (hk : (wEntries (es.map Ent.data)).2 = k) (w : World) (h : Entries w A n c es) :
    Calls Try.prog 33 #[.slice A n c] w fun e w' => e = .returned (.int .i64 (k : Int)) ∧ Below w.heap.size w w' := by
  obtain ⟨k1, k2, k3, k4⟩ := err_of hk
  rw [List.length_map, h.2.1] at k1 k2 k3 k4
  have hlo := h.long
  have hod := h.odd
  have hle := h.le
  clear hk
  by_cases hn : 1000 < n
  · obtain rfl := k1 hn
    have h1 : (1000 : Int) < (n : Int) := by omega
    clear k1 k2 k3 k4 hlo hod hn h
    go_enter Try.func33, Try.ntmps33
    go_wp2_with fail
    go_ret
    exact ⟨rfl, Below.refl _ _⟩
  · have h1 : ¬ (1000 : Int) < (n : Int) := by omega
    have KB := Lib.hid (fun (u : World) (hb : Below w.heap.size w u) => cBoxes' A n c es (by omega) u (h.keep hb))
    obtain ⟨ps, hps⟩ : ∃ ps, es.map Ent.pc = ps := ⟨_, rfl⟩
    obtain ⟨v, hv⟩ : ∃ v, (ps.any fun p => decide (1048576 < p.n)) = v := ⟨_, rfl⟩
    have KL := Lib.hid (fun (A' : Option Addr) (c' : Nat) (u : World) (hr : PcsAt u A' n c' ps) => cTooLong' A' n c' ps v hv u hr.1)
    rw [hps] at KB hlo hod
    rw [hv] at hlo
    have HB0 := Below.refl w.heap.size w
    cases v with
    | true =>
      obtain rfl := k2 hn hlo.symm
      clear k1 k2 k3 k4 hlo hod hn h hps hv
      go_enter Try.func33, Try.ntmps33
      go_wp2_with fail
      refine (KB.out _ HB0).mono ?_
      rintro e w2 ⟨A2, c2, rfl, hr2, hb2⟩
      have KL2 := Lib.hid (KL.out A2 c2 w2 hr2)
      clear hr2 KL KB HB0
      go_wp2_with fail
      refine (KL2.out).mono ?_
      rintro e w3 ⟨rfl, hb3⟩
      go_wp2_with fail
      go_ret
      exact ⟨rfl, hb2.trans (hb3.mono hb2.size)⟩
    | false =>
      obtain ⟨o, ho⟩ : ∃ o, (ps.any fun p => decide (p.n ≠ eachP ps)) = o := ⟨_, rfl⟩
      obtain ⟨r, hr⟩ : ∃ r, (es.any fun e => !decide (rightN e.x)) = r := ⟨_, rfl⟩
      have KA := Lib.hid (fun (A' : Option Addr) (c' : Nat) (u : World) (hr : PcsAt u A' n c' ps) => cAlike' A' n c' ps o ho u hr.1)
      have KE := Lib.hid (fun (u : World) (hb : Below w.heap.size w u) => hasEnt A n c es r hr u (h.keep hb))
      rw [ho, hr] at hod
      cases o with
      | true =>
        obtain rfl := k3 hn hlo.symm (by rw [← hod]; rfl)
        clear k1 k2 k3 k4 hlo hod hn h hps hv ho hr KE
        go_enter Try.func33, Try.ntmps33
        go_wp2_with fail
        refine (KB.out _ HB0).mono ?_
        rintro e w2 ⟨A2, c2, rfl, hr2, hb2⟩
        have KL2 := Lib.hid (KL.out A2 c2 w2 hr2)
        clear hr2 KL HB0
        go_wp2_with fail
        refine (KL2.out).mono ?_
        rintro e w3 ⟨rfl, hb30⟩
        have hb3 := hb2.trans (hb30.mono hb2.size)
        clear KL2 hb30 hb2
        go_wp2_with fail
        refine (KB.out _ hb3).mono ?_
        rintro e w4 ⟨A4, c4, rfl, hr4, hb40⟩
        have KA4 := Lib.hid (KA.out A4 c4 w4 hr4)
        have hb4 := hb3.trans (hb40.mono hb3.size)
        clear hr4 KA KB hb3 hb40
        go_wp2_with fail
        refine (KA4.out).mono ?_
        rintro e w5 ⟨rfl, hb50⟩
        have hb5 := hb4.trans (hb50.mono hb4.size)
        clear hb50 hb4 KA4
        go_wp2_with fail
        go_ret
        exact ⟨rfl, hb5⟩
      | false =>
        cases r with
        | true =>
          obtain rfl := k3 hn hlo.symm (by rw [← hod]; rfl)
          clear k1 k2 k3 k4 hlo hod hn h hps hv ho hr
          go_enter Try.func33, Try.ntmps33
          go_wp2_with fail
          refine (KB.out _ HB0).mono ?_
          rintro e w2 ⟨A2, c2, rfl, hr2, hb2⟩
          have KL2 := Lib.hid (KL.out A2 c2 w2 hr2)
          clear hr2 KL HB0
          go_wp2_with fail
          refine (KL2.out).mono ?_
          rintro e w3 ⟨rfl, hb30⟩
          have hb3 := hb2.trans (hb30.mono hb2.size)
          clear KL2 hb30 hb2
          go_wp2_with fail
          refine (KB.out _ hb3).mono ?_
          rintro e w4 ⟨A4, c4, rfl, hr4, hb40⟩
          have KA4 := Lib.hid (KA.out A4 c4 w4 hr4)
          have hb4 := hb3.trans (hb40.mono hb3.size)
          clear hr4 KA KB hb3 hb40
          go_wp2_with fail
          refine (KA4.out).mono ?_
          rintro e w5 ⟨rfl, hb50⟩
          have hb5 := hb4.trans (hb50.mono hb4.size)
          clear hb50 hb4 KA4
          go_wp2_with fail
          refine (KE.out _ hb5).mono ?_
          rintro e w6 ⟨rfl, hb60⟩
          go_wp2_with fail
          go_ret
          exact ⟨rfl, hb5.trans (hb60.mono hb5.size)⟩
        | false =>
          obtain rfl := k4 hn hlo.symm (by rw [← hod]; rfl)
          clear k1 k2 k3 k4 hlo hod hn h hps hv ho hr
          go_enter Try.func33, Try.ntmps33
          go_wp2_with fail
          refine (KB.out _ HB0).mono ?_
          rintro e w2 ⟨A2, c2, rfl, hr2, hb2⟩
          have KL2 := Lib.hid (KL.out A2 c2 w2 hr2)
          clear hr2 KL HB0
          go_wp2_with fail
          refine (KL2.out).mono ?_
          rintro e w3 ⟨rfl, hb30⟩
          have hb3 := hb2.trans (hb30.mono hb2.size)
          clear KL2 hb30 hb2
          go_wp2_with fail
          refine (KB.out _ hb3).mono ?_
          rintro e w4 ⟨A4, c4, rfl, hr4, hb40⟩
          have KA4 := Lib.hid (KA.out A4 c4 w4 hr4)
          have hb4 := hb3.trans (hb40.mono hb3.size)
          clear hr4 KA KB hb3 hb40
          go_wp2_with fail
          refine (KA4.out).mono ?_
          rintro e w5 ⟨rfl, hb50⟩
          have hb5 := hb4.trans (hb50.mono hb4.size)
          clear hb50 hb4 KA4
          go_wp2_with fail
          refine (KE.out _ hb5).mono ?_
          rintro e w6 ⟨rfl, hb60⟩
          go_wp2_with fail
          go_ret
          exact ⟨rfl, hb5.trans (hb60.mono hb5.size)⟩
end Go.Proofs.Ytiilgkajijnbcaa
