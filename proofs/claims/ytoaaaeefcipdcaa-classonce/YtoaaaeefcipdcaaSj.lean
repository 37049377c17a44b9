import Derived.Test.YtoaaaeefcipdcaaSi
/-
  What a Set tells.
-/
namespace Go.Proofs.Ytoaaaeefcipdcaa
open Go.RowKit
set_option linter.unusedVariables false

theorem field96_0 (a b c d : Value) (w : World) : (Instr.field 112 (.agg #[a, b, c, d]) 0).run Try.prog w = .ok a w := by kernel_rfl
theorem field96_2 (a b c d : Value) (w : World) : (Instr.field 112 (.agg #[a, b, c, d]) 2).run Try.prog w = .ok c w := by kernel_rfl
theorem field96_3 (a b c d : Value) (w : World) : (Instr.field 112 (.agg #[a, b, c, d]) 3).run Try.prog w = .ok d w := by kernel_rfl

/-- The numbers are small enough. -/
structure Fit (A : Ab) : Prop extends Szs A where
  nm : A.np ≤ A.m
  rt : ∀ c, c < A.n → (A.row c).length + A.tk c ≤ 16777216

theorem Szs.ps0 {A : Ab} (h : Szs A) : 4096 ≤ A.ps ∧ A.ps ≤ 1048576 ∧ A.ps % 8 = 0 := by
  obtain ⟨k, hk⟩ := h.pp
  have h1 : PageOk (A.ps : Int) := ⟨k, by rw [hk.1], hk.2⟩
  have h2 := h1.bounds
  omega
theorem Szs.each {A : Ab} (h : Szs A) {c : Nat} (hc : c < A.n) : 1 ≤ A.each c ∧ A.each c ≤ 16384 ∧ A.each c * A.sz c ≤ A.ps := by
  have h1 := h.lo c hc
  have h2 := h.hi c hc
  have h3 := h.ps0
  refine ⟨(Nat.le_div_iff_mul_le (by omega)).2 (by omega), ?_, Nat.div_mul_le_self _ _⟩
  have := Nat.div_le_div (a := A.ps) (b := 1048576) (c := A.sz c) (d := 64) (by omega) h1 (by omega)
  exact this

section
variable {w : World} {sb : Nat} {F : Nat → Prop} {B : Bl} {b c d e f g : Int} {A : Ab} {zs : List Int}

theorem arena_39 (h : IsS w sb F B b c d e f g A zs) : Calls Try.prog 46 #[.pointer (some ⟨sb, 0, none⟩)] w fun x w' => x = .returned (.pointer (some ⟨B.ab, 0, none⟩)) ∧ w = w' := by
  have c7 := h.sc 7
  simp [setC] at c7
  go_enter Try.func46, Try.ntmps46
  go_wp2
  go_ret
  exact ⟨rfl, rfl⟩
theorem classes_20 (h : IsS w sb F B b c d e f g A zs) (hA : Szs A) : Calls Try.prog 18 #[.pointer (some ⟨sb, 0, none⟩)] w fun x w' => x = .returned (.int .i64 A.n) ∧ w = w' := by
  have c8 := h.sc 8
  simp [setC] at c8
  have := hA.n2
  go_enter Try.func18, Try.ntmps18
  go_wp2
  go_ret
  exact ⟨rfl, rfl⟩
theorem config_22 (h : IsS w sb F B b c d e f g A zs) : Calls Try.prog 51 #[.pointer (some ⟨sb, 0, none⟩)] w fun x w' => x = .returned (cfgV A.ps b c d e f g) ∧ w.grownBy w' none := by
  have c0 := h.sc 0
  have c1 := h.sc 1
  have c2 := h.sc 2
  have c3 := h.sc 3
  have c4 := h.sc 4
  have c5 := h.sc 5
  have c6 := h.sc 6
  simp [setC] at c0 c1 c2 c3 c4 c5 c6
  have k := fun (o : Obj) (i : Nat) (v : Value) (hv : w.cell? ⟨sb, i, none⟩ = some v) => gb_cellN (World.grownBy_alloc w o none) hv
  have d0 := fun o => k o 0 _ c0
  have d1 := fun o => k o 1 _ c1
  have d2 := fun o => k o 2 _ c2
  have d3 := fun o => k o 3 _ c3
  have d4 := fun o => k o 4 _ c4
  have d5 := fun o => k o 5 _ c5
  have d6 := fun o => k o 6 _ c6
  clear k
  go_enter Try.func51, Try.ntmps51
  go_wp2
  exact bodyPost_ret (v := cfgV A.ps b c d e f g) (by unfold cfgV; simp [results, Try.results51, go_sem]) rfl ⟨rfl, gb_alloc (gb_refl _ _) _⟩
theorem freePages_21 (h : IsS w sb F B b c d e f g A zs) (hA : Fit A) : Calls Try.prog 58 #[.pointer (some ⟨sb, 0, none⟩)] w fun x w' => x = .returned (.int .i64 ((A.m - A.np : Nat) : Int)) ∧ ∃ q, w' = w.drewN q := by
  have c1 := h.sc 1
  have c9 := h.sc 9
  simp [setC] at c1 c9
  obtain ⟨ao, cp, hp, h1, h2, h3, h4⟩ := row_shape h.pages
  rw [hp] at c9
  have hb := h.bm
  have hnm := hA.nm
  have hmm := hA.mm
  rw [hb] at c1
  have hsub : (A.m : Int) - A.np = ((A.m - A.np : Nat) : Int) := by omega
  clear h hp h1 h4 hb
  generalize A.m - A.np = q at *
  generalize A.m = m at *
  generalize A.np = np at *
  go_enter Try.func58, Try.ntmps58
  go_wp2
  go_quiet (fail)
  go_wp2
  go_ret
  exact ⟨rfl, _, rfl⟩
theorem has_50 (h : IsS w sb F B b c d e f g A zs) (hA : Szs A) (x : Int) : Calls Try.prog 57 #[.pointer (some ⟨sb, 0, none⟩), .int .i64 x] w fun y w' => y = .returned (.bool (decide (0 ≤ x ∧ x < A.n))) ∧ w = w' := by
  have c8 := h.sc 8
  simp [setC] at c8
  have := hA.n2
  clear h hA
  generalize A.n = n at *
  by_cases h0 : 0 ≤ x
  · by_cases h1 : x < n
    · have HD : Hid (decide (0 ≤ x ∧ x < n) = true) := by show _ = _; simp [h0, h1]
      rw [HD.out]
      go_enter Try.func57, Try.ntmps57
      go_wp2
      go_ret
      exact ⟨rfl, rfl⟩
    · have HD : Hid (decide (0 ≤ x ∧ x < n) = false) := by show _ = _; simp [h1]
      rw [HD.out]
      go_enter Try.func57, Try.ntmps57
      go_wp2
      go_ret
      exact ⟨rfl, rfl⟩
  · have HD : Hid (decide (0 ≤ x ∧ x < n) = false) := by show _ = _; simp [h0]
    rw [HD.out]
    go_enter Try.func57, Try.ntmps57
    go_wp2
    go_ret
    exact ⟨rfl, rfl⟩
theorem has_yes (h : IsS w sb F B b c d e f g A zs) (hA : Szs A) (i : Nat) (hi : i < A.n) : Calls Try.prog 57 #[.pointer (some ⟨sb, 0, none⟩), .int .i64 i] w fun y w' => y = .returned (.bool true) ∧ w = w' := by
  have := has_50 h hA i
  rwa [show decide ((0 : Int) ≤ i ∧ (i : Int) < A.n) = true by simp; omega] at this
theorem has_no (h : IsS w sb F B b c d e f g A zs) (hA : Szs A) (x : Int) (hx : ¬ (0 ≤ x ∧ x < A.n)) : Calls Try.prog 57 #[.pointer (some ⟨sb, 0, none⟩), .int .i64 x] w fun y w' => y = .returned (.bool false) ∧ w = w' := by
  have := has_50 h hA x
  rwa [show decide (0 ≤ x ∧ x < A.n) = false by simp only [decide_eq_false_iff_not]; exact hx] at this

theorem kind_yes (h : IsS w sb F B b c d e f g A zs) (hA : Szs A) (i : Nat) (hi : i < A.n) : Calls Try.prog 54 #[.pointer (some ⟨sb, 0, none⟩), .int .i64 i] w fun y w' => y = .returned (.agg #[.int .i64 (A.sz i), .int .i64 (A.each i), B.rv i, .int .i64 (A.tk i)]) ∧ w.grownBy w' none := by
  have c8 := h.sc 8
  simp [setC] at c8
  have k := fun (o : Obj) (x : Addr) (v : Value) (hv : w.cell? x = some v) => gb_cellN (World.grownBy_alloc w o none) hv
  have e0 := h.kcell hi (j := 0) (by omega)
  have e1 := h.kcell hi (j := 1) (by omega)
  have e2 := h.kcell hi (j := 2) (by omega)
  have e3 := h.kcell hi (j := 3) (by omega)
  simp only [kindC, List.getElem?_cons_zero, List.getElem?_cons_succ, Nat.add_zero] at e0 e1 e2 e3
  obtain ⟨ao, cp, hrv, _, _, _, _⟩ := row_shape (h.rows i hi)
  rw [hrv] at e2 ⊢
  have hn := hA.n2
  have hk : Calls Try.prog 57 #[.pointer (some ⟨sb, 0, none⟩), .int .i64 i] (w.alloc (.cells #[.int .i64 0, .int .i64 0, .slice none 0 0, .int .i64 0] 112)) fun y w' => y = .returned (.bool true) ∧ w.alloc (.cells #[.int .i64 0, .int .i64 0, .slice none 0 0, .int .i64 0] 112) = w' := has_yes (h.kept0 (World.grownBy_alloc _ _ _)) hA i hi
  have f8 := fun o => k o _ _ c8
  have f0 := fun o => k o _ _ e0
  have f1 := fun o => k o _ _ e1
  have f2 := fun o => k o _ _ e2
  have f3 := fun o => k o _ _ e3
  clear k h
  go_enter Try.func54, Try.ntmps54
  go_wp2_with (first | (go_at_call 57; go_must (refine hk.mono ?_); rintro y w' ⟨rfl, rfl⟩) | fail)
  exact bodyPost_ret (v := .agg #[.int .i64 (A.sz i), .int .i64 (A.each i), .slice ao (A.row i).length cp, .int .i64 (A.tk i)]) (by simp [results, Try.results54, go_sem]) rfl ⟨rfl, gb_alloc (gb_refl _ _) _⟩
theorem kind_no (h : IsS w sb F B b c d e f g A zs) (hA : Szs A) (x : Int) (hx : ¬ (0 ≤ x ∧ x < A.n)) : Calls Try.prog 54 #[.pointer (some ⟨sb, 0, none⟩), .int .i64 x] w fun y w' => y = .returned (.agg #[.int .i64 0, .int .i64 0, .slice none 0 0, .int .i64 0]) ∧ w.grownBy w' none := by
  have hk : Calls Try.prog 57 #[.pointer (some ⟨sb, 0, none⟩), .int .i64 x] (w.alloc (.cells #[.int .i64 0, .int .i64 0, .slice none 0 0, .int .i64 0] 112)) fun y w' => y = .returned (.bool false) ∧ w.alloc (.cells #[.int .i64 0, .int .i64 0, .slice none 0 0, .int .i64 0] 112) = w' := has_no (h.kept0 (World.grownBy_alloc _ _ _)) hA x hx
  clear h hx
  go_enter Try.func54, Try.ntmps54
  go_wp2_with (first | (go_at_call 57; go_must (refine hk.mono ?_); rintro y w' ⟨rfl, rfl⟩) | fail)
  exact bodyPost_ret (v := .agg #[.int .i64 0, .int .i64 0, .slice none 0 0, .int .i64 0]) (by simp [results, Try.results54, go_sem]) rfl ⟨rfl, gb_alloc (gb_refl _ _) _⟩

set_option maxRecDepth 100000 in
theorem chunk_yes (h : IsS w sb F B b c d e f g A zs) (hA : Szs A) (i : Nat) (hi : i < A.n) : Calls Try.prog 19 #[.pointer (some ⟨sb, 0, none⟩), .int .i64 i] w fun y w' => y = .returned (.int .i64 (A.sz i)) ∧ w.grownBy w' none := by
  have hk := kind_yes h hA i hi
  have hfd := field96_0
  go_enter Try.func19, Try.ntmps19
  go_wp2_with (first | (go_at_call 54; go_must (refine hk.mono ?_); rintro y w' ⟨rfl, hf⟩) | fail)
  go_ret
  exact ⟨rfl, hf⟩
set_option maxRecDepth 100000 in
theorem chunk_no (h : IsS w sb F B b c d e f g A zs) (hA : Szs A) (x : Int) (hx : ¬ (0 ≤ x ∧ x < A.n)) : Calls Try.prog 19 #[.pointer (some ⟨sb, 0, none⟩), .int .i64 x] w fun y w' => y = .returned (.int .i64 0) ∧ w.grownBy w' none := by
  have hk := kind_no h hA x hx
  have hfd := field96_0
  go_enter Try.func19, Try.ntmps19
  go_wp2_with (first | (go_at_call 54; go_must (refine hk.mono ?_); rintro y w' ⟨rfl, hf⟩) | fail)
  go_ret
  exact ⟨rfl, hf⟩
set_option maxRecDepth 100000 in
theorem taken_yes (h : IsS w sb F B b c d e f g A zs) (hA : Szs A) (i : Nat) (hi : i < A.n) : Calls Try.prog 69 #[.pointer (some ⟨sb, 0, none⟩), .int .i64 i] w fun y w' => y = .returned (.int .i64 (A.tk i)) ∧ w.grownBy w' none := by
  have hk := kind_yes h hA i hi
  have hfd := field96_3
  go_enter Try.func69, Try.ntmps69
  go_wp2_with (first | (go_at_call 54; go_must (refine hk.mono ?_); rintro y w' ⟨rfl, hf⟩) | fail)
  go_ret
  exact ⟨rfl, hf⟩
set_option maxRecDepth 100000 in
theorem taken_no (h : IsS w sb F B b c d e f g A zs) (hA : Szs A) (x : Int) (hx : ¬ (0 ≤ x ∧ x < A.n)) : Calls Try.prog 69 #[.pointer (some ⟨sb, 0, none⟩), .int .i64 x] w fun y w' => y = .returned (.int .i64 0) ∧ w.grownBy w' none := by
  have hk := kind_no h hA x hx
  have hfd := field96_3
  go_enter Try.func69, Try.ntmps69
  go_wp2_with (first | (go_at_call 54; go_must (refine hk.mono ?_); rintro y w' ⟨rfl, hf⟩) | fail)
  go_ret
  exact ⟨rfl, hf⟩
set_option maxRecDepth 100000 in
theorem free_yes (h : IsS w sb F B b c d e f g A zs) (hA : Fit A) (i : Nat) (hi : i < A.n) : Calls Try.prog 70 #[.pointer (some ⟨sb, 0, none⟩), .int .i64 i] w fun y w' => y = .returned (.int .i64 (A.row i).length) ∧ w.grownBy w' none := by
  have hk := kind_yes h hA.toSzs i hi
  obtain ⟨ao, cp, hrv, _, _, _, _⟩ := row_shape (h.rows i hi)
  rw [hrv] at hk
  have := hA.rt i hi
  have hfd := field96_2
  go_enter Try.func70, Try.ntmps70
  go_wp2_with (first | (go_at_call 54; go_must (refine hk.mono ?_); rintro y w' ⟨rfl, hf⟩) | fail)
  go_ret
  exact ⟨rfl, hf⟩
set_option maxRecDepth 100000 in
theorem free_no (h : IsS w sb F B b c d e f g A zs) (hA : Szs A) (x : Int) (hx : ¬ (0 ≤ x ∧ x < A.n)) : Calls Try.prog 70 #[.pointer (some ⟨sb, 0, none⟩), .int .i64 x] w fun y w' => y = .returned (.int .i64 0) ∧ w.grownBy w' none := by
  have hk := kind_no h hA x hx
  have hfd := field96_2
  go_enter Try.func70, Try.ntmps70
  go_wp2_with (first | (go_at_call 54; go_must (refine hk.mono ?_); rintro y w' ⟨rfl, hf⟩) | fail)
  go_ret
  exact ⟨rfl, hf⟩

def Ab.quota (A : Ab) (i : Nat) : Nat := (A.row i).length + A.tk i + (A.m - A.np) * A.each i

theorem quota_yes (h : IsS w sb F B b c d e f g A zs) (hA : Fit A) (i : Nat) (hi : i < A.n) : Calls Try.prog 71 #[.pointer (some ⟨sb, 0, none⟩), .int .i64 i] w fun y w' => y = .returned (.int .i64 (A.quota i)) ∧ w.grownBy w' none := by
  have hk := (kind_yes h hA.toSzs i hi).mono (R' := fun y w' => y = .returned (.agg #[.int .i64 (A.sz i), .int .i64 (A.each i), B.rv i, .int .i64 (A.tk i)]) ∧ w.grownBy w' none ∧ IsS w' sb F B b c d e f g A zs) (by rintro y w' ⟨rfl, hf⟩; exact ⟨rfl, hf, h.kept0 hf⟩)
  obtain ⟨ao, cp, hrv, _, _, _, _⟩ := row_shape (h.rows i hi)
  rw [hrv] at hk
  have h1 := hA.rt i hi
  have h2 := hA.toSzs.each hi
  have h3 := hA.nm
  have h4 := hA.mm
  have HQ : Hid (A.quota i = (A.row i).length + A.tk i + (A.m - A.np) * A.each i) := rfl
  have hmul : (A.m - A.np) * A.each i ≤ 1024 * 16384 := Nat.mul_le_mul (by omega) h2.2.1
  have hfp := fun W (hW : IsS W sb F B b c d e f g A zs) => freePages_21 hW hA
  clear h hrv
  generalize A.quota i = qq at *
  generalize hmm : A.m - A.np = fp at *
  generalize (A.row i).length = rl at *
  generalize A.tk i = tk at *
  generalize A.each i = ea at *
  generalize A.sz i = sz at *
  obtain ⟨pr, hpr⟩ : ∃ pr, pr = fp * ea := ⟨_, rfl⟩
  have hpi : (fp : Int) * ea = pr := by rw [hpr]; simp
  rw [← hpr] at hmul HQ
  clear hpr hmm
  go_enter Try.func71, Try.ntmps71
  go_wp2_with (first | (go_at_call 54; go_must (refine hk.mono ?_); rintro y w1 ⟨rfl, hf, hS⟩; have hfp1 := hfp _ (IsS.kept0 hS (World.grownBy_alloc _ (.cells #[.int .i64 sz, .int .i64 ea, .slice ao rl cp, .int .i64 tk] 112) none))) | fail)
  have hF1 : w.grownBy (w1.alloc (.cells #[.int .i64 sz, .int .i64 ea, .slice ao rl cp, .int .i64 tk] 112)) none := gb_alloc hf _
  go_quiet ((go_at_call 58; with_reducible exact Calls.quiet_of (hfp _ (IsS.kept0 (IsS.kept0 hS (World.grownBy_alloc _ (.cells #[.int .i64 sz, .int .i64 ea, .slice ao rl cp, .int .i64 tk] 112) none)) (gb_drewN (gb_refl _ none) _)))))
  go_wp2
  go_ret
  refine ⟨congrArg (fun z => Ending.returned (Value.int .i64 z)) (?_ : (rl : Int) + tk + pr = qq), gb_drewN hF1 _⟩
  have := HQ.out
  omega
theorem quota_no (h : IsS w sb F B b c d e f g A zs) (hA : Fit A) (x : Int) (hx : ¬ (0 ≤ x ∧ x < A.n)) : Calls Try.prog 71 #[.pointer (some ⟨sb, 0, none⟩), .int .i64 x] w fun y w' => y = .returned (.int .i64 0) ∧ w.grownBy w' none := by
  have hk := (kind_no h hA.toSzs x hx).mono (R' := fun y w' => y = .returned (.agg #[.int .i64 0, .int .i64 0, .slice none 0 0, .int .i64 0]) ∧ w.grownBy w' none ∧ IsS w' sb F B b c d e f g A zs) (by rintro y w' ⟨rfl, hf⟩; exact ⟨rfl, hf, h.kept0 hf⟩)
  have h3 := hA.nm
  have h4 := hA.mm
  have hfp := fun W (hW : IsS W sb F B b c d e f g A zs) => freePages_21 hW hA
  clear h hx
  generalize hmm : A.m - A.np = fp at *
  go_enter Try.func71, Try.ntmps71
  go_wp2_with (first | (go_at_call 54; go_must (refine hk.mono ?_); rintro y w1 ⟨rfl, hf, hS⟩) | fail)
  have hF1 : w.grownBy (w1.alloc (.cells #[.int .i64 0, .int .i64 0, .slice none 0 0, .int .i64 0] 112)) none := gb_alloc hf _
  go_quiet ((go_at_call 58; with_reducible exact Calls.quiet_of (hfp _ (IsS.kept0 (IsS.kept0 hS (World.grownBy_alloc _ (.cells #[.int .i64 0, .int .i64 0, .slice none 0 0, .int .i64 0] 112) none)) (gb_drewN (gb_refl _ none) _)))))
  go_wp2
  go_ret
  exact ⟨rfl, gb_drewN hF1 _⟩

theorem IsS.pcell (h : IsS w sb F B b c d e f g A zs) {p j : Nat} (hp : p < A.np) (hj : j < 2) : ∃ pb cp, B.pv = .slice (some ⟨pb, 0, none⟩) A.np cp ∧ w.cell? ⟨pb, p * 2 + j, none⟩ = (pageC A B.cb p)[j]? := by
  obtain ⟨ao, cp, hpv, _, _, _, h4⟩ := row_shape h.pages
  obtain ⟨pb, rfl⟩ := h4 (by omega)
  have e := rng_get (pageC_len A B.cb) hp hj
  have hl : j < (pageC A B.cb p).length := hj
  rw [List.getElem?_eq_getElem hl] at e
  have hr := h.pages
  rw [hpv] at hr
  exact ⟨pb, cp, hpv, by rw [row_cell hr _ _ e, List.getElem?_eq_getElem hl]⟩

theorem owner_yes (h : IsS w sb F B b c d e f g A zs) (hA : Fit A) (p : Nat) (hp : p < A.np) : Calls Try.prog 64 #[.pointer (some ⟨sb, 0, none⟩), .int .i64 p] w fun y w' => y = .returned (.int .i64 (A.own p)) ∧ w = w' := by
  have c9 := h.sc 9
  simp [setC] at c9
  obtain ⟨pb, cp, hpv, e0⟩ := h.pcell hp (j := 0) (by omega)
  rw [hpv] at c9
  simp only [pageC, List.getElem?_cons_zero, Nat.add_zero] at e0
  have h3 := hA.nm
  have h4 := hA.mm
  clear h hpv
  generalize A.own p = op at *
  generalize A.np = np at *
  go_enter Try.func64, Try.ntmps64
  go_wp2
  go_ret
  exact ⟨rfl, rfl⟩
theorem owner_no (h : IsS w sb F B b c d e f g A zs) (hA : Fit A) (x : Int) (hx : ¬ (0 ≤ x ∧ x < A.np)) : Calls Try.prog 64 #[.pointer (some ⟨sb, 0, none⟩), .int .i64 x] w fun y w' => y = .returned (.int .i64 (-1)) ∧ w = w' := by
  have c9 := h.sc 9
  simp [setC] at c9
  obtain ⟨ao, cp, hpv, _, _, _, h4⟩ := row_shape h.pages
  rw [hpv] at c9
  have h3 := hA.nm
  have h4 := hA.mm
  clear h hpv
  generalize A.np = np at *
  by_cases h0 : x < 0
  · clear hx
    go_enter Try.func64, Try.ntmps64
    go_wp2
    go_ret
    exact ⟨rfl, rfl⟩
  · have h1 : (np : Int) ≤ x := by omega
    clear hx
    go_enter Try.func64, Try.ntmps64
    go_wp2
    go_ret
    exact ⟨rfl, rfl⟩
end

end Go.Proofs.Ytoaaaeefcipdcaa
