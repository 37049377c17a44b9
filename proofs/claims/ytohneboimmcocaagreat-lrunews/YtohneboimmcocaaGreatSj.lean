import Derived.Test.YtohneboimmcocaaGreatSi
/-
  What a Set tells.
-/
namespace Go.Proofs.YtohneboimmcocaaGreat
open Go.RowKit
set_option linter.unusedVariables false

theorem field96_0 (a b c d : Value) (w : World) : (Instr.field 149 (.agg #[a, b, c, d]) 0).run Tryz.prog w = .ok a w := by kernel_rfl
theorem field96_2 (a b c d : Value) (w : World) : (Instr.field 149 (.agg #[a, b, c, d]) 2).run Tryz.prog w = .ok c w := by kernel_rfl
theorem field96_3 (a b c d : Value) (w : World) : (Instr.field 149 (.agg #[a, b, c, d]) 3).run Tryz.prog w = .ok d w := by kernel_rfl

/-- The numbers are small enough. -/
structure Fit (A : Ab) : Prop extends Szs A where
  nm : A.np ≤ A.m
  rt : ∀ c, c < A.n → (A.row c).length + A.tk c ≤ 16777216

theorem Szs.ps0 {A : Ab} (h : Szs A) : 4096 ≤ A.ps ∧ A.ps ≤ 1048576 ∧ A.ps % 8 = 0 := by
  obtain ⟨k, hk⟩ := h.pp
  have h1 : PageOk (A.ps : Int) := ⟨k, by rw [hk.1], hk.2⟩
  have h2 := h1.bounds
  omega
theorem Szs.each {A : Ab} (h : Szs A) {c : Nat} (hc : c < A.n) : 1 ≤ A.each c ∧ A.each c ≤ 16384 ∧ A.each c * A.sz c ≤ A.ps := by
  have h1 := h.lo c hc
  have h2 := h.hi c hc
  have h3 := h.ps0
  refine ⟨(Nat.le_div_iff_mul_le (by omega)).2 (by omega), ?_, Nat.div_mul_le_self _ _⟩
  have := Nat.div_le_div (a := A.ps) (b := 1048576) (c := A.sz c) (d := 64) (by omega) h1 (by omega)
  exact this

section
variable {w : World} {sb : Nat} {F : Nat → Prop} {B : Bl} {b c d e f g : Int} {A : Ab} {zs : List Int}

theorem arena_39 (h : IsS w sb F B b c d e f g A zs) : Calls Tryz.prog 158 #[.pointer (some ⟨sb, 0, none⟩)] w fun x w' => x = .returned (.pointer (some ⟨B.ab, 0, none⟩)) ∧ w = w' := by
  have c7 := h.sc 7
  simp [setC] at c7
  go_enter Tryz.func158, Tryz.ntmps158
  go_wp2
  go_ret
  exact ⟨rfl, rfl⟩
theorem classes_20 (h : IsS w sb F B b c d e f g A zs) (hA : Szs A) : Calls Tryz.prog 114 #[.pointer (some ⟨sb, 0, none⟩)] w fun x w' => x = .returned (.int .i64 A.n) ∧ w = w' := by
  have c8 := h.sc 8
  simp [setC] at c8
  have := hA.n2
  go_enter Tryz.func114, Tryz.ntmps114
  go_wp2
  go_ret
  exact ⟨rfl, rfl⟩
theorem freePages_21 (h : IsS w sb F B b c d e f g A zs) (hA : Fit A) : Calls Tryz.prog 126 #[.pointer (some ⟨sb, 0, none⟩)] w fun x w' => x = .returned (.int .i64 ((A.m - A.np : Nat) : Int)) ∧ ∃ q, w' = w.drewN q := by
  have c1 := h.sc 1
  have c9 := h.sc 9
  simp [setC] at c1 c9
  obtain ⟨ao, cp, hp, h1, h2, h3, h4⟩ := row_shape h.pages
  rw [hp] at c9
  have hb := h.bm
  have hnm := hA.nm
  have hmm := hA.mm
  rw [hb] at c1
  have hsub : (A.m : Int) - A.np = ((A.m - A.np : Nat) : Int) := by omega
  clear h hp h1 h4 hb
  generalize A.m - A.np = q at *
  generalize A.m = m at *
  generalize A.np = np at *
  go_enter Tryz.func126, Tryz.ntmps126
  go_wp2
  go_quiet (fail)
  go_wp2
  go_ret
  exact ⟨rfl, _, rfl⟩
theorem has_50 (h : IsS w sb F B b c d e f g A zs) (hA : Szs A) (x : Int) : Calls Tryz.prog 125 #[.pointer (some ⟨sb, 0, none⟩), .int .i64 x] w fun y w' => y = .returned (.bool (decide (0 ≤ x ∧ x < A.n))) ∧ w = w' := by
  have c8 := h.sc 8
  simp [setC] at c8
  have := hA.n2
  clear h hA
  generalize A.n = n at *
  by_cases h0 : 0 ≤ x
  · by_cases h1 : x < n
    · have HD : Hid (decide (0 ≤ x ∧ x < n) = true) := by show _ = _; simp [h0, h1]
      rw [HD.out]
      go_enter Tryz.func125, Tryz.ntmps125
      go_wp2
      go_ret
      exact ⟨rfl, rfl⟩
    · have HD : Hid (decide (0 ≤ x ∧ x < n) = false) := by show _ = _; simp [h1]
      rw [HD.out]
      go_enter Tryz.func125, Tryz.ntmps125
      go_wp2
      go_ret
      exact ⟨rfl, rfl⟩
  · have HD : Hid (decide (0 ≤ x ∧ x < n) = false) := by show _ = _; simp [h0]
    rw [HD.out]
    go_enter Tryz.func125, Tryz.ntmps125
    go_wp2
    go_ret
    exact ⟨rfl, rfl⟩
theorem has_yes (h : IsS w sb F B b c d e f g A zs) (hA : Szs A) (i : Nat) (hi : i < A.n) : Calls Tryz.prog 125 #[.pointer (some ⟨sb, 0, none⟩), .int .i64 i] w fun y w' => y = .returned (.bool true) ∧ w = w' := by
  have := has_50 h hA i
  rwa [show decide ((0 : Int) ≤ i ∧ (i : Int) < A.n) = true by simp; omega] at this
theorem has_no (h : IsS w sb F B b c d e f g A zs) (hA : Szs A) (x : Int) (hx : ¬ (0 ≤ x ∧ x < A.n)) : Calls Tryz.prog 125 #[.pointer (some ⟨sb, 0, none⟩), .int .i64 x] w fun y w' => y = .returned (.bool false) ∧ w = w' := by
  have := has_50 h hA x
  rwa [show decide (0 ≤ x ∧ x < A.n) = false by simp only [decide_eq_false_iff_not]; exact hx] at this

theorem kind_yes (h : IsS w sb F B b c d e f g A zs) (hA : Szs A) (i : Nat) (hi : i < A.n) : Calls Tryz.prog 177 #[.pointer (some ⟨sb, 0, none⟩), .int .i64 i] w fun y w' => y = .returned (.agg #[.int .i64 (A.sz i), .int .i64 (A.each i), B.rv i, .int .i64 (A.tk i)]) ∧ w.grownBy w' none := by
  have c8 := h.sc 8
  simp [setC] at c8
  have k := fun (o : Obj) (x : Addr) (v : Value) (hv : w.cell? x = some v) => gb_cellN (World.grownBy_alloc w o none) hv
  have e0 := h.kcell hi (j := 0) (by omega)
  have e1 := h.kcell hi (j := 1) (by omega)
  have e2 := h.kcell hi (j := 2) (by omega)
  have e3 := h.kcell hi (j := 3) (by omega)
  simp only [kindC, List.getElem?_cons_zero, List.getElem?_cons_succ, Nat.add_zero] at e0 e1 e2 e3
  obtain ⟨ao, cp, hrv, _, _, _, _⟩ := row_shape (h.rows i hi)
  rw [hrv] at e2 ⊢
  have hn := hA.n2
  have hk : Calls Tryz.prog 125 #[.pointer (some ⟨sb, 0, none⟩), .int .i64 i] (w.alloc (.cells #[.int .i64 0, .int .i64 0, .slice none 0 0, .int .i64 0] 149)) fun y w' => y = .returned (.bool true) ∧ w.alloc (.cells #[.int .i64 0, .int .i64 0, .slice none 0 0, .int .i64 0] 149) = w' := has_yes (h.kept0 (World.grownBy_alloc _ _ _)) hA i hi
  have f8 := fun o => k o _ _ c8
  have f0 := fun o => k o _ _ e0
  have f1 := fun o => k o _ _ e1
  have f2 := fun o => k o _ _ e2
  have f3 := fun o => k o _ _ e3
  clear k h
  go_enter Tryz.func177, Tryz.ntmps177
  go_wp2_with (first | (go_at_call 125; go_must (refine hk.mono ?_); rintro y w' ⟨rfl, rfl⟩) | fail)
  exact bodyPost_ret (v := .agg #[.int .i64 (A.sz i), .int .i64 (A.each i), .slice ao (A.row i).length cp, .int .i64 (A.tk i)]) (by simp [results, Tryz.results177, go_sem]) rfl ⟨rfl, gb_alloc (gb_refl _ _) _⟩
theorem kind_no (h : IsS w sb F B b c d e f g A zs) (hA : Szs A) (x : Int) (hx : ¬ (0 ≤ x ∧ x < A.n)) : Calls Tryz.prog 177 #[.pointer (some ⟨sb, 0, none⟩), .int .i64 x] w fun y w' => y = .returned (.agg #[.int .i64 0, .int .i64 0, .slice none 0 0, .int .i64 0]) ∧ w.grownBy w' none := by
  have hk : Calls Tryz.prog 125 #[.pointer (some ⟨sb, 0, none⟩), .int .i64 x] (w.alloc (.cells #[.int .i64 0, .int .i64 0, .slice none 0 0, .int .i64 0] 149)) fun y w' => y = .returned (.bool false) ∧ w.alloc (.cells #[.int .i64 0, .int .i64 0, .slice none 0 0, .int .i64 0] 149) = w' := has_no (h.kept0 (World.grownBy_alloc _ _ _)) hA x hx
  clear h hx
  go_enter Tryz.func177, Tryz.ntmps177
  go_wp2_with (first | (go_at_call 125; go_must (refine hk.mono ?_); rintro y w' ⟨rfl, rfl⟩) | fail)
  exact bodyPost_ret (v := .agg #[.int .i64 0, .int .i64 0, .slice none 0 0, .int .i64 0]) (by simp [results, Tryz.results177, go_sem]) rfl ⟨rfl, gb_alloc (gb_refl _ _) _⟩

set_option maxRecDepth 100000 in
theorem chunk_yes (h : IsS w sb F B b c d e f g A zs) (hA : Szs A) (i : Nat) (hi : i < A.n) : Calls Tryz.prog 159 #[.pointer (some ⟨sb, 0, none⟩), .int .i64 i] w fun y w' => y = .returned (.int .i64 (A.sz i)) ∧ w.grownBy w' none := by
  have hk := kind_yes h hA i hi
  have hfd := field96_0
  go_enter Tryz.func159, Tryz.ntmps159
  go_wp2_with (first | (go_at_call 177; go_must (refine hk.mono ?_); rintro y w' ⟨rfl, hf⟩) | fail)
  go_ret
  exact ⟨rfl, hf⟩
set_option maxRecDepth 100000 in
theorem chunk_no (h : IsS w sb F B b c d e f g A zs) (hA : Szs A) (x : Int) (hx : ¬ (0 ≤ x ∧ x < A.n)) : Calls Tryz.prog 159 #[.pointer (some ⟨sb, 0, none⟩), .int .i64 x] w fun y w' => y = .returned (.int .i64 0) ∧ w.grownBy w' none := by
  have hk := kind_no h hA x hx
  have hfd := field96_0
  go_enter Tryz.func159, Tryz.ntmps159
  go_wp2_with (first | (go_at_call 177; go_must (refine hk.mono ?_); rintro y w' ⟨rfl, hf⟩) | fail)
  go_ret
  exact ⟨rfl, hf⟩
def Ab.quota (A : Ab) (i : Nat) : Nat := (A.row i).length + A.tk i + (A.m - A.np) * A.each i

theorem IsS.pcell (h : IsS w sb F B b c d e f g A zs) {p j : Nat} (hp : p < A.np) (hj : j < 2) : ∃ pb cp, B.pv = .slice (some ⟨pb, 0, none⟩) A.np cp ∧ w.cell? ⟨pb, p * 2 + j, none⟩ = (pageC A B.cb p)[j]? := by
  obtain ⟨ao, cp, hpv, _, _, _, h4⟩ := row_shape h.pages
  obtain ⟨pb, rfl⟩ := h4 (by omega)
  have e := rng_get (pageC_len A B.cb) hp hj
  have hl : j < (pageC A B.cb p).length := hj
  rw [List.getElem?_eq_getElem hl] at e
  have hr := h.pages
  rw [hpv] at hr
  exact ⟨pb, cp, hpv, by rw [row_cell hr _ _ e, List.getElem?_eq_getElem hl]⟩

end

end Go.Proofs.YtohneboimmcocaaGreat
