import Derived.Test.YtoaaaeefcipdcaaSe
/-
  heavy.
-/
namespace Go.Proofs.Ytoaaaeefcipdcaa
open Go.RowKit
set_option linter.unusedVariables false

set_option maxHeartbeats 2000000 in
theorem heavy_n1 {a b c d e : Int} (f g : Int) (h : Refd a b c d e 1) (w : World) : Calls Try.prog 8 #[cfgV a b c d e f g] w fun x w' => x = .returned (.bool false) ∧ w.grownBy w' none := by
  have hc := fun W => config_any a b c d e f g W
  have hr := fun W => refused_is h W
  unfold cfgV at hc ⊢
  unfold refV at hc hr
  have h7 : C7 (w.alloc (.cells #[.int .i64 a, .int .i64 b, .int .i64 c, .int .i64 d, .int .i64 e, .int .i64 f, .int .i64 g] 23)) w.heap.size a b c d e f g := by
    have hb := Box.new w 23 #[.int .i64 a, .int .i64 b, .int .i64 c, .int .i64 d, .int .i64 e, .int .i64 f, .int .i64 g]
    exact ⟨hb.cell 0, hb.cell 1, hb.cell 2, hb.cell 3, hb.cell 4, hb.cell 5, hb.cell 6⟩
  have hF0 : w.grownBy (w.alloc (.cells #[.int .i64 a, .int .i64 b, .int .i64 c, .int .i64 d, .int .i64 e, .int .i64 f, .int .i64 g] 23)) none := World.grownBy_alloc _ _ _
  go_enter Try.func8, Try.ntmps8
  go_wp2
  generalize w.alloc (.cells #[.int .i64 a, .int .i64 b, .int .i64 c, .int .i64 d, .int .i64 e, .int .i64 f, .int .i64 g] 23) = W at *
  have hc1 := (hc W.drew).mono (R' := fun x w' => x = .returned (.agg #[.int .i64 a, .int .i64 b, .int .i64 c, .int .i64 d, .int .i64 e]) ∧ C7 w' w.heap.size a b c d e f g ∧ w.grownBy w' none) (by
    rintro x w' ⟨rfl, hf⟩
    have hf' := gb_trans (gb_drew (gb_refl W none)) hf
    exact ⟨rfl, h7.kept hf', gb_trans hF0 hf'⟩)
  have hr1 := fun W' => (hr W').mono (R' := fun x w' => x = .returned (.int .i64 1) ∧ (C7 W' w.heap.size a b c d e f g → C7 w' w.heap.size a b c d e f g) ∧ (w.grownBy W' none → w.grownBy w' none)) (by
    rintro x w' ⟨rfl, hf⟩
    exact ⟨rfl, fun h => h.kept hf, fun h => gb_trans h hf⟩)
  have h7' := h7
  obtain ⟨k0, k1, k2, k3, k4, k5, k6⟩ := h7'
  clear hc hr
  first | (go_region_law ((first | (go_simp; go_at_call 11; refine hc1.mono ?_; rintro x w1 ⟨rfl, hS1, hf1⟩) | (go_simp; go_at_call 41; refine (hr1 _).mono ?_; rintro x w2 ⟨rfl, hS2, hf2⟩)))) | fail
  all_goals
    go_wp2
    go_ret
    exact ⟨rfl, hf2 hf1⟩

set_option maxHeartbeats 2000000 in
theorem heavy_n2 {a b c d e : Int} (f g : Int) (h : Refd a b c d e 2) (w : World) : Calls Try.prog 8 #[cfgV a b c d e f g] w fun x w' => x = .returned (.bool false) ∧ w.grownBy w' none := by
  have hc := fun W => config_any a b c d e f g W
  have hr := fun W => refused_is h W
  unfold cfgV at hc ⊢
  unfold refV at hc hr
  have h7 : C7 (w.alloc (.cells #[.int .i64 a, .int .i64 b, .int .i64 c, .int .i64 d, .int .i64 e, .int .i64 f, .int .i64 g] 23)) w.heap.size a b c d e f g := by
    have hb := Box.new w 23 #[.int .i64 a, .int .i64 b, .int .i64 c, .int .i64 d, .int .i64 e, .int .i64 f, .int .i64 g]
    exact ⟨hb.cell 0, hb.cell 1, hb.cell 2, hb.cell 3, hb.cell 4, hb.cell 5, hb.cell 6⟩
  have hF0 : w.grownBy (w.alloc (.cells #[.int .i64 a, .int .i64 b, .int .i64 c, .int .i64 d, .int .i64 e, .int .i64 f, .int .i64 g] 23)) none := World.grownBy_alloc _ _ _
  go_enter Try.func8, Try.ntmps8
  go_wp2
  generalize w.alloc (.cells #[.int .i64 a, .int .i64 b, .int .i64 c, .int .i64 d, .int .i64 e, .int .i64 f, .int .i64 g] 23) = W at *
  have hc1 := (hc W.drew).mono (R' := fun x w' => x = .returned (.agg #[.int .i64 a, .int .i64 b, .int .i64 c, .int .i64 d, .int .i64 e]) ∧ C7 w' w.heap.size a b c d e f g ∧ w.grownBy w' none) (by
    rintro x w' ⟨rfl, hf⟩
    have hf' := gb_trans (gb_drew (gb_refl W none)) hf
    exact ⟨rfl, h7.kept hf', gb_trans hF0 hf'⟩)
  have hr1 := fun W' => (hr W').mono (R' := fun x w' => x = .returned (.int .i64 2) ∧ (C7 W' w.heap.size a b c d e f g → C7 w' w.heap.size a b c d e f g) ∧ (w.grownBy W' none → w.grownBy w' none)) (by
    rintro x w' ⟨rfl, hf⟩
    exact ⟨rfl, fun h => h.kept hf, fun h => gb_trans h hf⟩)
  have h7' := h7
  obtain ⟨k0, k1, k2, k3, k4, k5, k6⟩ := h7'
  clear hc hr
  first | (go_region_law ((first | (go_simp; go_at_call 11; refine hc1.mono ?_; rintro x w1 ⟨rfl, hS1, hf1⟩) | (go_simp; go_at_call 41; refine (hr1 _).mono ?_; rintro x w2 ⟨rfl, hS2, hf2⟩)))) | fail
  all_goals
    go_wp2
    go_ret
    exact ⟨rfl, hf2 hf1⟩

set_option maxHeartbeats 2000000 in
theorem heavy_n3 {a b c d e : Int} (f g : Int) (h : Refd a b c d e 3) (w : World) : Calls Try.prog 8 #[cfgV a b c d e f g] w fun x w' => x = .returned (.bool false) ∧ w.grownBy w' none := by
  have hc := fun W => config_any a b c d e f g W
  have hr := fun W => refused_is h W
  unfold cfgV at hc ⊢
  unfold refV at hc hr
  have h7 : C7 (w.alloc (.cells #[.int .i64 a, .int .i64 b, .int .i64 c, .int .i64 d, .int .i64 e, .int .i64 f, .int .i64 g] 23)) w.heap.size a b c d e f g := by
    have hb := Box.new w 23 #[.int .i64 a, .int .i64 b, .int .i64 c, .int .i64 d, .int .i64 e, .int .i64 f, .int .i64 g]
    exact ⟨hb.cell 0, hb.cell 1, hb.cell 2, hb.cell 3, hb.cell 4, hb.cell 5, hb.cell 6⟩
  have hF0 : w.grownBy (w.alloc (.cells #[.int .i64 a, .int .i64 b, .int .i64 c, .int .i64 d, .int .i64 e, .int .i64 f, .int .i64 g] 23)) none := World.grownBy_alloc _ _ _
  go_enter Try.func8, Try.ntmps8
  go_wp2
  generalize w.alloc (.cells #[.int .i64 a, .int .i64 b, .int .i64 c, .int .i64 d, .int .i64 e, .int .i64 f, .int .i64 g] 23) = W at *
  have hc1 := (hc W.drew).mono (R' := fun x w' => x = .returned (.agg #[.int .i64 a, .int .i64 b, .int .i64 c, .int .i64 d, .int .i64 e]) ∧ C7 w' w.heap.size a b c d e f g ∧ w.grownBy w' none) (by
    rintro x w' ⟨rfl, hf⟩
    have hf' := gb_trans (gb_drew (gb_refl W none)) hf
    exact ⟨rfl, h7.kept hf', gb_trans hF0 hf'⟩)
  have hr1 := fun W' => (hr W').mono (R' := fun x w' => x = .returned (.int .i64 3) ∧ (C7 W' w.heap.size a b c d e f g → C7 w' w.heap.size a b c d e f g) ∧ (w.grownBy W' none → w.grownBy w' none)) (by
    rintro x w' ⟨rfl, hf⟩
    exact ⟨rfl, fun h => h.kept hf, fun h => gb_trans h hf⟩)
  have h7' := h7
  obtain ⟨k0, k1, k2, k3, k4, k5, k6⟩ := h7'
  clear hc hr
  first | (go_region_law ((first | (go_simp; go_at_call 11; refine hc1.mono ?_; rintro x w1 ⟨rfl, hS1, hf1⟩) | (go_simp; go_at_call 41; refine (hr1 _).mono ?_; rintro x w2 ⟨rfl, hS2, hf2⟩)))) | fail
  all_goals
    go_wp2
    go_ret
    exact ⟨rfl, hf2 hf1⟩

set_option maxHeartbeats 2000000 in
theorem heavy_y {a b c d e : Int} (f g : Int) (h : Refd a b c d e 0) (hqb : 2097152 / a < b) (w : World) : Calls Try.prog 8 #[cfgV a b c d e f g] w fun x w' => x = .returned (.bool true) ∧ w.grownBy w' none := by
  have hc := fun W => config_any a b c d e f g W
  have hr := fun W => refused_is h W
  unfold cfgV at hc ⊢
  unfold refV at hc hr
  have h7 : C7 (w.alloc (.cells #[.int .i64 a, .int .i64 b, .int .i64 c, .int .i64 d, .int .i64 e, .int .i64 f, .int .i64 g] 23)) w.heap.size a b c d e f g := by
    have hb := Box.new w 23 #[.int .i64 a, .int .i64 b, .int .i64 c, .int .i64 d, .int .i64 e, .int .i64 f, .int .i64 g]
    exact ⟨hb.cell 0, hb.cell 1, hb.cell 2, hb.cell 3, hb.cell 4, hb.cell 5, hb.cell 6⟩
  have hF0 : w.grownBy (w.alloc (.cells #[.int .i64 a, .int .i64 b, .int .i64 c, .int .i64 d, .int .i64 e, .int .i64 f, .int .i64 g] 23)) none := World.grownBy_alloc _ _ _
  have hV := (refd_zero h).1
  obtain ⟨hp0, hp1, hp2⟩ := hV.pg.bounds
  have hdiv : (2097152 : Int).tdiv a = 2097152 / a := Int.tdiv_eq_ediv_of_nonneg (by omega)
  have hq0 : 0 ≤ 2097152 / a := Int.ediv_nonneg (by omega) (by omega)
  have hq1 : 2097152 / a ≤ 2097152 := Int.ediv_le_self _ (by omega)
  have ha0 : a ≠ 0 := by omega
  have hwq : IntKind.i64.wrap (2097152 / a) = 2097152 / a := by rw [IntKind.wrap_i64]; omega
  generalize 2097152 / a = q at *
  have hd : decide (q < b) = true := by simpa using hqb
  clear hV h
  go_enter Try.func8, Try.ntmps8
  go_wp2
  generalize w.alloc (.cells #[.int .i64 a, .int .i64 b, .int .i64 c, .int .i64 d, .int .i64 e, .int .i64 f, .int .i64 g] 23) = W at *
  have hc1 := (hc W.drew).mono (R' := fun x w' => x = .returned (.agg #[.int .i64 a, .int .i64 b, .int .i64 c, .int .i64 d, .int .i64 e]) ∧ C7 w' w.heap.size a b c d e f g ∧ w.grownBy w' none) (by
    rintro x w' ⟨rfl, hf⟩
    have hf' := gb_trans (gb_drew (gb_refl W none)) hf
    exact ⟨rfl, h7.kept hf', gb_trans hF0 hf'⟩)
  have hr1 := fun W' => (hr W').mono (R' := fun x w' => x = .returned (.int .i64 0) ∧ (C7 W' w.heap.size a b c d e f g → C7 w' w.heap.size a b c d e f g) ∧ (w.grownBy W' none → w.grownBy w' none)) (by
    rintro x w' ⟨rfl, hf⟩
    exact ⟨rfl, fun h => h.kept hf, fun h => gb_trans h hf⟩)
  have h7' := h7
  obtain ⟨k0, k1, k2, k3, k4, k5, k6⟩ := h7'
  clear hc hr
  go_region_held3 (fun w' => w'.cell? ⟨w.heap.size, 0, none⟩ = some (.int .i64 a) ∧ w'.cell? ⟨w.heap.size, 1, none⟩ = some (.int .i64 b) ∧ w'.cell? ⟨w.heap.size, 2, none⟩ = some (.int .i64 c) ∧ w'.cell? ⟨w.heap.size, 3, none⟩ = some (.int .i64 d) ∧ w'.cell? ⟨w.heap.size, 4, none⟩ = some (.int .i64 e) ∧ w'.cell? ⟨w.heap.size, 5, none⟩ = some (.int .i64 f) ∧ w'.cell? ⟨w.heap.size, 6, none⟩ = some (.int .i64 g)) ((first | exact hS2 hS1 | exact hS1 | go_keep)) ((first | (go_at_call 11; refine hc1.mono ?_; rintro x w1 ⟨rfl, hS1, hf1⟩) | (go_at_call 41; refine (hr1 _).mono ?_; rintro x w2 ⟨rfl, hS2, hf2⟩)))
  go_wp2
  go_ret
  exact ⟨rfl, hf2 hf1⟩

set_option maxHeartbeats 2000000 in
theorem heavy_z {a b c d e : Int} (f g : Int) (h : Refd a b c d e 0) (hqb : ¬ 2097152 / a < b) (w : World) : Calls Try.prog 8 #[cfgV a b c d e f g] w fun x w' => x = .returned (.bool false) ∧ w.grownBy w' none := by
  have hc := fun W => config_any a b c d e f g W
  have hr := fun W => refused_is h W
  unfold cfgV at hc ⊢
  unfold refV at hc hr
  have h7 : C7 (w.alloc (.cells #[.int .i64 a, .int .i64 b, .int .i64 c, .int .i64 d, .int .i64 e, .int .i64 f, .int .i64 g] 23)) w.heap.size a b c d e f g := by
    have hb := Box.new w 23 #[.int .i64 a, .int .i64 b, .int .i64 c, .int .i64 d, .int .i64 e, .int .i64 f, .int .i64 g]
    exact ⟨hb.cell 0, hb.cell 1, hb.cell 2, hb.cell 3, hb.cell 4, hb.cell 5, hb.cell 6⟩
  have hF0 : w.grownBy (w.alloc (.cells #[.int .i64 a, .int .i64 b, .int .i64 c, .int .i64 d, .int .i64 e, .int .i64 f, .int .i64 g] 23)) none := World.grownBy_alloc _ _ _
  have hV := (refd_zero h).1
  obtain ⟨hp0, hp1, hp2⟩ := hV.pg.bounds
  have hdiv : (2097152 : Int).tdiv a = 2097152 / a := Int.tdiv_eq_ediv_of_nonneg (by omega)
  have hq0 : 0 ≤ 2097152 / a := Int.ediv_nonneg (by omega) (by omega)
  have hq1 : 2097152 / a ≤ 2097152 := Int.ediv_le_self _ (by omega)
  have ha0 : a ≠ 0 := by omega
  have hwq : IntKind.i64.wrap (2097152 / a) = 2097152 / a := by rw [IntKind.wrap_i64]; omega
  generalize 2097152 / a = q at *
  have hd : decide (q < b) = false := by simpa using hqb
  clear hV h
  go_enter Try.func8, Try.ntmps8
  go_wp2
  generalize w.alloc (.cells #[.int .i64 a, .int .i64 b, .int .i64 c, .int .i64 d, .int .i64 e, .int .i64 f, .int .i64 g] 23) = W at *
  have hc1 := (hc W.drew).mono (R' := fun x w' => x = .returned (.agg #[.int .i64 a, .int .i64 b, .int .i64 c, .int .i64 d, .int .i64 e]) ∧ C7 w' w.heap.size a b c d e f g ∧ w.grownBy w' none) (by
    rintro x w' ⟨rfl, hf⟩
    have hf' := gb_trans (gb_drew (gb_refl W none)) hf
    exact ⟨rfl, h7.kept hf', gb_trans hF0 hf'⟩)
  have hr1 := fun W' => (hr W').mono (R' := fun x w' => x = .returned (.int .i64 0) ∧ (C7 W' w.heap.size a b c d e f g → C7 w' w.heap.size a b c d e f g) ∧ (w.grownBy W' none → w.grownBy w' none)) (by
    rintro x w' ⟨rfl, hf⟩
    exact ⟨rfl, fun h => h.kept hf, fun h => gb_trans h hf⟩)
  have h7' := h7
  obtain ⟨k0, k1, k2, k3, k4, k5, k6⟩ := h7'
  clear hc hr
  go_region_held3 (fun w' => w'.cell? ⟨w.heap.size, 0, none⟩ = some (.int .i64 a) ∧ w'.cell? ⟨w.heap.size, 1, none⟩ = some (.int .i64 b) ∧ w'.cell? ⟨w.heap.size, 2, none⟩ = some (.int .i64 c) ∧ w'.cell? ⟨w.heap.size, 3, none⟩ = some (.int .i64 d) ∧ w'.cell? ⟨w.heap.size, 4, none⟩ = some (.int .i64 e) ∧ w'.cell? ⟨w.heap.size, 5, none⟩ = some (.int .i64 f) ∧ w'.cell? ⟨w.heap.size, 6, none⟩ = some (.int .i64 g)) ((first | exact hS2 hS1 | exact hS1 | go_keep)) ((first | (go_at_call 11; refine hc1.mono ?_; rintro x w1 ⟨rfl, hS1, hf1⟩) | (go_at_call 41; refine (hr1 _).mono ?_; rintro x w2 ⟨rfl, hS2, hf2⟩)))
  go_wp2
  go_ret
  exact ⟨rfl, hf2 hf1⟩

theorem heavy_is {a b c d e r : Int} (f g : Int) (h : Refd a b c d e r) (w : World) : Calls Try.prog 8 #[cfgV a b c d e f g] w fun x w' => x = .returned (.bool (decide (r = 0 ∧ 2097152 / a < b))) ∧ w.grownBy w' none := by
  by_cases h0 : r = 0
  · by_cases h1 : 2097152 / a < b
    · subst h0
      simpa [h1] using heavy_y f g h h1 w
    · subst h0
      simpa [h1] using heavy_z f g h h1 w
  · have h1 := refd_range h
    rcases (show r = 1 ∨ r = 2 ∨ r = 3 by omega) with rfl | rfl | rfl
    · simpa using heavy_n1 f g h w
    · simpa using heavy_n2 f g h w
    · simpa using heavy_n3 f g h w

end Go.Proofs.Ytoaaaeefcipdcaa
