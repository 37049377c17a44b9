import Derived.Test.YtoaaaeefcipdcaaSd
/-
  inBounds, config, heavy.
-/
namespace Go.Proofs.Ytoaaaeefcipdcaa
open Go.RowKit
set_option linter.unusedVariables false

structure InB (a c d e : Int) : Prop where
  c0 : 105 ≤ c
  c1 : c ≤ 400
  d0 : 64 ≤ d
  d1 : d ≤ 512
  d8 : d % 8 = 0
  e0 : d ≤ e
  e1 : e ≤ a

set_option maxHeartbeats 2000000 in
theorem inB_yes (a b c d e f g : Int) (h : InB a c d e) (w : World) : Calls Try.prog 43 #[cfgV a b c d e f g] w fun x w' => x = .returned (.bool true) ∧ w.grownBy w' none := by
  obtain ⟨hc0, hc1, hd0, hd1, hd8, he0, he1⟩ := h
  have hrem : d.tmod 8 = 0 := by rw [Int.tmod_eq_emod_of_nonneg (by omega)]; exact hd8
  clear hd8
  unfold cfgV
  go_enter Try.func43, Try.ntmps43
  go_wp2
  go_ret
  exact ⟨rfl, gb_alloc (gb_refl _ _) _⟩

set_option maxHeartbeats 2000000 in
theorem inB_no (a b c d e f g : Int) (h : ¬ InB a c d e) (w : World) : Calls Try.prog 43 #[cfgV a b c d e f g] w fun x w' => x = .returned (.bool false) ∧ w.grownBy w' none := by
  unfold cfgV
  by_cases hc0 : 105 ≤ c
  rotate_left
  · clear h
    go_enter Try.func43, Try.ntmps43
    go_wp2
    go_ret
    exact ⟨rfl, gb_alloc (gb_refl _ _) _⟩
  by_cases hc1 : c ≤ 400
  rotate_left
  · clear h
    go_enter Try.func43, Try.ntmps43
    go_wp2
    go_ret
    exact ⟨rfl, gb_alloc (gb_refl _ _) _⟩
  by_cases hd0 : 64 ≤ d
  rotate_left
  · clear h
    go_enter Try.func43, Try.ntmps43
    go_wp2
    go_ret
    exact ⟨rfl, gb_alloc (gb_refl _ _) _⟩
  by_cases hd1 : d ≤ 512
  rotate_left
  · clear h
    go_enter Try.func43, Try.ntmps43
    go_wp2
    go_ret
    exact ⟨rfl, gb_alloc (gb_refl _ _) _⟩
  by_cases hd8 : d % 8 = 0
  rotate_left
  · clear h
    have hrem : d.tmod 8 = d % 8 := Int.tmod_eq_emod_of_nonneg (by omega)
    have hdd : decide (d % 8 = 0) = false := by simp; omega
    generalize d % 8 = d8 at *
    go_enter Try.func43, Try.ntmps43
    go_wp2
    go_ret
    exact ⟨rfl, gb_alloc (gb_refl _ _) _⟩
  by_cases he0 : d ≤ e
  rotate_left
  · clear h
    have hrem : d.tmod 8 = 0 := by rw [Int.tmod_eq_emod_of_nonneg (by omega)]; exact hd8
    clear hd8
    go_enter Try.func43, Try.ntmps43
    go_wp2
    go_ret
    exact ⟨rfl, gb_alloc (gb_refl _ _) _⟩
  by_cases he1 : e ≤ a
  rotate_left
  · clear h
    have hrem : d.tmod 8 = 0 := by rw [Int.tmod_eq_emod_of_nonneg (by omega)]; exact hd8
    clear hd8
    go_enter Try.func43, Try.ntmps43
    go_wp2
    go_ret
    exact ⟨rfl, gb_alloc (gb_refl _ _) _⟩
  exact absurd ⟨hc0, hc1, hd0, hd1, hd8, he0, he1⟩ h

theorem config_any (a b c d e f g : Int) (w : World) : Calls Try.prog 11 #[cfgV a b c d e f g] w fun x w' => x = .returned (refV a b c d e) ∧ w.grownBy w' none := by
  unfold cfgV refV
  go_enter Try.func11, Try.ntmps11
  go_wp2
  exact bodyPost_ret (v := .agg #[.int .i64 a, .int .i64 b, .int .i64 c, .int .i64 d, .int .i64 e]) (by simp [results, Try.results11, go_sem]) rfl ⟨rfl, gb_alloc (gb_alloc (gb_refl _ _) _) _⟩

theorem refd_ex (a b c d e : Int) : ∃ r, Refd a b c d e r := by
  by_cases hV : Valid a b c d e
  · rcases cls_or c.toNat (limOf e.toNat) d.toNat 62 with ⟨n, h1, h2⟩ | h
    · by_cases hb : b < n
      · exact ⟨3, .inr ⟨hV, .inr ⟨n, ⟨h1, h2⟩, .inl ⟨hb, rfl⟩⟩⟩⟩
      · exact ⟨0, .inr ⟨hV, .inr ⟨n, ⟨h1, h2⟩, .inr ⟨by omega, rfl⟩⟩⟩⟩
    · exact ⟨2, .inr ⟨hV, .inl ⟨h, rfl⟩⟩⟩
  · exact ⟨1, .inl ⟨hV, rfl⟩⟩
theorem refused_is {a b c d e r : Int} (h : Refd a b c d e r) (w : World) : Calls Try.prog 41 #[refV a b c d e] w fun x w' => x = .returned (.int .i64 r) ∧ w.grownBy w' none :=
  (refused_any a b c d e w).mono (by rintro x w' ⟨s, rfl, hF, hs⟩; rw [refd_uniq h hs]; exact ⟨rfl, hF⟩)
theorem refd_range {a b c d e r : Int} (h : Refd a b c d e r) : 0 ≤ r ∧ r ≤ 3 := by
  rcases h with ⟨_, rfl⟩ | ⟨_, ⟨_, rfl⟩ | ⟨n, _, ⟨_, rfl⟩ | ⟨_, rfl⟩⟩⟩ <;> omega
theorem refd_zero {a b c d e : Int} (h : Refd a b c d e 0) : Valid a b c d e ∧ ∃ n, NCls c d e n ∧ n ≤ b := by
  rcases h with ⟨_, h⟩ | ⟨h1, ⟨_, h⟩ | ⟨n, h2, ⟨_, h⟩ | ⟨h3, _⟩⟩⟩
  · omega
  · omega
  · omega
  · exact ⟨h1, n, h2, h3⟩

/-- The seven cells of a config's own variable. -/
def C7 (w : World) (k : Nat) (a b c d e f g : Int) : Prop := w.cell? ⟨k, 0, none⟩ = some (.int .i64 a) ∧ w.cell? ⟨k, 1, none⟩ = some (.int .i64 b) ∧ w.cell? ⟨k, 2, none⟩ = some (.int .i64 c) ∧ w.cell? ⟨k, 3, none⟩ = some (.int .i64 d) ∧ w.cell? ⟨k, 4, none⟩ = some (.int .i64 e) ∧ w.cell? ⟨k, 5, none⟩ = some (.int .i64 f) ∧ w.cell? ⟨k, 6, none⟩ = some (.int .i64 g)
theorem C7.kept {w w' : World} {k : Nat} {a b c d e f g : Int} (h : C7 w k a b c d e f g) (hf : w.grownBy w' none) : C7 w' k a b c d e f g := by
  obtain ⟨h0, h1, h2, h3, h4, h5, h6⟩ := h
  exact ⟨gb_cellN hf h0, gb_cellN hf h1, gb_cellN hf h2, gb_cellN hf h3, gb_cellN hf h4, gb_cellN hf h5, gb_cellN hf h6⟩

end Go.Proofs.Ytoaaaeefcipdcaa
