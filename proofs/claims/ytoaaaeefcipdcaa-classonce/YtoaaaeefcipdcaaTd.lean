import Derived.Test.YtoaaaeefcipdcaaSj
/-
  good.
-/
namespace Go.Proofs.Ytoaaaeefcipdcaa
open Go.RowKit
set_option linter.unusedVariables false

theorem good_none {a b c d e r : Int} (f g : Int) (h : Refd a b c d e r) (h0 : r ≠ 0 ∨ 2097152 / a < b) (w : World) : Calls Try.prog 17 #[cfgV a b c d e f g] w fun x w' => x = .returned (.tuple #[.pointer none, .bool true]) ∧ w.grownBy w' none := by
  have hh := fun W => heavy_is f g h W
  have hcg := fun W => config_any a b c d e f g W
  have hrf := fun W => refused_is h W
  have h7 := C7.box w a b c d e f g
  have hF0 : w.grownBy (w.alloc (.cells #[.int .i64 a, .int .i64 b, .int .i64 c, .int .i64 d, .int .i64 e, .int .i64 f, .int .i64 g] 23)) none := World.grownBy_alloc _ _ _
  have hrr := refd_range h
  unfold cfgV at hh hcg ⊢
  unfold refV at hcg hrf
  by_cases hr : r = 0
  · have h1 : 2097152 / a < b := by
      rcases h0 with h0 | h0
      · exact absurd hr h0
      · exact h0
    simp only [hr, h1, and_self, decide_true] at hh
    clear h hcg hrf h0 hrr
    go_enter Try.func17, Try.ntmps17
    go_wp2_with (first | (go_at_call 8; go_must (refine (hh _).mono ?_); rintro y w1 ⟨rfl, hf1⟩) | fail)
    go_ret2
    exact ⟨rfl, gb_trans hF0 hf1⟩
  · simp only [hr, false_and, decide_false] at hh
    clear h h0
    rcases (show r = 1 ∨ r = 2 ∨ r = 3 by omega) with rfl | rfl | rfl
    all_goals
      clear hr hrr
      go_enter Try.func17, Try.ntmps17
      go_wp2_with (first | (go_at_call 8; go_must (refine (hh _).mono ?_); rintro y w1 ⟨rfl, hf1⟩; obtain ⟨k0, k1, k2, k3, k4, k5, k6⟩ := h7.kept hf1) | (go_at_call 11; go_must (refine (hcg _).mono ?_); rintro y w3 ⟨rfl, hf3⟩) | (go_at_call 41; go_must (refine (hrf _).mono ?_); rintro y w4 ⟨rfl, hf4⟩) | fail)
      go_ret2
      exact ⟨rfl, gb_trans (gb_trans (gb_trans hF0 hf1) hf3) hf4⟩

set_option maxHeartbeats 1000000 in
theorem good_some {ps m F s0 il n : Nat} (h : Cfg ps m F s0 il) (f g : Int) (hn : n ≤ 62) (hc : Cls F (limOf il) s0 n) (hmn : n ≤ m) (hR : Refd ps m F s0 il 0) (hh0 : ¬ 2097152 / (ps : Int) < m) (w : World) : Calls Try.prog 17 #[cfgV ps m F s0 il f g] w fun x w' => ∃ sb G B, x = .returned (.tuple #[.pointer (some ⟨sb, 0, none⟩), .bool false]) ∧ w.grownBy w' none ∧
    IsS w' sb G B m F s0 il f g (A0 ps m n (chain F (limOf il) s0)) (List.replicate (ps * m) 0) ∧ ∀ k, G k → w.heap.size ≤ k := by
  have hh := fun W => heavy_is f g hR W
  have hcg := fun W => config_any ps m F s0 il f g W
  have hrf := fun W => refused_is hR W
  have hok := fun W => new_ok h f g hn hc hmn W
  have h7 := C7.box w ps m F s0 il f g
  have hF0 : w.grownBy (w.alloc (.cells #[.int .i64 ps, .int .i64 m, .int .i64 F, .int .i64 s0, .int .i64 il, .int .i64 f, .int .i64 g] 23)) none := World.grownBy_alloc _ _ _
  simp only [hh0, and_false, decide_false] at hh
  clear h hc hR hh0
  unfold cfgV at hh hcg hok ⊢
  unfold refV at hcg hrf
  go_enter Try.func17, Try.ntmps17
  go_wp2_with (first | (go_at_call 8; go_must (refine (hh _).mono ?_); rintro y w1 ⟨rfl, hf1⟩; have h71 := h7.kept hf1; have h71' := h71; obtain ⟨k0, k1, k2, k3, k4, k5, k6⟩ := h71') | (go_at_call 11; go_must (refine (hcg _).mono ?_); rintro y w3 ⟨rfl, hf3⟩) | (go_at_call 41; go_must (refine (hrf _).mono ?_); rintro y w4 ⟨rfl, hf4⟩; obtain ⟨j0, j1, j2, j3, j4, j5, j6⟩ := (h71.kept hf3).kept hf4) | (go_at_call 12; go_must (refine (hok _).mono ?_); rintro y w5 ⟨sb, G, B, rfl, hf5, hS, hG⟩; have hS' := hS) | (go_at_call 13; go_must (refine (num_any _ _).mono ?_); rintro y w' ⟨rfl, rfl⟩) | (go_at_call 46; go_must (refine (arena_39 hS').mono ?_); rintro y w' ⟨rfl, rfl⟩) | fail)
  go_ret2
  have hs1 := hf1.size
  have hs3 := hf3.size
  have hs4 := hf4.size
  have hs0 := hF0.size
  exact ⟨sb, G, B, rfl, gb_trans (gb_trans (gb_trans (gb_trans hF0 hf1) hf3) hf4) hf5, hS, fun k hk => by have := hG k hk; omega⟩

end Go.Proofs.Ytoaaaeefcipdcaa
