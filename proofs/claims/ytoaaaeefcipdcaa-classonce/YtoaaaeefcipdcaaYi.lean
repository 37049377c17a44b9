import Derived.Test.YtoaaaeefcipdcaaYh
import Derived.Test.YtoaaaeefcipdcaaMx
/-
  ClassOnce's walk, of whatever came in.
-/
namespace Go.Proofs.Ytoaaaeefcipdcaa
open Go.RowKit
set_option linter.unusedVariables false

set_option maxRecDepth 100000 in
set_option maxHeartbeats 2000000 in
theorem once_none {x0 x1 x2 x3 x4 x5 x6 r : Int} (a : Option Addr) (n c : Nat) (w : World) (hr : Refd x0 x1 x2 x3 x4 r) (h0 : r ≠ 0 ∨ 2097152 / x0 < x1) : Calls Try.prog 5 #[cfgV x0 x1 x2 x3 x4 x5 x6, .slice a n c] w fun e w' => e = .returned (.bool true) ∧ w.grownBy w' none := by
  have hg := fun W => good_none x5 x6 hr h0 W
  have hwk := fun W => wakes_10 W
  have hF0 : w.grownBy (w.alloc (.cells #[.int .i64 x0, .int .i64 x1, .int .i64 x2, .int .i64 x3, .int .i64 x4, .int .i64 x5, .int .i64 x6] 23)) none := World.grownBy_alloc _ _ _
  unfold cfgV at hg ⊢
  clear hr h0
  go_enter Try.func5, Try.ntmps5
  go_wp2_with (first | (go_at_call 17; go_must (refine (hg _).mono ?_); rintro y w1 ⟨rfl, hf1⟩) | (go_at_call 9; go_must (refine (hwk _).mono ?_); rintro y w2 ⟨rfl, hf2⟩) | fail)
  go_ret
  exact ⟨rfl, gb_trans (gb_trans hF0 hf1) hf2⟩

theorem once_any (x0 x1 x2 x3 x4 x5 x6 : Int) (a : Option Addr) (na c : Nat) (w : World) (hna : na ≤ 9223372036854775807) (hin : OpsIn w a na) : Calls Try.prog 5 #[.agg #[.int .i64 x0, .int .i64 x1, .int .i64 x2, .int .i64 x3, .int .i64 x4, .int .i64 x5, .int .i64 x6], .slice a na c] w fun e w' => e = .returned (.bool true) ∧ w.grownBy w' none := by
  obtain ⟨r, hr⟩ := refd_ex x0 x1 x2 x3 x4
  by_cases h0 : r ≠ 0 ∨ 2097152 / x0 < x1
  · exact once_none (x5 := x5) (x6 := x6) a na c w hr h0
  · have h1 : r = 0 := by
      rcases Classical.em (r = 0) with h | h
      · exact h
      · exact absurd (.inl h) h0
    have h2 : ¬ 2097152 / x0 < x1 := fun h => h0 (.inr h)
    subst h1
    obtain ⟨hV, n, hNC, hmn⟩ := refd_zero hr
    obtain ⟨ps, m, F, s0, il, rfl, rfl, rfl, rfl, rfl, hC⟩ := hV.cfg
    obtain ⟨hn62, hcls⟩ := hNC
    simp only [Int.toNat_natCast] at hcls
    have hI := inv_new hC hn62 hcls
    exact once_some (A0 := A0 ps m n (chain F (limOf il) s0)) (b := m) (c := F) (d := s0) (e := il) (f := x5) (g := x6) hI rfl (fun _ => rfl) (fun _ _ => rfl) a na c hna w hin
      (fun W => good_some hC x5 x6 hn62 hcls (by omega) hr h2 W)

end Go.Proofs.Ytoaaaeefcipdcaa
