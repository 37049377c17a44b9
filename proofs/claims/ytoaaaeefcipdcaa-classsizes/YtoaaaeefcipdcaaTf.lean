/-
  ClassSizes' walk.
-/
import Derived.Test.YtoaaaeefcipdcaaTe
import Derived.Test.YtoaaaeefcipdcaaSx
import Derived.Test.YtoaaaeefcipdcaaO
namespace Go.Proofs.Ytoaaaeefcipdcaa
open Go.RowKit
set_option linter.unusedVariables false

set_option maxRecDepth 100000 in
set_option maxHeartbeats 2000000 in
theorem sizes_none {x0 x1 x2 x3 x4 x5 x6 r : Int} (a : Option Addr) (n c : Nat) (w : World) (hr : Refd x0 x1 x2 x3 x4 r) (h0 : r ≠ 0 ∨ 2097152 / x0 < x1) : Calls Try.prog 4 #[cfgV x0 x1 x2 x3 x4 x5 x6, .slice a n c] w fun e w' => e = .returned (.bool true) ∧ w.grownBy w' none := by
  have hg := fun W => good_none x5 x6 hr h0 W
  have hwk := fun W => wakes_10 W
  have hF0 : w.grownBy (w.alloc (.cells #[.int .i64 x0, .int .i64 x1, .int .i64 x2, .int .i64 x3, .int .i64 x4, .int .i64 x5, .int .i64 x6] 23)) none := World.grownBy_alloc _ _ _
  unfold cfgV at hg ⊢
  clear hr h0
  go_enter Try.func4, Try.ntmps4
  go_wp2_with (first | (go_at_call 17; go_must (refine (hg _).mono ?_); rintro y w1 ⟨rfl, hf1⟩) | (go_at_call 9; go_must (refine (hwk _).mono ?_); rintro y w2 ⟨rfl, hf2⟩) | fail)
  go_ret
  exact ⟨rfl, gb_trans (gb_trans hF0 hf1) hf2⟩

end Go.Proofs.Ytoaaaeefcipdcaa
