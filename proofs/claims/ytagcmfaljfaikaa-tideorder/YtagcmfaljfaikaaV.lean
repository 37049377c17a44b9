/-
  within; what TideFlush keeps: a world in memory.
-/
import Derived.Test.YtagcmfaljfaikaaT
namespace Go.Proofs.Ytagcmfaljfaikaa
open Go.RowKit
set_option linter.unusedVariables false

def wth (n lo hi : Int) : Int := lo + (n.tmod (hi - lo + 1) + (hi - lo + 1)).tmod (hi - lo + 1)
theorem wth_in {n lo hi : Int} (h : lo ≤ hi) : lo ≤ wth n lo hi ∧ wth n lo hi ≤ hi := by
  unfold wth
  have hm : 0 < hi - lo + 1 := by omega
  have h1 := Int.tmod_lt_of_pos n hm
  have h2 : -(hi - lo + 1) < n.tmod (hi - lo + 1) := by
    have := Int.lt_tmod_of_pos n hm
    omega
  have h3 := Int.tmod_lt_of_pos (n.tmod (hi - lo + 1) + (hi - lo + 1)) hm
  have h4 := Int.tmod_nonneg (hi - lo + 1) (show 0 ≤ n.tmod (hi - lo + 1) + (hi - lo + 1) by omega)
  omega

set_option maxHeartbeats 1000000 in
theorem within_29 (n lo hi : Int) (hn : isI n) (h0 : 0 ≤ lo) (h : lo ≤ hi) (hh : hi ≤ 4611686018427387904) (hhl : hi - lo < 4611686018427387904) (w : World) :
    Calls Try.prog 29 #[.int .i64 n, .int .i64 lo, .int .i64 hi] w fun y w' => y = .returned (.int .i64 (wth n lo hi)) ∧ w' = w := by
  unfold isI at hn
  have hw := wth_in (n := n) h
  unfold wth at hw ⊢
  obtain ⟨m, hm⟩ : ∃ m, m = hi - lo + 1 := ⟨_, rfl⟩
  have hm0 : 0 < m := by omega
  have hm1 : ¬ m = 0 := by omega
  have hmb : m ≤ 4611686018427387904 := by omega
  have h1 := Int.tmod_lt_of_pos n hm0
  have h2 : -m < n.tmod m := by have := Int.lt_tmod_of_pos n hm0; omega
  have h3 := Int.tmod_lt_of_pos (n.tmod m + m) hm0
  have h4 := Int.tmod_nonneg m (show 0 ≤ n.tmod m + m by omega)
  rw [← hm] at hw ⊢
  have e1 : IntKind.i64.wrap (hi - lo) = hi - lo := by rw [IntKind.wrap_i64]; omega
  have e2 : IntKind.i64.wrap (hi - lo + 1) = m := by rw [IntKind.wrap_i64]; omega
  have e3 : IntKind.i64.wrap (n.tmod m) = n.tmod m := by rw [IntKind.wrap_i64]; omega
  have e4 : IntKind.i64.wrap (n.tmod m + m) = n.tmod m + m := by rw [IntKind.wrap_i64]; omega
  have e5 : IntKind.i64.wrap ((n.tmod m + m).tmod m) = (n.tmod m + m).tmod m := by rw [IntKind.wrap_i64]; omega
  have e6 : IntKind.i64.wrap (lo + (n.tmod m + m).tmod m) = lo + (n.tmod m + m).tmod m := by rw [IntKind.wrap_i64]; omega
  clear hw h3 h4
  generalize hx : n.tmod m = x at *
  generalize hz : (x + m).tmod m = z at *
  have hm2 : hi - lo + 1 = m := hm.symm
  clear hm h1 h2
  go_enter Try.func29, Try.ntmps29
  go_wp2
  go_ret
  exact ⟨rfl, rfl⟩

end Go.Proofs.Ytagcmfaljfaikaa
