/-
  TideNames', TideTimes' walks.
-/
import Derived.Test.YtagcmfaljfaikaaR
namespace Go.Proofs.Ytagcmfaljfaikaa
open Go.RowKit
set_option linter.unusedVariables false

theorem names_any (w : World) : Calls Try.prog 6 #[] w fun y w' => y = .returned (.bool true) ∧ w.grownBy w' none := by
  have h13 := wakes_13 w
  go_enter Try.func6, Try.ntmps6
  go_wp2_with (first | (go_at_call 16; go_must (refine (num_16 _ _).mono ?_); rintro y w' ⟨rfl, rfl⟩) | (go_at_call 13; go_must (refine h13.mono ?_); rintro y w' ⟨rfl, hg⟩) | fail)
  go_ret
  exact ⟨rfl, hg⟩

set_option maxRecDepth 100000 in
set_option maxHeartbeats 4000000 in
theorem times_any (a : Option Addr) (n c : Nat) (w : World) (hn : n ≤ maxLen) (hin : AskIn w a n) : Calls Try.prog 3 #[.slice a n c] w fun y w' => y = .returned (.bool true) ∧ w.grownBy w' none := by
  have hn' : (n : Int) ≤ 9223372036854775807 := by unfold maxLen at hn; omega
  go_enter Try.func3, Try.ntmps3
  go_wp2
  go_loopw [3] (fun v wr => ∃ k : Nat, k ≤ n ∧ v = .int .i64 k ∧ w.grownBy wr none) (fun v _ => n - (intOf v).toNat)
  case atStart => exact ⟨0, by omega, rfl, gb_refl _ _⟩
  case round =>
    obtain ⟨k, hk, rfl, hg⟩ := hrel
    by_cases hlt : k < n
    · obtain ⟨b, o, rfl, x0, x1, x2, x3, x4, g0, g1, g2, g3, g4, b0, b1, b2, b3, b4⟩ := hin k hlt
      replace g0 := gb_cellN hg g0
      replace g1 := gb_cellN hg g1
      replace g2 := gb_cellN hg g2
      replace g3 := gb_cellN hg g3
      replace g4 := gb_cellN hg g4
      have h9 := fun W => expiry_9 x0 x1 b0 b1 W
      have h10 := fun W => expiry_10 x0 x1 b0 b1 W
      have h11 := fun W => dead_11 x2 x3 x0 x4 W
      have h12 := fun W => dead_12 x2 x3 x0 x4 W
      generalize expiry x0 x1 = z at *
      generalize decide ((1 ≤ x2 ∧ x2 ≤ x0) ∨ x3 ≤ x4) = zz at *
      have hib : (k : Int) < n := by omega
      have hd1 : decide ((k : Int) < n) = true := by simp; omega
      clear hin
      go_wp2
      go_quiet ((first | (go_at_call 9; with_reducible exact Calls.quiet_of_same (h9 _)) | (go_at_call 10; with_reducible exact Calls.quiet_of_same (h10 _))))
      go_wp2
      have hB : Box ((wr.alloc (.cells #[.int .i64 x0, .int .i64 x1, .int .i64 x2, .int .u64 x3, .int .u64 x4] 25)).drewN nq) 25 wr.heap.size #[.int .i64 x0, .int .i64 x1, .int .i64 x2, .int .u64 x3, .int .u64 x4] := Box.new _ _ _
      have hgV := gb_drewN (gb_alloc hg (.cells #[.int .i64 x0, .int .i64 x1, .int .i64 x2, .int .u64 x3, .int .u64 x4] 25)) nq
      generalize (wr.alloc (.cells #[.int .i64 x0, .int .i64 x1, .int .i64 x2, .int .u64 x3, .int .u64 x4] 25)).drewN nq = V at *
      have e0 : V.cell? ⟨wr.heap.size, 0, none⟩ = some (.int .i64 x0) := hB.cell 0
      have e2 : V.cell? ⟨wr.heap.size, 2, none⟩ = some (.int .i64 x2) := hB.cell 2
      have e3 : V.cell? ⟨wr.heap.size, 3, none⟩ = some (.int .u64 x3) := hB.cell 3
      have e4 : V.cell? ⟨wr.heap.size, 4, none⟩ = some (.int .u64 x4) := hB.cell 4
      go_quiet ((first | (go_at_call 11; with_reducible exact Calls.quiet_of_same (h11 _)) | (go_at_call 12; with_reducible exact Calls.quiet_of_same (h12 _))))
      have hzz : (zz != zz) = false := by simp
      go_wp2
      exact ⟨⟨k + 1, by omega, by go_num, gb_drewN hgV _⟩, by simp [intOf]; omega⟩
    · obtain rfl : k = n := by omega
      have h13 := wakes_13 wr
      clear hin
      go_wp2_with (first | (go_at_call 13; go_must (refine h13.mono ?_); rintro y w' ⟨rfl, hg'⟩) | fail)
      go_ret
      exact ⟨rfl, gb_trans hg hg'⟩

end Go.Proofs.Ytagcmfaljfaikaa
