/-
  HashNames' walk.
-/
import Derived.Test.YtcbogbohafmnhaaJ
namespace Go.Proofs.Ytcbogbohafmnhaa
open Go.RowKit
set_option linter.unusedVariables false

theorem has_lit (w : World) (zs : List Int) (fr : Nat × Nat) : Has (w.alloc (.cells (vals zs) 5 fr)) (some ⟨w.heap.size, 0, none⟩) zs.length zs :=
  ⟨rfl, fun _ => ⟨_, _, rfl, fun i hi => by
    rw [cell_of_row _ _ _ _ _ _ (heap_alloc_new w _), Nat.zero_add]
    exact vals_get zs i hi⟩⟩
theorem has_nil (w : World) : Has w none 0 [] := ⟨rfl, fun h => by omega⟩
theorem sum_nil : sumB [] = 14695981039346656037 := by decide +kernel
theorem sum_foobar : sumB [102, 111, 111, 98, 97, 114] = 9625390261332436968 := by decide +kernel
theorem mix0 : mix 0 = 0 := by decide +kernel

set_option maxRecDepth 100000 in
set_option maxHeartbeats 2000000 in
theorem names_any (w : World) : Calls Try.prog 6 #[] w fun y w' => y = .returned (.bool true) ∧ w.grownBy w' none := by
  have c1 := points_20_no ⟨#[]⟩ 1 (by decide) (by decide)
  have c2 := points_20_no ⟨#[115]⟩ 513 (by decide) (by decide)
  have c3 := points_20 [115] 512 (by intro z hz; simp at hz; omega) (by decide) (by decide) (by decide) (by decide) w
  rw [show strOfNums [115] = ⟨#[115]⟩ from rfl] at c3
  simp only [Int.cast_ofNat_Int] at c3
  have s1 : ∀ W, Calls Try.prog 11 #[.slice none 0 0] W fun e w' => e = .returned (.int .u64 14695981039346656037) ∧ w' = W := fun W => by
    have := sum_11 (has_nil W) (by intro z hz; simp at hz) 0 (by omega)
    rw [sum_nil] at this
    simp only [Int.cast_ofNat_Int] at this
    exact this
  have s2 : ∀ W : World, Calls Try.prog 11 #[.slice (some ⟨W.heap.size, 0, none⟩) 6 6] (W.alloc (.cells #[.int .u8 102, .int .u8 111, .int .u8 111, .int .u8 98, .int .u8 97, .int .u8 114] 5 (6, 7))) fun e w' => e = .returned (.int .u64 9625390261332436968) ∧ w' = (W.alloc (.cells #[.int .u8 102, .int .u8 111, .int .u8 111, .int .u8 98, .int .u8 97, .int .u8 114] 5 (6, 7))) := fun W => by
    have := sum_11 (has_lit W [102, 111, 111, 98, 97, 114] (6, 7)) (by intro z hz; simp at hz; omega) 6 (by decide)
    rw [sum_foobar] at this
    simp only [Int.cast_ofNat_Int] at this
    exact this
  have m0 : ∀ W, Calls Try.prog 14 #[.int .u64 0] W fun e w' => e = .returned (.int .u64 0) ∧ w' = W := fun W => by
    have := mix_14 0 (by decide) W
    rw [mix0] at this
    exact this
  have hcv := fun W => Lib.run_convert_bytes_const W 23 5 #[.int .u8 102, .int .u8 111, .int .u8 111, .int .u8 98, .int .u8 97, .int .u8 114] 6 6 Try.underlying23 Try.underlying5
  simp at hcv
  go_enter Try.func6, Try.ntmps6
  go_wp2_with fail
  refine (c1 _).mono ?_
  rintro e w' ⟨rfl, rfl⟩
  clear c1
  go_wp2_with fail
  refine (c2 _).mono ?_
  rintro e w' ⟨rfl, rfl⟩
  clear c2
  go_wp2_with fail
  refine c3.mono ?_
  rintro e w2 ⟨v, rfl, hown, hf⟩
  clear c3 hown
  go_wp2_with (first | (go_at_call 11; go_must (with_reducible first | refine (s1 _).mono ?_ | refine (s2 _).mono ?_); rintro e w' ⟨rfl, rfl⟩) | (go_at_call 14; go_must (with_reducible refine (m0 _).mono ?_); rintro e w' ⟨rfl, rfl⟩) | (go_at_call 22; go_must (refine (num_22 _ _).mono ?_); rintro e w' ⟨rfl, rfl⟩) | fail)
  go_ret
  exact ⟨rfl, gb_alloc hf _⟩

end Go.Proofs.Ytcbogbohafmnhaa
