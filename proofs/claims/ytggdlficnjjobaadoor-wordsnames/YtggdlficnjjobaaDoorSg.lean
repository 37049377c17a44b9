/-
  The law.
-/
import Derived.Great.Walk
import Derived.Great.BuildSlice
import Derived.Deep.WholeRow
import Derived.Test.YtggdlficnjjobaaDoorSf
namespace Go.Proofs.YtggdlficnjjobaaDoor
open Go Go.RowKit Go.Shelf
set_option linter.unusedVariables false
set_option linter.unusedSimpArgs false

theorem row24 : ∀ k : Nat, k < 24 → ((([1, 2, 3, 4, 5, 6, 7, 8, 9, 10, 11, 12, 13, 14, 15, 16, 17, 18, 19, 20, 21, 22, 23, 24] : List Int).map (Value.int .i64)).toArray : Array Value)[k]? = some (.int .i64 (k + 1 : Int))
  | 0, _ => rfl
  | 1, _ => rfl
  | 2, _ => rfl
  | 3, _ => rfl
  | 4, _ => rfl
  | 5, _ => rfl
  | 6, _ => rfl
  | 7, _ => rfl
  | 8, _ => rfl
  | 9, _ => rfl
  | 10, _ => rfl
  | 11, _ => rfl
  | 12, _ => rfl
  | 13, _ => rfl
  | 14, _ => rfl
  | 15, _ => rfl
  | 16, _ => rfl
  | 17, _ => rfl
  | 18, _ => rfl
  | 19, _ => rfl
  | 20, _ => rfl
  | 21, _ => rfl
  | 22, _ => rfl
  | 23, _ => rfl
  | n + 24, h => absurd h (by omega)
set_option maxRecDepth 100000 in
set_option maxHeartbeats 4000000 in
theorem names_3 {w : World} (hE : Er w) : Calls Tryd.prog 3 #[] w fun e w' => e = .returned (.bool true) ∧ w.grownBy w' none := by
  have h5 := @wakes_5
  have hn : (w.alloc (.cells (([1, 2, 3, 4, 5, 6, 7, 8, 9, 10, 11, 12, 13, 14, 15, 16, 17, 18, 19, 20, 21, 22, 23, 24] : List Int).map (Value.int .i64)).toArray 22)).heap[w.heap.size]? = some (.cells (([1, 2, 3, 4, 5, 6, 7, 8, 9, 10, 11, 12, 13, 14, 15, 16, 17, 18, 19, 20, 21, 22, 23, 24] : List Int).map (Value.int .i64)).toArray 22) := heap_alloc_new w _
  have hg : w.grownBy (w.alloc (.cells (([1, 2, 3, 4, 5, 6, 7, 8, 9, 10, 11, 12, 13, 14, 15, 16, 17, 18, 19, 20, 21, 22, 23, 24] : List Int).map (Value.int .i64)).toArray 22)) none := gb_alloc (gb_refl w none) _
  have hc : ∀ k : Nat, k < 24 → (w.alloc (.cells (([1, 2, 3, 4, 5, 6, 7, 8, 9, 10, 11, 12, 13, 14, 15, 16, 17, 18, 19, 20, 21, 22, 23, 24] : List Int).map (Value.int .i64)).toArray 22)).cell? ⟨w.heap.size, k, none⟩ = some (.int .i64 (k + 1 : Int)) := by
    intro k hk
    rw [cell_of_row _ _ _ _ _ _ hn]
    exact row24 k hk
  go_enter Tryd.func3, Tryd.ntmps3
  refine wp_seq ?_
  apply wp_region_lit
  refine Great.wpList_runTo rfl (some 0) rfl (.bool false) w rfl ?_
  apply wpList_nil
  refine wp_seq ?_
  apply wp_region_lit
  refine wpList_buildFlatArrTo rfl 22 3 24 _ rfl .i64 [1, 2, 3, 4, 5, 6, 7, 8, 9, 10, 11, 12, 13, 14, 15, 16, 17, 18, 19, 20, 21, 22, 23, 24] (some 4) rfl Tryd.underlying22 (by kernel_rfl) (by kernel_rfl) (by rfl) ?_
  refine Great.wpList_allocTo rfl (some 1) rfl (.pointer (some ⟨w.heap.size, 0, none⟩)) (.cells #[.int .i64 0, .int .i64 0, .int .i64 0, .int .i64 0, .int .i64 0, .int .i64 0, .int .i64 0, .int .i64 0, .int .i64 0, .int .i64 0, .int .i64 0, .int .i64 0, .int .i64 0, .int .i64 0, .int .i64 0, .int .i64 0, .int .i64 0, .int .i64 0, .int .i64 0, .int .i64 0, .int .i64 0, .int .i64 0, .int .i64 0, .int .i64 0] 22) ?_ ?_
  · have hz := (zero_of_info (P := Tryd.prog) (t := 22) (v := .agg #[.int .i64 0, .int .i64 0, .int .i64 0, .int .i64 0, .int .i64 0, .int .i64 0, .int .i64 0, .int .i64 0, .int .i64 0, .int .i64 0, .int .i64 0, .int .i64 0, .int .i64 0, .int .i64 0, .int .i64 0, .int .i64 0, .int .i64 0, .int .i64 0, .int .i64 0, .int .i64 0, .int .i64 0, .int .i64 0, .int .i64 0, .int .i64 0]) (n := 24) (by kernel_rfl)).1
    first
      | (simp [execOp, hz, Instr.alloc, Value.cells, newRow]; done)
      | rfl
  refine wpList_store_rowTo rfl 22 (.tmp 1) (.tmp 4) rfl rfl w.heap.size _ rfl rfl 22 #[.int .i64 0, .int .i64 0, .int .i64 0, .int .i64 0, .int .i64 0, .int .i64 0, .int .i64 0, .int .i64 0, .int .i64 0, .int .i64 0, .int .i64 0, .int .i64 0, .int .i64 0, .int .i64 0, .int .i64 0, .int .i64 0, .int .i64 0, .int .i64 0, .int .i64 0, .int .i64 0, .int .i64 0, .int .i64 0, .int .i64 0, .int .i64 0] (heap_alloc_last w _) (by kernel_rfl) rfl (by kernel_rfl) ?_
  apply wpList_nil
  rw [World.setRow_alloc_new]
  generalize (w.alloc (.cells ((([1, 2, 3, 4, 5, 6, 7, 8, 9, 10, 11, 12, 13, 14, 15, 16, 17, 18, 19, 20, 21, 22, 23, 24] : List Int).map (Value.int .i64)).toArray) 22)) = W1 at hn hg hc ⊢
  generalize (Value.agg ((([1, 2, 3, 4, 5, 6, 7, 8, 9, 10, 11, 12, 13, 14, 15, 16, 17, 18, 19, 20, 21, 22, 23, 24] : List Int).map (Value.int .i64)).toArray)) = V4
  simp only [Exit.then]
  go_wp2
  go_loopw [2] (fun v wr => ∃ k : Nat, k ≤ 24 ∧ v = .int .i64 k ∧ wr = W1) (fun v _ => 24 - (intOf v).toNat)
  case atStart => exact ⟨0, by omega, rfl, rfl⟩
  case round =>
    obtain ⟨k, hk, rfl, rfl⟩ := hrel
    have hlt : k < 24 ∨ k = 24 := by omega
    rcases hlt with hlt | rfl
    · have d1 : decide ((k : Int) < 24) = true := decide_eq_true (by omega)
      have hck := hc k hlt
      go_wp2
      exact ⟨⟨k + 1, by omega, by simp, trivial⟩, by simp [intOf]; omega⟩
    · go_wp2_with (first
        | (go_at_call 4; go_must ((with_reducible refine (num_4 _ _).mono ?_); rintro e w6 ⟨rfl, rfl⟩))
        | (go_at_call 5; go_must ((with_reducible refine (h5 (hE.kept hg)).mono ?_); rintro e w7 ⟨rfl, hg7⟩)))
      go_ret
      exact ⟨rfl, gb_trans hg hg7⟩
end Go.Proofs.YtggdlficnjjobaaDoor
