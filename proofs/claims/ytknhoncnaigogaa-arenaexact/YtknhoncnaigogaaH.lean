/-
  wakes, and ArenaNames.
-/
import Derived.Test.YtknhoncnaigogaaD
import Derived.Test.YtknhoncnaigogaaE
import Derived.Test.YtknhoncnaigogaaF
import Derived.Test.YtknhoncnaigogaaG
namespace Go.Proofs.Ytknhoncnaigogaa
open Go.RowKit
set_option linter.unusedVariables false

theorem gb_own {a b c : World} {g : Nat} (h : a.grownBy b none) (k : b.grownBy c (some g)) (hg : a.heap.size ≤ g) : a.grownBy c none :=
  ⟨k.os.trans h.os, k.tape.trans h.tape, k.output.trans h.output, Nat.le_trans h.size k.size, fun i hi _ => (k.block i (Nat.lt_of_lt_of_le hi h.size) (by simp; omega)).trans (h.block i hi (by simp))⟩

theorem new_1 (w : World) : Calls Try.prog 15 #[.int .i64 4096, .int .i64 1] w fun e w' => ∃ zs, e = .returned (.tuple #[.pointer (some ⟨w.heap.size + 1, 0, none⟩), .int .i64 0]) ∧
      w.grownBy w' none ∧ IsA w' (w.heap.size + 1) w.heap.size 4096 1 zs ∧ Hid (zs = List.replicate 4096 0) ∧ zs.length = 4096 := by
  refine (new_yes 4096 1 w ⟨12, by decide, by omega, by omega⟩ page4096 (by omega)).mono ?_
  rintro e w' ⟨rfl, h1, h2⟩
  exact ⟨_, rfl, h1, h2, rfl, by rw [List.length_replicate]⟩
theorem new_2 (w : World) : Calls Try.prog 15 #[.int .i64 4096, .int .i64 2] w fun e w' => ∃ zs, e = .returned (.tuple #[.pointer (some ⟨w.heap.size + 1, 0, none⟩), .int .i64 0]) ∧
      w.grownBy w' none ∧ IsA w' (w.heap.size + 1) w.heap.size 4096 2 zs ∧ Hid (zs = List.replicate 8192 0) ∧ zs.length = 8192 := by
  refine (new_yes 4096 2 w ⟨12, by decide, by omega, by omega⟩ page4096 (by omega)).mono ?_
  rintro e w' ⟨rfl, h1, h2⟩
  exact ⟨_, rfl, h1, h2, rfl, by rw [List.length_replicate]⟩

theorem zeros_get : getL (putL (List.replicate 4096 0) 9 2 258) 9 2 0 0 = 258 := by decide +kernel
theorem zeros_cut : cut (putL (List.replicate 4096 0) 9 2 258) 9 2 = [1, 2] := by decide +kernel

set_option maxHeartbeats 1000000 in
theorem wakes_any (w : World) : Calls Try.prog 14 #[] w fun e w' => e = .returned (.bool true) ∧ w.grownBy w' none := by
  go_enter Try.func14, Try.ntmps14
  go_wp2_with fail
  refine (new_1 w).mono ?_
  rintro e w1 ⟨zs, rfl, hf1, hA1, hzs, hl⟩
  have hc2 := hA1.c2
  rw [hl] at hc2
  go_wp2_with (first | (go_at_call 16; refine (num_any _ _).mono ?_; rintro e w' ⟨rfl, rfl⟩) | (go_at_call 19; go_must (refine (len_any _ _ _ _ hc2).mono ?_); rintro e w' ⟨rfl, rfl⟩))
  refine (put_52 hA1 9 258 (by omega) ⟨by omega, by omega, by omega, by omega⟩).mono ?_
  rintro e w2 ⟨rfl, hf2, hg2⟩
  have hA2 := hA1.turned hf2 hg2 (length_putL _ _ _ _) (putL_mem _ _ _ _ hA1.hz)
  have hF2 := gb_own hf1 hf2 (Nat.le_refl _)
  obtain ⟨z2, hz2⟩ : ∃ z2, z2 = putL zs (9 : Int).toNat 2 258 := ⟨_, rfl⟩
  rw [← hz2] at hA2
  have hl2 : z2.length = 4096 := by rw [hz2, length_putL, hl]
  have e1 : getL z2 9 2 0 0 = 258 := by rw [hz2, hzs.out]; exact zeros_get
  have HE : Hid (cut z2 9 2 = [1, 2]) := by have := hzs.out; subst hz2; subst this; exact zeros_cut
  clear hg2 hf2 hc2 hz2 hA1 hf1
  go_wp2_with (first | (go_at_call 16; refine (num_any _ _).mono ?_; rintro e w' ⟨rfl, rfl⟩) | fail)
  refine (get_53 hA2 9 ⟨by omega, by omega, by omega, by omega⟩).mono ?_
  rintro e w3 ⟨rfl, hf3⟩
  have hA3 := hA2.kept hf3 (by simp) (by simp)
  have hF3 := gb_trans hF2 hf3
  clear hf3 hA2 hF2
  have e2 : getL z2 (9 : Int).toNat 2 0 0 = 258 := e1
  go_wp2_with (first | (go_at_call 16; refine (num_any _ _).mono ?_; rintro e w' ⟨rfl, rfl⟩) | fail)
  have hA4 := hA3.kept (row := none) (World.grownBy_alloc w3 (.cells #[.int .u8 1, .int .u8 2] 5) none) (by simp) (by simp)
  have hH : Has (w3.alloc (.cells #[.int .u8 1, .int .u8 2] 5)) (some ⟨w3.heap.size, 0, none⟩) 2 [1, 2] := by
    refine ⟨rfl, fun _ => ⟨_, _, rfl, fun i hi => ?_⟩⟩
    match i, hi with
    | 0, _ => simp
    | 1, _ => simp
  refine (same_yes hA4 9 _ 2 2 [1, 2] hH (by intro z hz; simp at hz; omega) (by omega) ⟨by omega, by omega, by omega, by omega⟩).mono ?_
  rintro e w5 ⟨rfl, hf5⟩
  have hF5 := gb_trans (gb_alloc hF3 (.cells #[.int .u8 1, .int .u8 2] 5)) hf5
  clear hA3 hA4 hH hF3 hf5 e1 e2
  go_wp2
  go_ret
  exact ⟨congrArg (fun b => Ending.returned (Value.bool b)) (decide_eq_true HE.out), hF5⟩

set_option maxHeartbeats 1000000 in
theorem names_any (w : World) : Calls Try.prog 5 #[] w fun e w' => e = .returned (.bool true) ∧ w.grownBy w' none := by
  go_enter Try.func5, Try.ntmps5
  go_wp2_with (first | (go_at_call 16; refine (num_any _ _).mono ?_; rintro e w' ⟨rfl, rfl⟩) | (go_at_call 14; refine (wakes_any _).mono ?_; rintro e w' ⟨rfl, hf⟩))
  go_ret
  exact ⟨rfl, hf⟩

end Go.Proofs.Ytknhoncnaigogaa
