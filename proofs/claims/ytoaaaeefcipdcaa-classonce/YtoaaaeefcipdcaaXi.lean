import Derived.Test.YtoaaaeefcipdcaaXh
import Derived.Test.YtoaaaeefcipdcaaTd
import Derived.Test.YtoaaaeefcipdcaaSx
/-
  ClassApart's walk, where a Set is refused.
-/
namespace Go.Proofs.Ytoaaaeefcipdcaa
open Go.RowKit
set_option linter.unusedVariables false

set_option maxRecDepth 100000 in
set_option maxHeartbeats 4000000 in
theorem apart_nn {x0 x1 x2 x3 x4 x5 x6 y0 y1 y2 y3 y4 y5 y6 : Int} (a : Option Addr) (n c : Nat) (w : World) (hgc : ∀ W, Calls Try.prog 17 #[.agg #[.int .i64 x0, .int .i64 x1, .int .i64 x2, .int .i64 x3, .int .i64 x4, .int .i64 x5, .int .i64 x6]] W fun x w' => x = .returned (.tuple #[.pointer none, .bool true]) ∧ W.grownBy w' none) (hgd : ∀ W, Calls Try.prog 17 #[.agg #[.int .i64 y0, .int .i64 y1, .int .i64 y2, .int .i64 y3, .int .i64 y4, .int .i64 y5, .int .i64 y6]] W fun x w' => x = .returned (.tuple #[.pointer none, .bool true]) ∧ W.grownBy w' none) :
    Calls Try.prog 6 #[.agg #[.int .i64 x0, .int .i64 x1, .int .i64 x2, .int .i64 x3, .int .i64 x4, .int .i64 x5, .int .i64 x6], .agg #[.int .i64 y0, .int .i64 y1, .int .i64 y2, .int .i64 y3, .int .i64 y4, .int .i64 y5, .int .i64 y6], .slice a n c] w fun e w' => e = .returned (.bool true) ∧ w.grownBy w' none := by
  have hwk := fun W => wakes_10 W
  obtain ⟨V, hV⟩ : ∃ V, V = (w.alloc (.cells #[.int .i64 x0, .int .i64 x1, .int .i64 x2, .int .i64 x3, .int .i64 x4, .int .i64 x5, .int .i64 x6] 23)).alloc (.cells #[.int .i64 y0, .int .i64 y1, .int .i64 y2, .int .i64 y3, .int .i64 y4, .int .i64 y5, .int .i64 y6] 23) := ⟨_, rfl⟩
  have hF0 : w.grownBy V none := by rw [hV]; exact gb_alloc (World.grownBy_alloc _ _ _) _
  have hc7 : C7 V w.heap.size x0 x1 x2 x3 x4 x5 x6 := by rw [hV]; exact (C7.box w x0 x1 x2 x3 x4 x5 x6).kept (World.grownBy_alloc _ _ _)
  have hd7 : C7 V (w.heap.size + 1) y0 y1 y2 y3 y4 y5 y6 := by
    have h := C7.box (w.alloc (.cells #[.int .i64 x0, .int .i64 x1, .int .i64 x2, .int .i64 x3, .int .i64 x4, .int .i64 x5, .int .i64 x6] 23)) y0 y1 y2 y3 y4 y5 y6
    rw [show (w.alloc (.cells #[.int .i64 x0, .int .i64 x1, .int .i64 x2, .int .i64 x3, .int .i64 x4, .int .i64 x5, .int .i64 x6] 23)).heap.size = w.heap.size + 1 by simp] at h
    rw [hV]; exact h
  go_enter Try.func6, Try.ntmps6
  go_wp2_with fail
  refine (hgc _).mono ?_
  rintro y w1 ⟨rfl, hf1⟩
  rw [← hV] at hf1
  clear hV
  have hc1 := hc7.kept hf1
  obtain ⟨k0, k1, k2, k3, k4, k5, k6⟩ := hc1
  go_wp2_with fail
  refine (hgc _).mono ?_
  rintro y w2 ⟨rfl, hf2⟩
  have hd2 := (hd7.kept hf1).kept hf2
  clear k0 k1 k2 k3 k4 k5 k6
  obtain ⟨k0, k1, k2, k3, k4, k5, k6⟩ := hd2
  go_wp2_with fail
  refine (hgd _).mono ?_
  rintro y w3 ⟨rfl, hf3⟩
  clear k0 k1 k2 k3 k4 k5 k6
  go_wp2_with (first | (go_at_call 9; go_must (refine (hwk _).mono ?_); rintro y w9 ⟨rfl, hf9⟩) | fail)
  go_ret
  exact ⟨rfl, gb_trans (gb_trans (gb_trans (gb_trans hF0 hf1) hf2) hf3) hf9⟩

set_option maxRecDepth 100000 in
set_option maxHeartbeats 4000000 in
theorem apart_ns {x0 x1 x2 x3 x4 x5 x6 y0 y1 y2 y3 y4 y5 y6 : Int} (a : Option Addr) (n c : Nat) (w : World) (hgc : ∀ W, Calls Try.prog 17 #[.agg #[.int .i64 x0, .int .i64 x1, .int .i64 x2, .int .i64 x3, .int .i64 x4, .int .i64 x5, .int .i64 x6]] W fun x w' => x = .returned (.tuple #[.pointer none, .bool true]) ∧ W.grownBy w' none) (hgd : ∀ W, Calls Try.prog 17 #[.agg #[.int .i64 y0, .int .i64 y1, .int .i64 y2, .int .i64 y3, .int .i64 y4, .int .i64 y5, .int .i64 y6]] W fun x w' => ∃ sb, x = .returned (.tuple #[.pointer (some ⟨sb, 0, none⟩), .bool false]) ∧ W.grownBy w' none) :
    Calls Try.prog 6 #[.agg #[.int .i64 x0, .int .i64 x1, .int .i64 x2, .int .i64 x3, .int .i64 x4, .int .i64 x5, .int .i64 x6], .agg #[.int .i64 y0, .int .i64 y1, .int .i64 y2, .int .i64 y3, .int .i64 y4, .int .i64 y5, .int .i64 y6], .slice a n c] w fun e w' => e = .returned (.bool true) ∧ w.grownBy w' none := by
  have hwk := fun W => wakes_10 W
  obtain ⟨V, hV⟩ : ∃ V, V = (w.alloc (.cells #[.int .i64 x0, .int .i64 x1, .int .i64 x2, .int .i64 x3, .int .i64 x4, .int .i64 x5, .int .i64 x6] 23)).alloc (.cells #[.int .i64 y0, .int .i64 y1, .int .i64 y2, .int .i64 y3, .int .i64 y4, .int .i64 y5, .int .i64 y6] 23) := ⟨_, rfl⟩
  have hF0 : w.grownBy V none := by rw [hV]; exact gb_alloc (World.grownBy_alloc _ _ _) _
  have hc7 : C7 V w.heap.size x0 x1 x2 x3 x4 x5 x6 := by rw [hV]; exact (C7.box w x0 x1 x2 x3 x4 x5 x6).kept (World.grownBy_alloc _ _ _)
  have hd7 : C7 V (w.heap.size + 1) y0 y1 y2 y3 y4 y5 y6 := by
    have h := C7.box (w.alloc (.cells #[.int .i64 x0, .int .i64 x1, .int .i64 x2, .int .i64 x3, .int .i64 x4, .int .i64 x5, .int .i64 x6] 23)) y0 y1 y2 y3 y4 y5 y6
    rw [show (w.alloc (.cells #[.int .i64 x0, .int .i64 x1, .int .i64 x2, .int .i64 x3, .int .i64 x4, .int .i64 x5, .int .i64 x6] 23)).heap.size = w.heap.size + 1 by simp] at h
    rw [hV]; exact h
  go_enter Try.func6, Try.ntmps6
  go_wp2_with fail
  refine (hgc _).mono ?_
  rintro y w1 ⟨rfl, hf1⟩
  rw [← hV] at hf1
  clear hV
  have hc1 := hc7.kept hf1
  obtain ⟨k0, k1, k2, k3, k4, k5, k6⟩ := hc1
  go_wp2_with fail
  refine (hgc _).mono ?_
  rintro y w2 ⟨rfl, hf2⟩
  have hd2 := (hd7.kept hf1).kept hf2
  clear k0 k1 k2 k3 k4 k5 k6
  obtain ⟨k0, k1, k2, k3, k4, k5, k6⟩ := hd2
  go_wp2_with fail
  refine (hgd _).mono ?_
  rintro y w3 ⟨sbhf3, rfl, hf3⟩
  clear k0 k1 k2 k3 k4 k5 k6
  go_wp2_with (first | (go_at_call 9; go_must (refine (hwk _).mono ?_); rintro y w9 ⟨rfl, hf9⟩) | fail)
  go_ret
  exact ⟨rfl, gb_trans (gb_trans (gb_trans (gb_trans hF0 hf1) hf2) hf3) hf9⟩

set_option maxRecDepth 100000 in
set_option maxHeartbeats 4000000 in
theorem apart_sn {x0 x1 x2 x3 x4 x5 x6 y0 y1 y2 y3 y4 y5 y6 : Int} (a : Option Addr) (n c : Nat) (w : World) (hgc : ∀ W, Calls Try.prog 17 #[.agg #[.int .i64 x0, .int .i64 x1, .int .i64 x2, .int .i64 x3, .int .i64 x4, .int .i64 x5, .int .i64 x6]] W fun x w' => ∃ sb, x = .returned (.tuple #[.pointer (some ⟨sb, 0, none⟩), .bool false]) ∧ W.grownBy w' none) (hgd : ∀ W, Calls Try.prog 17 #[.agg #[.int .i64 y0, .int .i64 y1, .int .i64 y2, .int .i64 y3, .int .i64 y4, .int .i64 y5, .int .i64 y6]] W fun x w' => x = .returned (.tuple #[.pointer none, .bool true]) ∧ W.grownBy w' none) :
    Calls Try.prog 6 #[.agg #[.int .i64 x0, .int .i64 x1, .int .i64 x2, .int .i64 x3, .int .i64 x4, .int .i64 x5, .int .i64 x6], .agg #[.int .i64 y0, .int .i64 y1, .int .i64 y2, .int .i64 y3, .int .i64 y4, .int .i64 y5, .int .i64 y6], .slice a n c] w fun e w' => e = .returned (.bool true) ∧ w.grownBy w' none := by
  have hwk := fun W => wakes_10 W
  obtain ⟨V, hV⟩ : ∃ V, V = (w.alloc (.cells #[.int .i64 x0, .int .i64 x1, .int .i64 x2, .int .i64 x3, .int .i64 x4, .int .i64 x5, .int .i64 x6] 23)).alloc (.cells #[.int .i64 y0, .int .i64 y1, .int .i64 y2, .int .i64 y3, .int .i64 y4, .int .i64 y5, .int .i64 y6] 23) := ⟨_, rfl⟩
  have hF0 : w.grownBy V none := by rw [hV]; exact gb_alloc (World.grownBy_alloc _ _ _) _
  have hc7 : C7 V w.heap.size x0 x1 x2 x3 x4 x5 x6 := by rw [hV]; exact (C7.box w x0 x1 x2 x3 x4 x5 x6).kept (World.grownBy_alloc _ _ _)
  have hd7 : C7 V (w.heap.size + 1) y0 y1 y2 y3 y4 y5 y6 := by
    have h := C7.box (w.alloc (.cells #[.int .i64 x0, .int .i64 x1, .int .i64 x2, .int .i64 x3, .int .i64 x4, .int .i64 x5, .int .i64 x6] 23)) y0 y1 y2 y3 y4 y5 y6
    rw [show (w.alloc (.cells #[.int .i64 x0, .int .i64 x1, .int .i64 x2, .int .i64 x3, .int .i64 x4, .int .i64 x5, .int .i64 x6] 23)).heap.size = w.heap.size + 1 by simp] at h
    rw [hV]; exact h
  go_enter Try.func6, Try.ntmps6
  go_wp2_with fail
  refine (hgc _).mono ?_
  rintro y w1 ⟨sbhf1, rfl, hf1⟩
  rw [← hV] at hf1
  clear hV
  have hc1 := hc7.kept hf1
  obtain ⟨k0, k1, k2, k3, k4, k5, k6⟩ := hc1
  go_wp2_with fail
  refine (hgc _).mono ?_
  rintro y w2 ⟨sbhf2, rfl, hf2⟩
  have hd2 := (hd7.kept hf1).kept hf2
  clear k0 k1 k2 k3 k4 k5 k6
  obtain ⟨k0, k1, k2, k3, k4, k5, k6⟩ := hd2
  go_wp2_with fail
  refine (hgd _).mono ?_
  rintro y w3 ⟨rfl, hf3⟩
  clear k0 k1 k2 k3 k4 k5 k6
  go_wp2_with (first | (go_at_call 9; go_must (refine (hwk _).mono ?_); rintro y w9 ⟨rfl, hf9⟩) | fail)
  go_ret
  exact ⟨rfl, gb_trans (gb_trans (gb_trans (gb_trans hF0 hf1) hf2) hf3) hf9⟩

end Go.Proofs.Ytoaaaeefcipdcaa
