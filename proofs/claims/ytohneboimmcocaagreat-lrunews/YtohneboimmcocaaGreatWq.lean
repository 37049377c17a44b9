import Derived.Test.YtohneboimmcocaaGreatWp
import Derived.Test.YtohneboimmcocaaGreatWr
/-
  LruNews' walk.
-/
namespace Go.Proofs.YtohneboimmcocaaGreat
open Go.RowKit
set_option linter.unusedVariables false

set_option maxRecDepth 100000 in
set_option maxHeartbeats 4000000 in
theorem lruNews_any (a : Option Addr) (n c : Nat) (w : World) (hn : n ≤ maxLen) (hin : SharesIn w a n) : Calls Tryz.prog 5 #[.slice a n c] w fun y w' => y = .returned (.bool true) ∧ w.grownBy w' none := by
  have hck := (chunks_23 w).mono (R' := fun y w1 => ∃ wb sb qb lb, y = .returned (.pointer (some ⟨wb, 0, none⟩)) ∧ Hid (w.grownBy w1 none ∧ w1.cell? ⟨wb, 0, none⟩ = some (.pointer (some ⟨sb, 0, none⟩)) ∧ w1.cell? ⟨wb, 1, none⟩ = some (.pointer (some ⟨qb, 0, none⟩)) ∧ w1.cell? ⟨wb, 4, none⟩ = some (.pointer (some ⟨lb, 0, none⟩)))) (by
    rintro y w1 ⟨wb, sb, qb, gl, gc, F, B, zs, rb, G, Q, lb, lsv, rfl, hC⟩
    exact ⟨wb, sb, qb, lb, rfl, hC.gr, hC.box.cell 0, hC.box.cell 1, hC.box.cell 4⟩)
  have hwk := fun W => wakes_17 W
  go_enter Tryz.func5, Tryz.ntmps5
  go_wp2_with (first | (go_at_call 23; go_must (refine hck.mono ?_); rintro y w0 ⟨wb, sb, qb, lb, rfl, hE0⟩) | fail)
  go_loopw [4] (fun v wr => ∃ i : Nat, i ≤ n ∧ i ≤ 60 ∧ v = .int .i64 i ∧ w0.grownBy wr none) (fun v _ => 60 - (intOf v).toNat)
  case atStart => exact ⟨0, by omega, by omega, rfl, gb_refl _ _⟩
  case round =>
    obtain ⟨i, hi, hi6, rfl, hg⟩ := hrel
    obtain ⟨hf0, c0, c1, c4⟩ := hE0.out
    have hgw := gb_trans hf0 hg
    by_cases hlt : i < n ∧ i < 60
    · obtain ⟨hin1, hin2⟩ := hlt
      have hd1 : decide ((i : Int) < n) = true := decide_eq_true (by omega)
      have hd2 : decide ((i : Int) < 60) = true := decide_eq_true (by omega)
      have hl1 : (i : Int) < n := by omega
      have hl2 : (i : Int) < 60 := by omega
      obtain ⟨ab, oo, rfl, x, y, hx, hy, bx, by_⟩ := hin i hin1
      clear hck hwk hin
      have hSX : ∀ W, wr.grownBy W none → (W.cell? ⟨ab, oo + i * 2, none⟩ = some (.int .i64 x) ∧ W.cell? ⟨ab, oo + i * 2 + 1, none⟩ = some (.int .i64 y)) := fun W h => ⟨gb_cellN (gb_trans hgw h) hx, gb_cellN (gb_trans hgw h) hy⟩
      have hA : ∀ W, wr.grownBy W none → (W.cell? ⟨wb, 0, none⟩ = some (.pointer (some ⟨sb, 0, none⟩)) ∧ W.cell? ⟨wb, 1, none⟩ = some (.pointer (some ⟨qb, 0, none⟩)) ∧ W.cell? ⟨ab, oo + i * 2, none⟩ = some (.int .i64 x) ∧ W.cell? ⟨ab, oo + i * 2 + 1, none⟩ = some (.int .i64 y)) := fun W h => ⟨gb_cellN (gb_trans hg h) c0, gb_cellN (gb_trans hg h) c1, hSX W h⟩
      have hB : ∀ W, wr.grownBy W none → (W.cell? ⟨wb, 4, none⟩ = some (.pointer (some ⟨lb, 0, none⟩)) ∧ W.cell? ⟨ab, oo + i * 2, none⟩ = some (.int .i64 x) ∧ W.cell? ⟨ab, oo + i * 2 + 1, none⟩ = some (.int .i64 y)) := fun W h => ⟨gb_cellN (gb_trans hg h) c4, hSX W h⟩
      have hC : ∀ W, wr.grownBy W none → (W.cell? ⟨wb, 1, none⟩ = some (.pointer (some ⟨qb, 0, none⟩)) ∧ W.cell? ⟨ab, oo + i * 2, none⟩ = some (.int .i64 x) ∧ W.cell? ⟨ab, oo + i * 2 + 1, none⟩ = some (.int .i64 y)) := fun W h => ⟨gb_cellN (gb_trans hg h) c1, hSX W h⟩
      have hD : ∀ W, wr.grownBy W none → (W.cell? ⟨wb, 0, none⟩ = some (.pointer (some ⟨sb, 0, none⟩)) ∧ W.cell? ⟨ab, oo + i * 2, none⟩ = some (.int .i64 x) ∧ W.cell? ⟨ab, oo + i * 2 + 1, none⟩ = some (.int .i64 y)) := fun W h => ⟨gb_cellN (gb_trans hg h) c0, hSX W h⟩
      clear hSX c0 c1 c4 hx hy hE0
      by_cases hS : Shr x y
      · skip
        have k24 := fun W (hW : wr.grownBy W none) => (show Calls Tryz.prog 24 #[.pointer (some ⟨sb, 0, none⟩), .pointer (some ⟨qb, 0, none⟩), .int .i64 x, .int .i64 y] W (fun r w' => ∃ xb, r = .returned (.tuple #[.pointer (some ⟨xb, 0, none⟩), .int .i64 0]) ∧ wr.grownBy w' none) by
          refine (lnew_yes hS sb qb _).mono ?_
          rintro r w' ⟨rfl, rfl⟩
          exact ⟨_, rfl, gb_trans hW (World.grownBy_alloc _ _ none)⟩)
        have k25 := fun W (hW : wr.grownBy W none) => (show Calls Tryz.prog 25 #[.pointer (some ⟨lb, 0, none⟩), .int .i64 x, .int .i64 y] W (fun r w' => ∃ xb, r = .returned (.tuple #[.pointer (some ⟨xb, 0, none⟩), .int .i64 0]) ∧ wr.grownBy w' none) by
          refine (rlnew_yes hS lb _).mono ?_
          rintro r w' ⟨rfl, rfl⟩
          exact ⟨_, rfl, gb_trans hW (World.grownBy_alloc _ _ none)⟩)
        have hd0 : wr.grownBy wr.drew none := gb_drew (gb_refl _ _)
        have hA0 := hA _ hd0
        have k1 := k24 _ hd0
        clear k24
        go_wp2
        go_region_held3 (fun W => W.cell? ⟨wb, 0, none⟩ = some (.pointer (some ⟨sb, 0, none⟩)) ∧ W.cell? ⟨wb, 1, none⟩ = some (.pointer (some ⟨qb, 0, none⟩)) ∧ W.cell? ⟨ab, oo + i * 2, none⟩ = some (.int .i64 x) ∧ W.cell? ⟨ab, oo + i * 2 + 1, none⟩ = some (.int .i64 y)) ((first | with_reducible exact hA _ hg2 | with_reducible exact hA0 | go_keep)) ((go_at_call 24; with_reducible refine k1.mono ?_; rintro z w2 ⟨xb, rfl, hg2⟩))
        have hd2 := gb_drew hg2
        have hB0 := hB _ hd2
        have k2 := k25 _ hd2
        clear k25 hA0 hA k1
        go_wp2
        go_region_held3 (fun W => W.cell? ⟨wb, 4, none⟩ = some (.pointer (some ⟨lb, 0, none⟩)) ∧ W.cell? ⟨ab, oo + i * 2, none⟩ = some (.int .i64 x) ∧ W.cell? ⟨ab, oo + i * 2 + 1, none⟩ = some (.int .i64 y)) ((first | with_reducible exact hB _ hg3 | with_reducible exact hB0 | go_keep)) ((go_at_call 25; with_reducible refine k2.mono ?_; rintro z w3 ⟨mb, rfl, hg3⟩))
        have hd3 := gb_drew hg3
        have hC0 := hC _ hd3
        clear hB hB0 k2
        go_wp2_with (go_at_call 26; go_must (refine (num_any _ _).mono ?_); rintro z w' ⟨rfl, rfl⟩)
        go_region_held3 (fun W => W.cell? ⟨wb, 1, none⟩ = some (.pointer (some ⟨qb, 0, none⟩)) ∧ W.cell? ⟨ab, oo + i * 2, none⟩ = some (.int .i64 x) ∧ W.cell? ⟨ab, oo + i * 2 + 1, none⟩ = some (.int .i64 y)) ((first | with_reducible exact hC0 | go_keep)) ((go_at_call 24; with_reducible refine (lnew_nil1 x y qb _).mono ?_; rintro z w4 ⟨rfl, rfl⟩))
        have hd4 := gb_drew hd3
        have hD0 := hD _ hd4
        clear hC hC0
        go_wp2
        go_region_held3 (fun W => W.cell? ⟨wb, 0, none⟩ = some (.pointer (some ⟨sb, 0, none⟩)) ∧ W.cell? ⟨ab, oo + i * 2, none⟩ = some (.int .i64 x) ∧ W.cell? ⟨ab, oo + i * 2 + 1, none⟩ = some (.int .i64 y)) ((first | with_reducible exact hD0 | go_keep)) ((go_at_call 24; with_reducible refine (lnew_nil2 x y sb _).mono ?_; rintro z w4 ⟨rfl, rfl⟩))
        clear hD hD0
        go_wp2_with (go_at_call 26; go_must (refine (num_any _ _).mono ?_); rintro z w' ⟨rfl, rfl⟩)
        exact ⟨⟨i + 1, by omega, by omega, by go_num, gb_trans hg hd4⟩, by simp [intOf]; omega⟩
      · skip
        have k24 := fun W (hW : wr.grownBy W none) => (show Calls Tryz.prog 24 #[.pointer (some ⟨sb, 0, none⟩), .pointer (some ⟨qb, 0, none⟩), .int .i64 x, .int .i64 y] W (fun r w' => r = .returned (.tuple #[.pointer none, .int .i64 1]) ∧ wr.grownBy w' none) by
          refine (lnew_no bx by_ hS sb qb _).mono ?_
          rintro r w' ⟨rfl, rfl⟩
          exact ⟨rfl, hW⟩)
        have k25 := fun W (hW : wr.grownBy W none) => (show Calls Tryz.prog 25 #[.pointer (some ⟨lb, 0, none⟩), .int .i64 x, .int .i64 y] W (fun r w' => r = .returned (.tuple #[.pointer none, .int .i64 1]) ∧ wr.grownBy w' none) by
          refine (rlnew_no bx by_ hS lb _).mono ?_
          rintro r w' ⟨rfl, rfl⟩
          exact ⟨rfl, hW⟩)
        have hd0 : wr.grownBy wr.drew none := gb_drew (gb_refl _ _)
        have hA0 := hA _ hd0
        have k1 := k24 _ hd0
        clear k24
        go_wp2
        go_region_held3 (fun W => W.cell? ⟨wb, 0, none⟩ = some (.pointer (some ⟨sb, 0, none⟩)) ∧ W.cell? ⟨wb, 1, none⟩ = some (.pointer (some ⟨qb, 0, none⟩)) ∧ W.cell? ⟨ab, oo + i * 2, none⟩ = some (.int .i64 x) ∧ W.cell? ⟨ab, oo + i * 2 + 1, none⟩ = some (.int .i64 y)) ((first | with_reducible exact hA _ hg2 | with_reducible exact hA0 | go_keep)) ((go_at_call 24; with_reducible refine k1.mono ?_; rintro z w2 ⟨rfl, hg2⟩))
        have hd2 := gb_drew hg2
        have hB0 := hB _ hd2
        have k2 := k25 _ hd2
        clear k25 hA0 hA k1
        go_wp2
        go_region_held3 (fun W => W.cell? ⟨wb, 4, none⟩ = some (.pointer (some ⟨lb, 0, none⟩)) ∧ W.cell? ⟨ab, oo + i * 2, none⟩ = some (.int .i64 x) ∧ W.cell? ⟨ab, oo + i * 2 + 1, none⟩ = some (.int .i64 y)) ((first | with_reducible exact hB _ hg3 | with_reducible exact hB0 | go_keep)) ((go_at_call 25; with_reducible refine k2.mono ?_; rintro z w3 ⟨rfl, hg3⟩))
        have hd3 := gb_drew hg3
        have hC0 := hC _ hd3
        clear hB hB0 k2
        go_wp2_with (go_at_call 26; go_must (refine (num_any _ _).mono ?_); rintro z w' ⟨rfl, rfl⟩)
        go_region_held3 (fun W => W.cell? ⟨wb, 1, none⟩ = some (.pointer (some ⟨qb, 0, none⟩)) ∧ W.cell? ⟨ab, oo + i * 2, none⟩ = some (.int .i64 x) ∧ W.cell? ⟨ab, oo + i * 2 + 1, none⟩ = some (.int .i64 y)) ((first | with_reducible exact hC0 | go_keep)) ((go_at_call 24; with_reducible refine (lnew_nil1 x y qb _).mono ?_; rintro z w4 ⟨rfl, rfl⟩))
        have hd4 := gb_drew hd3
        have hD0 := hD _ hd4
        clear hC hC0
        go_wp2
        go_region_held3 (fun W => W.cell? ⟨wb, 0, none⟩ = some (.pointer (some ⟨sb, 0, none⟩)) ∧ W.cell? ⟨ab, oo + i * 2, none⟩ = some (.int .i64 x) ∧ W.cell? ⟨ab, oo + i * 2 + 1, none⟩ = some (.int .i64 y)) ((first | with_reducible exact hD0 | go_keep)) ((go_at_call 24; with_reducible refine (lnew_nil2 x y sb _).mono ?_; rintro z w4 ⟨rfl, rfl⟩))
        clear hD hD0
        go_wp2_with (go_at_call 26; go_must (refine (num_any _ _).mono ?_); rintro z w' ⟨rfl, rfl⟩)
        exact ⟨⟨i + 1, by omega, by omega, by go_num, gb_trans hg hd4⟩, by simp [intOf]; omega⟩
    · have HG : Hid (w.grownBy wr none) := hgw
      clear hck hin hg hgw hf0 hE0 c0 c1 c4
      by_cases hn2 : i < n
      · have hd1 : decide ((i : Int) < n) = true := decide_eq_true (by omega)
        have hl1 : (i : Int) < n := by omega
        have hd2 : decide ((i : Int) < 60) = false := decide_eq_false (by omega)
        have hl2 : ¬ (i : Int) < 60 := by omega
        clear hlt
        go_wp2_with (go_at_call 17; go_must (refine (hwk _).mono ?_); rintro z w1 ⟨rfl, hf1⟩)
        go_ret
        exact ⟨rfl, gb_trans HG.out hf1⟩
      · have hd1 : decide ((i : Int) < n) = false := decide_eq_false (by omega)
        have hl1 : ¬ (i : Int) < n := by omega
        clear hlt
        go_wp2_with (go_at_call 17; go_must (refine (hwk _).mono ?_); rintro z w1 ⟨rfl, hf1⟩)
        go_ret
        exact ⟨rfl, gb_trans HG.out hf1⟩
end Go.Proofs.YtohneboimmcocaaGreat
