import Derived.Test.YtoomnhclaofgaaaGreatIh
import Derived.Test.YtoomnhclaofgaaaGreatTj
import Derived.Great.BuildSlice
import Derived.Deep.Cut
/-
  config.
-/
namespace Go.Proofs.YtoomnhclaofgaaaGreat
open Go.RowKit Go.Great
set_option linter.unusedVariables false

theorem num_45 (n : Int) (w : World) : Calls Tryz.prog 6 #[.int .i64 n] w fun e w' => e = .returned (.int .i64 n) ∧ w = w' := by
  go_enter Tryz.func6, Tryz.ntmps6
  go_wp2
  go_ret
  exact ⟨rfl, rfl⟩

def cfT : Array Value := #[.int .i64 4096, .int .i64 3, .int .i64 200, .int .i64 64, .int .i64 256, .int .i64 30, .int .i64 30, .int .i64 4096, .int .i64 2, .int .i64 400, .int .i64 128, .int .i64 400, .int .i64 30, .int .i64 30, .int .i64 8192, .int .i64 3, .int .i64 400, .int .i64 512, .int .i64 4000, .int .i64 30, .int .i64 30, .int .i64 4096, .int .i64 5, .int .i64 130, .int .i64 64, .int .i64 100, .int .i64 30, .int .i64 30]
def cfZ : Array Value := #[.int .i64 0, .int .i64 0, .int .i64 0, .int .i64 0, .int .i64 0, .int .i64 0, .int .i64 0, .int .i64 0, .int .i64 0, .int .i64 0, .int .i64 0, .int .i64 0, .int .i64 0, .int .i64 0, .int .i64 0, .int .i64 0, .int .i64 0, .int .i64 0, .int .i64 0, .int .i64 0, .int .i64 0, .int .i64 0, .int .i64 0, .int .i64 0, .int .i64 0, .int .i64 0, .int .i64 0, .int .i64 0]

theorem wpList_run1 {P : Program} {ops : Array Oper} {rest : List Oper} {o : Oper} {a : Act} {w w' : World} {Q : Exit → Act → World → Prop} (hg : o.guard = none) (d : Option Tmp) (hd : o.dst = d) (v : Value) (hrun : (execOp a.eval o).run P w = .ok (.value v) w') (h : wpList P ops Q rest (a.put d v) w') : wpList P ops Q (o :: rest) a w :=
  wpList_plain hg fun _ hK => by
    subst hd
    unfold Oper.wp
    rw [hrun, Oper.upon_value]
    exact hK _ _ h

set_option maxRecDepth 100000 in
set_option maxHeartbeats 2000000 in
theorem config_0 (n : Int) (hw : ∀ W, Calls Tryz.prog 21 #[.int .i64 n, .int .i64 4] W fun y w' => y = .returned (.int .i64 0) ∧ W = w') (w : World) :
    Calls Tryz.prog 5 #[.int .i64 n] w fun y w' => y = .returned (.agg #[.int .i64 4096, .int .i64 3, .int .i64 200, .int .i64 64, .int .i64 256, .int .i64 30, .int .i64 30]) ∧ w.grownBy w' none := by
  have hF1 : w.grownBy (w.alloc (.cells #[.int .i64 0, .int .i64 0, .int .i64 0, .int .i64 0, .int .i64 0, .int .i64 0, .int .i64 0] 31)) none := World.grownBy_alloc _ _ _
  have hb1 := Box.new w 31 #[.int .i64 0, .int .i64 0, .int .i64 0, .int .i64 0, .int .i64 0, .int .i64 0, .int .i64 0]
  have hs1 : (w.alloc (.cells #[.int .i64 0, .int .i64 0, .int .i64 0, .int .i64 0, .int .i64 0, .int .i64 0, .int .i64 0] 31)).heap.size = w.heap.size + 1 := by simp
  go_enter Tryz.func5, Tryz.ntmps5
  go_upto_region 1 with fail
  generalize w.alloc (.cells #[.int .i64 0, .int .i64 0, .int .i64 0, .int .i64 0, .int .i64 0, .int .i64 0, .int .i64 0] 31) = W1 at *

  apply wp_region_lit
  refine wpList_buildTo rfl 31 _ rfl (some 4) rfl #[.int .i64 4096, .int .i64 3, .int .i64 200, .int .i64 64, .int .i64 256, .int .i64 30, .int .i64 30] (by as_aux_lemma => kernel_rfl) ?_
  refine wpList_buildTo rfl 31 _ rfl (some 5) rfl #[.int .i64 4096, .int .i64 2, .int .i64 400, .int .i64 128, .int .i64 400, .int .i64 30, .int .i64 30] (by as_aux_lemma => kernel_rfl) ?_
  refine wpList_buildTo rfl 31 _ rfl (some 6) rfl #[.int .i64 8192, .int .i64 3, .int .i64 400, .int .i64 512, .int .i64 4000, .int .i64 30, .int .i64 30] (by as_aux_lemma => kernel_rfl) ?_
  refine wpList_buildTo rfl 31 _ rfl (some 7) rfl #[.int .i64 4096, .int .i64 5, .int .i64 130, .int .i64 64, .int .i64 100, .int .i64 30, .int .i64 30] (by as_aux_lemma => kernel_rfl) ?_
  refine wpList_buildTo rfl 70 _ rfl (some 8) rfl cfT (by as_aux_lemma => kernel_rfl) ?_
  refine wpList_run1 (w' := W1.alloc (.cells cfZ 70)) rfl (some 3) rfl (.pointer (some ⟨W1.heap.size, 0, none⟩)) (by as_aux_lemma => kernel_rfl) ?_
  refine wpList_store_rowTo rfl 70 _ _ rfl rfl W1.heap.size cfT rfl rfl 70 cfZ (heap_alloc_new W1 _) (by as_aux_lemma => kernel_rfl) rfl (by as_aux_lemma => kernel_rfl) ?_
  apply wpList_nil

  have hFa := gb_alloc hF1 (.cells cfZ 70)
  have hFr : (W1.alloc (.cells cfZ 70)).grownBy ((W1.alloc (.cells cfZ 70)).setRow W1.heap.size cfT) (some W1.heap.size) := gb_setRow (gb_refl _ _) _
  have hF := gb_mine hFa hFr (by omega)
  have hb2 := (hb1.kept (World.grownBy_alloc W1 (.cells cfZ 70) none) (by simp)).kept hFr (by rw [hs1]; simp)
  have x0 : ((W1.alloc (.cells cfZ 70)).setRow W1.heap.size cfT).cell? ⟨W1.heap.size, 0, none⟩ = some (.int .i64 4096) := cell_setRow_same _ _ 0 cfZ cfT 70 (0, 0) (heap_alloc_new W1 _)
  have x1 : ((W1.alloc (.cells cfZ 70)).setRow W1.heap.size cfT).cell? ⟨W1.heap.size, 1, none⟩ = some (.int .i64 3) := cell_setRow_same _ _ 1 cfZ cfT 70 (0, 0) (heap_alloc_new W1 _)
  have x2 : ((W1.alloc (.cells cfZ 70)).setRow W1.heap.size cfT).cell? ⟨W1.heap.size, 2, none⟩ = some (.int .i64 200) := cell_setRow_same _ _ 2 cfZ cfT 70 (0, 0) (heap_alloc_new W1 _)
  have x3 : ((W1.alloc (.cells cfZ 70)).setRow W1.heap.size cfT).cell? ⟨W1.heap.size, 3, none⟩ = some (.int .i64 64) := cell_setRow_same _ _ 3 cfZ cfT 70 (0, 0) (heap_alloc_new W1 _)
  have x4 : ((W1.alloc (.cells cfZ 70)).setRow W1.heap.size cfT).cell? ⟨W1.heap.size, 4, none⟩ = some (.int .i64 256) := cell_setRow_same _ _ 4 cfZ cfT 70 (0, 0) (heap_alloc_new W1 _)
  have x5 : ((W1.alloc (.cells cfZ 70)).setRow W1.heap.size cfT).cell? ⟨W1.heap.size, 5, none⟩ = some (.int .i64 30) := cell_setRow_same _ _ 5 cfZ cfT 70 (0, 0) (heap_alloc_new W1 _)
  have x6 : ((W1.alloc (.cells cfZ 70)).setRow W1.heap.size cfT).cell? ⟨W1.heap.size, 6, none⟩ = some (.int .i64 30) := cell_setRow_same _ _ 6 cfZ cfT 70 (0, 0) (heap_alloc_new W1 _)
  rw [hs1] at x0 x1 x2 x3 x4 x5 x6 hF hb2
  rw [hs1]
  generalize ((W1.alloc (.cells cfZ 70)).setRow (w.heap.size + 1) cfT) = V at *
  have y0 := hb2.cell 0
  have y1 := hb2.cell 1
  have y2 := hb2.cell 2
  have y3 := hb2.cell 3
  have y4 := hb2.cell 4
  have y5 := hb2.cell 5
  have y6 := hb2.cell 6
  simp at y0 y1 y2 y3 y4 y5 y6
  have f0 := hb2.fz 0
  have f1 := hb2.fz 1
  have f2 := hb2.fz 2
  have f3 := hb2.fz 3
  have f4 := hb2.fz 4
  have f5 := hb2.fz 5
  have f6 := hb2.fz 6
  generalize cfT = T at *
  go_wp2_with (first | (go_at_call 21; go_must (refine (hw _).mono ?_); rintro y w' ⟨rfl, rfl⟩) | fail)
  have hFx : w.grownBy (((((((V.setCell ⟨w.heap.size, 0, none⟩ (.int .i64 4096)).setCell ⟨w.heap.size, 1, none⟩ (.int .i64 3)).setCell ⟨w.heap.size, 2, none⟩ (.int .i64 200)).setCell ⟨w.heap.size, 3, none⟩ (.int .i64 64)).setCell ⟨w.heap.size, 4, none⟩ (.int .i64 256)).setCell ⟨w.heap.size, 5, none⟩ (.int .i64 30)).setCell ⟨w.heap.size, 6, none⟩ (.int .i64 30)) none := gb_mine hF (gb_setCell (gb_setCell (gb_setCell (gb_setCell (gb_setCell (gb_setCell (gb_setCell (gb_refl _ _) _) _) _) _) _) _) _) (Nat.le_refl _)
  have hb4 := (((((((hb2.set 0 (.int .i64 4096)).set 1 (.int .i64 3)).set 2 (.int .i64 200)).set 3 (.int .i64 64)).set 4 (.int .i64 256)).set 5 (.int .i64 30)).set 6 (.int .i64 30))
  generalize (((((((V.setCell ⟨w.heap.size, 0, none⟩ (.int .i64 4096)).setCell ⟨w.heap.size, 1, none⟩ (.int .i64 3)).setCell ⟨w.heap.size, 2, none⟩ (.int .i64 200)).setCell ⟨w.heap.size, 3, none⟩ (.int .i64 64)).setCell ⟨w.heap.size, 4, none⟩ (.int .i64 256)).setCell ⟨w.heap.size, 5, none⟩ (.int .i64 30)).setCell ⟨w.heap.size, 6, none⟩ (.int .i64 30)) = V2 at *
  have q0 := hb4.cell 0
  have q1 := hb4.cell 1
  have q2 := hb4.cell 2
  have q3 := hb4.cell 3
  have q4 := hb4.cell 4
  have q5 := hb4.cell 5
  have q6 := hb4.cell 6
  simp at q0 q1 q2 q3 q4 q5 q6
  exact bodyPost_ret (v := .agg #[.int .i64 4096, .int .i64 3, .int .i64 200, .int .i64 64, .int .i64 256, .int .i64 30, .int .i64 30]) (by simp [results, Tryz.results5, go_sem, q0, q1, q2, q3, q4, q5, q6]) rfl ⟨rfl, hFx⟩

set_option maxRecDepth 100000 in
set_option maxHeartbeats 2000000 in
theorem config_1 (n : Int) (hw : ∀ W, Calls Tryz.prog 21 #[.int .i64 n, .int .i64 4] W fun y w' => y = .returned (.int .i64 1) ∧ W = w') (w : World) :
    Calls Tryz.prog 5 #[.int .i64 n] w fun y w' => y = .returned (.agg #[.int .i64 4096, .int .i64 2, .int .i64 400, .int .i64 128, .int .i64 400, .int .i64 30, .int .i64 30]) ∧ w.grownBy w' none := by
  have hF1 : w.grownBy (w.alloc (.cells #[.int .i64 0, .int .i64 0, .int .i64 0, .int .i64 0, .int .i64 0, .int .i64 0, .int .i64 0] 31)) none := World.grownBy_alloc _ _ _
  have hb1 := Box.new w 31 #[.int .i64 0, .int .i64 0, .int .i64 0, .int .i64 0, .int .i64 0, .int .i64 0, .int .i64 0]
  have hs1 : (w.alloc (.cells #[.int .i64 0, .int .i64 0, .int .i64 0, .int .i64 0, .int .i64 0, .int .i64 0, .int .i64 0] 31)).heap.size = w.heap.size + 1 := by simp
  go_enter Tryz.func5, Tryz.ntmps5
  go_upto_region 1 with fail
  generalize w.alloc (.cells #[.int .i64 0, .int .i64 0, .int .i64 0, .int .i64 0, .int .i64 0, .int .i64 0, .int .i64 0] 31) = W1 at *

  apply wp_region_lit
  refine wpList_buildTo rfl 31 _ rfl (some 4) rfl #[.int .i64 4096, .int .i64 3, .int .i64 200, .int .i64 64, .int .i64 256, .int .i64 30, .int .i64 30] (by as_aux_lemma => kernel_rfl) ?_
  refine wpList_buildTo rfl 31 _ rfl (some 5) rfl #[.int .i64 4096, .int .i64 2, .int .i64 400, .int .i64 128, .int .i64 400, .int .i64 30, .int .i64 30] (by as_aux_lemma => kernel_rfl) ?_
  refine wpList_buildTo rfl 31 _ rfl (some 6) rfl #[.int .i64 8192, .int .i64 3, .int .i64 400, .int .i64 512, .int .i64 4000, .int .i64 30, .int .i64 30] (by as_aux_lemma => kernel_rfl) ?_
  refine wpList_buildTo rfl 31 _ rfl (some 7) rfl #[.int .i64 4096, .int .i64 5, .int .i64 130, .int .i64 64, .int .i64 100, .int .i64 30, .int .i64 30] (by as_aux_lemma => kernel_rfl) ?_
  refine wpList_buildTo rfl 70 _ rfl (some 8) rfl cfT (by as_aux_lemma => kernel_rfl) ?_
  refine wpList_run1 (w' := W1.alloc (.cells cfZ 70)) rfl (some 3) rfl (.pointer (some ⟨W1.heap.size, 0, none⟩)) (by as_aux_lemma => kernel_rfl) ?_
  refine wpList_store_rowTo rfl 70 _ _ rfl rfl W1.heap.size cfT rfl rfl 70 cfZ (heap_alloc_new W1 _) (by as_aux_lemma => kernel_rfl) rfl (by as_aux_lemma => kernel_rfl) ?_
  apply wpList_nil

  have hFa := gb_alloc hF1 (.cells cfZ 70)
  have hFr : (W1.alloc (.cells cfZ 70)).grownBy ((W1.alloc (.cells cfZ 70)).setRow W1.heap.size cfT) (some W1.heap.size) := gb_setRow (gb_refl _ _) _
  have hF := gb_mine hFa hFr (by omega)
  have hb2 := (hb1.kept (World.grownBy_alloc W1 (.cells cfZ 70) none) (by simp)).kept hFr (by rw [hs1]; simp)
  have x0 : ((W1.alloc (.cells cfZ 70)).setRow W1.heap.size cfT).cell? ⟨W1.heap.size, 7, none⟩ = some (.int .i64 4096) := cell_setRow_same _ _ 7 cfZ cfT 70 (0, 0) (heap_alloc_new W1 _)
  have x1 : ((W1.alloc (.cells cfZ 70)).setRow W1.heap.size cfT).cell? ⟨W1.heap.size, 8, none⟩ = some (.int .i64 2) := cell_setRow_same _ _ 8 cfZ cfT 70 (0, 0) (heap_alloc_new W1 _)
  have x2 : ((W1.alloc (.cells cfZ 70)).setRow W1.heap.size cfT).cell? ⟨W1.heap.size, 9, none⟩ = some (.int .i64 400) := cell_setRow_same _ _ 9 cfZ cfT 70 (0, 0) (heap_alloc_new W1 _)
  have x3 : ((W1.alloc (.cells cfZ 70)).setRow W1.heap.size cfT).cell? ⟨W1.heap.size, 10, none⟩ = some (.int .i64 128) := cell_setRow_same _ _ 10 cfZ cfT 70 (0, 0) (heap_alloc_new W1 _)
  have x4 : ((W1.alloc (.cells cfZ 70)).setRow W1.heap.size cfT).cell? ⟨W1.heap.size, 11, none⟩ = some (.int .i64 400) := cell_setRow_same _ _ 11 cfZ cfT 70 (0, 0) (heap_alloc_new W1 _)
  have x5 : ((W1.alloc (.cells cfZ 70)).setRow W1.heap.size cfT).cell? ⟨W1.heap.size, 12, none⟩ = some (.int .i64 30) := cell_setRow_same _ _ 12 cfZ cfT 70 (0, 0) (heap_alloc_new W1 _)
  have x6 : ((W1.alloc (.cells cfZ 70)).setRow W1.heap.size cfT).cell? ⟨W1.heap.size, 13, none⟩ = some (.int .i64 30) := cell_setRow_same _ _ 13 cfZ cfT 70 (0, 0) (heap_alloc_new W1 _)
  rw [hs1] at x0 x1 x2 x3 x4 x5 x6 hF hb2
  rw [hs1]
  generalize ((W1.alloc (.cells cfZ 70)).setRow (w.heap.size + 1) cfT) = V at *
  have y0 := hb2.cell 0
  have y1 := hb2.cell 1
  have y2 := hb2.cell 2
  have y3 := hb2.cell 3
  have y4 := hb2.cell 4
  have y5 := hb2.cell 5
  have y6 := hb2.cell 6
  simp at y0 y1 y2 y3 y4 y5 y6
  have f0 := hb2.fz 0
  have f1 := hb2.fz 1
  have f2 := hb2.fz 2
  have f3 := hb2.fz 3
  have f4 := hb2.fz 4
  have f5 := hb2.fz 5
  have f6 := hb2.fz 6
  generalize cfT = T at *
  go_wp2_with (first | (go_at_call 21; go_must (refine (hw _).mono ?_); rintro y w' ⟨rfl, rfl⟩) | fail)
  have hFx : w.grownBy (((((((V.setCell ⟨w.heap.size, 0, none⟩ (.int .i64 4096)).setCell ⟨w.heap.size, 1, none⟩ (.int .i64 2)).setCell ⟨w.heap.size, 2, none⟩ (.int .i64 400)).setCell ⟨w.heap.size, 3, none⟩ (.int .i64 128)).setCell ⟨w.heap.size, 4, none⟩ (.int .i64 400)).setCell ⟨w.heap.size, 5, none⟩ (.int .i64 30)).setCell ⟨w.heap.size, 6, none⟩ (.int .i64 30)) none := gb_mine hF (gb_setCell (gb_setCell (gb_setCell (gb_setCell (gb_setCell (gb_setCell (gb_setCell (gb_refl _ _) _) _) _) _) _) _) _) (Nat.le_refl _)
  have hb4 := (((((((hb2.set 0 (.int .i64 4096)).set 1 (.int .i64 2)).set 2 (.int .i64 400)).set 3 (.int .i64 128)).set 4 (.int .i64 400)).set 5 (.int .i64 30)).set 6 (.int .i64 30))
  generalize (((((((V.setCell ⟨w.heap.size, 0, none⟩ (.int .i64 4096)).setCell ⟨w.heap.size, 1, none⟩ (.int .i64 2)).setCell ⟨w.heap.size, 2, none⟩ (.int .i64 400)).setCell ⟨w.heap.size, 3, none⟩ (.int .i64 128)).setCell ⟨w.heap.size, 4, none⟩ (.int .i64 400)).setCell ⟨w.heap.size, 5, none⟩ (.int .i64 30)).setCell ⟨w.heap.size, 6, none⟩ (.int .i64 30)) = V2 at *
  have q0 := hb4.cell 0
  have q1 := hb4.cell 1
  have q2 := hb4.cell 2
  have q3 := hb4.cell 3
  have q4 := hb4.cell 4
  have q5 := hb4.cell 5
  have q6 := hb4.cell 6
  simp at q0 q1 q2 q3 q4 q5 q6
  exact bodyPost_ret (v := .agg #[.int .i64 4096, .int .i64 2, .int .i64 400, .int .i64 128, .int .i64 400, .int .i64 30, .int .i64 30]) (by simp [results, Tryz.results5, go_sem, q0, q1, q2, q3, q4, q5, q6]) rfl ⟨rfl, hFx⟩

set_option maxRecDepth 100000 in
set_option maxHeartbeats 2000000 in
theorem config_2 (n : Int) (hw : ∀ W, Calls Tryz.prog 21 #[.int .i64 n, .int .i64 4] W fun y w' => y = .returned (.int .i64 2) ∧ W = w') (w : World) :
    Calls Tryz.prog 5 #[.int .i64 n] w fun y w' => y = .returned (.agg #[.int .i64 8192, .int .i64 3, .int .i64 400, .int .i64 512, .int .i64 4000, .int .i64 30, .int .i64 30]) ∧ w.grownBy w' none := by
  have hF1 : w.grownBy (w.alloc (.cells #[.int .i64 0, .int .i64 0, .int .i64 0, .int .i64 0, .int .i64 0, .int .i64 0, .int .i64 0] 31)) none := World.grownBy_alloc _ _ _
  have hb1 := Box.new w 31 #[.int .i64 0, .int .i64 0, .int .i64 0, .int .i64 0, .int .i64 0, .int .i64 0, .int .i64 0]
  have hs1 : (w.alloc (.cells #[.int .i64 0, .int .i64 0, .int .i64 0, .int .i64 0, .int .i64 0, .int .i64 0, .int .i64 0] 31)).heap.size = w.heap.size + 1 := by simp
  go_enter Tryz.func5, Tryz.ntmps5
  go_upto_region 1 with fail
  generalize w.alloc (.cells #[.int .i64 0, .int .i64 0, .int .i64 0, .int .i64 0, .int .i64 0, .int .i64 0, .int .i64 0] 31) = W1 at *

  apply wp_region_lit
  refine wpList_buildTo rfl 31 _ rfl (some 4) rfl #[.int .i64 4096, .int .i64 3, .int .i64 200, .int .i64 64, .int .i64 256, .int .i64 30, .int .i64 30] (by as_aux_lemma => kernel_rfl) ?_
  refine wpList_buildTo rfl 31 _ rfl (some 5) rfl #[.int .i64 4096, .int .i64 2, .int .i64 400, .int .i64 128, .int .i64 400, .int .i64 30, .int .i64 30] (by as_aux_lemma => kernel_rfl) ?_
  refine wpList_buildTo rfl 31 _ rfl (some 6) rfl #[.int .i64 8192, .int .i64 3, .int .i64 400, .int .i64 512, .int .i64 4000, .int .i64 30, .int .i64 30] (by as_aux_lemma => kernel_rfl) ?_
  refine wpList_buildTo rfl 31 _ rfl (some 7) rfl #[.int .i64 4096, .int .i64 5, .int .i64 130, .int .i64 64, .int .i64 100, .int .i64 30, .int .i64 30] (by as_aux_lemma => kernel_rfl) ?_
  refine wpList_buildTo rfl 70 _ rfl (some 8) rfl cfT (by as_aux_lemma => kernel_rfl) ?_
  refine wpList_run1 (w' := W1.alloc (.cells cfZ 70)) rfl (some 3) rfl (.pointer (some ⟨W1.heap.size, 0, none⟩)) (by as_aux_lemma => kernel_rfl) ?_
  refine wpList_store_rowTo rfl 70 _ _ rfl rfl W1.heap.size cfT rfl rfl 70 cfZ (heap_alloc_new W1 _) (by as_aux_lemma => kernel_rfl) rfl (by as_aux_lemma => kernel_rfl) ?_
  apply wpList_nil

  have hFa := gb_alloc hF1 (.cells cfZ 70)
  have hFr : (W1.alloc (.cells cfZ 70)).grownBy ((W1.alloc (.cells cfZ 70)).setRow W1.heap.size cfT) (some W1.heap.size) := gb_setRow (gb_refl _ _) _
  have hF := gb_mine hFa hFr (by omega)
  have hb2 := (hb1.kept (World.grownBy_alloc W1 (.cells cfZ 70) none) (by simp)).kept hFr (by rw [hs1]; simp)
  have x0 : ((W1.alloc (.cells cfZ 70)).setRow W1.heap.size cfT).cell? ⟨W1.heap.size, 14, none⟩ = some (.int .i64 8192) := cell_setRow_same _ _ 14 cfZ cfT 70 (0, 0) (heap_alloc_new W1 _)
  have x1 : ((W1.alloc (.cells cfZ 70)).setRow W1.heap.size cfT).cell? ⟨W1.heap.size, 15, none⟩ = some (.int .i64 3) := cell_setRow_same _ _ 15 cfZ cfT 70 (0, 0) (heap_alloc_new W1 _)
  have x2 : ((W1.alloc (.cells cfZ 70)).setRow W1.heap.size cfT).cell? ⟨W1.heap.size, 16, none⟩ = some (.int .i64 400) := cell_setRow_same _ _ 16 cfZ cfT 70 (0, 0) (heap_alloc_new W1 _)
  have x3 : ((W1.alloc (.cells cfZ 70)).setRow W1.heap.size cfT).cell? ⟨W1.heap.size, 17, none⟩ = some (.int .i64 512) := cell_setRow_same _ _ 17 cfZ cfT 70 (0, 0) (heap_alloc_new W1 _)
  have x4 : ((W1.alloc (.cells cfZ 70)).setRow W1.heap.size cfT).cell? ⟨W1.heap.size, 18, none⟩ = some (.int .i64 4000) := cell_setRow_same _ _ 18 cfZ cfT 70 (0, 0) (heap_alloc_new W1 _)
  have x5 : ((W1.alloc (.cells cfZ 70)).setRow W1.heap.size cfT).cell? ⟨W1.heap.size, 19, none⟩ = some (.int .i64 30) := cell_setRow_same _ _ 19 cfZ cfT 70 (0, 0) (heap_alloc_new W1 _)
  have x6 : ((W1.alloc (.cells cfZ 70)).setRow W1.heap.size cfT).cell? ⟨W1.heap.size, 20, none⟩ = some (.int .i64 30) := cell_setRow_same _ _ 20 cfZ cfT 70 (0, 0) (heap_alloc_new W1 _)
  rw [hs1] at x0 x1 x2 x3 x4 x5 x6 hF hb2
  rw [hs1]
  generalize ((W1.alloc (.cells cfZ 70)).setRow (w.heap.size + 1) cfT) = V at *
  have y0 := hb2.cell 0
  have y1 := hb2.cell 1
  have y2 := hb2.cell 2
  have y3 := hb2.cell 3
  have y4 := hb2.cell 4
  have y5 := hb2.cell 5
  have y6 := hb2.cell 6
  simp at y0 y1 y2 y3 y4 y5 y6
  have f0 := hb2.fz 0
  have f1 := hb2.fz 1
  have f2 := hb2.fz 2
  have f3 := hb2.fz 3
  have f4 := hb2.fz 4
  have f5 := hb2.fz 5
  have f6 := hb2.fz 6
  generalize cfT = T at *
  go_wp2_with (first | (go_at_call 21; go_must (refine (hw _).mono ?_); rintro y w' ⟨rfl, rfl⟩) | fail)
  have hFx : w.grownBy (((((((V.setCell ⟨w.heap.size, 0, none⟩ (.int .i64 8192)).setCell ⟨w.heap.size, 1, none⟩ (.int .i64 3)).setCell ⟨w.heap.size, 2, none⟩ (.int .i64 400)).setCell ⟨w.heap.size, 3, none⟩ (.int .i64 512)).setCell ⟨w.heap.size, 4, none⟩ (.int .i64 4000)).setCell ⟨w.heap.size, 5, none⟩ (.int .i64 30)).setCell ⟨w.heap.size, 6, none⟩ (.int .i64 30)) none := gb_mine hF (gb_setCell (gb_setCell (gb_setCell (gb_setCell (gb_setCell (gb_setCell (gb_setCell (gb_refl _ _) _) _) _) _) _) _) _) (Nat.le_refl _)
  have hb4 := (((((((hb2.set 0 (.int .i64 8192)).set 1 (.int .i64 3)).set 2 (.int .i64 400)).set 3 (.int .i64 512)).set 4 (.int .i64 4000)).set 5 (.int .i64 30)).set 6 (.int .i64 30))
  generalize (((((((V.setCell ⟨w.heap.size, 0, none⟩ (.int .i64 8192)).setCell ⟨w.heap.size, 1, none⟩ (.int .i64 3)).setCell ⟨w.heap.size, 2, none⟩ (.int .i64 400)).setCell ⟨w.heap.size, 3, none⟩ (.int .i64 512)).setCell ⟨w.heap.size, 4, none⟩ (.int .i64 4000)).setCell ⟨w.heap.size, 5, none⟩ (.int .i64 30)).setCell ⟨w.heap.size, 6, none⟩ (.int .i64 30)) = V2 at *
  have q0 := hb4.cell 0
  have q1 := hb4.cell 1
  have q2 := hb4.cell 2
  have q3 := hb4.cell 3
  have q4 := hb4.cell 4
  have q5 := hb4.cell 5
  have q6 := hb4.cell 6
  simp at q0 q1 q2 q3 q4 q5 q6
  exact bodyPost_ret (v := .agg #[.int .i64 8192, .int .i64 3, .int .i64 400, .int .i64 512, .int .i64 4000, .int .i64 30, .int .i64 30]) (by simp [results, Tryz.results5, go_sem, q0, q1, q2, q3, q4, q5, q6]) rfl ⟨rfl, hFx⟩

set_option maxRecDepth 100000 in
set_option maxHeartbeats 2000000 in
theorem config_3 (n : Int) (hw : ∀ W, Calls Tryz.prog 21 #[.int .i64 n, .int .i64 4] W fun y w' => y = .returned (.int .i64 3) ∧ W = w') (w : World) :
    Calls Tryz.prog 5 #[.int .i64 n] w fun y w' => y = .returned (.agg #[.int .i64 4096, .int .i64 5, .int .i64 130, .int .i64 64, .int .i64 100, .int .i64 30, .int .i64 30]) ∧ w.grownBy w' none := by
  have hF1 : w.grownBy (w.alloc (.cells #[.int .i64 0, .int .i64 0, .int .i64 0, .int .i64 0, .int .i64 0, .int .i64 0, .int .i64 0] 31)) none := World.grownBy_alloc _ _ _
  have hb1 := Box.new w 31 #[.int .i64 0, .int .i64 0, .int .i64 0, .int .i64 0, .int .i64 0, .int .i64 0, .int .i64 0]
  have hs1 : (w.alloc (.cells #[.int .i64 0, .int .i64 0, .int .i64 0, .int .i64 0, .int .i64 0, .int .i64 0, .int .i64 0] 31)).heap.size = w.heap.size + 1 := by simp
  go_enter Tryz.func5, Tryz.ntmps5
  go_upto_region 1 with fail
  generalize w.alloc (.cells #[.int .i64 0, .int .i64 0, .int .i64 0, .int .i64 0, .int .i64 0, .int .i64 0, .int .i64 0] 31) = W1 at *

  apply wp_region_lit
  refine wpList_buildTo rfl 31 _ rfl (some 4) rfl #[.int .i64 4096, .int .i64 3, .int .i64 200, .int .i64 64, .int .i64 256, .int .i64 30, .int .i64 30] (by as_aux_lemma => kernel_rfl) ?_
  refine wpList_buildTo rfl 31 _ rfl (some 5) rfl #[.int .i64 4096, .int .i64 2, .int .i64 400, .int .i64 128, .int .i64 400, .int .i64 30, .int .i64 30] (by as_aux_lemma => kernel_rfl) ?_
  refine wpList_buildTo rfl 31 _ rfl (some 6) rfl #[.int .i64 8192, .int .i64 3, .int .i64 400, .int .i64 512, .int .i64 4000, .int .i64 30, .int .i64 30] (by as_aux_lemma => kernel_rfl) ?_
  refine wpList_buildTo rfl 31 _ rfl (some 7) rfl #[.int .i64 4096, .int .i64 5, .int .i64 130, .int .i64 64, .int .i64 100, .int .i64 30, .int .i64 30] (by as_aux_lemma => kernel_rfl) ?_
  refine wpList_buildTo rfl 70 _ rfl (some 8) rfl cfT (by as_aux_lemma => kernel_rfl) ?_
  refine wpList_run1 (w' := W1.alloc (.cells cfZ 70)) rfl (some 3) rfl (.pointer (some ⟨W1.heap.size, 0, none⟩)) (by as_aux_lemma => kernel_rfl) ?_
  refine wpList_store_rowTo rfl 70 _ _ rfl rfl W1.heap.size cfT rfl rfl 70 cfZ (heap_alloc_new W1 _) (by as_aux_lemma => kernel_rfl) rfl (by as_aux_lemma => kernel_rfl) ?_
  apply wpList_nil

  have hFa := gb_alloc hF1 (.cells cfZ 70)
  have hFr : (W1.alloc (.cells cfZ 70)).grownBy ((W1.alloc (.cells cfZ 70)).setRow W1.heap.size cfT) (some W1.heap.size) := gb_setRow (gb_refl _ _) _
  have hF := gb_mine hFa hFr (by omega)
  have hb2 := (hb1.kept (World.grownBy_alloc W1 (.cells cfZ 70) none) (by simp)).kept hFr (by rw [hs1]; simp)
  have x0 : ((W1.alloc (.cells cfZ 70)).setRow W1.heap.size cfT).cell? ⟨W1.heap.size, 21, none⟩ = some (.int .i64 4096) := cell_setRow_same _ _ 21 cfZ cfT 70 (0, 0) (heap_alloc_new W1 _)
  have x1 : ((W1.alloc (.cells cfZ 70)).setRow W1.heap.size cfT).cell? ⟨W1.heap.size, 22, none⟩ = some (.int .i64 5) := cell_setRow_same _ _ 22 cfZ cfT 70 (0, 0) (heap_alloc_new W1 _)
  have x2 : ((W1.alloc (.cells cfZ 70)).setRow W1.heap.size cfT).cell? ⟨W1.heap.size, 23, none⟩ = some (.int .i64 130) := cell_setRow_same _ _ 23 cfZ cfT 70 (0, 0) (heap_alloc_new W1 _)
  have x3 : ((W1.alloc (.cells cfZ 70)).setRow W1.heap.size cfT).cell? ⟨W1.heap.size, 24, none⟩ = some (.int .i64 64) := cell_setRow_same _ _ 24 cfZ cfT 70 (0, 0) (heap_alloc_new W1 _)
  have x4 : ((W1.alloc (.cells cfZ 70)).setRow W1.heap.size cfT).cell? ⟨W1.heap.size, 25, none⟩ = some (.int .i64 100) := cell_setRow_same _ _ 25 cfZ cfT 70 (0, 0) (heap_alloc_new W1 _)
  have x5 : ((W1.alloc (.cells cfZ 70)).setRow W1.heap.size cfT).cell? ⟨W1.heap.size, 26, none⟩ = some (.int .i64 30) := cell_setRow_same _ _ 26 cfZ cfT 70 (0, 0) (heap_alloc_new W1 _)
  have x6 : ((W1.alloc (.cells cfZ 70)).setRow W1.heap.size cfT).cell? ⟨W1.heap.size, 27, none⟩ = some (.int .i64 30) := cell_setRow_same _ _ 27 cfZ cfT 70 (0, 0) (heap_alloc_new W1 _)
  rw [hs1] at x0 x1 x2 x3 x4 x5 x6 hF hb2
  rw [hs1]
  generalize ((W1.alloc (.cells cfZ 70)).setRow (w.heap.size + 1) cfT) = V at *
  have y0 := hb2.cell 0
  have y1 := hb2.cell 1
  have y2 := hb2.cell 2
  have y3 := hb2.cell 3
  have y4 := hb2.cell 4
  have y5 := hb2.cell 5
  have y6 := hb2.cell 6
  simp at y0 y1 y2 y3 y4 y5 y6
  have f0 := hb2.fz 0
  have f1 := hb2.fz 1
  have f2 := hb2.fz 2
  have f3 := hb2.fz 3
  have f4 := hb2.fz 4
  have f5 := hb2.fz 5
  have f6 := hb2.fz 6
  generalize cfT = T at *
  go_wp2_with (first | (go_at_call 21; go_must (refine (hw _).mono ?_); rintro y w' ⟨rfl, rfl⟩) | fail)
  have hFx : w.grownBy (((((((V.setCell ⟨w.heap.size, 0, none⟩ (.int .i64 4096)).setCell ⟨w.heap.size, 1, none⟩ (.int .i64 5)).setCell ⟨w.heap.size, 2, none⟩ (.int .i64 130)).setCell ⟨w.heap.size, 3, none⟩ (.int .i64 64)).setCell ⟨w.heap.size, 4, none⟩ (.int .i64 100)).setCell ⟨w.heap.size, 5, none⟩ (.int .i64 30)).setCell ⟨w.heap.size, 6, none⟩ (.int .i64 30)) none := gb_mine hF (gb_setCell (gb_setCell (gb_setCell (gb_setCell (gb_setCell (gb_setCell (gb_setCell (gb_refl _ _) _) _) _) _) _) _) _) (Nat.le_refl _)
  have hb4 := (((((((hb2.set 0 (.int .i64 4096)).set 1 (.int .i64 5)).set 2 (.int .i64 130)).set 3 (.int .i64 64)).set 4 (.int .i64 100)).set 5 (.int .i64 30)).set 6 (.int .i64 30))
  generalize (((((((V.setCell ⟨w.heap.size, 0, none⟩ (.int .i64 4096)).setCell ⟨w.heap.size, 1, none⟩ (.int .i64 5)).setCell ⟨w.heap.size, 2, none⟩ (.int .i64 130)).setCell ⟨w.heap.size, 3, none⟩ (.int .i64 64)).setCell ⟨w.heap.size, 4, none⟩ (.int .i64 100)).setCell ⟨w.heap.size, 5, none⟩ (.int .i64 30)).setCell ⟨w.heap.size, 6, none⟩ (.int .i64 30)) = V2 at *
  have q0 := hb4.cell 0
  have q1 := hb4.cell 1
  have q2 := hb4.cell 2
  have q3 := hb4.cell 3
  have q4 := hb4.cell 4
  have q5 := hb4.cell 5
  have q6 := hb4.cell 6
  simp at q0 q1 q2 q3 q4 q5 q6
  exact bodyPost_ret (v := .agg #[.int .i64 4096, .int .i64 5, .int .i64 130, .int .i64 64, .int .i64 100, .int .i64 30, .int .i64 30]) (by simp [results, Tryz.results5, go_sem, q0, q1, q2, q3, q4, q5, q6]) rfl ⟨rfl, hFx⟩

end Go.Proofs.YtoomnhclaofgaaaGreat
