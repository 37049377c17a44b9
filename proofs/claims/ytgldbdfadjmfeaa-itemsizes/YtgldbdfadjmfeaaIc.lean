/-
  A chunk: open, get, put.
-/
import Derived.Test.YtgldbdfadjmfeaaIb
namespace Go.Proofs.Ytgldbdfadjmfeaa
open Go.RowKit
set_option linter.unusedVariables false

/-- A chunk, as a value. -/
def chV (ab pl c s : Nat) : Value := .agg #[.pointer (some ⟨ab, 0, none⟩), .int .i64 pl, .int .i64 c, .int .i64 s]
def chC (ab pl c s : Nat) : Obj := .cells #[.pointer (some ⟨ab, 0, none⟩), .int .i64 pl, .int .i64 c, .int .i64 s] 167

section
variable {w : World} {sb : Nat} {F : Nat → Prop} {B : Bl} {b c d e f g : Int} {A : Ab} {zs : List Int}

set_option maxRecDepth 100000 in
theorem open_yes (h : IsS w sb F B b c d e f g A zs) (hA : Fit2 A) {H p k : Nat} (hH : IsH A H p k) :
    Calls Try.prog 92 #[.pointer (some ⟨sb, 0, none⟩), .int .u64 H] w fun y w' => y = .returned (.tuple #[chV B.ab (A.place p k) (A.own p) (A.sz (A.own p)), .int .i64 0]) ∧ w.grownBy w' none := by
  have ho := hA.on p hH.hp
  have hal := World.grownBy_alloc w (.cells #[.pointer none, .int .i64 0, .int .i64 0, .int .i64 0] 167) none
  have h0 := h.kept0 hal
  have h1 := at_yes h0 hA hH
  have h2 := fun w1 (hf : (w.alloc (.cells #[.pointer none, .int .i64 0, .int .i64 0, .int .i64 0] 167)).grownBy w1 none) => arena_39 (h0.kept0 hf)
  have h3 := fun w1 (hf : (w.alloc (.cells #[.pointer none, .int .i64 0, .int .i64 0, .int .i64 0] 167)).grownBy w1 none) => chunk_yes (h0.kept0 hf) hA.toSzs (A.own p) ho
  have hbx := Box.new w 167 #[.pointer none, .int .i64 0, .int .i64 0, .int .i64 0]
  unfold chV
  clear h hH h0
  generalize A.place p k = pl at *
  generalize A.sz (A.own p) = s at *
  generalize A.own p = op at *
  generalize B.ab = ab at *
  go_enter Try.func92, Try.ntmps92
  go_wp2_with (first | (go_at_call 36; go_must (refine h1.mono ?_); rintro y w1 ⟨rfl, hf1⟩) | (go_at_call 62; go_must (refine (h2 _ hf1).mono ?_); rintro y w' ⟨rfl, rfl⟩) | (go_at_call 27; go_must (refine (h3 _ hf1).mono ?_); rintro y w2 ⟨rfl, hf2⟩; (have hb2 := (hbx.kept hf1 (by simp)).kept hf2 (by simp)); (have z0 := hb2.cell 0); (have z1 := hb2.cell 1); (have z2 := hb2.cell 2); (have z3 := hb2.cell 3); simp at z0 z1 z2 z3; (have y0 := hb2.fz 0); (have y1 := hb2.fz 1); (have y2 := hb2.fz 2); (have y3 := hb2.fz 3)) | fail)
  have hF : w.grownBy ((((w2.setCell ⟨w.heap.size, 0, none⟩ (.pointer (some ⟨ab, 0, none⟩))).setCell ⟨w.heap.size, 1, none⟩ (.int .i64 pl)).setCell ⟨w.heap.size, 2, none⟩ (.int .i64 op)).setCell ⟨w.heap.size, 3, none⟩ (.int .i64 s)) none := gb_mine (gb_trans (gb_trans hal hf1) hf2) (gb_setCell (gb_setCell (gb_setCell (gb_setCell (gb_refl _ _) _) _) _) _) (Nat.le_refl _)
  have hb3 := (((hb2.set 0 (.pointer (some ⟨ab, 0, none⟩))).set 1 (.int .i64 pl)).set 2 (.int .i64 op)).set 3 (.int .i64 s)
  generalize ((((w2.setCell ⟨w.heap.size, 0, none⟩ (.pointer (some ⟨ab, 0, none⟩))).setCell ⟨w.heap.size, 1, none⟩ (.int .i64 pl)).setCell ⟨w.heap.size, 2, none⟩ (.int .i64 op)).setCell ⟨w.heap.size, 3, none⟩ (.int .i64 s)) = V at *
  have x0 := hb3.cell 0
  have x1 := hb3.cell 1
  have x2 := hb3.cell 2
  have x3 := hb3.cell 3
  simp at x0 x1 x2 x3
  exact bodyPost_ret (v := .tuple #[.agg #[.pointer (some ⟨ab, 0, none⟩), .int .i64 pl, .int .i64 op, .int .i64 s], .int .i64 0]) (by simp [results, Try.results92, go_sem, x0, x1, x2, x3]) rfl ⟨rfl, hF⟩

set_option maxRecDepth 100000 in
theorem open_no (h : IsS w sb F B b c d e f g A zs) (hA : Fit2 A) {H : Nat} (h64 : H < 18446744073709551616) (hH : ∀ p k, ¬ IsH A H p k) :
    Calls Try.prog 92 #[.pointer (some ⟨sb, 0, none⟩), .int .u64 H] w fun y w' => y = .returned (.tuple #[.agg #[.pointer none, .int .i64 0, .int .i64 0, .int .i64 0], .int .i64 20]) ∧ w.grownBy w' none := by
  have hal := World.grownBy_alloc w (.cells #[.pointer none, .int .i64 0, .int .i64 0, .int .i64 0] 167) none
  have h1 := at_no (h.kept0 hal) hA h64 hH
  have hbx := Box.new w 167 #[.pointer none, .int .i64 0, .int .i64 0, .int .i64 0]
  clear h hH
  go_enter Try.func92, Try.ntmps92
  go_wp2_with (first | (go_at_call 36; go_must (refine h1.mono ?_); rintro y w1 ⟨rfl, hf1⟩; (have hb2 := (hbx.kept hf1 (by simp))); (have z0 := hb2.cell 0); (have z1 := hb2.cell 1); (have z2 := hb2.cell 2); (have z3 := hb2.cell 3); simp at z0 z1 z2 z3; (have y0 := hb2.fz 0); (have y1 := hb2.fz 1); (have y2 := hb2.fz 2); (have y3 := hb2.fz 3)) | fail)
  have hF : w.grownBy ((((w1.setCell ⟨w.heap.size, 0, none⟩ (.pointer none)).setCell ⟨w.heap.size, 1, none⟩ (.int .i64 0)).setCell ⟨w.heap.size, 2, none⟩ (.int .i64 0)).setCell ⟨w.heap.size, 3, none⟩ (.int .i64 0)) none := gb_mine (gb_trans hal hf1) (gb_setCell (gb_setCell (gb_setCell (gb_setCell (gb_refl _ _) _) _) _) _) (Nat.le_refl _)
  have hb3 := (((hb2.set 0 (.pointer none)).set 1 (.int .i64 0)).set 2 (.int .i64 0)).set 3 (.int .i64 0)
  generalize ((((w1.setCell ⟨w.heap.size, 0, none⟩ (.pointer none)).setCell ⟨w.heap.size, 1, none⟩ (.int .i64 0)).setCell ⟨w.heap.size, 2, none⟩ (.int .i64 0)).setCell ⟨w.heap.size, 3, none⟩ (.int .i64 0)) = V at *
  have x0 := hb3.cell 0
  have x1 := hb3.cell 1
  have x2 := hb3.cell 2
  have x3 := hb3.cell 3
  simp at x0 x1 x2 x3
  exact bodyPost_ret (v := .tuple #[.agg #[.pointer none, .int .i64 0, .int .i64 0, .int .i64 0], .int .i64 20]) (by simp [results, Try.results92, go_sem, x0, x1, x2, x3]) rfl ⟨rfl, hF⟩

set_option maxRecDepth 100000 in
theorem open_nil (H : Int) (w : World) :
    Calls Try.prog 92 #[.pointer none, .int .u64 H] w fun y w' => y = .returned (.tuple #[.agg #[.pointer none, .int .i64 0, .int .i64 0, .int .i64 0], .int .i64 1]) ∧ w.grownBy w' none := by
  have hal := World.grownBy_alloc w (.cells #[.pointer none, .int .i64 0, .int .i64 0, .int .i64 0] 167) none
  have hb2 := Box.new w 167 #[.pointer none, .int .i64 0, .int .i64 0, .int .i64 0]
  have z0 := hb2.cell 0
  have z1 := hb2.cell 1
  have z2 := hb2.cell 2
  have z3 := hb2.cell 3
  simp at z0 z1 z2 z3
  go_enter Try.func92, Try.ntmps92
  go_wp2
  refine bodyPost_ret (v := .tuple #[.agg #[.pointer none, .int .i64 0, .int .i64 0, .int .i64 0], .int .i64 1]) (by simp [results, Try.results92, go_sem]) rfl ⟨rfl, ?_⟩
  first | exact hal | exact gb_mine hal (gb_setCell (gb_setCell (gb_setCell (gb_setCell (gb_refl _ _) _) _) _) _) (Nat.le_refl _) | skip
end

end Go.Proofs.Ytgldbdfadjmfeaa
