import Derived.Test.YtohneboimmcocaaGreatSw
/-
  wakes.
-/
namespace Go.Proofs.YtohneboimmcocaaGreat
open Go.RowKit
set_option linter.unusedVariables false

theorem wk_good : GoodF 200 (limOf 256) 64 := ⟨by decide, by decide, by decide, by decide, by decide, by decide, by decide⟩
theorem wk_cfg : Cfg 4096 3 200 64 256 := ⟨⟨12, by decide, by decide, by decide⟩, by decide, by decide, wk_good, by decide, by decide, by decide⟩
theorem wk_cls : Cls 200 (limOf 256) 64 3 := by
  refine ⟨by decide, by decide, ?_⟩
  intro j hj
  have : j = 0 ∨ j = 1 := by omega
  rcases this with rfl | rfl <;> decide
theorem wk_refd : Refd ((4096 : Nat) : Int) ((3 : Nat) : Int) ((200 : Nat) : Int) ((64 : Nat) : Int) ((256 : Nat) : Int) 0 := by
  refine .inr ⟨⟨⟨12, by decide, by decide, by decide⟩, by decide, by decide, by decide, by decide, by decide, by decide, by decide, by decide, by decide⟩, .inr ⟨3, ⟨by decide, ?_⟩, .inr ⟨by decide, rfl⟩⟩⟩
  exact wk_cls

def wkA : Ab := A0 4096 3 3 (chain 200 (limOf 256) 64)
def wkB : Ab := (wkA.owned 2).taken 2 0 0
def wkC : Ab := wkB.taken 2 0 1
def wkD : Ab := wkC.given 0 0 1
theorem wk_invA : Inv wkA := inv_new wk_cfg (by decide) wk_cls
theorem wk_h1 : (wkA.owned 2).hdl 0 0 = 1 := by decide +kernel
theorem wk_l1 : ((wkA.owned 2).row 2).getLast? = some ((wkA.owned 2).num 0 0) := by decide +kernel
theorem wk_l2 : (wkB.row 2).getLast? = some (wkB.num 0 1) := by decide +kernel
theorem wk_h2 : wkB.hdl 0 1 = 33 := by decide +kernel
theorem wk_l3 : (wkD.row 2).getLast? = some (wkD.num 0 0) := by decide +kernel
theorem wk_h3 : wkD.hdl 0 0 = 4294967297 := by decide +kernel
theorem wk_n : wkA.n = 3 ∧ (wkA.owned 2).n = 3 ∧ wkB.n = 3 ∧ wkC.n = 3 ∧ wkD.n = 3 := by decide +kernel
theorem wk_np : wkA.np = 0 ∧ wkA.m = 3 ∧ (wkA.owned 2).np = 1 ∧ wkB.np = 1 ∧ wkC.np = 1 ∧ wkD.np = 1 := by decide +kernel
theorem wk_own : (wkA.owned 2).own 0 = 2 ∧ wkB.own 0 = 2 ∧ wkC.own 0 = 2 ∧ wkD.own 0 = 2 := by decide +kernel
theorem wk_each : (wkA.owned 2).each 2 = 16 ∧ wkB.each 2 = 16 ∧ wkC.each 2 = 16 ∧ wkD.each 2 = 16 := by decide +kernel
theorem wk_tkn : (wkA.owned 2).tkn 0 0 = false ∧ wkB.tkn 0 1 = false ∧ wkC.tkn 0 0 = true ∧ wkD.tkn 0 0 = false := by decide +kernel
theorem wk_gen : wkC.gen 0 0 = 0 := by decide +kernel
theorem wk_h0 : wkC.hdl 0 0 = 1 := by decide +kernel
theorem wk_row : wkA.row 2 = [] := rfl
theorem wk_invO : Inv (wkA.owned 2) := wk_invA.own (by rw [wk_n.1]; decide) (by rw [wk_np.1, wk_np.2.1]; decide)
theorem wk_invB : Inv wkB := wk_invO.take (by rw [wk_n.2.1]; decide) (by rw [wk_np.2.2.1]; decide) wk_own.1 (by rw [wk_each.1]; decide) wk_tkn.1 wk_l1
theorem wk_invC : Inv wkC := wk_invB.take (by rw [wk_n.2.2.1]; decide) (by rw [wk_np.2.2.2.1]; decide) wk_own.2.1 (by rw [wk_each.2.1]; decide) wk_tkn.2.1 wk_l2
theorem wk_invD : Inv wkD := wk_invC.give (by decide) (by rw [wk_np.2.2.2.2.1]; decide) (by rw [wk_own.2.2.1, wk_each.2.2.1]; decide) wk_tkn.2.2.1

section
variable {w : World} {sb : Nat} {F : Nat → Prop} {B : Bl} {b c d e f g : Int} {zs : List Int}
theorem wk_take1 (h : IsS w sb F B b c d e f g wkA zs) : Calls Tryz.prog 88 #[.pointer (some ⟨sb, 0, none⟩), .int .i64 2] w fun y w' => y = .returned (.tuple #[.int .u64 1, .int .i64 0]) ∧ Kp F w w' ∧ ∃ F' B' zs', IsS w' sb F' B' b c d e f g wkB zs' ∧ ∀ k, F' k → F k ∨ w.heap.size ≤ k := by
  have := take_page h wk_invA (i := 2) (by rw [wk_n.1]; decide) wk_row (by rw [wk_np.1, wk_np.2.1]; decide)
  rw [wk_np.1, wk_h1] at this
  refine this.mono ?_
  rintro y w' ⟨rfl, hK, F', B', hS, hF⟩
  exact ⟨rfl, hK, F', B', _, hS, hF⟩
theorem wk_take2 (h : IsS w sb F B b c d e f g wkB zs) : Calls Tryz.prog 88 #[.pointer (some ⟨sb, 0, none⟩), .int .i64 2] w fun y w' => y = .returned (.tuple #[.int .u64 33, .int .i64 0]) ∧ Kp F w w' ∧ ∃ B' zs', IsS w' sb F B' b c d e f g wkC zs' := by
  have := take_row h wk_invB.fit (i := 2) (p := 0) (k := 1) (by rw [wk_n.2.2.1]; decide) (by rw [wk_np.2.2.2.1]; decide) wk_own.2.1 (by rw [wk_each.2.1]; decide) wk_tkn.2.1 wk_l2
  rw [wk_h2] at this
  refine this.mono ?_
  rintro y w' ⟨rfl, ⟨B', _, hS⟩, hK⟩
  exact ⟨rfl, hK, B', _, hS⟩
theorem wk_give (h : IsS w sb F B b c d e f g wkC zs) : Calls Tryz.prog 51 #[.pointer (some ⟨sb, 0, none⟩), .int .u64 1] w fun y w' => y = .returned (.int .i64 0) ∧ Kp F w w' ∧ ∃ F' B' zs', IsS w' sb F' B' b c d e f g wkD zs' ∧ ∀ k, F' k → F k ∨ w.heap.size ≤ k := by
  have := give_yes h wk_invC (H := 1) (p := 0) (k := 0) ⟨by rw [wk_np.2.2.2.2.1]; decide, by rw [wk_own.2.2.1, wk_each.2.2.1]; decide, wk_tkn.2.2.1, wk_h0.symm⟩ 1 (by show 1 = _; rw [wk_gen])
  refine this.mono ?_
  rintro y w' ⟨rfl, hK, F', B', hS, hF⟩
  exact ⟨rfl, hK, F', B', _, hS, hF⟩
theorem wk_take3 (h : IsS w sb F B b c d e f g wkD zs) : Calls Tryz.prog 88 #[.pointer (some ⟨sb, 0, none⟩), .int .i64 2] w fun y w' => y = .returned (.tuple #[.int .u64 4294967297, .int .i64 0]) ∧ Kp F w w' := by
  have := take_row h wk_invD.fit (i := 2) (p := 0) (k := 0) (by rw [wk_n.2.2.2.2]; decide) (by rw [wk_np.2.2.2.2.2]; decide) wk_own.2.2.2 (by rw [wk_each.2.2.2]; decide) wk_tkn.2.2.2 wk_l3
  rw [wk_h3] at this
  refine this.mono ?_
  rintro y w' ⟨rfl, ⟨B', _, hS⟩, hK⟩
  exact ⟨rfl, hK⟩
end

end Go.Proofs.YtohneboimmcocaaGreat
