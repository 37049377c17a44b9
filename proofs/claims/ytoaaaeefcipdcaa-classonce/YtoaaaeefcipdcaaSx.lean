import Derived.Test.YtoaaaeefcipdcaaSw
/-
  wakes.
-/
namespace Go.Proofs.Ytoaaaeefcipdcaa
open Go.RowKit
set_option linter.unusedVariables false

theorem wk_good : GoodF 200 (limOf 256) 64 := ⟨by decide, by decide, by decide, by decide, by decide, by decide, by decide⟩
theorem wk_cfg : Cfg 4096 3 200 64 256 := ⟨⟨12, by decide, by decide, by decide⟩, by decide, by decide, wk_good, by decide, by decide, by decide⟩
theorem wk_cls : Cls 200 (limOf 256) 64 3 := by
  refine ⟨by decide, by decide, ?_⟩
  intro j hj
  have : j = 0 ∨ j = 1 := by omega
  rcases this with rfl | rfl <;> decide
theorem wk_refd : Refd ((4096 : Nat) : Int) ((3 : Nat) : Int) ((200 : Nat) : Int) ((64 : Nat) : Int) ((256 : Nat) : Int) 0 := by
  refine .inr ⟨⟨⟨12, by decide, by decide, by decide⟩, by decide, by decide, by decide, by decide, by decide, by decide, by decide, by decide, by decide⟩, .inr ⟨3, ⟨by decide, ?_⟩, .inr ⟨by decide, rfl⟩⟩⟩
  exact wk_cls

def wkA : Ab := A0 4096 3 3 (chain 200 (limOf 256) 64)
def wkB : Ab := (wkA.owned 2).taken 2 0 0
def wkC : Ab := wkB.taken 2 0 1
def wkD : Ab := wkC.given 0 0 1
theorem wk_invA : Inv wkA := inv_new wk_cfg (by decide) wk_cls
theorem wk_h1 : (wkA.owned 2).hdl 0 0 = 1 := by decide +kernel
theorem wk_l1 : ((wkA.owned 2).row 2).getLast? = some ((wkA.owned 2).num 0 0) := by decide +kernel
theorem wk_l2 : (wkB.row 2).getLast? = some (wkB.num 0 1) := by decide +kernel
theorem wk_h2 : wkB.hdl 0 1 = 33 := by decide +kernel
theorem wk_l3 : (wkD.row 2).getLast? = some (wkD.num 0 0) := by decide +kernel
theorem wk_h3 : wkD.hdl 0 0 = 4294967297 := by decide +kernel
theorem wk_n : wkA.n = 3 ∧ (wkA.owned 2).n = 3 ∧ wkB.n = 3 ∧ wkC.n = 3 ∧ wkD.n = 3 := by decide +kernel
theorem wk_np : wkA.np = 0 ∧ wkA.m = 3 ∧ (wkA.owned 2).np = 1 ∧ wkB.np = 1 ∧ wkC.np = 1 ∧ wkD.np = 1 := by decide +kernel
theorem wk_own : (wkA.owned 2).own 0 = 2 ∧ wkB.own 0 = 2 ∧ wkC.own 0 = 2 ∧ wkD.own 0 = 2 := by decide +kernel
theorem wk_each : (wkA.owned 2).each 2 = 16 ∧ wkB.each 2 = 16 ∧ wkC.each 2 = 16 ∧ wkD.each 2 = 16 := by decide +kernel
theorem wk_tkn : (wkA.owned 2).tkn 0 0 = false ∧ wkB.tkn 0 1 = false ∧ wkC.tkn 0 0 = true ∧ wkD.tkn 0 0 = false := by decide +kernel
theorem wk_gen : wkC.gen 0 0 = 0 := by decide +kernel
theorem wk_h0 : wkC.hdl 0 0 = 1 := by decide +kernel
theorem wk_row : wkA.row 2 = [] := rfl
theorem wk_invO : Inv (wkA.owned 2) := wk_invA.own (by rw [wk_n.1]; decide) (by rw [wk_np.1, wk_np.2.1]; decide)
theorem wk_invB : Inv wkB := wk_invO.take (by rw [wk_n.2.1]; decide) (by rw [wk_np.2.2.1]; decide) wk_own.1 (by rw [wk_each.1]; decide) wk_tkn.1 wk_l1
theorem wk_invC : Inv wkC := wk_invB.take (by rw [wk_n.2.2.1]; decide) (by rw [wk_np.2.2.2.1]; decide) wk_own.2.1 (by rw [wk_each.2.1]; decide) wk_tkn.2.1 wk_l2
theorem wk_invD : Inv wkD := wk_invC.give (by decide) (by rw [wk_np.2.2.2.2.1]; decide) (by rw [wk_own.2.2.1, wk_each.2.2.1]; decide) wk_tkn.2.2.1

section
variable {w : World} {sb : Nat} {F : Nat → Prop} {B : Bl} {b c d e f g : Int} {zs : List Int}
theorem wk_take1 (h : IsS w sb F B b c d e f g wkA zs) : Calls Try.prog 23 #[.pointer (some ⟨sb, 0, none⟩), .int .i64 2] w fun y w' => y = .returned (.tuple #[.int .u64 1, .int .i64 0]) ∧ Kp F w w' ∧ ∃ F' B' zs', IsS w' sb F' B' b c d e f g wkB zs' ∧ ∀ k, F' k → F k ∨ w.heap.size ≤ k := by
  have := take_page h wk_invA (i := 2) (by rw [wk_n.1]; decide) wk_row (by rw [wk_np.1, wk_np.2.1]; decide)
  rw [wk_np.1, wk_h1] at this
  refine this.mono ?_
  rintro y w' ⟨rfl, hK, F', B', hS, hF⟩
  exact ⟨rfl, hK, F', B', _, hS, hF⟩
theorem wk_take2 (h : IsS w sb F B b c d e f g wkB zs) : Calls Try.prog 23 #[.pointer (some ⟨sb, 0, none⟩), .int .i64 2] w fun y w' => y = .returned (.tuple #[.int .u64 33, .int .i64 0]) ∧ Kp F w w' ∧ ∃ B' zs', IsS w' sb F B' b c d e f g wkC zs' := by
  have := take_row h wk_invB.fit (i := 2) (p := 0) (k := 1) (by rw [wk_n.2.2.1]; decide) (by rw [wk_np.2.2.2.1]; decide) wk_own.2.1 (by rw [wk_each.2.1]; decide) wk_tkn.2.1 wk_l2
  rw [wk_h2] at this
  refine this.mono ?_
  rintro y w' ⟨rfl, ⟨B', _, hS⟩, hK⟩
  exact ⟨rfl, hK, B', _, hS⟩
theorem wk_give (h : IsS w sb F B b c d e f g wkC zs) : Calls Try.prog 25 #[.pointer (some ⟨sb, 0, none⟩), .int .u64 1] w fun y w' => y = .returned (.int .i64 0) ∧ Kp F w w' ∧ ∃ F' B' zs', IsS w' sb F' B' b c d e f g wkD zs' ∧ ∀ k, F' k → F k ∨ w.heap.size ≤ k := by
  have := give_yes h wk_invC (H := 1) (p := 0) (k := 0) ⟨by rw [wk_np.2.2.2.2.1]; decide, by rw [wk_own.2.2.1, wk_each.2.2.1]; decide, wk_tkn.2.2.1, wk_h0.symm⟩ 1 (by show 1 = _; rw [wk_gen])
  refine this.mono ?_
  rintro y w' ⟨rfl, hK, F', B', hS, hF⟩
  exact ⟨rfl, hK, F', B', _, hS, hF⟩
theorem wk_take3 (h : IsS w sb F B b c d e f g wkD zs) : Calls Try.prog 23 #[.pointer (some ⟨sb, 0, none⟩), .int .i64 2] w fun y w' => y = .returned (.tuple #[.int .u64 4294967297, .int .i64 0]) ∧ Kp F w w' := by
  have := take_row h wk_invD.fit (i := 2) (p := 0) (k := 0) (by rw [wk_n.2.2.2.2]; decide) (by rw [wk_np.2.2.2.2.2]; decide) wk_own.2.2.2 (by rw [wk_each.2.2.2]; decide) wk_tkn.2.2.2 wk_l3
  rw [wk_h3] at this
  refine this.mono ?_
  rintro y w' ⟨rfl, ⟨B', _, hS⟩, hK⟩
  exact ⟨rfl, hK⟩
end

set_option maxRecDepth 100000 in
set_option maxHeartbeats 2000000 in
theorem wakes_10 (w : World) : Calls Try.prog 9 #[] w fun y w' => y = .returned (.bool true) ∧ w.grownBy w' none := by
  have hbg := fun W => begun_ok wk_cfg 0 0 (by decide) wk_cls (by decide) wk_refd W
  unfold cfgV at hbg
  change ∀ W, Calls Try.prog 14 #[.agg #[.int .i64 4096, .int .i64 3, .int .i64 200, .int .i64 64, .int .i64 256, .int .i64 0, .int .i64 0]] W _ at hbg
  go_enter Try.func9, Try.ntmps9
  go_wp2_with (first | (go_at_call 14; go_must (refine (hbg _).mono ?_); rintro y w0 ⟨pb, sb, G, B, rb, sv, ov, rv, base, rfl, hf0, hbx, hS, -, hG, -, -, hb0⟩; have c0 := hbx.cell 0; simp at c0) | fail)
  have hpb := hbx.lt
  change IsS w0 sb G B _ _ _ _ _ _ wkA _ at hS
  refine (wk_take1 hS).mono ?_
  rintro y w1 ⟨rfl, hK1, F1, B1, zs1, hS1, hF1⟩
  have hbx1 := hK1.box hbx (fun h => by have := (hG pb h).2; omega)
  have c1 := hbx1.cell 0
  simp at c1
  have hs1 := hK1.size
  go_wp2_with fail
  refine (wk_take2 hS1).mono ?_
  rintro y w2 ⟨rfl, hK2, B2, zs2, hS2⟩
  have hn1 : ¬ F1 pb := fun h => by
    rcases hF1 pb h with h2 | h2
    · have := (hG pb h2).2; omega
    · omega
  have hbx2 := hK2.box hbx1 hn1
  have c2 := hbx2.cell 0
  simp at c2
  have hs2 := hK2.size
  go_wp2_with fail
  refine (wk_give hS2).mono ?_
  rintro y w3 ⟨rfl, hK3, F3, B3, zs3, hS3, hF3⟩
  have hbx3 := hK3.box hbx2 hn1
  have c3 := hbx3.cell 0
  simp at c3
  have hs3 := hK3.size
  go_wp2_with fail
  refine (wk_take3 hS3).mono ?_
  rintro y w4 ⟨rfl, hK4⟩
  have hw0 := hf0.size
  have g1 : ∀ k, F1 k → False ∨ w.heap.size ≤ k := fun k hk => by
    rcases hF1 k hk with h | h
    · have := (hG k h).1; exact .inr (by omega)
    · exact .inr (by omega)
  have g3 : ∀ k, F3 k → False ∨ w.heap.size ≤ k := fun k hk => by
    rcases hF3 k hk with h | h
    · exact g1 k h
    · exact .inr (by omega)
  have HK : Hid (w.grownBy w4 none) := (((((Kp.of (F := fun _ => False) hf0).trans hK1 (H := fun _ => False) (fun _ h => h) (fun k hk => .inr (by have := (hG k hk).1; omega))).trans hK2 (H := fun _ => False) (fun _ h => h) g1).trans hK3 (H := fun _ => False) (fun _ h => h) g1).trans hK4 (H := fun _ => False) (fun _ h => h) g3).grown (fun i hi => hi.elim)
  clear hS hS1 hS2 hS3 hK1 hK2 hK3 hK4 hG hF1 hF3 g1 g3 hbx hbx1 hbx2 hbx3
  go_wp2_with (first | (go_at_call 13; go_must (refine (num_any _ _).mono ?_); rintro y w' ⟨rfl, rfl⟩) | fail)
  go_ret
  exact ⟨rfl, HK.out⟩

end Go.Proofs.Ytoaaaeefcipdcaa
