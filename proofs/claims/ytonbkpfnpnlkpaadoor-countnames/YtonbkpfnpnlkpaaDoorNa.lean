/-
  CountNames.
-/
import Derived.Test.YtonbkpfnpnlkpaaDoorN
namespace Go.Proofs.YtonbkpfnpnlkpaaDoor
open Go.RowKit
set_option linter.unusedVariables false
set_option linter.unusedSimpArgs false
attribute [local go_sem] Oper.semAt_some

theorem name_at (n : Int) (x : Bs) (hx : nmW n = x) (w : World) (hW : Wo w) : Calls Tryd.prog 25 #[.int .i64 n] w fun e w' => e = .returned (sv x) ∧ w' = w := by
  rw [← hx]; exact name_25 n w hW
set_option maxRecDepth 100000 in
set_option maxHeartbeats 4000000 in
theorem names_8 (w : World) (hW : Wo w) : Calls Tryd.prog 8 #[] w fun e w' => e = .returned (.bool true) ∧ w.grownBy w' none := by
  have h10 := wakes_10 w hW
  go_enter Tryd.func8, Tryd.ntmps8
  go_wp2_with (go_at_call 10; (with_reducible refine h10.mono ?_); rintro e w1 ⟨rfl, hg1⟩)
  have W1 := hW.kept (Kp.of (F := fun _ => False) hg1) (fun h => h)
  refine (name_at 0 [] (by decide) w1 W1).mono ?_
  rintro e w2 ⟨rfl, h1⟩; have h2 := h1.symm; subst h2
  go_wp2_with fail
  refine (name_at (-1) [] (by decide) w1 W1).mono ?_
  rintro e w2 ⟨rfl, h1⟩; have h2 := h1.symm; subst h2
  go_wp2_with fail
  refine (name_at 31 [] (by decide) w1 W1).mono ?_
  rintro e w2 ⟨rfl, h1⟩; have h2 := h1.symm; subst h2
  clear h10
  go_wp2
  go_loopw [1] (fun v wr => ∃ i : Nat, i ≤ 30 ∧ v = .int .i64 ((i : Int) + 1) ∧ w1.grownBy wr none) (fun v _ => 32 - (intOf v).toNat)
  case atStart => exact ⟨0, by omega, rfl, gb_refl _ _⟩
  case round =>
    obtain ⟨i, hi, rfl, hg⟩ := hrel
    have Wr := W1.kept (Kp.of (F := fun _ => False) hg) (fun h => h)
    rcases (by omega : i < 30 ∨ i = 30) with hlt | rfl
    · have h25 := name_25 ((i : Int) + 1) wr Wr
      have h27 := rname_27 ((i : Int) + 1) wr
      generalize nmW ((i : Int) + 1) = x at *
      have d1 : (i : Int) + 1 ≤ 30 := by omega
      go_wp2_with (first | (go_at_call 25; (with_reducible refine h25.mono ?_); rintro e w2 ⟨rfl, h1⟩; (have h2 := h1.symm); subst h2) | (go_at_call 27; (with_reducible refine h27.mono ?_); rintro e w3 ⟨rfl, hg3⟩))
      refine ⟨⟨i + 1, by omega, by simp, gb_trans hg hg3⟩, ?_⟩
      simp only [intOf]; omega
    · go_wp2_with fail
      refine (name_at 1 [99, 109, 100, 95, 103, 101, 116] (by decide) wr Wr).mono ?_
      rintro e w2 ⟨rfl, h1⟩; have h2 := h1.symm; subst h2
      go_wp2_with fail
      refine (name_at 14 [100, 101, 99, 114, 95, 104, 105, 116, 115] (by decide) wr Wr).mono ?_
      rintro e w2 ⟨rfl, h1⟩; have h2 := h1.symm; subst h2
      go_wp2_with fail
      refine (name_at 24 [116, 111, 116, 97, 108, 95, 105, 116, 101, 109, 115] (by decide) wr Wr).mono ?_
      rintro e w2 ⟨rfl, h1⟩; have h2 := h1.symm; subst h2
      go_wp2_with fail
      refine (name_at 30 [98, 97, 100, 95, 108, 105, 110, 101, 115] (by decide) wr Wr).mono ?_
      rintro e w2 ⟨rfl, h1⟩; have h2 := h1.symm; subst h2
      go_wp2
      go_ret
      exact ⟨rfl, gb_trans hg1 hg⟩
end Go.Proofs.YtonbkpfnpnlkpaaDoor
