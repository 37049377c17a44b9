import Derived.Test.YtobegepebochkaaGreatDoorZd
/-
  A Feeder is made.
-/
namespace Go.Proofs.YtobegepebochkaaGreatDoor
open Go.RowKit Go.Maps
set_option linter.unusedVariables false
set_option linter.unusedSimpArgs false

set_option maxRecDepth 100000 in
set_option maxHeartbeats 4000000 in
theorem new_41 (w : World) (n : Int) (hn : n ≤ 9223372036854775807) (hn2 : -9223372036854775808 ≤ n) :
    Calls Tryz.prog 41 #[.int .i64 n] w fun e w' => e = .returned (.pointer (some ⟨w.heap.size, 0, none⟩)) ∧ IsF w' w.heap.size (fd0 n) (.slice none 0 0) ∧ w.grownBy w' none := by
  have hmf : ∀ (fn : Fn) (first cap : Array Value) (w : World), (Instr.makeFunc fn first cap).run Tryz.prog w = .ok (.func fn first cap) w := fun _ _ _ _ => rfl
  have hm : max n 0 = (n.toNat : Int) := by omega
  obtain ⟨k, hk⟩ : ∃ k, n.toNat = k := ⟨_, rfl⟩
  rw [hk] at hm
  have hend : ∀ w', w' = w.alloc (.cells (fdA w.heap.size (fd0 n) (.slice none 0 0) 0 0 (.slice none 0 0) (.slice none 0 0) (.slice none 0 0)) 136) → IsF w' w.heap.size (fd0 n) (.slice none 0 0) ∧ w.grownBy w' none := by
    rintro w' rfl
    exact ⟨⟨0, 0, _, _, _, isf_nil (Box.new w 136 _) rfl rfl rfl rfl, fun e => by simp [fd0] at e, fun e => by simp [fd0] at e⟩, gb_alloc (gb_refl _ none) _⟩
  have hf : fd0 n = ⟨k, 0, false, 0, [], 0, 0, stp0, 0⟩ := by simp [fd0, hk]
  rw [hf] at hend ⊢
  go_enter Tryz.func41, Tryz.ntmps41
  go_wp2
  go_ret
  refine ⟨rfl, hend _ ?_⟩
  rfl
end Go.Proofs.YtobegepebochkaaGreatDoor
