import Derived.Test.YtoomnhclaofgaaaGreatIv
/-
  The four configurations.
-/
namespace Go.Proofs.YtoomnhclaofgaaaGreat
open Go.RowKit
set_option linter.unusedVariables false

theorem c1_good : GoodF 400 (limOf 400) 128 := ⟨by decide, by decide, by decide, by decide, by decide, by decide, by decide⟩
theorem c1_cfg : Cfg 4096 2 400 128 400 := ⟨⟨12, by decide, by decide, by decide⟩, by decide, by decide, c1_good, by decide, by decide, by decide⟩
theorem c1_cls : Cls 400 (limOf 400) 128 2 := by
  refine ⟨by decide, by decide, ?_⟩
  intro j hj
  have : j = 0 := by omega
  subst this; decide
theorem c2_good : GoodF 400 (limOf 4000) 512 := ⟨by decide, by decide, by decide, by decide, by decide, by decide, by decide⟩
theorem c2_cfg : Cfg 8192 3 400 512 4000 := ⟨⟨13, by decide, by decide, by decide⟩, by decide, by decide, c2_good, by decide, by decide, by decide⟩
theorem c2_cls : Cls 400 (limOf 4000) 512 3 := by
  refine ⟨by decide, by decide, ?_⟩
  intro j hj
  have : j = 0 ∨ j = 1 := by omega
  rcases this with rfl | rfl <;> decide
theorem c3_good : GoodF 130 (limOf 100) 64 := ⟨by decide, by decide, by decide, by decide, by decide, by decide, by decide⟩
theorem c3_cfg : Cfg 4096 5 130 64 100 := ⟨⟨12, by decide, by decide, by decide⟩, by decide, by decide, c3_good, by decide, by decide, by decide⟩
theorem c3_cls : Cls 130 (limOf 100) 64 3 := by
  refine ⟨by decide, by decide, ?_⟩
  intro j hj
  have : j = 0 ∨ j = 1 := by omega
  rcases this with rfl | rfl <;> decide

/-- A config of the law's four. -/
structure CfN (n : Int) (ps m F s0 il nc : Nat) : Prop where
  cfg : Cfg ps m F s0 il
  cls : Cls F (limOf il) s0 nc
  n62 : nc ≤ 62
  nm : nc ≤ m
  is : ∀ W, Calls Tryz.prog 5 #[.int .i64 n] W fun y w' => y = .returned (cfgV ps m F s0 il 30 30) ∧ W.grownBy w' none
theorem cfN_ex (n : Int) : ∃ ps m F s0 il nc, CfN n ps m F s0 il nc := by
  obtain ⟨k, hk, hw⟩ := within_nat n 4 (by omega) (by omega)
  have hk' : k = 0 ∨ k = 1 ∨ k = 2 ∨ k = 3 := by omega
  rcases hk' with rfl | rfl | rfl | rfl
  · exact ⟨4096, 3, 200, 64, 256, 3, wk_cfg, wk_cls, by decide, by decide, fun W => config_0 n (fun W' => hw W') W⟩
  · exact ⟨4096, 2, 400, 128, 400, 2, c1_cfg, c1_cls, by decide, by decide, fun W => config_1 n (fun W' => hw W') W⟩
  · exact ⟨8192, 3, 400, 512, 4000, 3, c2_cfg, c2_cls, by decide, by decide, fun W => config_2 n (fun W' => hw W') W⟩
  · exact ⟨4096, 5, 130, 64, 100, 3, c3_cfg, c3_cls, by decide, by decide, fun W => config_3 n (fun W' => hw W') W⟩

end Go.Proofs.YtoomnhclaofgaaaGreat
